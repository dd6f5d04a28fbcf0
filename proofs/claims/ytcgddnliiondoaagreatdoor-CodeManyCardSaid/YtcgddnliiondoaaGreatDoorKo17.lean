/- op.Eq, walked: are two operations the same?. -/
import Derived.Test.YtcgddnliiondoaaGreatDoorKo15
set_option linter.unusedVariables false
set_option linter.unusedSimpArgs false
set_option maxRecDepth 100000
set_option maxHeartbeats 8000000
namespace Go.Proofs.YtcgddnliiondoaaGreatDoor
open Go.RowKit
theorem line_eq (a b c a' b' c' : Int) (w : World) : (binOp .eql 51 (.agg #[.int .i64 a, .int .i64 b, .int .i64 c]) (.agg #[.int .i64 a', .int .i64 b', .int .i64 c'])).run Tryz.prog w = .ok (.bool (decide (a = a' ∧ b = b' ∧ c = c'))) w := by
  have u2 := Tryz.underlying2
  have u3 := Tryz.underlying3
  have hS : Tryz.prog.underlying 51 = some (.struct (Tryz.prog.fieldsOf 51)) := by kernel_rfl
  have hp : Tryz.prog.stoodInHeld 51 = false := by kernel_rfl
  rw [run_eql_struct, show (10000 : Nat) = 9999 + 1 from rfl, run_equalIn_agg w 9999 51 _ _ hS hp]
  simp only [Program.fieldsOf, Tryz.underlying51]
  go_simp
  by_cases h1 : a = a' <;> by_cases h2 : b = b' <;> by_cases h3 : c = c' <;> simp [h1, h2, h3]
set_option maxHeartbeats 8000000 in
theorem opeq_any (x y : Rv) (X Y : Ex) (L M : List R.Rg.Rc) (b : Bool) (w : World) (hx : RO w x X L) (hy : RO w y Y M) (hn : nodes X ≤ 1000) (hL : L.length ≤ 1000000000000) (hM : M.length ≤ 1000000000000) (hb : b = true ↔ oE x y X Y L M) : Calls Tryz.prog 70 #[x.v, y.v] w fun e W' => e = .returned (.bool b) ∧ Q w W' := by
  obtain ⟨cb, hcb, hbb⟩ := oe_split x y X Y L M b hb
  clear hb
  have hxt := hx.t
  have hxr := hx.r
  have hyt := hy.t
  have hyr := hy.r
  clear hx hy
  obtain ⟨k, sh, row, col, f, vk, vn, vt, vb, ve, tk, tm, tt, tb, te, a1, l1, c1, a2, l2, c2, lk, la, lt, ra, rl, rc, fm, nm⟩ := x
  obtain ⟨k', sh', row', col', f', vk', vn', vt', vb', ve', tk', tm', tt', tb', te', a1', l1', c1', a2', l2', c2', lk', la', lt', ra', rl', rc', fm', nm'⟩ := y
  unfold Rv.v
  unfold vE at hcb
  dsimp only at *
  have HC := hid (fun W' (q : Q w W') => samecell_any f vk vn vt vb ve tk tm tt tb te a1 l1 c1 a2 l2 c2 f' vk' vn' vt' vb' ve' tk' tm' tt' tb' te' a1' l1' c1' a2' l2' c2' X Y cb W' (Rd.on q _ _ hxt) (Rd.on q _ _ hyt) hn hcb)
  have HR := hid (fun W' (q : Q w W') => R.eqR_any _ _ L M W' (hxr.on q) (hyr.on q) hL hM)
  generalize R.eqRc L M = rb at HR hbb
  clear hxt hxr hyt hyr hcb hL hM hn
  have HBB := hid hbb
  clear hbb
  go_enter Tryz.func70, Tryz.ntmps70
  go_upto_region 1 with fail
  have Z1 := hid ((cb_new w [.int .i64 k, .string sh, .int .i64 row, .int .i64 col, .bool f, .int .i64 vk, .int .i64 vn, .string vt, .bool vb, .int .i64 ve, .int .i64 tk, .int .i64 tm, .string tt, .bool tb, .int .i64 te, .slice a1 l1 c1, .slice a2 l2 c2, .int .i64 lk, .int .i64 la, .int .i64 lt, .slice ra rl rc, .int .i64 fm, .string nm] 54).on ((Q.refl _).alloc (.cells #[.int .i64 k', .string sh', .int .i64 row', .int .i64 col', .bool f', .int .i64 vk', .int .i64 vn', .string vt', .bool vb', .int .i64 ve', .int .i64 tk', .int .i64 tm', .string tt', .bool tb', .int .i64 te', .slice a1' l1' c1', .slice a2' l2' c2', .int .i64 lk', .int .i64 la', .int .i64 lt', .slice ra' rl' rc', .int .i64 fm', .string nm'] 54)))
  have Z2 := hid (cb_new (w.alloc (.cells #[.int .i64 k, .string sh, .int .i64 row, .int .i64 col, .bool f, .int .i64 vk, .int .i64 vn, .string vt, .bool vb, .int .i64 ve, .int .i64 tk, .int .i64 tm, .string tt, .bool tb, .int .i64 te, .slice a1 l1 c1, .slice a2 l2 c2, .int .i64 lk, .int .i64 la, .int .i64 lt, .slice ra rl rc, .int .i64 fm, .string nm] 54)) [.int .i64 k', .string sh', .int .i64 row', .int .i64 col', .bool f', .int .i64 vk', .int .i64 vn', .string vt', .bool vb', .int .i64 ve', .int .i64 tk', .int .i64 tm', .string tt', .bool tb', .int .i64 te', .slice a1' l1' c1', .slice a2' l2' c2', .int .i64 lk', .int .i64 la', .int .i64 lt', .slice ra' rl' rc', .int .i64 fm', .string nm'] 54)
  have QA : Hid (Q w ((w.alloc (.cells #[.int .i64 k, .string sh, .int .i64 row, .int .i64 col, .bool f, .int .i64 vk, .int .i64 vn, .string vt, .bool vb, .int .i64 ve, .int .i64 tk, .int .i64 tm, .string tt, .bool tb, .int .i64 te, .slice a1 l1 c1, .slice a2 l2 c2, .int .i64 lk, .int .i64 la, .int .i64 lt, .slice ra rl rc, .int .i64 fm, .string nm] 54)).alloc (.cells #[.int .i64 k', .string sh', .int .i64 row', .int .i64 col', .bool f', .int .i64 vk', .int .i64 vn', .string vt', .bool vb', .int .i64 ve', .int .i64 tk', .int .i64 tm', .string tt', .bool tb', .int .i64 te', .slice a1' l1' c1', .slice a2' l2' c2', .int .i64 lk', .int .i64 la', .int .i64 lt', .slice ra' rl' rc', .int .i64 fm', .string nm'] 54))) := hid (((Q.refl w).alloc _).alloc _)
  rw [show ([.int .i64 k, .string sh, .int .i64 row, .int .i64 col, .bool f, .int .i64 vk, .int .i64 vn, .string vt, .bool vb, .int .i64 ve, .int .i64 tk, .int .i64 tm, .string tt, .bool tb, .int .i64 te, .slice a1 l1 c1, .slice a2 l2 c2, .int .i64 lk, .int .i64 la, .int .i64 lt, .slice ra rl rc, .int .i64 fm, .string nm] : List Value).toArray = #[.int .i64 k, .string sh, .int .i64 row, .int .i64 col, .bool f, .int .i64 vk, .int .i64 vn, .string vt, .bool vb, .int .i64 ve, .int .i64 tk, .int .i64 tm, .string tt, .bool tb, .int .i64 te, .slice a1 l1 c1, .slice a2 l2 c2, .int .i64 lk, .int .i64 la, .int .i64 lt, .slice ra rl rc, .int .i64 fm, .string nm] from rfl] at Z1
  rw [show ([.int .i64 k', .string sh', .int .i64 row', .int .i64 col', .bool f', .int .i64 vk', .int .i64 vn', .string vt', .bool vb', .int .i64 ve', .int .i64 tk', .int .i64 tm', .string tt', .bool tb', .int .i64 te', .slice a1' l1' c1', .slice a2' l2' c2', .int .i64 lk', .int .i64 la', .int .i64 lt', .slice ra' rl' rc', .int .i64 fm', .string nm'] : List Value).toArray = #[.int .i64 k', .string sh', .int .i64 row', .int .i64 col', .bool f', .int .i64 vk', .int .i64 vn', .string vt', .bool vb', .int .i64 ve', .int .i64 tk', .int .i64 tm', .string tt', .bool tb', .int .i64 te', .slice a1' l1' c1', .slice a2' l2' c2', .int .i64 lk', .int .i64 la', .int .i64 lt', .slice ra' rl' rc', .int .i64 fm', .string nm'] from rfl, show (w.alloc (.cells #[.int .i64 k, .string sh, .int .i64 row, .int .i64 col, .bool f, .int .i64 vk, .int .i64 vn, .string vt, .bool vb, .int .i64 ve, .int .i64 tk, .int .i64 tm, .string tt, .bool tb, .int .i64 te, .slice a1 l1 c1, .slice a2 l2 c2, .int .i64 lk, .int .i64 la, .int .i64 lt, .slice ra rl rc, .int .i64 fm, .string nm] 54)).heap.size = w.heap.size + 1 by simp] at Z2
  generalize ((w.alloc (.cells #[.int .i64 k, .string sh, .int .i64 row, .int .i64 col, .bool f, .int .i64 vk, .int .i64 vn, .string vt, .bool vb, .int .i64 ve, .int .i64 tk, .int .i64 tm, .string tt, .bool tb, .int .i64 te, .slice a1 l1 c1, .slice a2 l2 c2, .int .i64 lk, .int .i64 la, .int .i64 lt, .slice ra rl rc, .int .i64 fm, .string nm] 54)).alloc (.cells #[.int .i64 k', .string sh', .int .i64 row', .int .i64 col', .bool f', .int .i64 vk', .int .i64 vn', .string vt', .bool vb', .int .i64 ve', .int .i64 tk', .int .i64 tm', .string tt', .bool tb', .int .i64 te', .slice a1' l1' c1', .slice a2' l2' c2', .int .i64 lk', .int .i64 la', .int .i64 lt', .slice ra' rl' rc', .int .i64 fm', .string nm'] 54)) = w2 at Z1 Z2 QA ⊢
  generalize w.heap.size + 1 = b1 at Z2 ⊢
  generalize w.heap.size = b0 at Z1 ⊢
  have d0 := Z1.out.c 0 _ rfl
  have d1 := Z1.out.c 1 _ rfl
  have d2 := Z1.out.c 2 _ rfl
  have d3 := Z1.out.c 3 _ rfl
  have d4 := Z1.out.c 4 _ rfl
  have d5 := Z1.out.c 5 _ rfl
  have d6 := Z1.out.c 6 _ rfl
  have d7 := Z1.out.c 7 _ rfl
  have d8 := Z1.out.c 8 _ rfl
  have d9 := Z1.out.c 9 _ rfl
  have d10 := Z1.out.c 10 _ rfl
  have d11 := Z1.out.c 11 _ rfl
  have d12 := Z1.out.c 12 _ rfl
  have d13 := Z1.out.c 13 _ rfl
  have d14 := Z1.out.c 14 _ rfl
  have d15 := Z1.out.c 15 _ rfl
  have d16 := Z1.out.c 16 _ rfl
  have d17 := Z1.out.c 17 _ rfl
  have d18 := Z1.out.c 18 _ rfl
  have d19 := Z1.out.c 19 _ rfl
  have d20 := Z1.out.c 20 _ rfl
  have d21 := Z1.out.c 21 _ rfl
  have d22 := Z1.out.c 22 _ rfl
  have n0 := Z2.out.c 0 _ rfl
  have n1 := Z2.out.c 1 _ rfl
  have n2 := Z2.out.c 2 _ rfl
  have n3 := Z2.out.c 3 _ rfl
  have n4 := Z2.out.c 4 _ rfl
  have n5 := Z2.out.c 5 _ rfl
  have n6 := Z2.out.c 6 _ rfl
  have n7 := Z2.out.c 7 _ rfl
  have n8 := Z2.out.c 8 _ rfl
  have n9 := Z2.out.c 9 _ rfl
  have n10 := Z2.out.c 10 _ rfl
  have n11 := Z2.out.c 11 _ rfl
  have n12 := Z2.out.c 12 _ rfl
  have n13 := Z2.out.c 13 _ rfl
  have n14 := Z2.out.c 14 _ rfl
  have n15 := Z2.out.c 15 _ rfl
  have n16 := Z2.out.c 16 _ rfl
  have n17 := Z2.out.c 17 _ rfl
  have n18 := Z2.out.c 18 _ rfl
  have n19 := Z2.out.c 19 _ rfl
  have n20 := Z2.out.c 20 _ rfl
  have n21 := Z2.out.c 21 _ rfl
  have n22 := Z2.out.c 22 _ rfl
  have hbb := HBB.out
  clear HBB
  by_cases h_k : k = k'
  · rw [decide_eq_true h_k, Bool.true_and] at hbb
    have e_k : (k == k') = true := by simpa using h_k
    clear h_k
    by_cases h_sh : sh.data.toList = sh'.data.toList
    · rw [decide_eq_true h_sh, Bool.true_and] at hbb
      have e_sh : (sh.toList == sh'.toList) = true := by rw [Lib.toList_data, Lib.toList_data]; simpa using h_sh
      clear h_sh
      by_cases h_row : row = row'
      · rw [decide_eq_true h_row, Bool.true_and] at hbb
        have e_row : (row == row') = true := by simpa using h_row
        clear h_row
        by_cases h_col : col = col'
        · rw [decide_eq_true h_col, Bool.true_and] at hbb
          have e_col : (col == col') = true := by simpa using h_col
          clear h_col
          by_cases h_ln : lk = lk' ∧ la = la' ∧ lt = lt'
          · rw [decide_eq_true h_ln, Bool.true_and] at hbb
            obtain ⟨rfl, rfl, rfl⟩ := h_ln
            have e_ln : ∀ W, (binOp .eql 51 (.agg #[.int .i64 lk, .int .i64 la, .int .i64 lt]) (.agg #[.int .i64 lk, .int .i64 la, .int .i64 lt])).run Tryz.prog W = .ok (.bool true) W := fun W => by rw [line_eq]; simp
            by_cases h_fm : fm = fm'
            · rw [decide_eq_true h_fm, Bool.true_and] at hbb
              have e_fm : (fm == fm') = true := by simpa using h_fm
              clear h_fm
              by_cases h_nm : nm.data.toList = nm'.data.toList
              · rw [decide_eq_true h_nm, Bool.true_and] at hbb
                have e_nm : (nm.toList == nm'.toList) = true := by rw [Lib.toList_data, Lib.toList_data]; simpa using h_nm
                clear h_nm
                cases rb with
                | true =>
                  simp only [Bool.true_and, Bool.and_true] at hbb
                  have HB : Hid (b = cb) := hid (by rw [hbb])
                  clear hbb
                  go_wp2_with (first | (go_at_call 96; refine (HR.out _ QA.out).mono ?_; rintro e9 w10 ⟨rfl, q9⟩; have Q10 : Hid (Q w w10) := hid (QA.out.trans q9); have Z10 := hid (Z1.out.on q9); have Z20 := hid (Z2.out.on q9); clear q9; have p0_0 := Z10.out.c 0 _ rfl; have o0_0 := Z20.out.c 0 _ rfl; have p0_1 := Z10.out.c 1 _ rfl; have o0_1 := Z20.out.c 1 _ rfl; have p0_2 := Z10.out.c 2 _ rfl; have o0_2 := Z20.out.c 2 _ rfl; have p0_3 := Z10.out.c 3 _ rfl; have o0_3 := Z20.out.c 3 _ rfl; have p0_4 := Z10.out.c 4 _ rfl; have o0_4 := Z20.out.c 4 _ rfl; have p0_5 := Z10.out.c 5 _ rfl; have o0_5 := Z20.out.c 5 _ rfl; have p0_6 := Z10.out.c 6 _ rfl; have o0_6 := Z20.out.c 6 _ rfl; have p0_7 := Z10.out.c 7 _ rfl; have o0_7 := Z20.out.c 7 _ rfl; have p0_8 := Z10.out.c 8 _ rfl; have o0_8 := Z20.out.c 8 _ rfl; have p0_9 := Z10.out.c 9 _ rfl; have o0_9 := Z20.out.c 9 _ rfl; have p0_10 := Z10.out.c 10 _ rfl; have o0_10 := Z20.out.c 10 _ rfl; have p0_11 := Z10.out.c 11 _ rfl; have o0_11 := Z20.out.c 11 _ rfl; have p0_12 := Z10.out.c 12 _ rfl; have o0_12 := Z20.out.c 12 _ rfl; have p0_13 := Z10.out.c 13 _ rfl; have o0_13 := Z20.out.c 13 _ rfl; have p0_14 := Z10.out.c 14 _ rfl; have o0_14 := Z20.out.c 14 _ rfl; have p0_15 := Z10.out.c 15 _ rfl; have o0_15 := Z20.out.c 15 _ rfl; have p0_16 := Z10.out.c 16 _ rfl; have o0_16 := Z20.out.c 16 _ rfl; have p0_17 := Z10.out.c 17 _ rfl; have o0_17 := Z20.out.c 17 _ rfl; have p0_18 := Z10.out.c 18 _ rfl; have o0_18 := Z20.out.c 18 _ rfl; have p0_19 := Z10.out.c 19 _ rfl; have o0_19 := Z20.out.c 19 _ rfl; have p0_20 := Z10.out.c 20 _ rfl; have o0_20 := Z20.out.c 20 _ rfl; have p0_21 := Z10.out.c 21 _ rfl; have o0_21 := Z20.out.c 21 _ rfl; have p0_22 := Z10.out.c 22 _ rfl; have o0_22 := Z20.out.c 22 _ rfl) | (go_at_call 101; refine (HC.out _ Q10.out).mono ?_; rintro e9 w11 ⟨rfl, q9⟩; have Q11 : Hid (Q w w11) := hid (Q10.out.trans q9); have Z11 := hid (Z10.out.on q9); have Z21 := hid (Z20.out.on q9); clear q9))
                  go_ret
                  exact ⟨ret_bool HB.out.symm, Q11.out⟩
                | false =>
                  have HB : Hid (b = false) := hid (by rw [hbb]; simp)
                  clear hbb
                  go_wp2_with (first | (go_at_call 96; refine (HR.out _ QA.out).mono ?_; rintro e9 w10 ⟨rfl, q9⟩; have Q10 : Hid (Q w w10) := hid (QA.out.trans q9); have Z10 := hid (Z1.out.on q9); have Z20 := hid (Z2.out.on q9); clear q9; have p0_0 := Z10.out.c 0 _ rfl; have o0_0 := Z20.out.c 0 _ rfl; have p0_1 := Z10.out.c 1 _ rfl; have o0_1 := Z20.out.c 1 _ rfl; have p0_2 := Z10.out.c 2 _ rfl; have o0_2 := Z20.out.c 2 _ rfl; have p0_3 := Z10.out.c 3 _ rfl; have o0_3 := Z20.out.c 3 _ rfl; have p0_4 := Z10.out.c 4 _ rfl; have o0_4 := Z20.out.c 4 _ rfl; have p0_5 := Z10.out.c 5 _ rfl; have o0_5 := Z20.out.c 5 _ rfl; have p0_6 := Z10.out.c 6 _ rfl; have o0_6 := Z20.out.c 6 _ rfl; have p0_7 := Z10.out.c 7 _ rfl; have o0_7 := Z20.out.c 7 _ rfl; have p0_8 := Z10.out.c 8 _ rfl; have o0_8 := Z20.out.c 8 _ rfl; have p0_9 := Z10.out.c 9 _ rfl; have o0_9 := Z20.out.c 9 _ rfl; have p0_10 := Z10.out.c 10 _ rfl; have o0_10 := Z20.out.c 10 _ rfl; have p0_11 := Z10.out.c 11 _ rfl; have o0_11 := Z20.out.c 11 _ rfl; have p0_12 := Z10.out.c 12 _ rfl; have o0_12 := Z20.out.c 12 _ rfl; have p0_13 := Z10.out.c 13 _ rfl; have o0_13 := Z20.out.c 13 _ rfl; have p0_14 := Z10.out.c 14 _ rfl; have o0_14 := Z20.out.c 14 _ rfl; have p0_15 := Z10.out.c 15 _ rfl; have o0_15 := Z20.out.c 15 _ rfl; have p0_16 := Z10.out.c 16 _ rfl; have o0_16 := Z20.out.c 16 _ rfl; have p0_17 := Z10.out.c 17 _ rfl; have o0_17 := Z20.out.c 17 _ rfl; have p0_18 := Z10.out.c 18 _ rfl; have o0_18 := Z20.out.c 18 _ rfl; have p0_19 := Z10.out.c 19 _ rfl; have o0_19 := Z20.out.c 19 _ rfl; have p0_20 := Z10.out.c 20 _ rfl; have o0_20 := Z20.out.c 20 _ rfl; have p0_21 := Z10.out.c 21 _ rfl; have o0_21 := Z20.out.c 21 _ rfl; have p0_22 := Z10.out.c 22 _ rfl; have o0_22 := Z20.out.c 22 _ rfl))
                  go_ret
                  exact ⟨ret_bool HB.out.symm, Q10.out⟩
              · rw [decide_eq_false h_nm] at hbb
                have e_nm : (nm.toList == nm'.toList) = false := by rw [Lib.toList_data, Lib.toList_data]; simpa using h_nm
                clear h_nm
                have HB : Hid (b = false) := hid (by rw [hbb]; simp)
                clear hbb
                go_wp2_with fail
                go_ret
                exact ⟨ret_bool HB.out.symm, QA.out⟩
            · rw [decide_eq_false h_fm] at hbb
              have e_fm : (fm == fm') = false := by simpa using h_fm
              clear h_fm
              have HB : Hid (b = false) := hid (by rw [hbb]; simp)
              clear hbb
              go_wp2_with fail
              go_ret
              exact ⟨ret_bool HB.out.symm, QA.out⟩
          · rw [decide_eq_false h_ln] at hbb
            have e_ln : ∀ W, (binOp .eql 51 (.agg #[.int .i64 lk, .int .i64 la, .int .i64 lt]) (.agg #[.int .i64 lk', .int .i64 la', .int .i64 lt'])).run Tryz.prog W = .ok (.bool false) W := fun W => by rw [line_eq, decide_eq_false h_ln]
            clear h_ln
            have HB : Hid (b = false) := hid (by rw [hbb]; simp)
            clear hbb
            go_wp2_with fail
            go_ret
            exact ⟨ret_bool HB.out.symm, QA.out⟩
        · rw [decide_eq_false h_col] at hbb
          have e_col : (col == col') = false := by simpa using h_col
          clear h_col
          have HB : Hid (b = false) := hid (by rw [hbb]; simp)
          clear hbb
          go_wp2_with fail
          go_ret
          exact ⟨ret_bool HB.out.symm, QA.out⟩
      · rw [decide_eq_false h_row] at hbb
        have e_row : (row == row') = false := by simpa using h_row
        clear h_row
        have HB : Hid (b = false) := hid (by rw [hbb]; simp)
        clear hbb
        go_wp2_with fail
        go_ret
        exact ⟨ret_bool HB.out.symm, QA.out⟩
    · rw [decide_eq_false h_sh] at hbb
      have e_sh : (sh.toList == sh'.toList) = false := by rw [Lib.toList_data, Lib.toList_data]; simpa using h_sh
      clear h_sh
      have HB : Hid (b = false) := hid (by rw [hbb]; simp)
      clear hbb
      go_wp2_with fail
      go_ret
      exact ⟨ret_bool HB.out.symm, QA.out⟩
  · rw [decide_eq_false h_k] at hbb
    have e_k : (k == k') = false := by simpa using h_k
    clear h_k
    have HB : Hid (b = false) := hid (by rw [hbb]; simp)
    clear hbb
    go_wp2_with fail
    go_ret
    exact ⟨ret_bool HB.out.symm, QA.out⟩
end Go.Proofs.YtcgddnliiondoaaGreatDoor
