/- op.Eq, walked: are two operations the same?; Lists of operat. -/
import Derived.Test.YtcgddnliiondoaaGreatDoorKq16
import Derived.Test.YtcgddnliiondoaaGreatDoorKq05
import Derived.Test.YtcgddnliiondoaaGreatDoorKq00
import Derived.Great.BuildSlice
import Derived.Test.YtcgddnliiondoaaGreatDoorKq07
import Derived.Test.YtcgddnliiondoaaGreatDoorKq14
import Derived.BigQuiet
import Derived.Shelf.Bytes.SlEqualAll
import Derived.Test.YtcgddnliiondoaaGreatDoorKq03
import Derived.Test.YtcgddnliiondoaaGreatDoorKq10
import Derived.Test.YtcgddnliiondoaaGreatDoorKq08
import Derived.Test.YtcgddnliiondoaaGreatDoorKq12
set_option linter.unusedVariables false
set_option linter.unusedSimpArgs false
set_option maxRecDepth 100000
set_option maxHeartbeats 8000000
namespace Go.Proofs.YtcgddnliiondoaaGreatDoor
open Go.RowKit
theorem line_eq (a b c a' b' c' : Int) (w : World) : (binOp .eql 51 (.agg #[.int .i64 a, .int .i64 b, .int .i64 c]) (.agg #[.int .i64 a', .int .i64 b', .int .i64 c'])).run Tryz.prog w = .ok (.bool (decide (a = a' ∧ b = b' ∧ c = c'))) w := by
  have u2 := Tryz.underlying2
  have u3 := Tryz.underlying3
  have hS : Tryz.prog.underlying 51 = some (.struct (Tryz.prog.fieldsOf 51)) := by kernel_rfl
  have hp : Tryz.prog.stoodInHeld 51 = false := by kernel_rfl
  rw [run_eql_struct, show (10000 : Nat) = 9999 + 1 from rfl, run_equalIn_agg w 9999 51 _ _ hS hp]
  simp only [Program.fieldsOf, Tryz.underlying51]
  go_simp
  by_cases h1 : a = a' <;> by_cases h2 : b = b' <;> by_cases h3 : c = c' <;> simp [h1, h2, h3]
set_option maxHeartbeats 8000000 in
theorem opeq_any (x y : Rv) (X Y : Ex) (L M : List R.Rg.Rc) (b : Bool) (w : World) (hx : RO w x X L) (hy : RO w y Y M) (hn : nodes X ≤ 1000) (hL : L.length ≤ 1000000000000) (hM : M.length ≤ 1000000000000) (hb : b = true ↔ oE x y X Y L M) : Calls Tryz.prog 70 #[x.v, y.v] w fun e W' => e = .returned (.bool b) ∧ Q w W' := by
  obtain ⟨cb, hcb, hbb⟩ := oe_split x y X Y L M b hb
  clear hb
  have hxt := hx.t
  have hxr := hx.r
  have hyt := hy.t
  have hyr := hy.r
  clear hx hy
  obtain ⟨k, sh, row, col, f, vk, vn, vt, vb, ve, tk, tm, tt, tb, te, a1, l1, c1, a2, l2, c2, lk, la, lt, ra, rl, rc, fm, nm⟩ := x
  obtain ⟨k', sh', row', col', f', vk', vn', vt', vb', ve', tk', tm', tt', tb', te', a1', l1', c1', a2', l2', c2', lk', la', lt', ra', rl', rc', fm', nm'⟩ := y
  unfold Rv.v
  unfold vE at hcb
  dsimp only at *
  have HC := hid (fun W' (q : Q w W') => samecell_any f vk vn vt vb ve tk tm tt tb te a1 l1 c1 a2 l2 c2 f' vk' vn' vt' vb' ve' tk' tm' tt' tb' te' a1' l1' c1' a2' l2' c2' X Y cb W' (Rd.on q _ _ hxt) (Rd.on q _ _ hyt) hn hcb)
  have HR := hid (fun W' (q : Q w W') => R.eqR_any _ _ L M W' (hxr.on q) (hyr.on q) hL hM)
  generalize R.eqRc L M = rb at HR hbb
  clear hxt hxr hyt hyr hcb hL hM hn
  have HBB := hid hbb
  clear hbb
  go_enter Tryz.func70, Tryz.ntmps70
  go_upto_region 1 with fail
  have Z1 := hid ((cb_new w [.int .i64 k, .string sh, .int .i64 row, .int .i64 col, .bool f, .int .i64 vk, .int .i64 vn, .string vt, .bool vb, .int .i64 ve, .int .i64 tk, .int .i64 tm, .string tt, .bool tb, .int .i64 te, .slice a1 l1 c1, .slice a2 l2 c2, .int .i64 lk, .int .i64 la, .int .i64 lt, .slice ra rl rc, .int .i64 fm, .string nm] 54).on ((Q.refl _).alloc (.cells #[.int .i64 k', .string sh', .int .i64 row', .int .i64 col', .bool f', .int .i64 vk', .int .i64 vn', .string vt', .bool vb', .int .i64 ve', .int .i64 tk', .int .i64 tm', .string tt', .bool tb', .int .i64 te', .slice a1' l1' c1', .slice a2' l2' c2', .int .i64 lk', .int .i64 la', .int .i64 lt', .slice ra' rl' rc', .int .i64 fm', .string nm'] 54)))
  have Z2 := hid (cb_new (w.alloc (.cells #[.int .i64 k, .string sh, .int .i64 row, .int .i64 col, .bool f, .int .i64 vk, .int .i64 vn, .string vt, .bool vb, .int .i64 ve, .int .i64 tk, .int .i64 tm, .string tt, .bool tb, .int .i64 te, .slice a1 l1 c1, .slice a2 l2 c2, .int .i64 lk, .int .i64 la, .int .i64 lt, .slice ra rl rc, .int .i64 fm, .string nm] 54)) [.int .i64 k', .string sh', .int .i64 row', .int .i64 col', .bool f', .int .i64 vk', .int .i64 vn', .string vt', .bool vb', .int .i64 ve', .int .i64 tk', .int .i64 tm', .string tt', .bool tb', .int .i64 te', .slice a1' l1' c1', .slice a2' l2' c2', .int .i64 lk', .int .i64 la', .int .i64 lt', .slice ra' rl' rc', .int .i64 fm', .string nm'] 54)
  have QA : Hid (Q w ((w.alloc (.cells #[.int .i64 k, .string sh, .int .i64 row, .int .i64 col, .bool f, .int .i64 vk, .int .i64 vn, .string vt, .bool vb, .int .i64 ve, .int .i64 tk, .int .i64 tm, .string tt, .bool tb, .int .i64 te, .slice a1 l1 c1, .slice a2 l2 c2, .int .i64 lk, .int .i64 la, .int .i64 lt, .slice ra rl rc, .int .i64 fm, .string nm] 54)).alloc (.cells #[.int .i64 k', .string sh', .int .i64 row', .int .i64 col', .bool f', .int .i64 vk', .int .i64 vn', .string vt', .bool vb', .int .i64 ve', .int .i64 tk', .int .i64 tm', .string tt', .bool tb', .int .i64 te', .slice a1' l1' c1', .slice a2' l2' c2', .int .i64 lk', .int .i64 la', .int .i64 lt', .slice ra' rl' rc', .int .i64 fm', .string nm'] 54))) := hid (((Q.refl w).alloc _).alloc _)
  rw [show ([.int .i64 k, .string sh, .int .i64 row, .int .i64 col, .bool f, .int .i64 vk, .int .i64 vn, .string vt, .bool vb, .int .i64 ve, .int .i64 tk, .int .i64 tm, .string tt, .bool tb, .int .i64 te, .slice a1 l1 c1, .slice a2 l2 c2, .int .i64 lk, .int .i64 la, .int .i64 lt, .slice ra rl rc, .int .i64 fm, .string nm] : List Value).toArray = #[.int .i64 k, .string sh, .int .i64 row, .int .i64 col, .bool f, .int .i64 vk, .int .i64 vn, .string vt, .bool vb, .int .i64 ve, .int .i64 tk, .int .i64 tm, .string tt, .bool tb, .int .i64 te, .slice a1 l1 c1, .slice a2 l2 c2, .int .i64 lk, .int .i64 la, .int .i64 lt, .slice ra rl rc, .int .i64 fm, .string nm] from rfl] at Z1
  rw [show ([.int .i64 k', .string sh', .int .i64 row', .int .i64 col', .bool f', .int .i64 vk', .int .i64 vn', .string vt', .bool vb', .int .i64 ve', .int .i64 tk', .int .i64 tm', .string tt', .bool tb', .int .i64 te', .slice a1' l1' c1', .slice a2' l2' c2', .int .i64 lk', .int .i64 la', .int .i64 lt', .slice ra' rl' rc', .int .i64 fm', .string nm'] : List Value).toArray = #[.int .i64 k', .string sh', .int .i64 row', .int .i64 col', .bool f', .int .i64 vk', .int .i64 vn', .string vt', .bool vb', .int .i64 ve', .int .i64 tk', .int .i64 tm', .string tt', .bool tb', .int .i64 te', .slice a1' l1' c1', .slice a2' l2' c2', .int .i64 lk', .int .i64 la', .int .i64 lt', .slice ra' rl' rc', .int .i64 fm', .string nm'] from rfl, show (w.alloc (.cells #[.int .i64 k, .string sh, .int .i64 row, .int .i64 col, .bool f, .int .i64 vk, .int .i64 vn, .string vt, .bool vb, .int .i64 ve, .int .i64 tk, .int .i64 tm, .string tt, .bool tb, .int .i64 te, .slice a1 l1 c1, .slice a2 l2 c2, .int .i64 lk, .int .i64 la, .int .i64 lt, .slice ra rl rc, .int .i64 fm, .string nm] 54)).heap.size = w.heap.size + 1 by simp] at Z2
  generalize ((w.alloc (.cells #[.int .i64 k, .string sh, .int .i64 row, .int .i64 col, .bool f, .int .i64 vk, .int .i64 vn, .string vt, .bool vb, .int .i64 ve, .int .i64 tk, .int .i64 tm, .string tt, .bool tb, .int .i64 te, .slice a1 l1 c1, .slice a2 l2 c2, .int .i64 lk, .int .i64 la, .int .i64 lt, .slice ra rl rc, .int .i64 fm, .string nm] 54)).alloc (.cells #[.int .i64 k', .string sh', .int .i64 row', .int .i64 col', .bool f', .int .i64 vk', .int .i64 vn', .string vt', .bool vb', .int .i64 ve', .int .i64 tk', .int .i64 tm', .string tt', .bool tb', .int .i64 te', .slice a1' l1' c1', .slice a2' l2' c2', .int .i64 lk', .int .i64 la', .int .i64 lt', .slice ra' rl' rc', .int .i64 fm', .string nm'] 54)) = w2 at Z1 Z2 QA ⊢
  generalize w.heap.size + 1 = b1 at Z2 ⊢
  generalize w.heap.size = b0 at Z1 ⊢
  have d0 := Z1.out.c 0 _ rfl
  have d1 := Z1.out.c 1 _ rfl
  have d2 := Z1.out.c 2 _ rfl
  have d3 := Z1.out.c 3 _ rfl
  have d4 := Z1.out.c 4 _ rfl
  have d5 := Z1.out.c 5 _ rfl
  have d6 := Z1.out.c 6 _ rfl
  have d7 := Z1.out.c 7 _ rfl
  have d8 := Z1.out.c 8 _ rfl
  have d9 := Z1.out.c 9 _ rfl
  have d10 := Z1.out.c 10 _ rfl
  have d11 := Z1.out.c 11 _ rfl
  have d12 := Z1.out.c 12 _ rfl
  have d13 := Z1.out.c 13 _ rfl
  have d14 := Z1.out.c 14 _ rfl
  have d15 := Z1.out.c 15 _ rfl
  have d16 := Z1.out.c 16 _ rfl
  have d17 := Z1.out.c 17 _ rfl
  have d18 := Z1.out.c 18 _ rfl
  have d19 := Z1.out.c 19 _ rfl
  have d20 := Z1.out.c 20 _ rfl
  have d21 := Z1.out.c 21 _ rfl
  have d22 := Z1.out.c 22 _ rfl
  have n0 := Z2.out.c 0 _ rfl
  have n1 := Z2.out.c 1 _ rfl
  have n2 := Z2.out.c 2 _ rfl
  have n3 := Z2.out.c 3 _ rfl
  have n4 := Z2.out.c 4 _ rfl
  have n5 := Z2.out.c 5 _ rfl
  have n6 := Z2.out.c 6 _ rfl
  have n7 := Z2.out.c 7 _ rfl
  have n8 := Z2.out.c 8 _ rfl
  have n9 := Z2.out.c 9 _ rfl
  have n10 := Z2.out.c 10 _ rfl
  have n11 := Z2.out.c 11 _ rfl
  have n12 := Z2.out.c 12 _ rfl
  have n13 := Z2.out.c 13 _ rfl
  have n14 := Z2.out.c 14 _ rfl
  have n15 := Z2.out.c 15 _ rfl
  have n16 := Z2.out.c 16 _ rfl
  have n17 := Z2.out.c 17 _ rfl
  have n18 := Z2.out.c 18 _ rfl
  have n19 := Z2.out.c 19 _ rfl
  have n20 := Z2.out.c 20 _ rfl
  have n21 := Z2.out.c 21 _ rfl
  have n22 := Z2.out.c 22 _ rfl
  have hbb := HBB.out
  clear HBB
  by_cases h_k : k = k'
  · rw [decide_eq_true h_k, Bool.true_and] at hbb
    have e_k : (k == k') = true := by simpa using h_k
    clear h_k
    by_cases h_sh : sh.data.toList = sh'.data.toList
    · rw [decide_eq_true h_sh, Bool.true_and] at hbb
      have e_sh : (sh.toList == sh'.toList) = true := by rw [Lib.toList_data, Lib.toList_data]; simpa using h_sh
      clear h_sh
      by_cases h_row : row = row'
      · rw [decide_eq_true h_row, Bool.true_and] at hbb
        have e_row : (row == row') = true := by simpa using h_row
        clear h_row
        by_cases h_col : col = col'
        · rw [decide_eq_true h_col, Bool.true_and] at hbb
          have e_col : (col == col') = true := by simpa using h_col
          clear h_col
          by_cases h_ln : lk = lk' ∧ la = la' ∧ lt = lt'
          · rw [decide_eq_true h_ln, Bool.true_and] at hbb
            obtain ⟨rfl, rfl, rfl⟩ := h_ln
            have e_ln : ∀ W, (binOp .eql 51 (.agg #[.int .i64 lk, .int .i64 la, .int .i64 lt]) (.agg #[.int .i64 lk, .int .i64 la, .int .i64 lt])).run Tryz.prog W = .ok (.bool true) W := fun W => by rw [line_eq]; simp
            by_cases h_fm : fm = fm'
            · rw [decide_eq_true h_fm, Bool.true_and] at hbb
              have e_fm : (fm == fm') = true := by simpa using h_fm
              clear h_fm
              by_cases h_nm : nm.data.toList = nm'.data.toList
              · rw [decide_eq_true h_nm, Bool.true_and] at hbb
                have e_nm : (nm.toList == nm'.toList) = true := by rw [Lib.toList_data, Lib.toList_data]; simpa using h_nm
                clear h_nm
                cases rb with
                | true =>
                  simp only [Bool.true_and, Bool.and_true] at hbb
                  have HB : Hid (b = cb) := hid (by rw [hbb])
                  clear hbb
                  go_wp2_with (first | (go_at_call 96; refine (HR.out _ QA.out).mono ?_; rintro e9 w10 ⟨rfl, q9⟩; have Q10 : Hid (Q w w10) := hid (QA.out.trans q9); have Z10 := hid (Z1.out.on q9); have Z20 := hid (Z2.out.on q9); clear q9; have p0_0 := Z10.out.c 0 _ rfl; have o0_0 := Z20.out.c 0 _ rfl; have p0_1 := Z10.out.c 1 _ rfl; have o0_1 := Z20.out.c 1 _ rfl; have p0_2 := Z10.out.c 2 _ rfl; have o0_2 := Z20.out.c 2 _ rfl; have p0_3 := Z10.out.c 3 _ rfl; have o0_3 := Z20.out.c 3 _ rfl; have p0_4 := Z10.out.c 4 _ rfl; have o0_4 := Z20.out.c 4 _ rfl; have p0_5 := Z10.out.c 5 _ rfl; have o0_5 := Z20.out.c 5 _ rfl; have p0_6 := Z10.out.c 6 _ rfl; have o0_6 := Z20.out.c 6 _ rfl; have p0_7 := Z10.out.c 7 _ rfl; have o0_7 := Z20.out.c 7 _ rfl; have p0_8 := Z10.out.c 8 _ rfl; have o0_8 := Z20.out.c 8 _ rfl; have p0_9 := Z10.out.c 9 _ rfl; have o0_9 := Z20.out.c 9 _ rfl; have p0_10 := Z10.out.c 10 _ rfl; have o0_10 := Z20.out.c 10 _ rfl; have p0_11 := Z10.out.c 11 _ rfl; have o0_11 := Z20.out.c 11 _ rfl; have p0_12 := Z10.out.c 12 _ rfl; have o0_12 := Z20.out.c 12 _ rfl; have p0_13 := Z10.out.c 13 _ rfl; have o0_13 := Z20.out.c 13 _ rfl; have p0_14 := Z10.out.c 14 _ rfl; have o0_14 := Z20.out.c 14 _ rfl; have p0_15 := Z10.out.c 15 _ rfl; have o0_15 := Z20.out.c 15 _ rfl; have p0_16 := Z10.out.c 16 _ rfl; have o0_16 := Z20.out.c 16 _ rfl; have p0_17 := Z10.out.c 17 _ rfl; have o0_17 := Z20.out.c 17 _ rfl; have p0_18 := Z10.out.c 18 _ rfl; have o0_18 := Z20.out.c 18 _ rfl; have p0_19 := Z10.out.c 19 _ rfl; have o0_19 := Z20.out.c 19 _ rfl; have p0_20 := Z10.out.c 20 _ rfl; have o0_20 := Z20.out.c 20 _ rfl; have p0_21 := Z10.out.c 21 _ rfl; have o0_21 := Z20.out.c 21 _ rfl; have p0_22 := Z10.out.c 22 _ rfl; have o0_22 := Z20.out.c 22 _ rfl) | (go_at_call 101; refine (HC.out _ Q10.out).mono ?_; rintro e9 w11 ⟨rfl, q9⟩; have Q11 : Hid (Q w w11) := hid (Q10.out.trans q9); have Z11 := hid (Z10.out.on q9); have Z21 := hid (Z20.out.on q9); clear q9))
                  go_ret
                  exact ⟨ret_bool HB.out.symm, Q11.out⟩
                | false =>
                  have HB : Hid (b = false) := hid (by rw [hbb]; simp)
                  clear hbb
                  go_wp2_with (first | (go_at_call 96; refine (HR.out _ QA.out).mono ?_; rintro e9 w10 ⟨rfl, q9⟩; have Q10 : Hid (Q w w10) := hid (QA.out.trans q9); have Z10 := hid (Z1.out.on q9); have Z20 := hid (Z2.out.on q9); clear q9; have p0_0 := Z10.out.c 0 _ rfl; have o0_0 := Z20.out.c 0 _ rfl; have p0_1 := Z10.out.c 1 _ rfl; have o0_1 := Z20.out.c 1 _ rfl; have p0_2 := Z10.out.c 2 _ rfl; have o0_2 := Z20.out.c 2 _ rfl; have p0_3 := Z10.out.c 3 _ rfl; have o0_3 := Z20.out.c 3 _ rfl; have p0_4 := Z10.out.c 4 _ rfl; have o0_4 := Z20.out.c 4 _ rfl; have p0_5 := Z10.out.c 5 _ rfl; have o0_5 := Z20.out.c 5 _ rfl; have p0_6 := Z10.out.c 6 _ rfl; have o0_6 := Z20.out.c 6 _ rfl; have p0_7 := Z10.out.c 7 _ rfl; have o0_7 := Z20.out.c 7 _ rfl; have p0_8 := Z10.out.c 8 _ rfl; have o0_8 := Z20.out.c 8 _ rfl; have p0_9 := Z10.out.c 9 _ rfl; have o0_9 := Z20.out.c 9 _ rfl; have p0_10 := Z10.out.c 10 _ rfl; have o0_10 := Z20.out.c 10 _ rfl; have p0_11 := Z10.out.c 11 _ rfl; have o0_11 := Z20.out.c 11 _ rfl; have p0_12 := Z10.out.c 12 _ rfl; have o0_12 := Z20.out.c 12 _ rfl; have p0_13 := Z10.out.c 13 _ rfl; have o0_13 := Z20.out.c 13 _ rfl; have p0_14 := Z10.out.c 14 _ rfl; have o0_14 := Z20.out.c 14 _ rfl; have p0_15 := Z10.out.c 15 _ rfl; have o0_15 := Z20.out.c 15 _ rfl; have p0_16 := Z10.out.c 16 _ rfl; have o0_16 := Z20.out.c 16 _ rfl; have p0_17 := Z10.out.c 17 _ rfl; have o0_17 := Z20.out.c 17 _ rfl; have p0_18 := Z10.out.c 18 _ rfl; have o0_18 := Z20.out.c 18 _ rfl; have p0_19 := Z10.out.c 19 _ rfl; have o0_19 := Z20.out.c 19 _ rfl; have p0_20 := Z10.out.c 20 _ rfl; have o0_20 := Z20.out.c 20 _ rfl; have p0_21 := Z10.out.c 21 _ rfl; have o0_21 := Z20.out.c 21 _ rfl; have p0_22 := Z10.out.c 22 _ rfl; have o0_22 := Z20.out.c 22 _ rfl))
                  go_ret
                  exact ⟨ret_bool HB.out.symm, Q10.out⟩
              · rw [decide_eq_false h_nm] at hbb
                have e_nm : (nm.toList == nm'.toList) = false := by rw [Lib.toList_data, Lib.toList_data]; simpa using h_nm
                clear h_nm
                have HB : Hid (b = false) := hid (by rw [hbb]; simp)
                clear hbb
                go_wp2_with fail
                go_ret
                exact ⟨ret_bool HB.out.symm, QA.out⟩
            · rw [decide_eq_false h_fm] at hbb
              have e_fm : (fm == fm') = false := by simpa using h_fm
              clear h_fm
              have HB : Hid (b = false) := hid (by rw [hbb]; simp)
              clear hbb
              go_wp2_with fail
              go_ret
              exact ⟨ret_bool HB.out.symm, QA.out⟩
          · rw [decide_eq_false h_ln] at hbb
            have e_ln : ∀ W, (binOp .eql 51 (.agg #[.int .i64 lk, .int .i64 la, .int .i64 lt]) (.agg #[.int .i64 lk', .int .i64 la', .int .i64 lt'])).run Tryz.prog W = .ok (.bool false) W := fun W => by rw [line_eq, decide_eq_false h_ln]
            clear h_ln
            have HB : Hid (b = false) := hid (by rw [hbb]; simp)
            clear hbb
            go_wp2_with fail
            go_ret
            exact ⟨ret_bool HB.out.symm, QA.out⟩
        · rw [decide_eq_false h_col] at hbb
          have e_col : (col == col') = false := by simpa using h_col
          clear h_col
          have HB : Hid (b = false) := hid (by rw [hbb]; simp)
          clear hbb
          go_wp2_with fail
          go_ret
          exact ⟨ret_bool HB.out.symm, QA.out⟩
      · rw [decide_eq_false h_row] at hbb
        have e_row : (row == row') = false := by simpa using h_row
        clear h_row
        have HB : Hid (b = false) := hid (by rw [hbb]; simp)
        clear hbb
        go_wp2_with fail
        go_ret
        exact ⟨ret_bool HB.out.symm, QA.out⟩
    · rw [decide_eq_false h_sh] at hbb
      have e_sh : (sh.toList == sh'.toList) = false := by rw [Lib.toList_data, Lib.toList_data]; simpa using h_sh
      clear h_sh
      have HB : Hid (b = false) := hid (by rw [hbb]; simp)
      clear hbb
      go_wp2_with fail
      go_ret
      exact ⟨ret_bool HB.out.symm, QA.out⟩
  · rw [decide_eq_false h_k] at hbb
    have e_k : (k == k') = false := by simpa using h_k
    clear h_k
    have HB : Hid (b = false) := hid (by rw [hbb]; simp)
    clear hbb
    go_wp2_with fail
    go_ret
    exact ⟨ret_bool HB.out.symm, QA.out⟩
theorem Rv.len (x : Rv) : x.L.length = 23 := rfl
theorem Rv.one (x : Rv) : x.L.toArray.all (·.oneCell') = true := by
  cases x
  unfold Rv.L
  kernel_rfl
theorem Rv.ones (x : Rv) : ∀ u ∈ x.L, u.oneCell' = true := fun u hu => Array.all_eq_true_iff_forall_mem.1 x.one u (by simpa using hu)
def zero23 : Array Value := #[.int .i64 0, .string ⟨#[]⟩, .int .i64 0, .int .i64 0, .bool false, .int .i64 0, .int .i64 0, .string ⟨#[]⟩, .bool false, .int .i64 0, .int .i64 0, .int .i64 0, .string ⟨#[]⟩, .bool false, .int .i64 0, .slice none 0 0, .slice none 0 0, .int .i64 0, .int .i64 0, .int .i64 0, .slice none 0 0, .int .i64 0, .string ⟨#[]⟩]
theorem wpl_lay (w : World) {ops : Array Oper} {rest : List Oper} {o : Oper} {a : Act} {Q : Exit → Act → World → Prop} (x y : Operand) (ho : o.op = .store 54 x y) (hgd : o.guard = none) (z : Rv)
    (hx : a.eval x = .pointer (some ⟨w.heap.size, 0, none⟩)) (hy : a.eval y = .agg z.L.toArray)
    {W : World} (hW : W = w.alloc (.cells zero23 54)) (h : wpList Tryz.prog ops Q rest (a.put o.dst undef) (w.alloc (.cells z.L.toArray 54))) : wpList Tryz.prog ops Q (o :: rest) a W := by
  subst hW
  refine wpList_store_row hgd 54 x y ho w.heap.size z.L.toArray hx hy 54 zero23 (heap_alloc_last w _) info35 rfl z.one ?_
  rw [World.setRow_alloc_new]
  exact h
theorem wpl_loadm {w : World} {ops : Array Oper} {rest : List Oper} {o : Oper} {a : Act} {Q : Exit → Act → World → Prop} (x : Operand) (ho : o.op = .load 54 x) (hw : Region.wanted o (yielded ops a.tmps) = true)
    (b off : Nat) (z : Rv) (hz : w.rangeAt b off z.L) (hx : a.eval x = .pointer (some ⟨b, off, none⟩))
    (h : wpList Tryz.prog ops Q rest (a.put o.dst (.agg z.L.toArray)) w) : wpList Tryz.prog ops Q (o :: rest) a w := by
  simp only [wpList, hw, if_true]
  exact .inl (wp_load_mid 54 x ho b off hx z.L _ hz Tryz.underlying54 rfl info35 h)
theorem all_no' {xs : List Rv} {mb : Rv → Bool} {n : Nat} (h : n < xs.length) (hm : mb xs[n] = false) : xs.all mb = false := by
  rw [List.all_eq_false]
  exact ⟨_, List.getElem_mem h, by simp [hm]⟩
theorem all_succ {xs : List Rv} {mb : Rv → Bool} {n : Nat} (h : n < xs.length) (hm : mb xs[n] = true) (ha : (xs.take n).all mb = true) : (xs.take (n + 1)).all mb = true := by
  rw [List.take_succ_eq_append_getElem h, List.all_append, ha]
  simp [hm]
theorem info35x : (Tryz.prog.info? 54).map (fun i => (i.zero, i.size)) = some (some (.agg zero23), 23) := by kernel_rfl
theorem wpl_bsl {w : World} {ops : Array Oper} {rest : List Oper} {o : Oper} {a : Act} {Q : Exit → Act → World → Prop} (len : Nat) (parts : Array (Nat × Operand)) (ho : o.op = .buildSlice 22 len parts) (hw : Region.wanted o (yielded ops a.tmps) = true)
    (xs : List Rv) (hl : 0 < len ∧ len ≤ 1000)
    (hf : Instr.fill (fun i => some (i * 23, 23)) ((Array.range (len * 23)).map (zero23[· % zero23.size]!)) (parts.map fun (i, x) => (i, a.eval x)).toList = some (flat Rv.L xs).toArray)
    (h : wpList Tryz.prog ops Q rest (a.put o.dst (.slice (some ⟨w.heap.size, 0, none⟩) len len)) (w.alloc (.cells (flat Rv.L xs).toArray 54))) : wpList Tryz.prog ops Q (o :: rest) a w := by
  simp only [wpList, hw, if_true]
  cases hq : Tryz.prog.info? 54 with
  | none =>
    have hx := info35x
    rw [hq] at hx
    cases hx
  | some ie =>
    have hx := info35x
    rw [hq] at hx
    simp only [Option.map_some, Option.some.injEq, Prod.mk.injEq] at hx
    obtain ⟨hz, hs⟩ := hx
    refine .inl (wp_buildSlice 22 54 len parts ho (flat Rv.L xs).toArray ie (.agg zero23) Tryz.underlying22 hq hz (by rw [hs]; omega) (by rw [hs]; omega) ?_ h)
    rw [hs]
    exact hf
theorem sl_lit23 (W : World) (xs : List Rv) (hl : xs.length ≤ 1000) : Sl Rv.L 23 (W.alloc (.cells (flat Rv.L xs).toArray 54)) (.slice (some ⟨W.heap.size, 0, none⟩) xs.length xs.length) xs := by
  refine ⟨some ⟨W.heap.size, 0, none⟩, xs.length, rfl, Nat.le_refl _, by unfold maxLen; omega, fun _ => ⟨W.heap.size, 0, rfl, fun i hi j u hu => ?_⟩⟩
  have hj : j < 23 := (List.getElem?_eq_some_iff.1 hu).1
  rw [World.cell?_alloc_at _ _ _ _ rfl]
  rw [← hu, ← flat_at Rv.L Rv.len xs i hi j hj]
  simp
set_option maxHeartbeats 4000000 in
theorem batch_any (v : Value) (xs : List Rv) (mb : Rv → Bool) (w : World) (h : Sl Rv.L 23 w v xs) (ho : ∀ x ∈ xs, ∀ V, Q w V → Calls Tryz.prog 37 #[.agg x.L.toArray] V fun e V' => e = .returned (.bool (mb x)) ∧ Q V V') : Calls Tryz.prog 21 #[v] w fun e V' => e = .returned (.bool (decide (xs.length ≤ 32) && xs.all mb)) ∧ Q w V' := by
  have HS := hid h
  have HO := hid ho
  obtain ⟨ao, cap, rfl, h1, h2⟩ := h.len
  clear h ho
  have h3 : xs.length ≤ 9223372036854775807 := Nat.le_trans h1 (by unfold maxLen at h2; omega)
  by_cases h32 : (32 : Int) < (xs.length : Int)
  · have HR : Hid ((decide (xs.length ≤ 32) && xs.all mb) = false) := hid (by rw [decide_eq_false (by omega)]; rfl)
    generalize (decide (xs.length ≤ 32) && xs.all mb) = r at HR ⊢
    go_enter Tryz.func21, Tryz.ntmps21
    go_wp2_with fail
    go_ret
    exact ⟨ret_bool HR.out.symm, Q.refl _⟩
  · have HR : Hid ((decide (xs.length ≤ 32) && xs.all mb) = xs.all mb) := hid (by rw [decide_eq_true (by omega)]; rfl)
    generalize (decide (xs.length ≤ 32) && xs.all mb) = r at HR ⊢
    go_enter Tryz.func21, Tryz.ntmps21
    go_wp2_with fail
    go_loopw [10] (fun s W => ∃ (n : Nat), n ≤ xs.length ∧ s = .int .i64 n ∧ Hid ((xs.take n).all mb = true) ∧ Q w W) (fun s _ => xs.length - (intOf s).toNat)
    case atStart => exact ⟨0, Nat.zero_le _, rfl, hid rfl, Q.refl _⟩
    case round =>
      obtain ⟨n, hn, rfl, ha, hq⟩ := hrel
      have HQ := hid hq
      clear hq
      by_cases hlt : n < xs.length
      · have hlt' : (n : Int) < (xs.length : Int) := by omega
        obtain ⟨g, off, cap', e, _, _, hc⟩ := (HS.out.on HQ.out).at hlt
        cases e
        have HX := hid (HO.out _ (List.getElem_mem hlt))
        have HRg : Hid (wr.rangeAt g (off + n * 23) (xs[n]).L) := hid (fun j u hu => hc j u hu)
        have HYes := hid (fun hm => all_succ hlt hm ha.out)
        have HNo := hid (fun hm => all_no' (mb := mb) hlt hm)
        clear hc
        generalize xs[n] = x at HX HRg HYes HNo
        cases hm : mb x
        · have HN := hid (HNo.out hm)
          rw [hm] at HX
          clear HYes HNo hm
          go_wp2_with (first
            | (with_reducible refine wpl_loadm _ (by with_unfolding_all rfl) (by with_unfolding_all rfl) g (off + n * 23) x (by with_unfolding_all exact HRg.out) (by with_unfolding_all rfl) ?_)
            | (with_reducible refine wpl_lay wr _ _ (by with_unfolding_all rfl) (by with_unfolding_all rfl) x (by with_unfolding_all rfl) (by with_unfolding_all rfl) (by with_unfolding_all rfl) ?_)
            | (with_reducible refine wpl_loadg _ (by with_unfolding_all rfl) (by with_unfolding_all rfl) wr.heap.size (by with_unfolding_all rfl) x.L (by with_unfolding_all exact cq_new wr x.L) (by with_unfolding_all rfl) ?_)
            | (go_at_call 37; refine (HX.out _ (HQ.out.alloc _)).mono ?_; rintro e9 y1 ⟨rfl, q9⟩; have QY : Hid (Q w y1) := hid ((HQ.out.alloc _).trans q9); clear q9))
          go_ret
          exact ⟨ret_bool (by rw [HR.out, HN.out]), QY.out⟩
        · have HN := hid (HYes.out hm)
          rw [hm] at HX
          clear HYes HNo hm
          go_wp2_with (first
            | (with_reducible refine wpl_loadm _ (by with_unfolding_all rfl) (by with_unfolding_all rfl) g (off + n * 23) x (by with_unfolding_all exact HRg.out) (by with_unfolding_all rfl) ?_)
            | (with_reducible refine wpl_lay wr _ _ (by with_unfolding_all rfl) (by with_unfolding_all rfl) x (by with_unfolding_all rfl) (by with_unfolding_all rfl) (by with_unfolding_all rfl) ?_)
            | (with_reducible refine wpl_loadg _ (by with_unfolding_all rfl) (by with_unfolding_all rfl) wr.heap.size (by with_unfolding_all rfl) x.L (by with_unfolding_all exact cq_new wr x.L) (by with_unfolding_all rfl) ?_)
            | (go_at_call 37; refine (HX.out _ (HQ.out.alloc _)).mono ?_; rintro e9 y1 ⟨rfl, q9⟩; have QY : Hid (Q w y1) := hid ((HQ.out.alloc _).trans q9); clear q9))
          go_roundw
          case rel => exact ⟨n + 1, by omega, by go_num, HN, QY.out⟩
          case measure => simp [intOf]; omega
      · have HN : Hid (xs.all mb = true) := by
          show _ = _
          have := ha.out
          rw [List.take_of_length_le (by omega)] at this
          exact this
        go_wp2_with fail
        go_ret
        exact ⟨ret_bool (by rw [HR.out, HN.out]), HQ.out⟩
def eb (b : UInt8) : List Value := [.int .u8 b.toNat]
theorem eb_len (b : UInt8) : (eb b).length = 1 := rfl
theorem flat_eb (L : List UInt8) : flat eb L = bc L := by
  induction L with
  | nil => rfl
  | cons x L ih => rw [flat_cons, ih]; rfl
theorem fm_bound {ob : Rv → List UInt8} {xs : List Rv} (h : ∀ x ∈ xs, (ob x).length ≤ 100000) : (xs.flatMap ob).length ≤ xs.length * 100000 := by
  induction xs with
  | nil => simp
  | cons x xs ih =>
    have h1 := h x (by simp)
    have h2 := ih (fun y hy => h y (by simp [hy]))
    simp only [List.flatMap_cons, List.length_append, List.length_cons]
    omega
theorem fm_take {ob : Rv → List UInt8} {xs : List Rv} {n : Nat} (h : n < xs.length) : (xs.take (n + 1)).flatMap ob = (xs.take n).flatMap ob ++ ob xs[n] := by
  rw [List.take_succ_eq_append_getElem h, List.flatMap_append]
  simp
def WOp (w0 : World) (p : Nat) (x : Rv) (bs : List UInt8) : Prop := ∀ L V, Q w0 V → Wr p L V → L.length ≤ 100000000 → Calls Tryz.prog 39 #[.pointer (some ⟨p, 0, none⟩), .agg x.L.toArray] V fun e V' => e = .returned (.tuple #[]) ∧ Wr p (L ++ bs) V' ∧ Ww p V V'
set_option maxHeartbeats 4000000 in
theorem wbatch_any (v : Value) (xs : List Rv) (ob : Rv → List UInt8) (w0 w : World) (p : Nat) (h : Sl Rv.L 23 w0 v xs) (hq0 : Q w0 w) (hp : w0.heap.size ≤ p) (hw : Wr p [] w) (hl : xs.length ≤ 500) (hob : ∀ x ∈ xs, (ob x).length ≤ 100000) (ho : ∀ x ∈ xs, WOp w0 p x (ob x)) :
    Calls Tryz.prog 22 #[.pointer (some ⟨p, 0, none⟩), v] w fun e W' => e = .returned (.tuple #[]) ∧ Wr p (vn xs.length ++ xs.flatMap ob) W' ∧ Ww p w W' := by
  have HS := hid h
  have HQ0 := hid hq0
  have HO := hid ho
  have HOB := hid hob
  have HC := hid (wcount_any p xs.length [] w (by omega) hw (by simp))
  have HP := hid hp
  have HPL := hid hw.lt
  obtain ⟨ao, cap, rfl, h1, h2⟩ := h.len
  clear h hq0 ho hob hw hp
  have h3 : xs.length ≤ 9223372036854775807 := by omega
  go_enter Tryz.func22, Tryz.ntmps22
  go_upto_region 1 with (go_at_call 38; refine HC.out.mono ?_; rintro e9 w1 ⟨rfl, hw9, hq9⟩; have HW := hid hw9; have HQ := hid hq9; clear hw9 hq9)
  go_wp2_with fail
  go_loopw [12] (fun s W => ∃ (n : Nat), n ≤ xs.length ∧ s = .int .i64 n ∧ Hid (Wr p (vn xs.length ++ (xs.take n).flatMap ob) W) ∧ Hid (Ww p w W)) (fun s _ => xs.length - (intOf s).toNat)
  case atStart => exact ⟨0, Nat.zero_le _, rfl, by simpa using HW, HQ⟩
  case round =>
    obtain ⟨n, hn, rfl, hw9, hq9⟩ := hrel
    clear HW HQ
    have HW := hw9
    have HQ := hq9
    clear hw9 hq9
    have HQ1 : Hid (Q w0 wr) := hid (HQ.out.q HQ0.out HP.out)
    by_cases hlt : n < xs.length
    · have hlt' : (n : Int) < (xs.length : Int) := by omega
      obtain ⟨g, off, cap', e, _, _, hc⟩ := (HS.out.on HQ1.out).at hlt
      cases e
      have HX := hid (HO.out _ (List.getElem_mem hlt))
      have HRg : Hid (wr.rangeAt g (off + n * 23) (xs[n]).L) := hid (fun j u hu => hc j u hu)
      have HT := hid (fm_take (ob := ob) hlt)
      have HLN : Hid ((vn xs.length ++ (xs.take n).flatMap ob).length ≤ 100000000) := hid (by
        have a1 := vn_len xs.length
        have a2 := fm_bound (ob := ob) (xs := xs.take n) (fun x hx => HOB.out x (List.mem_of_mem_take hx))
        have a3 : (xs.take n).length ≤ 500 := by simp; omega
        simp only [List.length_append]
        omega)
      clear hc
      generalize xs[n] = x at HX HRg HT
      have HPS : Hid (p ≤ wr.heap.size) := hid (Nat.le_of_lt HW.out.lt)
      go_wp2_with (first
        | (with_reducible refine wpl_loadm _ (by with_unfolding_all rfl) (by with_unfolding_all rfl) g (off + n * 23) x (by with_unfolding_all exact HRg.out) (by with_unfolding_all rfl) ?_)
        | (with_reducible refine wpl_lay wr _ _ (by with_unfolding_all rfl) (by with_unfolding_all rfl) x (by with_unfolding_all rfl) (by with_unfolding_all rfl) (by with_unfolding_all rfl) ?_)
        | (with_reducible refine wpl_loadg _ (by with_unfolding_all rfl) (by with_unfolding_all rfl) wr.heap.size (by with_unfolding_all rfl) x.L (by with_unfolding_all exact cq_new wr x.L) (by with_unfolding_all rfl) ?_)
        | (go_at_call 39; refine (HX.out _ _ (HQ1.out.alloc _) (HW.out.on ((Q.refl _).alloc _)) HLN.out).mono ?_; rintro e9 y1 ⟨rfl, hw9, hq9⟩; have HW2 := hid hw9; have HQ2 := hid (HQ.out.trans ((Ww.of ((Q.refl _).alloc _) HPS.out).trans hq9)); clear hw9 hq9))
      go_roundw
      case rel => exact ⟨n + 1, by omega, by go_num, hid (by rw [HT.out, ← List.append_assoc]; exact HW2.out), HQ2⟩
      case measure => simp [intOf]; omega
    · have HN : Hid ((xs.take n).flatMap ob = xs.flatMap ob) := hid (by rw [List.take_of_length_le (by omega)])
      go_wp2_with fail
      go_end0
      exact ⟨rfl, HN.out ▸ HW.out, HQ.out⟩
def EncP (w : World) (ok : Bool) (bs : List UInt8) (e : Ending) (W' : World) : Prop := Q w W' ∧ (ok = true → ∃ vb, e = .returned (.tuple #[vb, .int .i64 0]) ∧ Sl eb 1 W' vb bs) ∧ (ok = false → e = .returned (.tuple #[.slice none 0 0, .int .i64 4]))
theorem wr_new (W : World) : Wr W.heap.size [] (W.alloc (.cells #[.slice none 0 0] 59)) := ⟨.slice none 0 0, heap_alloc_last W _, World.ownsRow_nil _ _ _ _⟩
set_option maxHeartbeats 4000000 in
theorem encode_any (v : Value) (xs : List Rv) (mb : Rv → Bool) (ob : Rv → List UInt8) (w : World) (h : Sl Rv.L 23 w v xs) (hm : ∀ x ∈ xs, ∀ V, Q w V → Calls Tryz.prog 37 #[.agg x.L.toArray] V fun e V' => e = .returned (.bool (mb x)) ∧ Q V V') (hob : ∀ x ∈ xs, (ob x).length ≤ 100000) (ho : xs.all mb = true → ∀ x ∈ xs, ∀ p, w.heap.size ≤ p → WOp w p x (ob x)) :
    Calls Tryz.prog 10 #[v] w fun e W' => EncP w (decide (xs.length ≤ 32) && xs.all mb) (vn xs.length ++ xs.flatMap ob) e W' := by
  have HB := hid (batch_any v xs mb w h hm)
  have HS := hid h
  have HO := hid ho
  have HOB := hid hob
  obtain ⟨ao, cap, rfl, h1, h2⟩ := h.len
  clear h hm ho hob h1 h2
  cases hr : (decide (xs.length ≤ 32) && xs.all mb)
  · rw [hr] at HB
    clear hr
    go_enter Tryz.func10, Tryz.ntmps10
    go_wp2_with (go_at_call 21; refine HB.out.mono ?_; rintro e9 w1 ⟨rfl, hq9⟩; have HQ := hid hq9; clear hq9)
    go_ret2
    exact ⟨HQ.out, (fun e => absurd e Bool.false_ne_true), (fun _ => rfl)⟩
  · rw [hr] at HB
    simp only [Bool.and_eq_true, decide_eq_true_eq] at hr
    have HR := hid hr
    clear hr
    go_enter Tryz.func10, Tryz.ntmps10
    go_upto_region 4 with (go_at_call 21; refine HB.out.mono ?_; rintro e9 w1 ⟨rfl, hq9⟩; have HQ := hid hq9; clear hq9)
    have HW := hid (wr_new w1)
    have HP : Hid (w.heap.size ≤ w1.heap.size) := hid HQ.out.size
    have HQ2 := hid (HQ.out.alloc (.cells #[.slice none 0 0] 59))
    clear HQ
    generalize w1.alloc (.cells #[.slice none 0 0] 59) = w2 at HW HQ2 ⊢
    generalize w1.heap.size = p at HW HP ⊢
    have HC := hid (wbatch_any _ xs ob w w2 p HS.out HQ2.out HP.out HW.out (by have := HR.out.1; omega) HOB.out (fun x hx => HO.out HR.out.2 x hx p HP.out))
    go_upto_region 5 with (go_at_call 22; refine HC.out.mono ?_; rintro e9 w3 ⟨rfl, hw9, hq9⟩; have HW3 := hid hw9; have HQ3 := hid (hq9.q HQ2.out HP.out); clear hw9 hq9)
    obtain ⟨v, hbk, hown⟩ := HW3.out.h
    have c0 : w3.cell? ⟨p, 0, none⟩ = some v := by rw [Lib.cell_of_heap hbk]; rfl
    have HV : Hid (Sl eb 1 w3 v (vn xs.length ++ xs.flatMap ob)) := hid (Own.sl (e := 5) (B := p + 1) (by unfold Own; rw [flat_eb]; exact hown) eb_len (by decide))
    clear hown
    go_wp2_with fail
    go_ret2
    exact ⟨HQ3.out, (fun _ => ⟨v, rfl, HV.out⟩), (fun e => absurd e.symm Bool.false_ne_true)⟩
def u64N (n : Int) : Nat := (IntKind.u64.wrap n).toNat
theorem u64N_nat {m : Nat} (h : m < 18446744073709551616) : u64N (m : Int) = m := by
  unfold u64N
  simp [IntKind.wrap, IntKind.bits, IntKind.signed]
  omega
theorem u64N_lt (n : Int) : u64N n < 18446744073709551616 := by
  unfold u64N
  simp [IntKind.wrap, IntKind.bits, IntKind.signed]
  omega
theorem u64N_eq (n : Int) : IntKind.u64.wrap n = (u64N n : Int) := by
  unfold u64N
  simp [IntKind.wrap, IntKind.bits, IntKind.signed]
  omega
def heldN (a b : Bool) : Nat := (if a then 1 else 0) + (if b then 2 else 0)
def encR (x : Rf) : List UInt8 := vn x.1.length ++ (x.1 ++ (vn x.2.1.toNat ++ (vn x.2.2.1.toNat ++ vn (heldN x.2.2.2.1 x.2.2.2.2))))
def encT : Ex → List UInt8
  | .mk k n t b e rs ks => vn k.toNat ++ (
    if k = 1 then vn (u64N n) else if k = 2 then vn t.length ++ t else if k = 3 then vn (if b then 1 else 0)
    else if k = 4 then vn e.toNat else if k = 5 ∨ k = 6 then rs.flatMap encR else if k = 7 then encTL ks
    else if k = 8 then vn t.length ++ (t ++ encTL ks) else vn t.length ++ (t ++ (vn ks.length ++ encTL ks)))
  where
  encTL : List Ex → List UInt8
  | [] => []
  | x :: xs => encT x ++ encTL xs
theorem encTL_cons (x : Ex) (xs : List Ex) : encT.encTL (x :: xs) = encT x ++ encT.encTL xs := by rw [encT.encTL]
theorem encTL_take {ks : List Ex} {i : Nat} (h : i < ks.length) : encT.encTL (ks.take (i + 1)) = encT.encTL (ks.take i) ++ encT ks[i] := by
  induction ks generalizing i with
  | nil => simp at h
  | cons x xs ih =>
    cases i with
    | zero => simp [encT.encTL]
    | succ i =>
      simp only [List.take_succ_cons, encTL_cons, List.getElem_cons_succ, List.append_assoc]
      rw [ih (by simpa using h)]
theorem encTL_le {ks : List Ex} {i : Nat} (h : i < ks.length) : (encT.encTL (ks.take i)).length + (encT ks[i]).length ≤ (encT.encTL ks).length := by
  have e : ks = ks.take (i + 1) ++ ks.drop (i + 1) := (List.take_append_drop _ _).symm
  have h2 : (encT.encTL ks).length = (encT.encTL (ks.take (i + 1))).length + (encT.encTL (ks.drop (i + 1))).length := by
    have ha : ∀ (l m : List Ex), encT.encTL (l ++ m) = encT.encTL l ++ encT.encTL m := fun l m => by
      induction l with
      | nil => simp [encT.encTL]
      | cons x xs ih => simp only [List.cons_append, encTL_cons, ih, List.append_assoc]
    conv => lhs; rw [e, ha]
    simp
  rw [encTL_take h] at h2
  simp only [List.length_append] at h2
  omega
structure Bq (W : World) (q : Nat) (cs : Array Value) (t : TypeId) : Prop where
  h : W.heap[q]? = some (.cells cs t (0, 0))
theorem Bq.c {W : World} {q : Nat} {cs : Array Value} {t : TypeId} (h : Bq W q cs t) (j : Nat) (u : Value) (hu : cs[j]? = some u) : W.cell? ⟨q, j, none⟩ = some u := by
  rw [Lib.cell_of_heap h.h]
  exact hu
theorem Bq.f {W : World} {q : Nat} {cs : Array Value} {t : TypeId} (h : Bq W q cs t) (j : Nat) : W.frozen? ⟨q, j, none⟩ = false := Lib.frozen_of_heap h.h j
theorem Bq.l {W : World} {q : Nat} {cs : Array Value} {t : TypeId} (h : Bq W q cs t) : q < W.heap.size := heap_of h.h
theorem Bq.ww {W W' : World} {p q : Nat} {cs : Array Value} {t : TypeId} (h : Bq W q cs t) (k : Ww p W W') (hne : q ≠ p) (ht : t ≠ 5) : Bq W' q cs t := ⟨k.k _ _ h.h hne (fun c f e => by cases e; exact ht rfl)⟩
theorem Bq.on {W W' : World} {q : Nat} {cs : Array Value} {t : TypeId} (h : Bq W q cs t) (k : Q W W') : Bq W' q cs t := ⟨(Q.block k h.l).trans h.h⟩
theorem bq_new (W : World) (cs : Array Value) (t : TypeId) : Bq (W.alloc (.cells cs t)) W.heap.size cs t := ⟨heap_alloc_last W _⟩
set_option maxHeartbeats 2000000 in
theorem wtruth_any (p : Nat) (b : Bool) (L : List UInt8) (w : World) (h : Wr p L w) (hL : L.length ≤ 1000000000) :
    Calls Tryz.prog 56 #[.pointer (some ⟨p, 0, none⟩), .bool b] w fun e W' => e = .returned (.tuple #[]) ∧ Wr p (L ++ vn (if b then 1 else 0)) W' ∧ Ww p w W' := by
  cases b
  · have HN : Hid (Calls Tryz.prog 71 #[.pointer (some ⟨p, 0, none⟩), .int .u64 0] w fun e W' => e = .returned (.tuple #[]) ∧ Wr p (L ++ vn 0) W' ∧ Ww p w W') := hid (wnum_any p 0 L w (by decide) h hL)
    clear h
    go_enter Tryz.func56, Tryz.ntmps56
    go_wp2_with (go_at_call 71; refine HN.out.mono ?_; rintro e9 y9 ⟨rfl, hw9, hq9⟩; have HF := hid (And.intro hw9 hq9); clear hw9 hq9)
    go_end0
    exact ⟨rfl, HF.out⟩
  · have HN : Hid (Calls Tryz.prog 71 #[.pointer (some ⟨p, 0, none⟩), .int .u64 1] w fun e W' => e = .returned (.tuple #[]) ∧ Wr p (L ++ vn 1) W' ∧ Ww p w W') := hid (wnum_any p 1 L w (by decide) h hL)
    clear h
    go_enter Tryz.func56, Tryz.ntmps56
    go_wp2_with (go_at_call 71; refine HN.out.mono ?_; rintro e9 y9 ⟨rfl, hw9, hq9⟩; have HF := hid (And.intro hw9 hq9); clear hw9 hq9)
    go_end0
    exact ⟨rfl, HF.out⟩
set_option maxHeartbeats 2000000 in
theorem held_any (sv : ByteArray) (r c : Int) (x y : Bool) (w : World) : Calls Tryz.prog 111 #[.agg #[.string sv, .int .i64 r, .int .i64 c, .bool x, .bool y]] w fun e W' => e = .returned (.int .i64 (heldN x y)) ∧ Q w W' := by
  cases x <;> cases y
  all_goals
    go_enter Tryz.func111, Tryz.ntmps111
    go_wp2_with fail
    go_ret
    exact ⟨rfl, (Q.refl _).alloc _⟩
structure Rr (w0 : World) (r : Nat) (D : List UInt8) (W : World) : Prop where
  h : ∃ v nd, W.heap[r]? = some (.cells #[v, .int .i64 nd] 63 (0, 0)) ∧ Sl eb 1 w0 v D
theorem Rr.lt {w0 : World} {r : Nat} {D : List UInt8} {W : World} (h : Rr w0 r D W) : r < W.heap.size := by
  obtain ⟨v, nd, hb, _⟩ := h.h
  exact heap_of hb
theorem Rr.on {w0 : World} {r : Nat} {D : List UInt8} {W W' : World} (h : Rr w0 r D W) (q : Q W W') : Rr w0 r D W' := by
  obtain ⟨v, nd, hb, hs⟩ := h.h
  exact ⟨v, nd, (Q.block q (heap_of hb)).trans hb, hs⟩
theorem Rr.put {w0 : World} {r : Nat} {D : List UInt8} {W : World} {v v' : Value} {nd : Int} (hb : W.heap[r]? = some (.cells #[v, .int .i64 nd] 63 (0, 0))) (hs : Sl eb 1 w0 v' D) : Rr w0 r D (W.setCell ⟨r, 0, none⟩ v') ∧ Qx r W (W.setCell ⟨r, 0, none⟩ v') := by
  refine ⟨⟨v', nd, ?_, hs⟩, ⟨rfl, rfl, rfl, by simp, fun i hi hne => heap_setCell_other W _ i v' (fun e => hne (congrArg some e))⟩⟩
  rw [setCell_eq_setRow W r 0 _ _ _ v' hb, setRow_heap W r _ _ _ _ hb]
  rfl
theorem Qx.qq {r : Nat} {w0 W W' : World} (h : Qx r W W') (q : Q w0 W) (hr : w0.heap.size ≤ r) : Q w0 W' :=
  ⟨h.os.trans q.os, h.tape.trans q.tape, h.output.trans q.output, Nat.le_trans q.size h.size, fun i hi => (h.block i (Nat.lt_of_lt_of_le hi q.size) (fun e => by have := Option.some.inj e; omega)).trans (Q.block q hi)⟩
theorem Qx.cq {r q : Nat} {W W' : World} {cs : List Value} (h : Qx r W W') (hq : Cq W q cs) (hne : q ≠ r) : Cq W' q cs := ⟨(h.block q hq.l (fun e => hne (Option.some.inj e))).trans hq.h⟩
theorem nil_stop (w0 : World) : Sl eb 1 w0 (.slice none 0 0) [] := sl_nil w0
theorem run_from (W : World) (ao : Option Addr) (n cap k : Nat) (hk : k ≤ n) (hn : n ≤ cap) (hc : cap ≤ maxLen) : (Instr.sliceAt 25 (.slice ao n cap) (some (.int .i64 k)) none none).run Tryz.prog W = .ok (.slice (if cap = k then ao else ao.map (·.add k)) (n - k) (cap - k)) W := by
  have u25 := Tryz.underlying25
  have h1 : (cap : Int) ≤ 9223372036854775807 := by unfold maxLen at hc; omega
  have h2 : (k : Int) ≤ (n : Int) := by omega
  have h3 : (n : Int) ≤ (cap : Int) := by omega
  have h4 : (k : Int) ≤ (cap : Int) := by omega
  go_simp
theorem run_to (W : World) (ao : Option Addr) (n cap k : Nat) (hk : k ≤ n) (hn : n ≤ cap) (hc : cap ≤ maxLen) : (Instr.sliceAt 25 (.slice ao n cap) none (some (.int .i64 k)) none).run Tryz.prog W = .ok (.slice (if cap = 0 then ao else ao.map (·.add 0)) k cap) W := by
  have u25 := Tryz.underlying25
  have h1 : (cap : Int) ≤ 9223372036854775807 := by unfold maxLen at hc; omega
  have h2 : (k : Int) ≤ (n : Int) := by omega
  have h3 : (n : Int) ≤ (cap : Int) := by omega
  have h4 : (k : Int) ≤ (cap : Int) := by omega
  go_simp
theorem add_lit (g o k : Nat) : (⟨g, o, none⟩ : Addr).add k = ⟨g, o + k, none⟩ := by
  unfold Addr.add
  by_cases h : k = 0
  · subst h; simp
  · simp [h]
theorem cut_from {w0 : World} {ao : Option Addr} {n cap : Nat} {D : List UInt8} (h : Sl eb 1 w0 (.slice ao n cap) D) (k : Nat) (hk : k ≤ D.length) : Sl eb 1 w0 (.slice (if cap = k then ao else ao.map (·.add k)) (n - k) (cap - k)) (D.drop k) := by
  obtain ⟨ao', cap', hv, h1, h2, h⟩ := h
  cases hv
  refine ⟨_, _, by rw [List.length_drop], by rw [List.length_drop]; omega, by omega, fun hl => ?_⟩
  rw [List.length_drop] at hl
  obtain ⟨g, o, rfl, hc⟩ := h (by omega)
  refine ⟨g, o + k, ?_, fun i hi => ?_⟩
  · rw [if_neg (by omega)]
    show some ((⟨g, o, none⟩ : Addr).add k) = _
    rw [add_lit]
  · rw [List.length_drop] at hi
    have := hc (k + i) (by omega)
    rw [List.getElem_drop]
    rw [show o + k + i * 1 = o + (k + i) * 1 by omega]
    exact this
theorem cut_to {w0 : World} {ao : Option Addr} {n cap : Nat} {D : List UInt8} (h : Sl eb 1 w0 (.slice ao n cap) D) (k : Nat) (hk : k ≤ D.length) : Sl eb 1 w0 (.slice (if cap = 0 then ao else ao.map (·.add 0)) k cap) (D.take k) := by
  obtain ⟨ao', cap', hv, h1, h2, h⟩ := h
  cases hv
  refine ⟨_, _, by rw [List.length_take]; congr 1; omega, by rw [List.length_take]; omega, h2, fun hl => ?_⟩
  rw [List.length_take] at hl
  obtain ⟨g, o, rfl, hc⟩ := h (by omega)
  refine ⟨g, o, ?_, fun i hi => ?_⟩
  · rw [if_neg (by omega)]
    show some ((⟨g, o, none⟩ : Addr).add 0) = _
    rw [add_lit]
    rfl
  · rw [List.length_take] at hi
    rw [List.getElem_take]
    exact hc i (by omega)
theorem sl_from {w0 : World} {v : Value} {D : List UInt8} (h : Sl eb 1 w0 v D) (k : Nat) (hk : k ≤ D.length) : ∃ a c, Hid (∀ W, (Instr.sliceAt 25 v (some (.int .i64 k)) none none).run Tryz.prog W = .ok (.slice a (D.length - k) c) W) ∧ Sl eb 1 w0 (.slice a (D.length - k) c) (D.drop k) := by
  obtain ⟨ao, cap, rfl, h1, h2⟩ := h.len
  exact ⟨_, _, hid (fun W => run_from W ao D.length cap k hk h1 h2), cut_from h k hk⟩
theorem sl_to {w0 : World} {v : Value} {D : List UInt8} (h : Sl eb 1 w0 v D) (k : Nat) (hk : k ≤ D.length) : ∃ a c, Hid (∀ W, (Instr.sliceAt 25 v none (some (.int .i64 k)) none).run Tryz.prog W = .ok (.slice a k c) W) ∧ Sl eb 1 w0 (.slice a k c) (D.take k) := by
  obtain ⟨ao, cap, rfl, h1, h2⟩ := h.len
  exact ⟨_, _, hid (fun W => run_to W ao D.length cap k hk h1 h2), cut_to h k hk⟩
theorem or0 (c : Nat) (hc : c < 128 := by omega) : bits .or .u64 0 (c : Int) = (c : Int) := by
  unfold bits
  simp [IntKind.bits, IntKind.signed]
  refine (congrArg (fun x : BitVec 64 => IntKind.u64.wrap (x.toNat : Int)) (show (0#64 ||| BitVec.ofNat 64 c) = BitVec.ofNat 64 c from BitVec.zero_or)).trans ?_
  simp [IntKind.wrap, IntKind.bits, IntKind.signed]
  omega
set_option maxHeartbeats 2000000 in
theorem rstop_any (w0 : World) (r : Nat) (D : List UInt8) (w : World) (h : Rr w0 r D w) : Calls Tryz.prog 78 #[.pointer (some ⟨r, 0, none⟩)] w fun e W' => e = .returned (.tuple #[]) ∧ Rr w0 r [] W' ∧ Qx r w W' := by
  obtain ⟨v, nd, hb, hs⟩ := h.h
  have HF := hid (Rr.put hb (nil_stop w0))
  have f0 : w.frozen? ⟨r, 0, none⟩ = false := Lib.frozen_of_heap hb 0
  have c0 : w.cell? ⟨r, 0, none⟩ = some v := by rw [Lib.cell_of_heap hb]; rfl
  clear h hb hs
  go_enter Tryz.func78, Tryz.ntmps78
  go_wp2_with fail
  go_end0
  exact ⟨rfl, HF.out.1, HF.out.2⟩
set_option maxHeartbeats 2000000 in
theorem rnum0 (w0 : World) (r : Nat) (w : World) (h : Rr w0 r [] w) : Calls Tryz.prog 77 #[.pointer (some ⟨r, 0, none⟩)] w fun e W' => e = .returned (.int .u64 0) ∧ Rr w0 r [] W' ∧ Qx r w W' := by
  obtain ⟨v, nd, hb, hs⟩ := h.h
  have hlt : r < w.heap.size := heap_of hb
  have HR := hid h
  obtain ⟨ao, cap, rfl, h1, h2⟩ := hs.len
  obtain ⟨a1, c1, hr1, _⟩ := sl_to hs 0 (Nat.zero_le _)
  simp only [List.length_nil] at hb hr1
  have hR1 : ∀ W, (Instr.sliceAt 25 (.slice ao 0 cap) none (some (.int .i64 0)) none).run Tryz.prog W = .ok (.slice a1 0 c1) W := hr1.out
  have c0 : w.cell? ⟨r, 0, none⟩ = some (.slice ao 0 cap) := by rw [Lib.cell_of_heap hb]; rfl
  clear h hb hs hr1 h1 h2
  go_enter Tryz.func77, Tryz.ntmps77
  go_wp2_with fail
  go_quiet (fail)
  rename_i nq
  have HQ1 : Hid (Q w (w.drewN nq)) := hid ((Q.refl w).drewN nq)
  have HR1 := hid (HR.out.on HQ1.out)
  clear c0
  generalize w.drewN nq = w1 at HQ1 HR1 ⊢
  go_wp2_with fail
  go_loopw [2, 3, 18] (fun o i s W => o = .int .u64 0 ∧ i = .int .u64 0 ∧ s = .int .i64 0 ∧ W = w1) (fun _ _ _ _ => 0)
  case atStart => exact ⟨rfl, rfl, rfl, rfl⟩
  case round =>
    obtain ⟨rfl, rfl, rfl, rfl⟩ := hrel
    go_wp2_with (go_at_call 78; refine (rstop_any w0 r [] _ HR1.out).mono ?_; rintro e9 y9 ⟨rfl, hw9, hq9⟩; have HF := hid (And.intro hw9 ((Qx.of HQ1.out).trans hq9)); clear hw9 hq9)
    go_ret
    exact ⟨rfl, HF.out⟩
set_option maxHeartbeats 2000000 in
theorem rnum1 (w0 : World) (r : Nat) (b : UInt8) (D : List UInt8) (w : World) (hq : Q w0 w) (hlb : b.toNat < 128) (h : Rr w0 r (b :: D) w) : Calls Tryz.prog 77 #[.pointer (some ⟨r, 0, none⟩)] w fun e W' => e = .returned (.int .u64 b.toNat) ∧ Rr w0 r D W' ∧ Qx r w W' := by
  obtain ⟨v, nd, hb, hs⟩ := h.h
  have hlt : r < w.heap.size := heap_of hb
  have c0 : w.cell? ⟨r, 0, none⟩ = some v := by rw [Lib.cell_of_heap hb]; rfl
  have f0 : w.frozen? ⟨r, 0, none⟩ = false := Lib.frozen_of_heap hb 0
  have HB := hid hb
  obtain ⟨g, o, cap, rfl, h1, h2, ha⟩ := hs.at (i := 0) (by simp)
  obtain ⟨a1, c1, hr1, hs1⟩ := sl_from hs 1 (by simp)
  have a0 : w.cell? ⟨g, o, none⟩ = some (.int .u8 b.toNat) := by
    have := (ha.on hq) 0 (.int .u8 b.toNat) rfl
    simpa using this
  have HS := hid hs
  have HS1 := hid hs1
  clear h hb hs hs1 ha
  generalize hn : (b :: D).length = n at h1 hr1 c0 HB HS1
  have hn1 : 1 ≤ n := by simp at hn; omega
  generalize n - 1 = n1 at hr1 HS1
  clear hn
  obtain ⟨m, hm⟩ : ∃ m : Nat, m = min n 10 := ⟨_, rfl⟩
  have HT : Hid (∀ W, (Instr.sliceAt 25 (.slice (some ⟨g, o, none⟩) n cap) none (some (.int .i64 m)) none).run Tryz.prog W = .ok (.slice (some ⟨g, o, none⟩) m cap) W) := hid (fun W => by
    rw [run_to W _ n cap m (by omega) h1 h2, if_neg (by omega)]
    show Result.ok (Value.slice (some ((⟨g, o, none⟩ : Addr).add 0)) m cap) W = _
    rw [add_lit]
    rfl)
  have hR1 : ∀ W, (Instr.sliceAt 25 (.slice (some ⟨g, o, none⟩) n cap) (some (.int .i64 1)) none none).run Tryz.prog W = .ok (.slice a1 n1 c1) W := hr1.out
  have hT := HT.out
  have hm0 : 1 ≤ m := by omega
  have hm1 : min (n : Int) 10 = (m : Int) := by omega
  clear hr1 HT hm
  generalize b.toNat = c at hlb a0 ⊢
  have ho : bits .or .u64 0 (c : Int) = (c : Int) := or0 c
  have e1 : (c : Int) % 128 = (c : Int) := by omega
  go_enter Tryz.func77, Tryz.ntmps77
  go_wp2_with fail
  go_quiet (fail)
  rename_i nq
  have hlg : g < w.heap.size := World.block_lt_of_cell? w ⟨g, o, none⟩ a0
  have HQ1 : Hid (Q w (w.drewN nq)) := hid ((Q.refl w).drewN nq)
  have b0 : (w.drewN nq).cell? ⟨r, 0, none⟩ = some (.slice (some ⟨g, o, none⟩) n cap) := (HQ1.out.cell hlt).trans c0
  have b1 : (w.drewN nq).cell? ⟨g, o, none⟩ = some (.int .u8 c) := (HQ1.out.cell hlg).trans a0
  have HB1 : Hid ((w.drewN nq).heap[r]? = some (.cells #[.slice (some ⟨g, o, none⟩) n cap, .int .i64 nd] 63 (0, 0))) := hid ((Q.block HQ1.out hlt).trans HB.out)
  clear c0 a0 f0
  generalize w.drewN nq = w1 at HQ1 b0 b1 HB1 ⊢
  have f1 : w1.frozen? ⟨r, 0, none⟩ = false := Lib.frozen_of_heap HB1.out 0
  have HF := hid (Rr.put HB1.out HS1.out)
  go_wp2_with fail
  go_loopw [2, 3, 18] (fun o i s W => o = .int .u64 0 ∧ i = .int .u64 0 ∧ s = .int .i64 0 ∧ W = w1) (fun _ _ _ _ => 0)
  case atStart => exact ⟨rfl, rfl, rfl, rfl⟩
  case round =>
    obtain ⟨rfl, rfl, rfl, rfl⟩ := hrel
    go_wp2_with fail
    go_ret
    exact ⟨rfl, HF.out.1, (Qx.of HQ1.out).trans HF.out.2⟩
set_option maxHeartbeats 2000000 in
theorem rcount0 (w0 : World) (r m : Nat) (w : World) (hm : m < 9223372036854775808) (h : Rr w0 r [] w) : Calls Tryz.prog 46 #[.pointer (some ⟨r, 0, none⟩), .int .i64 m] w fun e W' => e = .returned (.int .i64 0) ∧ Rr w0 r [] W' ∧ Qx r w W' := by
  have HN := hid (rnum0 w0 r w h)
  have eW : IntKind.u64.wrap (m : Int) = (m : Int) := by simp [IntKind.wrap, IntKind.bits, IntKind.signed]; omega
  have hn : ¬ (m : Int) < 0 := by omega
  clear h
  go_enter Tryz.func46, Tryz.ntmps46
  go_wp2_with (go_at_call 77; refine HN.out.mono ?_; rintro e9 y9 ⟨rfl, hw9, hq9⟩; have HF := hid (And.intro hw9 hq9); clear hw9 hq9)
  go_ret
  exact ⟨rfl, HF.out⟩
set_option maxHeartbeats 2000000 in
theorem rcount1 (w0 : World) (r m : Nat) (b : UInt8) (D : List UInt8) (w : World) (hq : Q w0 w) (hlb : b.toNat < 128) (hbm : b.toNat ≤ m) (hm : m < 9223372036854775808) (h : Rr w0 r (b :: D) w) : Calls Tryz.prog 46 #[.pointer (some ⟨r, 0, none⟩), .int .i64 m] w fun e W' => e = .returned (.int .i64 b.toNat) ∧ Rr w0 r D W' ∧ Qx r w W' := by
  have HN := hid (rnum1 w0 r b D w hq hlb h)
  clear h
  generalize b.toNat = c at hlb hbm HN ⊢
  have eW : IntKind.u64.wrap (m : Int) = (m : Int) := by simp [IntKind.wrap, IntKind.bits, IntKind.signed]; omega
  have eC : IntKind.i64.wrap (c : Int) = (c : Int) := by simp [IntKind.wrap, IntKind.bits, IntKind.signed]; omega
  have hn : ¬ (m : Int) < (c : Int) := by omega
  go_enter Tryz.func46, Tryz.ntmps46
  go_wp2_with (go_at_call 77; refine HN.out.mono ?_; rintro e9 y9 ⟨rfl, hw9, hq9⟩; have HF := hid (And.intro hw9 hq9); clear hw9 hq9)
  go_ret
  exact ⟨rfl, HF.out⟩
structure Rq (w0 : World) (r : Nat) (D : List UInt8) (nd : Int) (W : World) : Prop where
  h : ∃ v, W.heap[r]? = some (.cells #[v, .int .i64 nd] 63 (0, 0)) ∧ Sl eb 1 w0 v D
theorem Rq.lt {w0 : World} {r : Nat} {D : List UInt8} {nd : Int} {W : World} (h : Rq w0 r D nd W) : r < W.heap.size := by
  obtain ⟨v, hb, _⟩ := h.h
  exact heap_of hb
theorem Rq.on {w0 : World} {r : Nat} {D : List UInt8} {nd : Int} {W W' : World} (h : Rq w0 r D nd W) (q : Q W W') : Rq w0 r D nd W' := by
  obtain ⟨v, hb, hs⟩ := h.h
  exact ⟨v, (Q.block q (heap_of hb)).trans hb, hs⟩
theorem Rq.put {w0 : World} {r : Nat} {D : List UInt8} {W : World} {v v' : Value} {nd : Int} (hb : W.heap[r]? = some (.cells #[v, .int .i64 nd] 63 (0, 0))) (hs : Sl eb 1 w0 v' D) : Rq w0 r D nd (W.setCell ⟨r, 0, none⟩ v') ∧ Qx r W (W.setCell ⟨r, 0, none⟩ v') := by
  refine ⟨⟨v', ?_, hs⟩, ⟨rfl, rfl, rfl, by simp, fun i hi hne => heap_setCell_other W _ i v' (fun e => hne (congrArg some e))⟩⟩
  rw [setCell_eq_setRow W r 0 _ _ _ v' hb, setRow_heap W r _ _ _ _ hb]
  rfl
theorem Rq.nod {w0 : World} {r : Nat} {D : List UInt8} {W : World} {nd : Int} (h : Rq w0 r D nd W) (nd' : Int) : Rq w0 r D nd' (W.setCell ⟨r, 1, none⟩ (.int .i64 nd')) ∧ Qx r W (W.setCell ⟨r, 1, none⟩ (.int .i64 nd')) := by
  obtain ⟨v, hb, hs⟩ := h.h
  refine ⟨⟨v, ?_, hs⟩, ⟨rfl, rfl, rfl, by simp, fun i hi hne => heap_setCell_other W _ i _ (fun e => hne (congrArg some e))⟩⟩
  rw [setCell_eq_setRow W r 1 _ _ _ (.int .i64 nd') hb, setRow_heap W r _ _ _ _ hb]
  rfl
theorem Rq.node {w0 : World} {r : Nat} {D : List UInt8} {nd : Int} {W : World} (h : Rq w0 r D nd W) : W.cell? ⟨r, 1, none⟩ = some (.int .i64 nd) ∧ W.frozen? ⟨r, 1, none⟩ = false := by
  obtain ⟨v, hb, _⟩ := h.h
  exact ⟨by rw [Lib.cell_of_heap hb]; rfl, Lib.frozen_of_heap hb 1⟩
theorem vnF_shape : ∀ (k m : Nat), m < 128 ^ k → 0 < k → ∃ l, 1 ≤ l ∧ l ≤ k ∧ (vnF k m).length = l ∧ m < 128 ^ l ∧ ∀ i (h : i < (vnF k m).length), ((vnF k m)[i]).toNat % 128 = m / 128 ^ i % 128 ∧ ((vnF k m)[i].toNat < 128 ↔ i + 1 = l)
  | 0, _, _, h => absurd h (by omega)
  | k + 1, m, hm, _ => by
    by_cases h1 : m < 128
    · rw [vnF_lt h1]
      refine ⟨1, by omega, by omega, rfl, by omega, fun i h => ?_⟩
      simp only [List.length_singleton] at h
      obtain rfl : i = 0 := by omega
      have : (UInt8.ofNat m).toNat = m := by simp; omega
      simp only [List.getElem_cons_zero, this, Nat.pow_zero, Nat.div_one]
      exact ⟨trivial, fun _ => trivial, fun _ => h1⟩
    · have hk : 0 < k := by
        rcases Nat.eq_zero_or_pos k with rfl | h
        · simp at hm; omega
        · exact h
      obtain ⟨l, l1, l2, l3, l4, l5⟩ := vnF_shape k (m / 128) (by rw [Nat.pow_succ] at hm; exact Nat.div_lt_of_lt_mul (by omega)) hk
      rw [vnF_ge h1]
      refine ⟨l + 1, by omega, by omega, by simp [l3], by rw [Nat.pow_succ]; omega, fun i h => ?_⟩
      cases i with
      | zero =>
        have : (UInt8.ofNat (m % 128 + 128)).toNat = m % 128 + 128 := by simp; omega
        simp only [List.getElem_cons_zero, this, Nat.pow_zero, Nat.div_one]
        omega
      | succ i =>
        simp only [List.length_cons] at h
        obtain ⟨e1, e2⟩ := l5 i (by omega)
        simp only [List.getElem_cons_succ]
        rw [e1, e2, Nat.pow_succ, Nat.mul_comm (128 ^ i), Nat.div_div_eq_div_mul]
        omega
theorem vn_shape {m : Nat} (hm : m < 18446744073709551616) : ∃ l, 1 ≤ l ∧ l ≤ 10 ∧ (vn m).length = l ∧ m < 128 ^ l ∧ ∀ i (h : i < (vn m).length), ((vn m)[i]).toNat % 128 = m / 128 ^ i % 128 ∧ ((vn m)[i].toNat < 128 ↔ i + 1 = l) :=
  vnF_shape 10 m (by omega) (by omega)
theorem mod_next (m i : Nat) : m % 128 ^ (i + 1) = m % 128 ^ i + m / 128 ^ i % 128 * 128 ^ i := by
  rw [Nat.pow_succ, Nat.mod_mul, Nat.mul_comm (128 ^ i)]
def pmod (m i : Nat) : Nat := m % 128 ^ i
theorem or_next (m i : Nat) (hm : m < 18446744073709551616) : bits .or .u64 ((m % 128 ^ i : Nat) : Int) ((m / 128 ^ i % 128 * 128 ^ i : Nat) : Int) = ((m % 128 ^ (i + 1) : Nat) : Int) := by
  have h1 : m % 128 ^ i < 2 ^ (7 * i) := by
    rw [Nat.pow_mul]
    exact Nat.mod_lt _ (Nat.pow_pos (by omega))
  have h2 : m / 128 ^ i % 128 * 128 ^ i = (m / 128 ^ i % 128) <<< (7 * i) := by
    rw [Nat.shiftLeft_eq, Nat.pow_mul]
  have h3 : m % 128 ^ (i + 1) = m / 128 ^ i % 128 * 128 ^ i ||| m % 128 ^ i := by
    rw [h2, ← Nat.shiftLeft_add_eq_or_of_lt h1, ← h2, mod_next]
    omega
  have h4 : m % 128 ^ (i + 1) < 18446744073709551616 := Nat.lt_of_le_of_lt (Nat.mod_le _ _) hm
  have h5 : m % 128 ^ i < 18446744073709551616 := Nat.lt_of_le_of_lt (Nat.mod_le _ _) hm
  have h6 : m / 128 ^ i % 128 * 128 ^ i < 18446744073709551616 := by have := mod_next m i; omega
  have h7 : (BitVec.ofInt 64 ((m % 128 ^ i : Nat) : Int) ||| BitVec.ofInt 64 ((m / 128 ^ i % 128 * 128 ^ i : Nat) : Int)).toNat = m % 128 ^ (i + 1) := by
    rw [BitVec.toNat_or, BitVec.ofInt_natCast, BitVec.ofInt_natCast, BitVec.toNat_ofNat, BitVec.toNat_ofNat, Nat.mod_eq_of_lt h5, Nat.mod_eq_of_lt h6, h3, Nat.or_comm]
  unfold bits
  show IntKind.u64.wrap ((BitVec.ofInt 64 ((m % 128 ^ i : Nat) : Int) ||| BitVec.ofInt 64 ((m / 128 ^ i % 128 * 128 ^ i : Nat) : Int)).toNat : Int) = _
  rw [h7]
  simp only [IntKind.wrap, IntKind.bits, IntKind.signed, Bool.false_and, Bool.false_eq_true, if_false]
  omega
theorem or_pmod (m i c : Nat) (hm : m < 18446744073709551616) (hc : c % 128 = m / 128 ^ i % 128) : bits .or .u64 (pmod m i : Int) (IntKind.u64.wrap ((c : Int) % 128 * 2 ^ (7 * i))) = (pmod m (i + 1) : Int) := by
  have h6 : m / 128 ^ i % 128 * 128 ^ i < 18446744073709551616 := by
    have := mod_next m i
    have := Nat.lt_of_le_of_lt (Nat.mod_le m (128 ^ (i + 1))) hm
    omega
  have h1 : (c : Int) % 128 * 2 ^ (7 * i) = ((m / 128 ^ i % 128 * 128 ^ i : Nat) : Int) := by
    rw [← hc, Int.natCast_mul, Int.natCast_pow, Int.natCast_emod, Int.pow_mul]
    rfl
  rw [h1]
  have h2 : IntKind.u64.wrap ((m / 128 ^ i % 128 * 128 ^ i : Nat) : Int) = ((m / 128 ^ i % 128 * 128 ^ i : Nat) : Int) := by
    generalize m / 128 ^ i % 128 * 128 ^ i = x at h6 ⊢
    simp only [IntKind.wrap, IntKind.bits, IntKind.signed, Bool.false_and, Bool.false_eq_true, if_false]
    omega
  rw [h2]
  exact or_next m i hm
set_option maxHeartbeats 4000000 in
theorem rnumq (w0 : World) (r m : Nat) (D : List UInt8) (nd : Int) (w : World) (hm : m < 18446744073709551616) (hq : Q w0 w) (h : Rq w0 r (vn m ++ D) nd w) : Calls Tryz.prog 77 #[.pointer (some ⟨r, 0, none⟩)] w fun e W' => e = .returned (.int .u64 m) ∧ Rq w0 r D nd W' ∧ Qx r w W' := by
  obtain ⟨v, hb, hs⟩ := h.h
  obtain ⟨l, l1, l2, l3, l4, l5⟩ := vn_shape hm
  have hlt : r < w.heap.size := heap_of hb
  have c0 : w.cell? ⟨r, 0, none⟩ = some v := by rw [Lib.cell_of_heap hb]; rfl
  have HB := hid hb
  have hlen : (vn m ++ D).length = l + D.length := by rw [List.length_append, l3]
  obtain ⟨g, o, cap, rfl, h1, h2, ha⟩ := hs.at (i := 0) (by omega)
  have HA : Hid (∀ i (hi : i < l) W, Q w0 W → ∃ c : Nat, W.cell? ⟨g, o + i, none⟩ = some (.int .u8 c) ∧ c % 128 = m / 128 ^ i % 128 ∧ (c < 128 ↔ i + 1 = l) ∧ c < 256) := hid (fun i hi W q => by
    obtain ⟨g', o', cap', e, _, _, hc⟩ := hs.at (i := i) (by omega)
    injection e with e1 e2 e3
    injection e1 with e1
    injection e1 with e1 e4
    subst e1 e4
    have hget : (vn m ++ D)[i]'(by omega) = (vn m)[i]'(by omega) := List.getElem_append_left (by omega)
    have h9 := (hc.on q) 0 (.int .u8 ((vn m ++ D)[i]'(by omega)).toNat) rfl
    refine ⟨((vn m)[i]'(by omega)).toNat, ?_, (l5 i (by omega)).1, (l5 i (by omega)).2, UInt8.toNat_lt _⟩
    rw [hget] at h9
    simpa using h9)
  have HS := hid hs
  clear h hb hs ha l5
  generalize hn : (vn m ++ D).length = n at h1 c0 HB HS
  obtain ⟨M, hM⟩ : ∃ M : Nat, M = min n 10 := ⟨_, rfl⟩
  have HT : Hid (∀ W, (Instr.sliceAt 25 (.slice (some ⟨g, o, none⟩) n cap) none (some (.int .i64 M)) none).run Tryz.prog W = .ok (.slice (some ⟨g, o, none⟩) M cap) W) := hid (fun W => by
    rw [run_to W _ n cap M (by omega) h1 h2, if_neg (by omega)]
    show Result.ok (Value.slice (some ((⟨g, o, none⟩ : Addr).add 0)) M cap) W = _
    rw [add_lit]
    rfl)
  have HF : Hid (∀ i, i + 1 = l → ∃ a c, (∀ W, (Instr.sliceAt 25 (.slice (some ⟨g, o, none⟩) n cap) (some (.int .i64 ((i : Int) + 1))) none none).run Tryz.prog W = .ok (.slice a (n - l) c) W) ∧ Sl eb 1 w0 (.slice a (n - l) c) D) := hid (fun i hi => by
    obtain ⟨a, c, hr, hs9⟩ := sl_from HS.out l (by omega)
    rw [hn] at hr hs9
    rw [List.drop_left' l3] at hs9
    refine ⟨a, c, fun W => ?_, hs9⟩
    have := hr.out W
    rw [← hi] at this ⊢
    simpa using this)
  have hT := HT.out
  have hMl : l ≤ M := by omega
  have hm1 : min (n : Int) 10 = (M : Int) := by omega
  clear HT hM HS hlen h1 h2
  go_enter Tryz.func77, Tryz.ntmps77
  go_wp2_with fail
  go_quiet (fail)
  rename_i nq
  have HQ1 : Hid (Q w (w.drewN nq)) := hid ((Q.refl w).drewN nq)
  have HQ0 : Hid (Q w0 (w.drewN nq)) := hid (hq.trans HQ1.out)
  have b0 : (w.drewN nq).cell? ⟨r, 0, none⟩ = some (.slice (some ⟨g, o, none⟩) n cap) := (HQ1.out.cell hlt).trans c0
  have HB1 : Hid ((w.drewN nq).heap[r]? = some (.cells #[.slice (some ⟨g, o, none⟩) n cap, .int .i64 nd] 63 (0, 0))) := hid ((Q.block HQ1.out hlt).trans HB.out)
  clear c0
  generalize w.drewN nq = w1 at HQ1 HQ0 b0 HB1 ⊢
  have f1 : w1.frozen? ⟨r, 0, none⟩ = false := Lib.frozen_of_heap HB1.out 0
  go_wp2_with fail
  go_loopw [2, 3, 18] (fun z u s W => z = .int .u64 0 ∧ ∃ i : Nat, i < l ∧ u = .int .u64 (pmod m i : Int) ∧ s = .int .i64 i ∧ W = w1) (fun _ _ s _ => 10 - (intOf s).toNat)
  case atStart => exact ⟨rfl, 0, by omega, by simp [pmod, Nat.mod_one], rfl, rfl⟩
  case round =>
    obtain ⟨rfl, i, hi, rfl, rfl, rfl⟩ := hrel
    obtain ⟨c, hc, e1, e2, e3⟩ := HA.out i hi _ HQ0.out
    have hiM : (i : Int) < (M : Int) := by omega
    have hor := or_pmod m i c hm e1
    have hiu : ¬ 64 ≤ 7 * (i : Int) := by omega
    by_cases hend : i + 1 = l
    · have hc9 : (c : Int) < 128 := by have := e2.2 hend; omega
      obtain ⟨a1, c1, hR, hs9⟩ := HF.out i hend
      have HP := hid (Rq.put HB1.out hs9)
      have hpm : pmod m (i + 1) = m := by unfold pmod; rw [hend]; exact Nat.mod_eq_of_lt l4
      rw [hpm] at hor
      go_wp2_with fail
      go_ret
      exact ⟨rfl, HP.out.1, (Qx.of HQ1.out).trans HP.out.2⟩
    · have hc9 : ¬ (c : Int) < 128 := by have := mt e2.1 hend; omega
      go_wp2_with fail
      go_roundw
      case rel => exact ⟨by first | rfl | trivial, i + 1, by omega, by first | rfl | trivial, by first | rfl | trivial | go_num, by first | rfl | trivial⟩
      case measure => simp [intOf]; omega
theorem sl_bytes {W : World} {ao : Option Addr} {n cap : Nat} {D : List UInt8} (h : Sl eb 1 W (.slice ao n cap) D) : D.length = n ∧ Lib.BytesIn W ao n (D.map fun b => (b.toNat : Int)) := by
  obtain ⟨ao', cap', hv, h1, h2, h⟩ := h
  cases hv
  refine ⟨rfl, ?_⟩
  rcases Nat.eq_zero_or_pos D.length with h0 | h0
  · rw [h0]
    exact Lib.BytesIn.nil _ _ _
  · obtain ⟨g, o, rfl, hc⟩ := h h0
    exact Lib.BytesIn.of_cells (fun i hi => by
      have := hc i hi 0 (.int .u8 D[i].toNat) rfl
      rw [add_lit]
      simpa [List.getD, hi] using this)
theorem str_nums (D : List UInt8) : strOfNums (D.map fun b => (b.toNat : Int)) = ⟨D.toArray⟩ := by
  unfold strOfNums
  congr 2
  induction D with
  | nil => rfl
  | cons x D ih => simp [ih]
theorem sl_conv {W : World} {ao : Option Addr} {n cap : Nat} {D : List UInt8} (h : Sl eb 1 W (.slice ao n cap) D) : (convert 25 9 (.slice ao n cap)).run Tryz.prog W = .ok (.string ⟨D.toArray⟩) W := by
  obtain ⟨h1, h2⟩ := sl_bytes h
  have := Lib.BytesIn.convert (P := Tryz.prog) h2 (by simpa using h1) cap 25 5 9 Tryz.underlying25 (by kernel_rfl) Tryz.underlying9
  rw [str_nums] at this
  exact this
set_option maxHeartbeats 2000000 in
theorem bytesEqual_any (u v : Value) (D E : List UInt8) (w : World) (hu : Sl eb 1 w u D) (hv : Sl eb 1 w v E) : Calls Tryz.prog 25 #[u, v] w fun e W' => e = .returned (.bool (decide (D = E))) ∧ Q w W' := by
  obtain ⟨a1, c1, rfl, _, _⟩ := hu.len
  obtain ⟨a2, c2, rfl, _, _⟩ := hv.len
  have k1 := sl_conv hu
  have k2 := sl_conv hv
  clear hu hv
  generalize D.length = n1 at k1 ⊢
  generalize E.length = n2 at k2 ⊢
  by_cases hde : D = E
  · subst hde
    rw [decide_eq_true rfl]
    go_enter Tryz.func25, Tryz.ntmps25
    go_wp2_with fail
    go_ret
    exact ⟨ret_bool (by simp), Q.refl _⟩
  · rw [decide_eq_false hde]
    have hne : ((⟨D.toArray⟩ : ByteArray).toList == (⟨E.toArray⟩ : ByteArray).toList) = false := by
      rw [Lib.toList_data, Lib.toList_data]
      simpa using hde
    go_enter Tryz.func25, Tryz.ntmps25
    go_wp2_with fail
    go_ret
    exact ⟨ret_bool (by simpa using hne), Q.refl _⟩
set_option maxHeartbeats 2000000 in
theorem rtext1 (w0 : World) (r : Nat) (b : UInt8) (s D : List UInt8) (w : World) (hq : Q w0 w) (hr0 : w0.heap.size ≤ r) (hlb : b.toNat < 128) (hb : b.toNat = s.length) (h : Rr w0 r (b :: (s ++ D)) w) : Calls Tryz.prog 62 #[.pointer (some ⟨r, 0, none⟩)] w fun e W' => e = .returned (.string ⟨s.toArray⟩) ∧ Rr w0 r D W' ∧ Qx r w W' := by
  have HN := hid (rcount1 w0 r 200 b (s ++ D) w hq hlb (by omega) (by decide) h)
  clear h
  rw [hb] at HN
  go_enter Tryz.func62, Tryz.ntmps62
  go_upto_region 2 with (go_at_call 46; refine HN.out.mono ?_; rintro e9 w1 ⟨rfl, hw9, hq9⟩; have HR := hid hw9; have HX := hid hq9; clear hw9 hq9)
  obtain ⟨v, nd, hbk, hs⟩ := HR.out.h
  have HQ1 : Hid (Q w0 w1) := hid (HX.out.qq hq hr0)
  obtain ⟨ao, cap, rfl, h1, h2⟩ := hs.len
  obtain ⟨a1, c1, hr1, hs1⟩ := sl_to hs s.length (by simp)
  obtain ⟨a2, c2, hr2, hs2⟩ := sl_from hs s.length (by simp)
  have hT := hr1.out
  have hF := hr2.out
  have hC := sl_conv (hs1.on HQ1.out)
  rw [List.take_left] at hC
  rw [List.drop_left] at hs2
  have c0 : w1.cell? ⟨r, 0, none⟩ = some (.slice ao (s ++ D).length cap) := by rw [Lib.cell_of_heap hbk]; rfl
  have f0 : w1.frozen? ⟨r, 0, none⟩ = false := Lib.frozen_of_heap hbk 0
  have HF := hid (Rr.put hbk hs2)
  clear hbk hs hs1 hs2 hr1 hr2 h1 h2
  have hle : ¬ ((s ++ D).length : Int) < (s.length : Int) := by simp; omega
  generalize (s ++ D).length - s.length = n2 at hF HF
  generalize (s ++ D).length = n at c0 hT hF hle
  generalize s.length = m at hT hF hC hle
  go_wp2_with fail
  go_ret
  exact ⟨rfl, HF.out.1, HX.out.trans HF.out.2⟩
def z5 : Array Value := #[.int .i64 0, .int .i64 0, .string ⟨#[]⟩, .bool false, .int .i64 0]
def z13 : Array Value := #[.bool false, .int .i64 0, .int .i64 0, .string ⟨#[]⟩, .bool false, .int .i64 0, .int .i64 0, .int .i64 0, .string ⟨#[]⟩, .bool false, .int .i64 0, .slice none 0 0, .slice none 0 0]
theorem info36 : (Tryz.prog.info? 36).map (·.size) = some 5 := by kernel_rfl
theorem info42 : (Tryz.prog.info? 42).map (·.size) = some 13 := by kernel_rfl
theorem wpl_layt (w : World) {ops : Array Oper} {rest : List Oper} {o : Oper} {a : Act} {Q : Exit → Act → World → Prop} (t : TypeId) (x y : Operand) (ho : o.op = .store t x y) (hgd : o.guard = none) (z old : Array Value)
    (hx : a.eval x = .pointer (some ⟨w.heap.size, 0, none⟩)) (hy : a.eval y = .agg z) (hi : (Tryz.prog.info? t).map (·.size) = some z.size) (hold : old.size = z.size) (h1 : z.all (·.oneCell') = true)
    {W : World} (hW : W = w.alloc (.cells old t)) (h : wpList Tryz.prog ops Q rest (a.put o.dst undef) (w.alloc (.cells z t))) : wpList Tryz.prog ops Q (o :: rest) a W := by
  subst hW
  refine wpList_store_row hgd t x y ho w.heap.size z hx hy t old (heap_alloc_last w _) hi hold h1 ?_
  rw [World.setRow_alloc_new]
  exact h
def zL : List Value := [.int .i64 0, .string ⟨#[]⟩, .int .i64 0, .int .i64 0, .bool false, .int .i64 0, .int .i64 0, .string ⟨#[]⟩, .bool false, .int .i64 0, .int .i64 0, .int .i64 0, .string ⟨#[]⟩, .bool false, .int .i64 0, .slice none 0 0, .slice none 0 0, .int .i64 0, .int .i64 0, .int .i64 0, .slice none 0 0, .int .i64 0, .string ⟨#[]⟩]
structure RS (w0 w : World) (r b0 b1 : Nat) (D : List UInt8) (cs : List Value) (W : World) : Prop where
  rr : Rr w0 r D W
  x : Qx r w W
  c : Cq W b1 cs
  z : Cq W b0 zL
  q : Q w0 w
  n : w0.heap.size ≤ r ∧ b0 ≠ r ∧ b1 ≠ r ∧ b0 ≠ b1 ∧ w.heap.size ≤ b0 ∧ w.heap.size ≤ b1
theorem RS.qq {w0 w : World} {r b0 b1 : Nat} {D : List UInt8} {cs : List Value} {W : World} (h : RS w0 w r b0 b1 D cs W) : Q w0 W := h.x.qq h.q h.n.1
theorem RS.call {w0 w : World} {r b0 b1 : Nat} {D D' : List UInt8} {cs : List Value} {W W' : World} (h : RS w0 w r b0 b1 D cs W) (hr : Rr w0 r D' W') (hq : Qx r W W') : RS w0 w r b0 b1 D' cs W' :=
  ⟨hr, h.x.trans hq, hq.cq h.c h.n.2.2.1, hq.cq h.z h.n.2.1, h.q, h.n⟩
theorem Rr.oth {w0 : World} {r b : Nat} {D : List UInt8} {W : World} (h : Rr w0 r D W) (hb : b ≠ r) (j : Nat) (v : Value) : Rr w0 r D (W.setCell ⟨b, j, none⟩ v) := by
  obtain ⟨u, nd, hk, hs⟩ := h.h
  exact ⟨u, nd, (heap_setCell_other W _ r v (fun e => hb e.symm)).trans hk, hs⟩
theorem RS.put {w0 w : World} {r b0 b1 : Nat} {D : List UInt8} {cs : List Value} {W : World} (h : RS w0 w r b0 b1 D cs W) (j : Nat) (v : Value) : RS w0 w r b0 b1 D (cs.set j v) (W.setCell ⟨b1, j, none⟩ v) :=
  ⟨h.rr.oth h.n.2.2.1 j v, h.x.new h.n.2.2.2.2.2 j v, h.c.put j v, h.z.oth h.n.2.2.2.1 j v, h.q, h.n⟩
theorem rs_new {w0 w : World} {r : Nat} {D : List UInt8} (hq : Q w0 w) (hr0 : w0.heap.size ≤ r) (h : Rr w0 r D w) : RS w0 w r w.heap.size (w.heap.size + 1) D zL ((w.alloc (.cells zL.toArray 54)).alloc (.cells zL.toArray 54)) := by
  have hlt := h.lt
  refine ⟨(h.on ((Q.refl _).alloc _)).on ((Q.refl _).alloc _), ((Qx.refl r w).alloc _).alloc _, ?_, (cq_new w zL).on ((Q.refl _).alloc _), hq, ⟨hr0, by omega, by omega, by omega, by omega, by omega⟩⟩
  have := cq_new (w.alloc (.cells zL.toArray 54)) zL
  simpa using this
theorem RS.fin {w0 w : World} {r b0 b1 : Nat} {D : List UInt8} {cs : List Value} {W : World} (h : RS w0 w r b0 b1 D cs W) : Rr w0 r D (W.setRow b0 cs.toArray) ∧ Qx r w (W.setRow b0 cs.toArray) ∧ (W.setRow b0 cs.toArray).heap[b0]? = some (.cells cs.toArray 54 (0, 0)) := by
  have hx := h.x
  have h4 := h.n.2.2.2.2.1
  refine ⟨?_, ⟨hx.os, hx.tape, hx.output, Nat.le_trans hx.size (by simp [World.setRow]), fun i hi hne => (setRow_other W b0 i _ (by omega)).trans (hx.block i hi hne)⟩, setRow_heap W b0 _ _ _ _ h.z.h⟩
  obtain ⟨u, nd, hk, hs⟩ := h.rr.h
  exact ⟨u, nd, (setRow_other W b0 r _ (fun e => h.n.2.1 e.symm)).trans hk, hs⟩
set_option maxHeartbeats 8000000 in
theorem rop5 (w0 : World) (r : Nat) (bs bm : UInt8) (s m : List UInt8) (D : List UInt8) (w : World) (hq : Q w0 w) (hr0 : w0.heap.size ≤ r) (hbs : bs.toNat < 128) (hs : bs.toNat = s.length) (hbm : bm.toNat < 128) (hm : bm.toNat = m.length) (h : Rr w0 r (5 :: bs :: (s ++ (bm :: (m ++ D)))) w) : Calls Tryz.prog 47 #[.pointer (some ⟨r, 0, none⟩)] w fun e W' => e = .returned (.agg #[.int .i64 5, .string ⟨s.toArray⟩, .int .i64 0, .int .i64 0, .bool false, .int .i64 0, .int .i64 0, .string ⟨#[]⟩, .bool false, .int .i64 0, .int .i64 0, .int .i64 0, .string ⟨#[]⟩, .bool false, .int .i64 0, .slice none 0 0, .slice none 0 0, .int .i64 0, .int .i64 0, .int .i64 0, .slice none 0 0, .int .i64 0, .string ⟨m.toArray⟩]) ∧ Rr w0 r D W' ∧ Qx r w W' := by
  have HS := hid (rs_new hq hr0 h)
  clear h
  go_enter Tryz.func47, Tryz.ntmps47
  go_upto_region 2 with fail
  rw [show zL.toArray = #[.int .i64 0, .string ⟨#[]⟩, .int .i64 0, .int .i64 0, .bool false, .int .i64 0, .int .i64 0, .string ⟨#[]⟩, .bool false, .int .i64 0, .int .i64 0, .int .i64 0, .string ⟨#[]⟩, .bool false, .int .i64 0, .slice none 0 0, .slice none 0 0, .int .i64 0, .int .i64 0, .int .i64 0, .slice none 0 0, .int .i64 0, .string ⟨#[]⟩] from rfl] at HS
  generalize (w.alloc (.cells #[.int .i64 0, .string ⟨#[]⟩, .int .i64 0, .int .i64 0, .bool false, .int .i64 0, .int .i64 0, .string ⟨#[]⟩, .bool false, .int .i64 0, .int .i64 0, .int .i64 0, .string ⟨#[]⟩, .bool false, .int .i64 0, .slice none 0 0, .slice none 0 0, .int .i64 0, .int .i64 0, .int .i64 0, .slice none 0 0, .int .i64 0, .string ⟨#[]⟩] 54)).alloc (.cells #[.int .i64 0, .string ⟨#[]⟩, .int .i64 0, .int .i64 0, .bool false, .int .i64 0, .int .i64 0, .string ⟨#[]⟩, .bool false, .int .i64 0, .int .i64 0, .int .i64 0, .string ⟨#[]⟩, .bool false, .int .i64 0, .slice none 0 0, .slice none 0 0, .int .i64 0, .int .i64 0, .int .i64 0, .slice none 0 0, .int .i64 0, .string ⟨#[]⟩] 54) = w1 at HS ⊢
  generalize w.heap.size + 1 = b1 at HS ⊢
  generalize w.heap.size = b0 at HS ⊢
  have HN1 : Hid (Calls Tryz.prog 46 #[.pointer (some ⟨r, 0, none⟩), .int .i64 7] w1 fun e W' => e = .returned (.int .i64 5) ∧ Rr w0 r (bs :: (s ++ (bm :: (m ++ D)))) W' ∧ Qx r w1 W') := hid (rcount1 w0 r 7 5 _ w1 HS.out.qq (by decide) (by decide) (by decide) HS.out.rr)
  go_upto_region 3 with (go_at_call 46; refine (HN1.out).mono ?_; rintro e9 y2 ⟨rfl, hw9, hq9⟩; have HS9 := hid (HS.out.call hw9 hq9); have d0 := HS9.out.c.c 0 _ rfl; have f0 := HS9.out.c.f 0; clear hw9 hq9)
  replace HS := hid (HS9.out.put 0 (.int .i64 5))
  clear HS9 d0 f0
  generalize y2.setCell ⟨b1, 0, none⟩ (.int .i64 5) = w2 at HS ⊢
  clear HN1
  go_upto_region 4 with (go_at_call 62; refine (rtext1 w0 r bs s _ _ HS.out.qq HS.out.n.1 hbs hs HS.out.rr).mono ?_; rintro e9 y3 ⟨rfl, hw9, hq9⟩; have HS9 := hid (HS.out.call hw9 hq9); have d1 := HS9.out.c.c 1 _ rfl; have f1 := HS9.out.c.f 1; clear hw9 hq9)
  replace HS := hid (HS9.out.put 1 (.string ⟨s.toArray⟩))
  clear HS9 d1 f1
  generalize y3.setCell ⟨b1, 1, none⟩ (.string ⟨s.toArray⟩) = w3 at HS ⊢
  have e0 : w3.cell? ⟨b1, 0, none⟩ = some (.int .i64 5) := HS.out.c.c 0 _ rfl
  go_upto_region 19 with fail
  clear e0
  go_upto_region 20 with (go_at_call 62; refine (rtext1 w0 r bm m _ _ HS.out.qq HS.out.n.1 hbm hm HS.out.rr).mono ?_; rintro e9 y4 ⟨rfl, hw9, hq9⟩; have HS9 := hid (HS.out.call hw9 hq9); have d22 := HS9.out.c.c 22 _ rfl; have f22 := HS9.out.c.f 22; clear hw9 hq9)
  replace HS := hid (HS9.out.put 22 (.string ⟨m.toArray⟩))
  clear HS9 d22 f22
  generalize y4.setCell ⟨b1, 22, none⟩ (.string ⟨m.toArray⟩) = w4 at HS ⊢
  rw [show ((zL.set 0 (.int .i64 5)).set 1 (.string ⟨s.toArray⟩)).set 22 (.string ⟨m.toArray⟩) = [.int .i64 5, .string ⟨s.toArray⟩, .int .i64 0, .int .i64 0, .bool false, .int .i64 0, .int .i64 0, .string ⟨#[]⟩, .bool false, .int .i64 0, .int .i64 0, .int .i64 0, .string ⟨#[]⟩, .bool false, .int .i64 0, .slice none 0 0, .slice none 0 0, .int .i64 0, .int .i64 0, .int .i64 0, .slice none 0 0, .int .i64 0, .string ⟨m.toArray⟩] from rfl] at HS
  go_wp2_with (first
    | (with_reducible refine wpl_load (by with_unfolding_all rfl) _ (by with_unfolding_all rfl) b1 (by with_unfolding_all rfl) [.int .i64 5, .string ⟨s.toArray⟩, .int .i64 0, .int .i64 0, .bool false, .int .i64 0, .int .i64 0, .string ⟨#[]⟩, .bool false, .int .i64 0, .int .i64 0, .int .i64 0, .string ⟨#[]⟩, .bool false, .int .i64 0, .slice none 0 0, .slice none 0 0, .int .i64 0, .int .i64 0, .int .i64 0, .slice none 0 0, .int .i64 0, .string ⟨m.toArray⟩] (by with_unfolding_all exact HS.out.c) (by with_unfolding_all rfl) ?_)
    | (with_reducible refine wpList_store_row (by with_unfolding_all rfl) 54 _ _ (by with_unfolding_all rfl) b0 #[.int .i64 5, .string ⟨s.toArray⟩, .int .i64 0, .int .i64 0, .bool false, .int .i64 0, .int .i64 0, .string ⟨#[]⟩, .bool false, .int .i64 0, .int .i64 0, .int .i64 0, .string ⟨#[]⟩, .bool false, .int .i64 0, .slice none 0 0, .slice none 0 0, .int .i64 0, .int .i64 0, .int .i64 0, .slice none 0 0, .int .i64 0, .string ⟨m.toArray⟩] (by with_unfolding_all rfl) (by with_unfolding_all rfl) 54 zL.toArray HS.out.z.h (by with_unfolding_all exact info35) (by with_unfolding_all rfl) (by kernel_rfl) ?_))
  refine bodyPost_ret (v := .agg #[.int .i64 5, .string ⟨s.toArray⟩, .int .i64 0, .int .i64 0, .bool false, .int .i64 0, .int .i64 0, .string ⟨#[]⟩, .bool false, .int .i64 0, .int .i64 0, .int .i64 0, .string ⟨#[]⟩, .bool false, .int .i64 0, .slice none 0 0, .slice none 0 0, .int .i64 0, .int .i64 0, .int .i64 0, .slice none 0 0, .int .i64 0, .string ⟨m.toArray⟩]) (results_cell_row Tryz.results47 _ _ b0 54 #[.int .i64 5, .string ⟨s.toArray⟩, .int .i64 0, .int .i64 0, .bool false, .int .i64 0, .int .i64 0, .string ⟨#[]⟩, .bool false, .int .i64 0, .int .i64 0, .int .i64 0, .string ⟨#[]⟩, .bool false, .int .i64 0, .slice none 0 0, .slice none 0 0, .int .i64 0, .int .i64 0, .int .i64 0, .slice none 0 0, .int .i64 0, .string ⟨m.toArray⟩] (0, 0) _ (by rfl) HS.out.fin.2.2 Tryz.underlying54 rfl (by exact info35)) rfl ?_
  exact ⟨rfl, HS.out.fin.1, HS.out.fin.2.1⟩
theorem oe_order {k sh row col ln fm nm rb cb : Bool} : (k && (sh && (row && (col && (ln && (fm && (nm && (rb && cb)))))))) = (k && (sh && (row && (col && (cb && (ln && (rb && (fm && nm)))))))) := by
  cases k <;> cases sh <;> cases row <;> cases col <;> cases ln <;> cases fm <;> cases nm <;> cases rb <;> cases cb <;> rfl
theorem ln_split (a a' b b' c c' : Int) : decide (a = a' ∧ b = b' ∧ c = c') = (decide (a = a') && (decide (b = b') && decide (c = c'))) := by
  by_cases h1 : a = a' <;> by_cases h2 : b = b' <;> by_cases h3 : c = c' <;> simp [h1, h2, h3]
theorem str_t {s t : ByteArray} (h : s.data.toList = t.data.toList) : (s.toList == t.toList) = true := by rw [Lib.toList_data, Lib.toList_data]; simpa using h
theorem str_f {s t : ByteArray} (h : ¬ s.data.toList = t.data.toList) : (s.toList == t.toList) = false := by rw [Lib.toList_data, Lib.toList_data]; simpa using h
theorem rb_of {P : Ending → World → Prop} {b c : Bool} {w : World} {f : FuncId} {args : Array Value} (h : Calls Tryz.prog f args w fun e W' => e = .returned (.bool c) ∧ Q w W') (e : b = c) : Calls Tryz.prog f args w fun e W' => e = .returned (.bool b) ∧ Q w W' := by subst e; exact h
set_option maxHeartbeats 4000000 in
theorem eqop_any (x y : Rv) (X Y : Ex) (L M : List R.Rg.Rc) (b : Bool) (w : World) (hx : RO w x X L) (hy : RO w y Y M) (hL : L.length ≤ 1000000000000) (hM : M.length ≤ 1000000000000) (hb : b = true ↔ oE x y X Y L M) : Calls Tryz.prog 19 #[.agg x.L.toArray, .agg y.L.toArray] w fun e W' => e = .returned (.bool b) ∧ Q w W' := by
  obtain ⟨cb, hcb, hbb⟩ := oe_split x y X Y L M b hb
  clear hb
  have hxt := hx.t
  have hxr := hx.r
  have hyt := hy.t
  have hyr := hy.r
  clear hx hy
  obtain ⟨k, sh, row, col, f, vk, vn, vt, vb, ve, tk, tm, tt, tb, te, a1, l1, c1, a2, l2, c2, lk, la, lt, ra, rl, rc, fm, nm⟩ := x
  obtain ⟨k', sh', row', col', f', vk', vn', vt', vb', ve', tk', tm', tt', tb', te', a1', l1', c1', a2', l2', c2', lk', la', lt', ra', rl', rc', fm', nm'⟩ := y
  unfold Rv.L
  unfold vE at hcb
  dsimp only at *
  have HC := hid (fun W' (q : Q w W') => eqcell_any f vk vn vt vb ve tk tm tt tb te a1 l1 c1 a2 l2 c2 f' vk' vn' vt' vb' ve' tk' tm' tt' tb' te' a1' l1' c1' a2' l2' c2' X Y cb W' (Rd.on q _ _ hxt) (Rd.on q _ _ hyt) hcb)
  have HR := hid (fun W' (q : Q w W') => R.eqList_any _ _ L M W' (hxr.on q) (hyr.on q) hL hM)
  rw [oe_order, ln_split, Bool.and_assoc, Bool.and_assoc] at hbb
  generalize R.eqRc L M = rb at HR hbb
  clear hxt hxr hyt hyr hcb hL hM
  by_cases h_k : k = k'
  · rw [decide_eq_true h_k, Bool.true_and] at hbb
    subst h_k
    by_cases h_sh : sh.data.toList = sh'.data.toList
    · rw [decide_eq_true h_sh, Bool.true_and] at hbb
      by_cases h_row : row = row'
      · rw [decide_eq_true h_row, Bool.true_and] at hbb
        subst h_row
        by_cases h_col : col = col'
        · rw [decide_eq_true h_col, Bool.true_and] at hbb
          subst h_col
          cases cb with
          | true =>
            rw [Bool.true_and] at hbb
            by_cases h_lk : lk = lk'
            · rw [decide_eq_true h_lk, Bool.true_and] at hbb
              subst h_lk
              by_cases h_la : la = la'
              · rw [decide_eq_true h_la, Bool.true_and] at hbb
                subst h_la
                by_cases h_lt : lt = lt'
                · rw [decide_eq_true h_lt, Bool.true_and] at hbb
                  subst h_lt
                  cases rb with
                  | true =>
                    rw [Bool.true_and] at hbb
                    by_cases h_fm : fm = fm'
                    · rw [decide_eq_true h_fm, Bool.true_and] at hbb
                      subst h_fm
                      by_cases h_nm : nm.data.toList = nm'.data.toList
                      · rw [decide_eq_true h_nm] at hbb
                        exact rb_of (P := fun _ _ => True) (eo_11 _ _ _ _ _ _ _ _ _ _ _ _ _ _ _ _ _ _ _ _ _ _ _ _ _ _ _ _ _ _ _ _ _ _ _ _ _ _ _ _ _ _ _ w (str_t h_sh) (str_t h_nm) HC HR) (by rw [hbb])
                      · rw [decide_eq_false h_nm] at hbb
                        exact rb_of (P := fun _ _ => True) (eo_10 _ _ _ _ _ _ _ _ _ _ _ _ _ _ _ _ _ _ _ _ _ _ _ _ _ _ _ _ _ _ _ _ _ _ _ _ _ _ _ _ _ _ _ w (str_t h_sh) (str_f h_nm) HC HR) (by rw [hbb])
                    · rw [decide_eq_false h_fm] at hbb
                      exact rb_of (P := fun _ _ => True) (eo_9 _ _ _ _ _ _ _ _ _ _ _ _ _ _ _ _ _ _ _ _ _ _ _ _ _ _ _ _ _ _ _ _ _ _ _ _ _ _ _ _ _ _ _ _ w (str_t h_sh) (beq_eq_false_iff_ne.2 h_fm) HC HR) (by rw [hbb]; rfl)
                  | false =>
                    exact rb_of (P := fun _ _ => True) (eo_8 _ _ _ _ _ _ _ _ _ _ _ _ _ _ _ _ _ _ _ _ _ _ _ _ _ _ _ _ _ _ _ _ _ _ _ _ _ _ _ _ _ _ _ _ w (str_t h_sh) HC HR) (by rw [hbb]; rfl)
                · rw [decide_eq_false h_lt] at hbb
                  exact rb_of (P := fun _ _ => True) (eo_7 _ _ _ _ _ _ _ _ _ _ _ _ _ _ _ _ _ _ _ _ _ _ _ _ _ _ _ _ _ _ _ _ _ _ _ _ _ _ _ _ _ _ _ _ _ w (str_t h_sh) (beq_eq_false_iff_ne.2 h_lt) HC) (by rw [hbb]; rfl)
              · rw [decide_eq_false h_la] at hbb
                exact rb_of (P := fun _ _ => True) (eo_6 _ _ _ _ _ _ _ _ _ _ _ _ _ _ _ _ _ _ _ _ _ _ _ _ _ _ _ _ _ _ _ _ _ _ _ _ _ _ _ _ _ _ _ _ _ _ w (str_t h_sh) (beq_eq_false_iff_ne.2 h_la) HC) (by rw [hbb]; rfl)
            · rw [decide_eq_false h_lk] at hbb
              exact rb_of (P := fun _ _ => True) (eo_5 _ _ _ _ _ _ _ _ _ _ _ _ _ _ _ _ _ _ _ _ _ _ _ _ _ _ _ _ _ _ _ _ _ _ _ _ _ _ _ _ _ _ _ _ _ _ _ w (str_t h_sh) (beq_eq_false_iff_ne.2 h_lk) HC) (by rw [hbb]; rfl)
          | false =>
            exact rb_of (P := fun _ _ => True) (eo_4 _ _ _ _ _ _ _ _ _ _ _ _ _ _ _ _ _ _ _ _ _ _ _ _ _ _ _ _ _ _ _ _ _ _ _ _ _ _ _ _ _ _ _ _ _ _ _ w (str_t h_sh) HC) (by rw [hbb]; rfl)
        · rw [decide_eq_false h_col] at hbb
          exact rb_of (P := fun _ _ => True) (eo_3 _ _ _ _ _ _ _ _ _ _ _ _ _ _ _ _ _ _ _ _ _ _ _ _ _ _ _ _ _ _ _ _ _ _ _ _ _ _ _ _ _ _ _ _ _ _ _ _ w (str_t h_sh) (beq_eq_false_iff_ne.2 h_col)) (by rw [hbb]; rfl)
      · rw [decide_eq_false h_row] at hbb
        exact rb_of (P := fun _ _ => True) (eo_2 _ _ _ _ _ _ _ _ _ _ _ _ _ _ _ _ _ _ _ _ _ _ _ _ _ _ _ _ _ _ _ _ _ _ _ _ _ _ _ _ _ _ _ _ _ _ _ _ _ w (str_t h_sh) (beq_eq_false_iff_ne.2 h_row)) (by rw [hbb]; rfl)
    · rw [decide_eq_false h_sh] at hbb
      exact rb_of (P := fun _ _ => True) (eo_1 _ _ _ _ _ _ _ _ _ _ _ _ _ _ _ _ _ _ _ _ _ _ _ _ _ _ _ _ _ _ _ _ _ _ _ _ _ _ _ _ _ _ _ _ _ _ _ _ _ w (str_f h_sh)) (by rw [hbb]; rfl)
  · rw [decide_eq_false h_k] at hbb
    exact rb_of (P := fun _ _ => True) (eo_0 _ _ _ _ _ _ _ _ _ _ _ _ _ _ _ _ _ _ _ _ _ _ _ _ _ _ _ _ _ _ _ _ _ _ _ _ _ _ _ _ _ _ _ _ _ _ _ _ _ _ w (beq_eq_false_iff_ne.2 h_k)) (by rw [hbb]; rfl)
end Go.Proofs.YtcgddnliiondoaaGreatDoor
