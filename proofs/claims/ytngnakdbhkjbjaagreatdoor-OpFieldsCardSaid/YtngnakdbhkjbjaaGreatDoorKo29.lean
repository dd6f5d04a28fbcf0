/- op.Eq, walked: are two operations the same?; op.May: which operations may be; Lists of operations; op.Batch; op.near, op.Edit; op.Edit, walked; What the statements of layer 10 begin with; What the statements of layer 10 begin with; OpFields: five copies of an operation, made in any order; OpFields: the seven operations, and what is made of them. -/
import Derived.Test.YtngnakdbhkjbjaaGreatDoorKo28
import Derived.Test.YtngnakdbhkjbjaaGreatDoorKo21
import Derived.Test.YtngnakdbhkjbjaaGreatDoorKo00
import Derived.Test.YtngnakdbhkjbjaaGreatDoorKo05
import Derived.Great.BuildSlice
import Derived.Test.YtngnakdbhkjbjaaGreatDoorKo01
import Derived.Laws.CopyOwn
set_option linter.unusedVariables false
set_option linter.unusedSimpArgs false
namespace Go.Proofs.YtngnakdbhkjbjaaGreatDoor
open Go.RowKit
theorem line_eq (a b c a' b' c' : Int) (w : World) : (binOp .eql 32 (.agg #[.int .i64 a, .int .i64 b, .int .i64 c]) (.agg #[.int .i64 a', .int .i64 b', .int .i64 c'])).run Tryz.prog w = .ok (.bool (decide (a = a' ∧ b = b' ∧ c = c'))) w := by
  have u2 := Tryz.underlying2
  have u3 := Tryz.underlying3
  have hS : Tryz.prog.underlying 32 = some (.struct (Tryz.prog.fieldsOf 32)) := by kernel_rfl
  have hp : Tryz.prog.stoodInHeld 32 = false := by kernel_rfl
  rw [run_eql_struct, show (10000 : Nat) = 9999 + 1 from rfl, run_equalIn_agg w 9999 32 _ _ hS hp]
  simp only [Program.fieldsOf, Tryz.underlying32]
  go_simp
  by_cases h1 : a = a' <;> by_cases h2 : b = b' <;> by_cases h3 : c = c' <;> simp [h1, h2, h3]
set_option maxRecDepth 100000 in
set_option maxHeartbeats 8000000 in
theorem opeq_any (x y : Rv) (X Y : Ex) (L M : List R.Rg.Rc) (b : Bool) (w : World) (hx : RO w x X L) (hy : RO w y Y M) (hn : nodes X ≤ 1000) (hL : L.length ≤ 1000000000000) (hM : M.length ≤ 1000000000000) (hb : b = true ↔ oE x y X Y L M) : Calls Tryz.prog 10 #[x.v, y.v] w fun e W' => e = .returned (.bool b) ∧ Q w W' := by
  obtain ⟨cb, hcb, hbb⟩ := oe_split x y X Y L M b hb
  clear hb
  have hxt := hx.t
  have hxr := hx.r
  have hyt := hy.t
  have hyr := hy.r
  clear hx hy
  obtain ⟨k, sh, row, col, f, vk, vn, vt, vb, ve, tk, tm, tt, tb, te, a1, l1, c1, a2, l2, c2, lk, la, lt, ra, rl, rc, fm, nm⟩ := x
  obtain ⟨k', sh', row', col', f', vk', vn', vt', vb', ve', tk', tm', tt', tb', te', a1', l1', c1', a2', l2', c2', lk', la', lt', ra', rl', rc', fm', nm'⟩ := y
  unfold Rv.v
  unfold vE at hcb
  dsimp only at *
  have HC := hid (fun W' (q : Q w W') => samecell_any f vk vn vt vb ve tk tm tt tb te a1 l1 c1 a2 l2 c2 f' vk' vn' vt' vb' ve' tk' tm' tt' tb' te' a1' l1' c1' a2' l2' c2' X Y cb W' (Rd.on q _ _ hxt) (Rd.on q _ _ hyt) hn hcb)
  have HR := hid (fun W' (q : Q w W') => R.eqR_any _ _ L M W' (hxr.on q) (hyr.on q) hL hM)
  generalize R.eqRc L M = rb at HR hbb
  clear hxt hxr hyt hyr hcb hL hM hn
  have HBB := hid hbb
  clear hbb
  go_enter Tryz.func10, Tryz.ntmps10
  go_upto_region 1 with fail
  have Z1 := hid ((cb_new w [.int .i64 k, .string sh, .int .i64 row, .int .i64 col, .bool f, .int .i64 vk, .int .i64 vn, .string vt, .bool vb, .int .i64 ve, .int .i64 tk, .int .i64 tm, .string tt, .bool tb, .int .i64 te, .slice a1 l1 c1, .slice a2 l2 c2, .int .i64 lk, .int .i64 la, .int .i64 lt, .slice ra rl rc, .int .i64 fm, .string nm] 35).on ((Q.refl _).alloc (.cells #[.int .i64 k', .string sh', .int .i64 row', .int .i64 col', .bool f', .int .i64 vk', .int .i64 vn', .string vt', .bool vb', .int .i64 ve', .int .i64 tk', .int .i64 tm', .string tt', .bool tb', .int .i64 te', .slice a1' l1' c1', .slice a2' l2' c2', .int .i64 lk', .int .i64 la', .int .i64 lt', .slice ra' rl' rc', .int .i64 fm', .string nm'] 35)))
  have Z2 := hid (cb_new (w.alloc (.cells #[.int .i64 k, .string sh, .int .i64 row, .int .i64 col, .bool f, .int .i64 vk, .int .i64 vn, .string vt, .bool vb, .int .i64 ve, .int .i64 tk, .int .i64 tm, .string tt, .bool tb, .int .i64 te, .slice a1 l1 c1, .slice a2 l2 c2, .int .i64 lk, .int .i64 la, .int .i64 lt, .slice ra rl rc, .int .i64 fm, .string nm] 35)) [.int .i64 k', .string sh', .int .i64 row', .int .i64 col', .bool f', .int .i64 vk', .int .i64 vn', .string vt', .bool vb', .int .i64 ve', .int .i64 tk', .int .i64 tm', .string tt', .bool tb', .int .i64 te', .slice a1' l1' c1', .slice a2' l2' c2', .int .i64 lk', .int .i64 la', .int .i64 lt', .slice ra' rl' rc', .int .i64 fm', .string nm'] 35)
  have QA : Hid (Q w ((w.alloc (.cells #[.int .i64 k, .string sh, .int .i64 row, .int .i64 col, .bool f, .int .i64 vk, .int .i64 vn, .string vt, .bool vb, .int .i64 ve, .int .i64 tk, .int .i64 tm, .string tt, .bool tb, .int .i64 te, .slice a1 l1 c1, .slice a2 l2 c2, .int .i64 lk, .int .i64 la, .int .i64 lt, .slice ra rl rc, .int .i64 fm, .string nm] 35)).alloc (.cells #[.int .i64 k', .string sh', .int .i64 row', .int .i64 col', .bool f', .int .i64 vk', .int .i64 vn', .string vt', .bool vb', .int .i64 ve', .int .i64 tk', .int .i64 tm', .string tt', .bool tb', .int .i64 te', .slice a1' l1' c1', .slice a2' l2' c2', .int .i64 lk', .int .i64 la', .int .i64 lt', .slice ra' rl' rc', .int .i64 fm', .string nm'] 35))) := hid (((Q.refl w).alloc _).alloc _)
  rw [show ([.int .i64 k, .string sh, .int .i64 row, .int .i64 col, .bool f, .int .i64 vk, .int .i64 vn, .string vt, .bool vb, .int .i64 ve, .int .i64 tk, .int .i64 tm, .string tt, .bool tb, .int .i64 te, .slice a1 l1 c1, .slice a2 l2 c2, .int .i64 lk, .int .i64 la, .int .i64 lt, .slice ra rl rc, .int .i64 fm, .string nm] : List Value).toArray = #[.int .i64 k, .string sh, .int .i64 row, .int .i64 col, .bool f, .int .i64 vk, .int .i64 vn, .string vt, .bool vb, .int .i64 ve, .int .i64 tk, .int .i64 tm, .string tt, .bool tb, .int .i64 te, .slice a1 l1 c1, .slice a2 l2 c2, .int .i64 lk, .int .i64 la, .int .i64 lt, .slice ra rl rc, .int .i64 fm, .string nm] from rfl] at Z1
  rw [show ([.int .i64 k', .string sh', .int .i64 row', .int .i64 col', .bool f', .int .i64 vk', .int .i64 vn', .string vt', .bool vb', .int .i64 ve', .int .i64 tk', .int .i64 tm', .string tt', .bool tb', .int .i64 te', .slice a1' l1' c1', .slice a2' l2' c2', .int .i64 lk', .int .i64 la', .int .i64 lt', .slice ra' rl' rc', .int .i64 fm', .string nm'] : List Value).toArray = #[.int .i64 k', .string sh', .int .i64 row', .int .i64 col', .bool f', .int .i64 vk', .int .i64 vn', .string vt', .bool vb', .int .i64 ve', .int .i64 tk', .int .i64 tm', .string tt', .bool tb', .int .i64 te', .slice a1' l1' c1', .slice a2' l2' c2', .int .i64 lk', .int .i64 la', .int .i64 lt', .slice ra' rl' rc', .int .i64 fm', .string nm'] from rfl, show (w.alloc (.cells #[.int .i64 k, .string sh, .int .i64 row, .int .i64 col, .bool f, .int .i64 vk, .int .i64 vn, .string vt, .bool vb, .int .i64 ve, .int .i64 tk, .int .i64 tm, .string tt, .bool tb, .int .i64 te, .slice a1 l1 c1, .slice a2 l2 c2, .int .i64 lk, .int .i64 la, .int .i64 lt, .slice ra rl rc, .int .i64 fm, .string nm] 35)).heap.size = w.heap.size + 1 by simp] at Z2
  generalize ((w.alloc (.cells #[.int .i64 k, .string sh, .int .i64 row, .int .i64 col, .bool f, .int .i64 vk, .int .i64 vn, .string vt, .bool vb, .int .i64 ve, .int .i64 tk, .int .i64 tm, .string tt, .bool tb, .int .i64 te, .slice a1 l1 c1, .slice a2 l2 c2, .int .i64 lk, .int .i64 la, .int .i64 lt, .slice ra rl rc, .int .i64 fm, .string nm] 35)).alloc (.cells #[.int .i64 k', .string sh', .int .i64 row', .int .i64 col', .bool f', .int .i64 vk', .int .i64 vn', .string vt', .bool vb', .int .i64 ve', .int .i64 tk', .int .i64 tm', .string tt', .bool tb', .int .i64 te', .slice a1' l1' c1', .slice a2' l2' c2', .int .i64 lk', .int .i64 la', .int .i64 lt', .slice ra' rl' rc', .int .i64 fm', .string nm'] 35)) = w2 at Z1 Z2 QA ⊢
  generalize w.heap.size + 1 = b1 at Z2 ⊢
  generalize w.heap.size = b0 at Z1 ⊢
  have d0 := Z1.out.c 0 _ rfl
  have d1 := Z1.out.c 1 _ rfl
  have d2 := Z1.out.c 2 _ rfl
  have d3 := Z1.out.c 3 _ rfl
  have d4 := Z1.out.c 4 _ rfl
  have d5 := Z1.out.c 5 _ rfl
  have d6 := Z1.out.c 6 _ rfl
  have d7 := Z1.out.c 7 _ rfl
  have d8 := Z1.out.c 8 _ rfl
  have d9 := Z1.out.c 9 _ rfl
  have d10 := Z1.out.c 10 _ rfl
  have d11 := Z1.out.c 11 _ rfl
  have d12 := Z1.out.c 12 _ rfl
  have d13 := Z1.out.c 13 _ rfl
  have d14 := Z1.out.c 14 _ rfl
  have d15 := Z1.out.c 15 _ rfl
  have d16 := Z1.out.c 16 _ rfl
  have d17 := Z1.out.c 17 _ rfl
  have d18 := Z1.out.c 18 _ rfl
  have d19 := Z1.out.c 19 _ rfl
  have d20 := Z1.out.c 20 _ rfl
  have d21 := Z1.out.c 21 _ rfl
  have d22 := Z1.out.c 22 _ rfl
  have n0 := Z2.out.c 0 _ rfl
  have n1 := Z2.out.c 1 _ rfl
  have n2 := Z2.out.c 2 _ rfl
  have n3 := Z2.out.c 3 _ rfl
  have n4 := Z2.out.c 4 _ rfl
  have n5 := Z2.out.c 5 _ rfl
  have n6 := Z2.out.c 6 _ rfl
  have n7 := Z2.out.c 7 _ rfl
  have n8 := Z2.out.c 8 _ rfl
  have n9 := Z2.out.c 9 _ rfl
  have n10 := Z2.out.c 10 _ rfl
  have n11 := Z2.out.c 11 _ rfl
  have n12 := Z2.out.c 12 _ rfl
  have n13 := Z2.out.c 13 _ rfl
  have n14 := Z2.out.c 14 _ rfl
  have n15 := Z2.out.c 15 _ rfl
  have n16 := Z2.out.c 16 _ rfl
  have n17 := Z2.out.c 17 _ rfl
  have n18 := Z2.out.c 18 _ rfl
  have n19 := Z2.out.c 19 _ rfl
  have n20 := Z2.out.c 20 _ rfl
  have n21 := Z2.out.c 21 _ rfl
  have n22 := Z2.out.c 22 _ rfl
  have hbb := HBB.out
  clear HBB
  by_cases h_k : k = k'
  · rw [decide_eq_true h_k, Bool.true_and] at hbb
    have e_k : (k == k') = true := by simpa using h_k
    clear h_k
    by_cases h_sh : sh.data.toList = sh'.data.toList
    · rw [decide_eq_true h_sh, Bool.true_and] at hbb
      have e_sh : (sh.toList == sh'.toList) = true := by rw [Lib.toList_data, Lib.toList_data]; simpa using h_sh
      clear h_sh
      by_cases h_row : row = row'
      · rw [decide_eq_true h_row, Bool.true_and] at hbb
        have e_row : (row == row') = true := by simpa using h_row
        clear h_row
        by_cases h_col : col = col'
        · rw [decide_eq_true h_col, Bool.true_and] at hbb
          have e_col : (col == col') = true := by simpa using h_col
          clear h_col
          by_cases h_ln : lk = lk' ∧ la = la' ∧ lt = lt'
          · rw [decide_eq_true h_ln, Bool.true_and] at hbb
            obtain ⟨rfl, rfl, rfl⟩ := h_ln
            have e_ln : ∀ W, (binOp .eql 32 (.agg #[.int .i64 lk, .int .i64 la, .int .i64 lt]) (.agg #[.int .i64 lk, .int .i64 la, .int .i64 lt])).run Tryz.prog W = .ok (.bool true) W := fun W => by rw [line_eq]; simp
            by_cases h_fm : fm = fm'
            · rw [decide_eq_true h_fm, Bool.true_and] at hbb
              have e_fm : (fm == fm') = true := by simpa using h_fm
              clear h_fm
              by_cases h_nm : nm.data.toList = nm'.data.toList
              · rw [decide_eq_true h_nm, Bool.true_and] at hbb
                have e_nm : (nm.toList == nm'.toList) = true := by rw [Lib.toList_data, Lib.toList_data]; simpa using h_nm
                clear h_nm
                cases rb with
                | true =>
                  simp only [Bool.true_and, Bool.and_true] at hbb
                  have HB : Hid (b = cb) := hid (by rw [hbb])
                  clear hbb
                  go_wp2_with (first | (go_at_call 35; refine (HR.out _ QA.out).mono ?_; rintro e9 w10 ⟨rfl, q9⟩; have Q10 : Hid (Q w w10) := hid (QA.out.trans q9); have Z10 := hid (Z1.out.on q9); have Z20 := hid (Z2.out.on q9); clear q9; have p0_0 := Z10.out.c 0 _ rfl; have o0_0 := Z20.out.c 0 _ rfl; have p0_1 := Z10.out.c 1 _ rfl; have o0_1 := Z20.out.c 1 _ rfl; have p0_2 := Z10.out.c 2 _ rfl; have o0_2 := Z20.out.c 2 _ rfl; have p0_3 := Z10.out.c 3 _ rfl; have o0_3 := Z20.out.c 3 _ rfl; have p0_4 := Z10.out.c 4 _ rfl; have o0_4 := Z20.out.c 4 _ rfl; have p0_5 := Z10.out.c 5 _ rfl; have o0_5 := Z20.out.c 5 _ rfl; have p0_6 := Z10.out.c 6 _ rfl; have o0_6 := Z20.out.c 6 _ rfl; have p0_7 := Z10.out.c 7 _ rfl; have o0_7 := Z20.out.c 7 _ rfl; have p0_8 := Z10.out.c 8 _ rfl; have o0_8 := Z20.out.c 8 _ rfl; have p0_9 := Z10.out.c 9 _ rfl; have o0_9 := Z20.out.c 9 _ rfl; have p0_10 := Z10.out.c 10 _ rfl; have o0_10 := Z20.out.c 10 _ rfl; have p0_11 := Z10.out.c 11 _ rfl; have o0_11 := Z20.out.c 11 _ rfl; have p0_12 := Z10.out.c 12 _ rfl; have o0_12 := Z20.out.c 12 _ rfl; have p0_13 := Z10.out.c 13 _ rfl; have o0_13 := Z20.out.c 13 _ rfl; have p0_14 := Z10.out.c 14 _ rfl; have o0_14 := Z20.out.c 14 _ rfl; have p0_15 := Z10.out.c 15 _ rfl; have o0_15 := Z20.out.c 15 _ rfl; have p0_16 := Z10.out.c 16 _ rfl; have o0_16 := Z20.out.c 16 _ rfl; have p0_17 := Z10.out.c 17 _ rfl; have o0_17 := Z20.out.c 17 _ rfl; have p0_18 := Z10.out.c 18 _ rfl; have o0_18 := Z20.out.c 18 _ rfl; have p0_19 := Z10.out.c 19 _ rfl; have o0_19 := Z20.out.c 19 _ rfl; have p0_20 := Z10.out.c 20 _ rfl; have o0_20 := Z20.out.c 20 _ rfl; have p0_21 := Z10.out.c 21 _ rfl; have o0_21 := Z20.out.c 21 _ rfl; have p0_22 := Z10.out.c 22 _ rfl; have o0_22 := Z20.out.c 22 _ rfl) | (go_at_call 36; refine (HC.out _ Q10.out).mono ?_; rintro e9 w11 ⟨rfl, q9⟩; have Q11 : Hid (Q w w11) := hid (Q10.out.trans q9); have Z11 := hid (Z10.out.on q9); have Z21 := hid (Z20.out.on q9); clear q9))
                  go_ret
                  exact ⟨ret_bool HB.out.symm, Q11.out⟩
                | false =>
                  have HB : Hid (b = false) := hid (by rw [hbb]; simp)
                  clear hbb
                  go_wp2_with (first | (go_at_call 35; refine (HR.out _ QA.out).mono ?_; rintro e9 w10 ⟨rfl, q9⟩; have Q10 : Hid (Q w w10) := hid (QA.out.trans q9); have Z10 := hid (Z1.out.on q9); have Z20 := hid (Z2.out.on q9); clear q9; have p0_0 := Z10.out.c 0 _ rfl; have o0_0 := Z20.out.c 0 _ rfl; have p0_1 := Z10.out.c 1 _ rfl; have o0_1 := Z20.out.c 1 _ rfl; have p0_2 := Z10.out.c 2 _ rfl; have o0_2 := Z20.out.c 2 _ rfl; have p0_3 := Z10.out.c 3 _ rfl; have o0_3 := Z20.out.c 3 _ rfl; have p0_4 := Z10.out.c 4 _ rfl; have o0_4 := Z20.out.c 4 _ rfl; have p0_5 := Z10.out.c 5 _ rfl; have o0_5 := Z20.out.c 5 _ rfl; have p0_6 := Z10.out.c 6 _ rfl; have o0_6 := Z20.out.c 6 _ rfl; have p0_7 := Z10.out.c 7 _ rfl; have o0_7 := Z20.out.c 7 _ rfl; have p0_8 := Z10.out.c 8 _ rfl; have o0_8 := Z20.out.c 8 _ rfl; have p0_9 := Z10.out.c 9 _ rfl; have o0_9 := Z20.out.c 9 _ rfl; have p0_10 := Z10.out.c 10 _ rfl; have o0_10 := Z20.out.c 10 _ rfl; have p0_11 := Z10.out.c 11 _ rfl; have o0_11 := Z20.out.c 11 _ rfl; have p0_12 := Z10.out.c 12 _ rfl; have o0_12 := Z20.out.c 12 _ rfl; have p0_13 := Z10.out.c 13 _ rfl; have o0_13 := Z20.out.c 13 _ rfl; have p0_14 := Z10.out.c 14 _ rfl; have o0_14 := Z20.out.c 14 _ rfl; have p0_15 := Z10.out.c 15 _ rfl; have o0_15 := Z20.out.c 15 _ rfl; have p0_16 := Z10.out.c 16 _ rfl; have o0_16 := Z20.out.c 16 _ rfl; have p0_17 := Z10.out.c 17 _ rfl; have o0_17 := Z20.out.c 17 _ rfl; have p0_18 := Z10.out.c 18 _ rfl; have o0_18 := Z20.out.c 18 _ rfl; have p0_19 := Z10.out.c 19 _ rfl; have o0_19 := Z20.out.c 19 _ rfl; have p0_20 := Z10.out.c 20 _ rfl; have o0_20 := Z20.out.c 20 _ rfl; have p0_21 := Z10.out.c 21 _ rfl; have o0_21 := Z20.out.c 21 _ rfl; have p0_22 := Z10.out.c 22 _ rfl; have o0_22 := Z20.out.c 22 _ rfl))
                  go_ret
                  exact ⟨ret_bool HB.out.symm, Q10.out⟩
              · rw [decide_eq_false h_nm] at hbb
                have e_nm : (nm.toList == nm'.toList) = false := by rw [Lib.toList_data, Lib.toList_data]; simpa using h_nm
                clear h_nm
                have HB : Hid (b = false) := hid (by rw [hbb]; simp)
                clear hbb
                go_wp2_with fail
                go_ret
                exact ⟨ret_bool HB.out.symm, QA.out⟩
            · rw [decide_eq_false h_fm] at hbb
              have e_fm : (fm == fm') = false := by simpa using h_fm
              clear h_fm
              have HB : Hid (b = false) := hid (by rw [hbb]; simp)
              clear hbb
              go_wp2_with fail
              go_ret
              exact ⟨ret_bool HB.out.symm, QA.out⟩
          · rw [decide_eq_false h_ln] at hbb
            have e_ln : ∀ W, (binOp .eql 32 (.agg #[.int .i64 lk, .int .i64 la, .int .i64 lt]) (.agg #[.int .i64 lk', .int .i64 la', .int .i64 lt'])).run Tryz.prog W = .ok (.bool false) W := fun W => by rw [line_eq, decide_eq_false h_ln]
            clear h_ln
            have HB : Hid (b = false) := hid (by rw [hbb]; simp)
            clear hbb
            go_wp2_with fail
            go_ret
            exact ⟨ret_bool HB.out.symm, QA.out⟩
        · rw [decide_eq_false h_col] at hbb
          have e_col : (col == col') = false := by simpa using h_col
          clear h_col
          have HB : Hid (b = false) := hid (by rw [hbb]; simp)
          clear hbb
          go_wp2_with fail
          go_ret
          exact ⟨ret_bool HB.out.symm, QA.out⟩
      · rw [decide_eq_false h_row] at hbb
        have e_row : (row == row') = false := by simpa using h_row
        clear h_row
        have HB : Hid (b = false) := hid (by rw [hbb]; simp)
        clear hbb
        go_wp2_with fail
        go_ret
        exact ⟨ret_bool HB.out.symm, QA.out⟩
    · rw [decide_eq_false h_sh] at hbb
      have e_sh : (sh.toList == sh'.toList) = false := by rw [Lib.toList_data, Lib.toList_data]; simpa using h_sh
      clear h_sh
      have HB : Hid (b = false) := hid (by rw [hbb]; simp)
      clear hbb
      go_wp2_with fail
      go_ret
      exact ⟨ret_bool HB.out.symm, QA.out⟩
  · rw [decide_eq_false h_k] at hbb
    have e_k : (k == k') = false := by simpa using h_k
    clear h_k
    have HB : Hid (b = false) := hid (by rw [hbb]; simp)
    clear hbb
    go_wp2_with fail
    go_ret
    exact ⟨ret_bool HB.out.symm, QA.out⟩
theorem oe_ex (x y : Rv) (X Y : Ex) (L M : List R.Rg.Rc) : ∃ b : Bool, (b = true ↔ oE x y X Y L M) := by
  by_cases h : oE x y X Y L M
  · exact ⟨true, fun _ => h, fun _ => rfl⟩
  · exact ⟨false, fun e => absurd e Bool.false_ne_true, fun e => absurd e h⟩
theorem e_nil : (⟨#[]⟩ : ByteArray).data.toList = [] := rfl
set_option maxRecDepth 100000 in
set_option maxHeartbeats 4000000 in
theorem opm1 (sh : ByteArray) (row : Int) (col : Int) (f : Bool) (vk : Int) (vn : Int) (vt : ByteArray) (vb : Bool) (ve : Int) (tk : Int) (tm : Int) (tt : ByteArray) (tb : Bool) (te : Int) (a1 : Option Addr) (l1 : Nat) (c1 : Nat) (a2 : Option Addr) (l2 : Nat) (c2 : Nat) (lk : Int) (la : Int) (lt : Int) (ra : Option Addr) (rl : Nat) (rc : Nat) (fm : Int) (nm : ByteArray) (X : Ex) (M : List R.Rg.Rc) (mr : Bool) (w : World) (hg : Gd w) (ht : Rd w X (.agg #[.int .i64 tk, .int .i64 tm, .string tt, .bool tb, .int .i64 te, .slice a1 l1 c1, .slice a2 l2 c2])) (hr : R.Sl R.rc 4 w (.slice ra rl rc) M) (hvt : vt.size ≤ 1000000) (hsh : sh.size ≤ 1000000) (hnm : nm.size ≤ 1000000) (hs : Sm X) (hn : nodes X ≤ 1000) (hM : M.length ≤ 1000000000000) (hmr : MR M mr) : Calls Tryz.prog 8 #[.agg #[.int .i64 1, .string sh, .int .i64 row, .int .i64 col, .bool f, .int .i64 vk, .int .i64 vn, .string vt, .bool vb, .int .i64 ve, .int .i64 tk, .int .i64 tm, .string tt, .bool tb, .int .i64 te, .slice a1 l1 c1, .slice a2 l2 c2, .int .i64 lk, .int .i64 la, .int .i64 lt, .slice ra rl rc, .int .i64 fm, .string nm]] w fun e V' => e = .returned (.bool (mayO (⟨1, sh, row, col, f, vk, vn, vt, vb, ve, tk, tm, tt, tb, te, a1, l1, c1, a2, l2, c2, lk, la, lt, ra, rl, rc, fm, nm⟩ : Rv) X M mr)) ∧ Q w V' := by
  have HI := hid (fun V (q : Q w V) => id_any sh V (hg.on q).1 (by omega))
  obtain ⟨eb, heb⟩ := oe_ex (⟨1, sh, 0, 0, false, 0, 0, ⟨#[]⟩, false, 0, 0, 0, ⟨#[]⟩, false, 0, none, 0, 0, none, 0, 0, lk, la, lt, ra, rl, rc, fm, nm⟩ : Rv) (⟨1, sh, 0, 0, false, 0, 0, ⟨#[]⟩, false, 0, 0, 0, ⟨#[]⟩, false, 0, none, 0, 0, none, 0, 0, 0, 0, 0, none, 0, 0, 0, ⟨#[]⟩⟩ : Rv) zeroE zeroE M []
  have HE := hid (fun V (q : Q w V) => opeq_any (⟨1, sh, 0, 0, false, 0, 0, ⟨#[]⟩, false, 0, 0, 0, ⟨#[]⟩, false, 0, none, 0, 0, none, 0, 0, lk, la, lt, ra, rl, rc, fm, nm⟩ : Rv) (⟨1, sh, 0, 0, false, 0, 0, ⟨#[]⟩, false, 0, 0, 0, ⟨#[]⟩, false, 0, none, 0, 0, none, 0, 0, 0, 0, 0, none, 0, 0, 0, ⟨#[]⟩⟩ : Rv) zeroE zeroE M [] eb V ⟨rd_zero V, hr.on q⟩ ⟨rd_zero V, R.sl_nil V⟩ (by decide) hM (by simp) heb)
  unfold Rv.v at HE
  have H1 := hid (fun V (q : Q w V) => (mayLine_any' row V).mono fun e V' h => (⟨h.1, h.2 ▸ Q.refl _⟩ : e = .returned (.bool (lnB row)) ∧ Q V V'))
  have H2 := hid (fun V (q : Q w V) => (mayLine_any' col V).mono fun e V' h => (⟨h.1, h.2 ▸ Q.refl _⟩ : e = .returned (.bool (lnB col)) ∧ Q V V'))
  have H3 := hid (fun V (q : Q w V) => smay_any f vk vn vt vb ve tk tm tt tb te a1 l1 c1 a2 l2 c2 X V (hg.on q) hvt hs hn (Rd.on q _ _ ht))
  refine (om1 1 sh (.int .i64 row) (.int .i64 col) (.bool f) (.int .i64 vk) (.int .i64 vn) (.string vt) (.bool vb) (.int .i64 ve) (.int .i64 tk) (.int .i64 tm) (.string tt) (.bool tb) (.int .i64 te) (.slice a1 l1 c1) (.slice a2 l2 c2) (.int .i64 lk) (.int .i64 la) (.int .i64 lt) (.slice ra rl rc) (.int .i64 fm) (.string nm) w (lnB row) (lnB col) (mcB f vk vn vt.data.toList vb ve X) (idB sh.data.toList) eb (by decide) (hid (by kernel_rfl)) H1 H2 H3 HI HE).mono fun e V' h => ⟨h.1.trans (ret_bool ?_), h.2⟩
  have hz : eb = (zLine ⟨1, sh, row, col, f, vk, vn, vt, vb, ve, tk, tm, tt, tb, te, a1, l1, c1, a2, l2, c2, lk, la, lt, ra, rl, rc, fm, nm⟩ && (M.isEmpty && (zFm ⟨1, sh, row, col, f, vk, vn, vt, vb, ve, tk, tm, tt, tb, te, a1, l1, c1, a2, l2, c2, lk, la, lt, ra, rl, rc, fm, nm⟩ && zNm ⟨1, sh, row, col, f, vk, vn, vt, vb, ve, tk, tm, tt, tb, te, a1, l1, c1, a2, l2, c2, lk, la, lt, ra, rl, rc, fm, nm⟩))) := by
    rw [Bool.eq_iff_iff, heb]
    simp only [oE, vE, zRow, zCell, zLine, zFm, zNm, Bool.and_eq_true, decide_eq_true_eq, isZ_iff, List.isEmpty_iff, true_and, and_true, e_nil]
    first | exact Iff.rfl | (constructor <;> (intro hh; simp_all))
  rw [hz]
  unfold mayO
  rw [if_pos rfl]
  simp only [Bool.and_true, Bool.true_and, Bool.and_assoc, Bool.and_comm, Bool.and_left_comm]
set_option maxRecDepth 100000 in
set_option maxHeartbeats 4000000 in
theorem opm2 (sh : ByteArray) (row : Int) (col : Int) (f : Bool) (vk : Int) (vn : Int) (vt : ByteArray) (vb : Bool) (ve : Int) (tk : Int) (tm : Int) (tt : ByteArray) (tb : Bool) (te : Int) (a1 : Option Addr) (l1 : Nat) (c1 : Nat) (a2 : Option Addr) (l2 : Nat) (c2 : Nat) (lk : Int) (la : Int) (lt : Int) (ra : Option Addr) (rl : Nat) (rc : Nat) (fm : Int) (nm : ByteArray) (X : Ex) (M : List R.Rg.Rc) (mr : Bool) (w : World) (hg : Gd w) (ht : Rd w X (.agg #[.int .i64 tk, .int .i64 tm, .string tt, .bool tb, .int .i64 te, .slice a1 l1 c1, .slice a2 l2 c2])) (hr : R.Sl R.rc 4 w (.slice ra rl rc) M) (hvt : vt.size ≤ 1000000) (hsh : sh.size ≤ 1000000) (hnm : nm.size ≤ 1000000) (hs : Sm X) (hn : nodes X ≤ 1000) (hM : M.length ≤ 1000000000000) (hmr : MR M mr) : Calls Tryz.prog 8 #[.agg #[.int .i64 2, .string sh, .int .i64 row, .int .i64 col, .bool f, .int .i64 vk, .int .i64 vn, .string vt, .bool vb, .int .i64 ve, .int .i64 tk, .int .i64 tm, .string tt, .bool tb, .int .i64 te, .slice a1 l1 c1, .slice a2 l2 c2, .int .i64 lk, .int .i64 la, .int .i64 lt, .slice ra rl rc, .int .i64 fm, .string nm]] w fun e V' => e = .returned (.bool (mayO (⟨2, sh, row, col, f, vk, vn, vt, vb, ve, tk, tm, tt, tb, te, a1, l1, c1, a2, l2, c2, lk, la, lt, ra, rl, rc, fm, nm⟩ : Rv) X M mr)) ∧ Q w V' := by
  have HI := hid (fun V (q : Q w V) => id_any sh V (hg.on q).1 (by omega))
  obtain ⟨eb, heb⟩ := oe_ex (⟨2, sh, row, col, f, vk, vn, vt, vb, ve, tk, tm, tt, tb, te, a1, l1, c1, a2, l2, c2, 0, 0, 0, ra, rl, rc, fm, nm⟩ : Rv) (⟨2, sh, 0, 0, false, 0, 0, ⟨#[]⟩, false, 0, 0, 0, ⟨#[]⟩, false, 0, none, 0, 0, none, 0, 0, 0, 0, 0, none, 0, 0, 0, ⟨#[]⟩⟩ : Rv) X zeroE M []
  have HE := hid (fun V (q : Q w V) => opeq_any (⟨2, sh, row, col, f, vk, vn, vt, vb, ve, tk, tm, tt, tb, te, a1, l1, c1, a2, l2, c2, 0, 0, 0, ra, rl, rc, fm, nm⟩ : Rv) (⟨2, sh, 0, 0, false, 0, 0, ⟨#[]⟩, false, 0, 0, 0, ⟨#[]⟩, false, 0, none, 0, 0, none, 0, 0, 0, 0, 0, none, 0, 0, 0, ⟨#[]⟩⟩ : Rv) X zeroE M [] eb V ⟨Rd.on q _ _ ht, hr.on q⟩ ⟨rd_zero V, R.sl_nil V⟩ hn hM (by simp) heb)
  unfold Rv.v at HE
  have H1 := hid (fun V (q : Q w V) => axmay_any lk la lt V)
  refine (om2 2 sh (.int .i64 row) (.int .i64 col) (.bool f) (.int .i64 vk) (.int .i64 vn) (.string vt) (.bool vb) (.int .i64 ve) (.int .i64 tk) (.int .i64 tm) (.string tt) (.bool tb) (.int .i64 te) (.slice a1 l1 c1) (.slice a2 l2 c2) (.int .i64 lk) (.int .i64 la) (.int .i64 lt) (.slice ra rl rc) (.int .i64 fm) (.string nm) w (lmB lk la lt) (idB sh.data.toList) eb (by decide) (by decide) (hid (by kernel_rfl)) H1 HI HE).mono fun e V' h => ⟨h.1.trans (ret_bool ?_), h.2⟩
  have hz : eb = (zRow ⟨2, sh, row, col, f, vk, vn, vt, vb, ve, tk, tm, tt, tb, te, a1, l1, c1, a2, l2, c2, lk, la, lt, ra, rl, rc, fm, nm⟩ && (zCell ⟨2, sh, row, col, f, vk, vn, vt, vb, ve, tk, tm, tt, tb, te, a1, l1, c1, a2, l2, c2, lk, la, lt, ra, rl, rc, fm, nm⟩ X && (M.isEmpty && (zFm ⟨2, sh, row, col, f, vk, vn, vt, vb, ve, tk, tm, tt, tb, te, a1, l1, c1, a2, l2, c2, lk, la, lt, ra, rl, rc, fm, nm⟩ && zNm ⟨2, sh, row, col, f, vk, vn, vt, vb, ve, tk, tm, tt, tb, te, a1, l1, c1, a2, l2, c2, lk, la, lt, ra, rl, rc, fm, nm⟩)))) := by
    rw [Bool.eq_iff_iff, heb]
    simp only [oE, vE, zRow, zCell, zLine, zFm, zNm, Bool.and_eq_true, decide_eq_true_eq, isZ_iff, List.isEmpty_iff, true_and, and_true, e_nil]
    first | exact Iff.rfl | (constructor <;> (intro hh; simp_all))
  rw [hz]
  unfold mayO
  rw [if_neg (by simp), if_pos (by simp)]
  simp only [Bool.and_true, Bool.true_and, Bool.and_assoc, Bool.and_comm, Bool.and_left_comm]
set_option maxRecDepth 100000 in
set_option maxHeartbeats 4000000 in
theorem opm3 (sh : ByteArray) (row : Int) (col : Int) (f : Bool) (vk : Int) (vn : Int) (vt : ByteArray) (vb : Bool) (ve : Int) (tk : Int) (tm : Int) (tt : ByteArray) (tb : Bool) (te : Int) (a1 : Option Addr) (l1 : Nat) (c1 : Nat) (a2 : Option Addr) (l2 : Nat) (c2 : Nat) (lk : Int) (la : Int) (lt : Int) (ra : Option Addr) (rl : Nat) (rc : Nat) (fm : Int) (nm : ByteArray) (X : Ex) (M : List R.Rg.Rc) (mr : Bool) (w : World) (hg : Gd w) (ht : Rd w X (.agg #[.int .i64 tk, .int .i64 tm, .string tt, .bool tb, .int .i64 te, .slice a1 l1 c1, .slice a2 l2 c2])) (hr : R.Sl R.rc 4 w (.slice ra rl rc) M) (hvt : vt.size ≤ 1000000) (hsh : sh.size ≤ 1000000) (hnm : nm.size ≤ 1000000) (hs : Sm X) (hn : nodes X ≤ 1000) (hM : M.length ≤ 1000000000000) (hmr : MR M mr) : Calls Tryz.prog 8 #[.agg #[.int .i64 3, .string sh, .int .i64 row, .int .i64 col, .bool f, .int .i64 vk, .int .i64 vn, .string vt, .bool vb, .int .i64 ve, .int .i64 tk, .int .i64 tm, .string tt, .bool tb, .int .i64 te, .slice a1 l1 c1, .slice a2 l2 c2, .int .i64 lk, .int .i64 la, .int .i64 lt, .slice ra rl rc, .int .i64 fm, .string nm]] w fun e V' => e = .returned (.bool (mayO (⟨3, sh, row, col, f, vk, vn, vt, vb, ve, tk, tm, tt, tb, te, a1, l1, c1, a2, l2, c2, lk, la, lt, ra, rl, rc, fm, nm⟩ : Rv) X M mr)) ∧ Q w V' := by
  have HI := hid (fun V (q : Q w V) => id_any sh V (hg.on q).1 (by omega))
  obtain ⟨eb, heb⟩ := oe_ex (⟨3, sh, row, col, f, vk, vn, vt, vb, ve, tk, tm, tt, tb, te, a1, l1, c1, a2, l2, c2, 0, 0, 0, ra, rl, rc, fm, nm⟩ : Rv) (⟨3, sh, 0, 0, false, 0, 0, ⟨#[]⟩, false, 0, 0, 0, ⟨#[]⟩, false, 0, none, 0, 0, none, 0, 0, 0, 0, 0, none, 0, 0, 0, ⟨#[]⟩⟩ : Rv) X zeroE M []
  have HE := hid (fun V (q : Q w V) => opeq_any (⟨3, sh, row, col, f, vk, vn, vt, vb, ve, tk, tm, tt, tb, te, a1, l1, c1, a2, l2, c2, 0, 0, 0, ra, rl, rc, fm, nm⟩ : Rv) (⟨3, sh, 0, 0, false, 0, 0, ⟨#[]⟩, false, 0, 0, 0, ⟨#[]⟩, false, 0, none, 0, 0, none, 0, 0, 0, 0, 0, none, 0, 0, 0, ⟨#[]⟩⟩ : Rv) X zeroE M [] eb V ⟨Rd.on q _ _ ht, hr.on q⟩ ⟨rd_zero V, R.sl_nil V⟩ hn hM (by simp) heb)
  unfold Rv.v at HE
  have H1 := hid (fun V (q : Q w V) => axmay_any lk la lt V)
  refine (om3 3 sh (.int .i64 row) (.int .i64 col) (.bool f) (.int .i64 vk) (.int .i64 vn) (.string vt) (.bool vb) (.int .i64 ve) (.int .i64 tk) (.int .i64 tm) (.string tt) (.bool tb) (.int .i64 te) (.slice a1 l1 c1) (.slice a2 l2 c2) (.int .i64 lk) (.int .i64 la) (.int .i64 lt) (.slice ra rl rc) (.int .i64 fm) (.string nm) w (lmB lk la lt) (idB sh.data.toList) eb (by decide) (by decide) (by decide) (hid (by kernel_rfl)) H1 HI HE).mono fun e V' h => ⟨h.1.trans (ret_bool ?_), h.2⟩
  have hz : eb = (zRow ⟨3, sh, row, col, f, vk, vn, vt, vb, ve, tk, tm, tt, tb, te, a1, l1, c1, a2, l2, c2, lk, la, lt, ra, rl, rc, fm, nm⟩ && (zCell ⟨3, sh, row, col, f, vk, vn, vt, vb, ve, tk, tm, tt, tb, te, a1, l1, c1, a2, l2, c2, lk, la, lt, ra, rl, rc, fm, nm⟩ X && (M.isEmpty && (zFm ⟨3, sh, row, col, f, vk, vn, vt, vb, ve, tk, tm, tt, tb, te, a1, l1, c1, a2, l2, c2, lk, la, lt, ra, rl, rc, fm, nm⟩ && zNm ⟨3, sh, row, col, f, vk, vn, vt, vb, ve, tk, tm, tt, tb, te, a1, l1, c1, a2, l2, c2, lk, la, lt, ra, rl, rc, fm, nm⟩)))) := by
    rw [Bool.eq_iff_iff, heb]
    simp only [oE, vE, zRow, zCell, zLine, zFm, zNm, Bool.and_eq_true, decide_eq_true_eq, isZ_iff, List.isEmpty_iff, true_and, and_true, e_nil]
    first | exact Iff.rfl | (constructor <;> (intro hh; simp_all))
  rw [hz]
  unfold mayO
  rw [if_neg (by simp), if_pos (by simp)]
  simp only [Bool.and_true, Bool.true_and, Bool.and_assoc, Bool.and_comm, Bool.and_left_comm]
set_option maxRecDepth 100000 in
set_option maxHeartbeats 4000000 in
theorem opm4 (sh : ByteArray) (row : Int) (col : Int) (f : Bool) (vk : Int) (vn : Int) (vt : ByteArray) (vb : Bool) (ve : Int) (tk : Int) (tm : Int) (tt : ByteArray) (tb : Bool) (te : Int) (a1 : Option Addr) (l1 : Nat) (c1 : Nat) (a2 : Option Addr) (l2 : Nat) (c2 : Nat) (lk : Int) (la : Int) (lt : Int) (ra : Option Addr) (rl : Nat) (rc : Nat) (fm : Int) (nm : ByteArray) (X : Ex) (M : List R.Rg.Rc) (mr : Bool) (w : World) (hg : Gd w) (ht : Rd w X (.agg #[.int .i64 tk, .int .i64 tm, .string tt, .bool tb, .int .i64 te, .slice a1 l1 c1, .slice a2 l2 c2])) (hr : R.Sl R.rc 4 w (.slice ra rl rc) M) (hvt : vt.size ≤ 1000000) (hsh : sh.size ≤ 1000000) (hnm : nm.size ≤ 1000000) (hs : Sm X) (hn : nodes X ≤ 1000) (hM : M.length ≤ 1000000000000) (hmr : MR M mr) : Calls Tryz.prog 8 #[.agg #[.int .i64 4, .string sh, .int .i64 row, .int .i64 col, .bool f, .int .i64 vk, .int .i64 vn, .string vt, .bool vb, .int .i64 ve, .int .i64 tk, .int .i64 tm, .string tt, .bool tb, .int .i64 te, .slice a1 l1 c1, .slice a2 l2 c2, .int .i64 lk, .int .i64 la, .int .i64 lt, .slice ra rl rc, .int .i64 fm, .string nm]] w fun e V' => e = .returned (.bool (mayO (⟨4, sh, row, col, f, vk, vn, vt, vb, ve, tk, tm, tt, tb, te, a1, l1, c1, a2, l2, c2, lk, la, lt, ra, rl, rc, fm, nm⟩ : Rv) X M mr)) ∧ Q w V' := by
  have HI := hid (fun V (q : Q w V) => id_any sh V (hg.on q).1 (by omega))
  obtain ⟨eb, heb⟩ := oe_ex (⟨4, sh, row, col, f, vk, vn, vt, vb, ve, tk, tm, tt, tb, te, a1, l1, c1, a2, l2, c2, lk, la, lt, none, 0, 0, 0, nm⟩ : Rv) (⟨4, sh, 0, 0, false, 0, 0, ⟨#[]⟩, false, 0, 0, 0, ⟨#[]⟩, false, 0, none, 0, 0, none, 0, 0, 0, 0, 0, none, 0, 0, 0, ⟨#[]⟩⟩ : Rv) X zeroE [] []
  have HE := hid (fun V (q : Q w V) => opeq_any (⟨4, sh, row, col, f, vk, vn, vt, vb, ve, tk, tm, tt, tb, te, a1, l1, c1, a2, l2, c2, lk, la, lt, none, 0, 0, 0, nm⟩ : Rv) (⟨4, sh, 0, 0, false, 0, 0, ⟨#[]⟩, false, 0, 0, 0, ⟨#[]⟩, false, 0, none, 0, 0, none, 0, 0, 0, 0, 0, none, 0, 0, 0, ⟨#[]⟩⟩ : Rv) X zeroE [] [] eb V ⟨Rd.on q _ _ ht, R.sl_nil V⟩ ⟨rd_zero V, R.sl_nil V⟩ hn (by simp) (by simp) heb)
  unfold Rv.v at HE
  have H1 := hid (fun V (q : Q w V) => mayRects_any _ M mr V (hr.on q) hmr)
  have H2 := hid (fun V (q : Q w V) => (mayFormat_any fm V).mono fun e V' h => (⟨h.1, h.2 ▸ Q.refl _⟩ : e = .returned (.bool (fmB fm)) ∧ Q V V'))
  refine (om4 4 sh (.int .i64 row) (.int .i64 col) (.bool f) (.int .i64 vk) (.int .i64 vn) (.string vt) (.bool vb) (.int .i64 ve) (.int .i64 tk) (.int .i64 tm) (.string tt) (.bool tb) (.int .i64 te) (.slice a1 l1 c1) (.slice a2 l2 c2) (.int .i64 lk) (.int .i64 la) (.int .i64 lt) (.slice ra rl rc) (.int .i64 fm) (.string nm) w mr (fmB fm) (idB sh.data.toList) eb (by decide) (by decide) (by decide) (by decide) (hid (by kernel_rfl)) H1 H2 HI HE).mono fun e V' h => ⟨h.1.trans (ret_bool ?_), h.2⟩
  have hz : eb = (zRow ⟨4, sh, row, col, f, vk, vn, vt, vb, ve, tk, tm, tt, tb, te, a1, l1, c1, a2, l2, c2, lk, la, lt, ra, rl, rc, fm, nm⟩ && (zCell ⟨4, sh, row, col, f, vk, vn, vt, vb, ve, tk, tm, tt, tb, te, a1, l1, c1, a2, l2, c2, lk, la, lt, ra, rl, rc, fm, nm⟩ X && (zLine ⟨4, sh, row, col, f, vk, vn, vt, vb, ve, tk, tm, tt, tb, te, a1, l1, c1, a2, l2, c2, lk, la, lt, ra, rl, rc, fm, nm⟩ && zNm ⟨4, sh, row, col, f, vk, vn, vt, vb, ve, tk, tm, tt, tb, te, a1, l1, c1, a2, l2, c2, lk, la, lt, ra, rl, rc, fm, nm⟩))) := by
    rw [Bool.eq_iff_iff, heb]
    simp only [oE, vE, zRow, zCell, zLine, zFm, zNm, Bool.and_eq_true, decide_eq_true_eq, isZ_iff, List.isEmpty_iff, true_and, and_true, e_nil]
    first | exact Iff.rfl | (constructor <;> (intro hh; simp_all))
  rw [hz]
  unfold mayO
  rw [if_neg (by simp), if_neg (by simp), if_pos rfl]
  simp only [Bool.and_true, Bool.true_and, Bool.and_assoc, Bool.and_comm, Bool.and_left_comm]
set_option maxRecDepth 100000 in
set_option maxHeartbeats 4000000 in
theorem opm5 (sh : ByteArray) (row : Int) (col : Int) (f : Bool) (vk : Int) (vn : Int) (vt : ByteArray) (vb : Bool) (ve : Int) (tk : Int) (tm : Int) (tt : ByteArray) (tb : Bool) (te : Int) (a1 : Option Addr) (l1 : Nat) (c1 : Nat) (a2 : Option Addr) (l2 : Nat) (c2 : Nat) (lk : Int) (la : Int) (lt : Int) (ra : Option Addr) (rl : Nat) (rc : Nat) (fm : Int) (nm : ByteArray) (X : Ex) (M : List R.Rg.Rc) (mr : Bool) (w : World) (hg : Gd w) (ht : Rd w X (.agg #[.int .i64 tk, .int .i64 tm, .string tt, .bool tb, .int .i64 te, .slice a1 l1 c1, .slice a2 l2 c2])) (hr : R.Sl R.rc 4 w (.slice ra rl rc) M) (hvt : vt.size ≤ 1000000) (hsh : sh.size ≤ 1000000) (hnm : nm.size ≤ 1000000) (hs : Sm X) (hn : nodes X ≤ 1000) (hM : M.length ≤ 1000000000000) (hmr : MR M mr) : Calls Tryz.prog 8 #[.agg #[.int .i64 5, .string sh, .int .i64 row, .int .i64 col, .bool f, .int .i64 vk, .int .i64 vn, .string vt, .bool vb, .int .i64 ve, .int .i64 tk, .int .i64 tm, .string tt, .bool tb, .int .i64 te, .slice a1 l1 c1, .slice a2 l2 c2, .int .i64 lk, .int .i64 la, .int .i64 lt, .slice ra rl rc, .int .i64 fm, .string nm]] w fun e V' => e = .returned (.bool (mayO (⟨5, sh, row, col, f, vk, vn, vt, vb, ve, tk, tm, tt, tb, te, a1, l1, c1, a2, l2, c2, lk, la, lt, ra, rl, rc, fm, nm⟩ : Rv) X M mr)) ∧ Q w V' := by
  have HI := hid (fun V (q : Q w V) => id_any sh V (hg.on q).1 (by omega))
  obtain ⟨eb, heb⟩ := oe_ex (⟨5, sh, row, col, f, vk, vn, vt, vb, ve, tk, tm, tt, tb, te, a1, l1, c1, a2, l2, c2, lk, la, lt, ra, rl, rc, fm, ⟨#[]⟩⟩ : Rv) (⟨5, sh, 0, 0, false, 0, 0, ⟨#[]⟩, false, 0, 0, 0, ⟨#[]⟩, false, 0, none, 0, 0, none, 0, 0, 0, 0, 0, none, 0, 0, 0, ⟨#[]⟩⟩ : Rv) X zeroE M []
  have HE := hid (fun V (q : Q w V) => opeq_any (⟨5, sh, row, col, f, vk, vn, vt, vb, ve, tk, tm, tt, tb, te, a1, l1, c1, a2, l2, c2, lk, la, lt, ra, rl, rc, fm, ⟨#[]⟩⟩ : Rv) (⟨5, sh, 0, 0, false, 0, 0, ⟨#[]⟩, false, 0, 0, 0, ⟨#[]⟩, false, 0, none, 0, 0, none, 0, 0, 0, 0, 0, none, 0, 0, 0, ⟨#[]⟩⟩ : Rv) X zeroE M [] eb V ⟨Rd.on q _ _ ht, hr.on q⟩ ⟨rd_zero V, R.sl_nil V⟩ hn hM (by simp) heb)
  unfold Rv.v at HE
  have H1 := hid (fun V (q : Q w V) => (mayName_any' nm V (by omega)).mono fun e V' h => (⟨h.1, h.2 ▸ Q.refl _⟩ : e = .returned (.bool (nmB nm.data.toList)) ∧ Q V V'))
  refine (om5 5 sh (.int .i64 row) (.int .i64 col) (.bool f) (.int .i64 vk) (.int .i64 vn) (.string vt) (.bool vb) (.int .i64 ve) (.int .i64 tk) (.int .i64 tm) (.string tt) (.bool tb) (.int .i64 te) (.slice a1 l1 c1) (.slice a2 l2 c2) (.int .i64 lk) (.int .i64 la) (.int .i64 lt) (.slice ra rl rc) (.int .i64 fm) (.string nm) w (nmB nm.data.toList) (idB sh.data.toList) eb (by decide) (by decide) (by decide) (by decide) (by decide) (hid (by kernel_rfl)) H1 HI HE).mono fun e V' h => ⟨h.1.trans (ret_bool ?_), h.2⟩
  have hz : eb = (zRow ⟨5, sh, row, col, f, vk, vn, vt, vb, ve, tk, tm, tt, tb, te, a1, l1, c1, a2, l2, c2, lk, la, lt, ra, rl, rc, fm, nm⟩ && (zCell ⟨5, sh, row, col, f, vk, vn, vt, vb, ve, tk, tm, tt, tb, te, a1, l1, c1, a2, l2, c2, lk, la, lt, ra, rl, rc, fm, nm⟩ X && (zLine ⟨5, sh, row, col, f, vk, vn, vt, vb, ve, tk, tm, tt, tb, te, a1, l1, c1, a2, l2, c2, lk, la, lt, ra, rl, rc, fm, nm⟩ && (M.isEmpty && zFm ⟨5, sh, row, col, f, vk, vn, vt, vb, ve, tk, tm, tt, tb, te, a1, l1, c1, a2, l2, c2, lk, la, lt, ra, rl, rc, fm, nm⟩)))) := by
    rw [Bool.eq_iff_iff, heb]
    simp only [oE, vE, zRow, zCell, zLine, zFm, zNm, Bool.and_eq_true, decide_eq_true_eq, isZ_iff, List.isEmpty_iff, true_and, and_true, e_nil]
    first | exact Iff.rfl | (constructor <;> (intro hh; simp_all))
  rw [hz]
  unfold mayO
  rw [if_neg (by simp), if_neg (by simp), if_neg (by simp), if_pos (by simp)]
  simp only [Bool.and_true, Bool.true_and, Bool.and_assoc, Bool.and_comm, Bool.and_left_comm]
set_option maxRecDepth 100000 in
set_option maxHeartbeats 4000000 in
theorem opm6 (sh : ByteArray) (row : Int) (col : Int) (f : Bool) (vk : Int) (vn : Int) (vt : ByteArray) (vb : Bool) (ve : Int) (tk : Int) (tm : Int) (tt : ByteArray) (tb : Bool) (te : Int) (a1 : Option Addr) (l1 : Nat) (c1 : Nat) (a2 : Option Addr) (l2 : Nat) (c2 : Nat) (lk : Int) (la : Int) (lt : Int) (ra : Option Addr) (rl : Nat) (rc : Nat) (fm : Int) (nm : ByteArray) (X : Ex) (M : List R.Rg.Rc) (mr : Bool) (w : World) (hg : Gd w) (ht : Rd w X (.agg #[.int .i64 tk, .int .i64 tm, .string tt, .bool tb, .int .i64 te, .slice a1 l1 c1, .slice a2 l2 c2])) (hr : R.Sl R.rc 4 w (.slice ra rl rc) M) (hvt : vt.size ≤ 1000000) (hsh : sh.size ≤ 1000000) (hnm : nm.size ≤ 1000000) (hs : Sm X) (hn : nodes X ≤ 1000) (hM : M.length ≤ 1000000000000) (hmr : MR M mr) : Calls Tryz.prog 8 #[.agg #[.int .i64 6, .string sh, .int .i64 row, .int .i64 col, .bool f, .int .i64 vk, .int .i64 vn, .string vt, .bool vb, .int .i64 ve, .int .i64 tk, .int .i64 tm, .string tt, .bool tb, .int .i64 te, .slice a1 l1 c1, .slice a2 l2 c2, .int .i64 lk, .int .i64 la, .int .i64 lt, .slice ra rl rc, .int .i64 fm, .string nm]] w fun e V' => e = .returned (.bool (mayO (⟨6, sh, row, col, f, vk, vn, vt, vb, ve, tk, tm, tt, tb, te, a1, l1, c1, a2, l2, c2, lk, la, lt, ra, rl, rc, fm, nm⟩ : Rv) X M mr)) ∧ Q w V' := by
  have HI := hid (fun V (q : Q w V) => id_any sh V (hg.on q).1 (by omega))
  obtain ⟨eb, heb⟩ := oe_ex (⟨6, sh, row, col, f, vk, vn, vt, vb, ve, tk, tm, tt, tb, te, a1, l1, c1, a2, l2, c2, lk, la, lt, ra, rl, rc, fm, ⟨#[]⟩⟩ : Rv) (⟨6, sh, 0, 0, false, 0, 0, ⟨#[]⟩, false, 0, 0, 0, ⟨#[]⟩, false, 0, none, 0, 0, none, 0, 0, 0, 0, 0, none, 0, 0, 0, ⟨#[]⟩⟩ : Rv) X zeroE M []
  have HE := hid (fun V (q : Q w V) => opeq_any (⟨6, sh, row, col, f, vk, vn, vt, vb, ve, tk, tm, tt, tb, te, a1, l1, c1, a2, l2, c2, lk, la, lt, ra, rl, rc, fm, ⟨#[]⟩⟩ : Rv) (⟨6, sh, 0, 0, false, 0, 0, ⟨#[]⟩, false, 0, 0, 0, ⟨#[]⟩, false, 0, none, 0, 0, none, 0, 0, 0, 0, 0, none, 0, 0, 0, ⟨#[]⟩⟩ : Rv) X zeroE M [] eb V ⟨Rd.on q _ _ ht, hr.on q⟩ ⟨rd_zero V, R.sl_nil V⟩ hn hM (by simp) heb)
  unfold Rv.v at HE
  have H1 := hid (fun V (q : Q w V) => (mayName_any' nm V (by omega)).mono fun e V' h => (⟨h.1, h.2 ▸ Q.refl _⟩ : e = .returned (.bool (nmB nm.data.toList)) ∧ Q V V'))
  refine (om6 6 sh (.int .i64 row) (.int .i64 col) (.bool f) (.int .i64 vk) (.int .i64 vn) (.string vt) (.bool vb) (.int .i64 ve) (.int .i64 tk) (.int .i64 tm) (.string tt) (.bool tb) (.int .i64 te) (.slice a1 l1 c1) (.slice a2 l2 c2) (.int .i64 lk) (.int .i64 la) (.int .i64 lt) (.slice ra rl rc) (.int .i64 fm) (.string nm) w (nmB nm.data.toList) (idB sh.data.toList) eb (by decide) (by decide) (by decide) (by decide) (by decide) (by decide) (hid (by kernel_rfl)) H1 HI HE).mono fun e V' h => ⟨h.1.trans (ret_bool ?_), h.2⟩
  have hz : eb = (zRow ⟨6, sh, row, col, f, vk, vn, vt, vb, ve, tk, tm, tt, tb, te, a1, l1, c1, a2, l2, c2, lk, la, lt, ra, rl, rc, fm, nm⟩ && (zCell ⟨6, sh, row, col, f, vk, vn, vt, vb, ve, tk, tm, tt, tb, te, a1, l1, c1, a2, l2, c2, lk, la, lt, ra, rl, rc, fm, nm⟩ X && (zLine ⟨6, sh, row, col, f, vk, vn, vt, vb, ve, tk, tm, tt, tb, te, a1, l1, c1, a2, l2, c2, lk, la, lt, ra, rl, rc, fm, nm⟩ && (M.isEmpty && zFm ⟨6, sh, row, col, f, vk, vn, vt, vb, ve, tk, tm, tt, tb, te, a1, l1, c1, a2, l2, c2, lk, la, lt, ra, rl, rc, fm, nm⟩)))) := by
    rw [Bool.eq_iff_iff, heb]
    simp only [oE, vE, zRow, zCell, zLine, zFm, zNm, Bool.and_eq_true, decide_eq_true_eq, isZ_iff, List.isEmpty_iff, true_and, and_true, e_nil]
    first | exact Iff.rfl | (constructor <;> (intro hh; simp_all))
  rw [hz]
  unfold mayO
  rw [if_neg (by simp), if_neg (by simp), if_neg (by simp), if_pos (by simp)]
  simp only [Bool.and_true, Bool.true_and, Bool.and_assoc, Bool.and_comm, Bool.and_left_comm]
set_option maxRecDepth 100000 in
set_option maxHeartbeats 4000000 in
theorem opm7 (sh : ByteArray) (row : Int) (col : Int) (f : Bool) (vk : Int) (vn : Int) (vt : ByteArray) (vb : Bool) (ve : Int) (tk : Int) (tm : Int) (tt : ByteArray) (tb : Bool) (te : Int) (a1 : Option Addr) (l1 : Nat) (c1 : Nat) (a2 : Option Addr) (l2 : Nat) (c2 : Nat) (lk : Int) (la : Int) (lt : Int) (ra : Option Addr) (rl : Nat) (rc : Nat) (fm : Int) (nm : ByteArray) (X : Ex) (M : List R.Rg.Rc) (mr : Bool) (w : World) (hg : Gd w) (ht : Rd w X (.agg #[.int .i64 tk, .int .i64 tm, .string tt, .bool tb, .int .i64 te, .slice a1 l1 c1, .slice a2 l2 c2])) (hr : R.Sl R.rc 4 w (.slice ra rl rc) M) (hvt : vt.size ≤ 1000000) (hsh : sh.size ≤ 1000000) (hnm : nm.size ≤ 1000000) (hs : Sm X) (hn : nodes X ≤ 1000) (hM : M.length ≤ 1000000000000) (hmr : MR M mr) : Calls Tryz.prog 8 #[.agg #[.int .i64 7, .string sh, .int .i64 row, .int .i64 col, .bool f, .int .i64 vk, .int .i64 vn, .string vt, .bool vb, .int .i64 ve, .int .i64 tk, .int .i64 tm, .string tt, .bool tb, .int .i64 te, .slice a1 l1 c1, .slice a2 l2 c2, .int .i64 lk, .int .i64 la, .int .i64 lt, .slice ra rl rc, .int .i64 fm, .string nm]] w fun e V' => e = .returned (.bool (mayO (⟨7, sh, row, col, f, vk, vn, vt, vb, ve, tk, tm, tt, tb, te, a1, l1, c1, a2, l2, c2, lk, la, lt, ra, rl, rc, fm, nm⟩ : Rv) X M mr)) ∧ Q w V' := by
  have HI := hid (fun V (q : Q w V) => id_any sh V (hg.on q).1 (by omega))
  obtain ⟨eb, heb⟩ := oe_ex (⟨7, sh, row, col, f, vk, vn, vt, vb, ve, tk, tm, tt, tb, te, a1, l1, c1, a2, l2, c2, lk, la, lt, ra, rl, rc, fm, nm⟩ : Rv) (⟨7, sh, 0, 0, false, 0, 0, ⟨#[]⟩, false, 0, 0, 0, ⟨#[]⟩, false, 0, none, 0, 0, none, 0, 0, 0, 0, 0, none, 0, 0, 0, ⟨#[]⟩⟩ : Rv) X zeroE M []
  have HE := hid (fun V (q : Q w V) => opeq_any (⟨7, sh, row, col, f, vk, vn, vt, vb, ve, tk, tm, tt, tb, te, a1, l1, c1, a2, l2, c2, lk, la, lt, ra, rl, rc, fm, nm⟩ : Rv) (⟨7, sh, 0, 0, false, 0, 0, ⟨#[]⟩, false, 0, 0, 0, ⟨#[]⟩, false, 0, none, 0, 0, none, 0, 0, 0, 0, 0, none, 0, 0, 0, ⟨#[]⟩⟩ : Rv) X zeroE M [] eb V ⟨Rd.on q _ _ ht, hr.on q⟩ ⟨rd_zero V, R.sl_nil V⟩ hn hM (by simp) heb)
  unfold Rv.v at HE
  refine (om7 7 sh (.int .i64 row) (.int .i64 col) (.bool f) (.int .i64 vk) (.int .i64 vn) (.string vt) (.bool vb) (.int .i64 ve) (.int .i64 tk) (.int .i64 tm) (.string tt) (.bool tb) (.int .i64 te) (.slice a1 l1 c1) (.slice a2 l2 c2) (.int .i64 lk) (.int .i64 la) (.int .i64 lt) (.slice ra rl rc) (.int .i64 fm) (.string nm) w  (idB sh.data.toList) eb (by decide) (by decide) (by decide) (by decide) (by decide) (by decide) (by decide) (hid (by kernel_rfl))  HI HE).mono fun e V' h => ⟨h.1.trans (ret_bool ?_), h.2⟩
  have hz : eb = (zRow ⟨7, sh, row, col, f, vk, vn, vt, vb, ve, tk, tm, tt, tb, te, a1, l1, c1, a2, l2, c2, lk, la, lt, ra, rl, rc, fm, nm⟩ && (zCell ⟨7, sh, row, col, f, vk, vn, vt, vb, ve, tk, tm, tt, tb, te, a1, l1, c1, a2, l2, c2, lk, la, lt, ra, rl, rc, fm, nm⟩ X && (zLine ⟨7, sh, row, col, f, vk, vn, vt, vb, ve, tk, tm, tt, tb, te, a1, l1, c1, a2, l2, c2, lk, la, lt, ra, rl, rc, fm, nm⟩ && (M.isEmpty && (zFm ⟨7, sh, row, col, f, vk, vn, vt, vb, ve, tk, tm, tt, tb, te, a1, l1, c1, a2, l2, c2, lk, la, lt, ra, rl, rc, fm, nm⟩ && zNm ⟨7, sh, row, col, f, vk, vn, vt, vb, ve, tk, tm, tt, tb, te, a1, l1, c1, a2, l2, c2, lk, la, lt, ra, rl, rc, fm, nm⟩))))) := by
    rw [Bool.eq_iff_iff, heb]
    simp only [oE, vE, zRow, zCell, zLine, zFm, zNm, Bool.and_eq_true, decide_eq_true_eq, isZ_iff, List.isEmpty_iff, true_and, and_true, e_nil]
    first | exact Iff.rfl | (constructor <;> (intro hh; simp_all))
  rw [hz]
  unfold mayO
  rw [if_neg (by simp), if_neg (by simp), if_neg (by simp), if_neg (by simp), decide_eq_true (rfl : (7 : Int) = 7)]
  simp only [Bool.and_true, Bool.true_and, Bool.and_assoc, Bool.and_comm, Bool.and_left_comm]
set_option maxRecDepth 100000 in
theorem opmay_any (x : Rv) (X : Ex) (M : List R.Rg.Rc) (mr : Bool) (w : World) (hg : Gd w) (hx : RO w x X M) (ok : OK1 x X M) (hmr : MR M mr) : Calls Tryz.prog 8 #[x.v] w fun e V' => e = .returned (.bool (mayO x X M mr)) ∧ Q w V' := by
  obtain ⟨ht, hr⟩ := hx
  obtain ⟨osh, onm, ovt, os, on, oM⟩ := ok
  obtain ⟨k, sh, row, col, f, vk, vn, vt, vb, ve, tk, tm, tt, tb, te, a1, l1, c1, a2, l2, c2, lk, la, lt, ra, rl, rc, fm, nm⟩ := x
  unfold Rv.v
  by_cases h1 : k = 1
  · subst h1
    exact opm1 sh row col f vk vn vt vb ve tk tm tt tb te a1 l1 c1 a2 l2 c2 lk la lt ra rl rc fm nm X M mr w hg ht hr ovt osh onm os on (by omega) hmr
  by_cases h2 : k = 2
  · subst h2
    exact opm2 sh row col f vk vn vt vb ve tk tm tt tb te a1 l1 c1 a2 l2 c2 lk la lt ra rl rc fm nm X M mr w hg ht hr ovt osh onm os on (by omega) hmr
  by_cases h3 : k = 3
  · subst h3
    exact opm3 sh row col f vk vn vt vb ve tk tm tt tb te a1 l1 c1 a2 l2 c2 lk la lt ra rl rc fm nm X M mr w hg ht hr ovt osh onm os on (by omega) hmr
  by_cases h4 : k = 4
  · subst h4
    exact opm4 sh row col f vk vn vt vb ve tk tm tt tb te a1 l1 c1 a2 l2 c2 lk la lt ra rl rc fm nm X M mr w hg ht hr ovt osh onm os on (by omega) hmr
  by_cases h5 : k = 5
  · subst h5
    exact opm5 sh row col f vk vn vt vb ve tk tm tt tb te a1 l1 c1 a2 l2 c2 lk la lt ra rl rc fm nm X M mr w hg ht hr ovt osh onm os on (by omega) hmr
  by_cases h6 : k = 6
  · subst h6
    exact opm6 sh row col f vk vn vt vb ve tk tm tt tb te a1 l1 c1 a2 l2 c2 lk la lt ra rl rc fm nm X M mr w hg ht hr ovt osh onm os on (by omega) hmr
  by_cases h7 : k = 7
  · subst h7
    exact opm7 sh row col f vk vn vt vb ve tk tm tt tb te a1 l1 c1 a2 l2 c2 lk la lt ra rl rc fm nm X M mr w hg ht hr ovt osh onm os on (by omega) hmr
  have H0 : Calls Tryz.prog 8 #[.agg #[.int .i64 k, .string sh, .int .i64 row, .int .i64 col, .bool f, .int .i64 vk, .int .i64 vn, .string vt, .bool vb, .int .i64 ve, .int .i64 tk, .int .i64 tm, .string tt, .bool tb, .int .i64 te, .slice a1 l1 c1, .slice a2 l2 c2, .int .i64 lk, .int .i64 la, .int .i64 lt, .slice ra rl rc, .int .i64 fm, .string nm]] w fun e V' => e = .returned (.bool false) ∧ Q w V' := om0 k sh (.int .i64 row) (.int .i64 col) (.bool f) (.int .i64 vk) (.int .i64 vn) (.string vt) (.bool vb) (.int .i64 ve) (.int .i64 tk) (.int .i64 tm) (.string tt) (.bool tb) (.int .i64 te) (.slice a1 l1 c1) (.slice a2 l2 c2) (.int .i64 lk) (.int .i64 la) (.int .i64 lt) (.slice ra rl rc) (.int .i64 fm) (.string nm) w (by simpa using h1) (by simpa using h2) (by simpa using h3) (by simpa using h4) (by simpa using h5) (by simpa using h6) (by simpa using h7) (hid (by kernel_rfl))
  refine H0.mono fun e V' h => ⟨h.1.trans (ret_bool ?_), h.2⟩
  unfold mayO
  rw [if_neg h1, if_neg (fun x => x.elim h2 h3), if_neg h4, if_neg (fun x => x.elim h5 h6), decide_eq_false h7]
  simp
theorem Rv.len (x : Rv) : x.L.length = 23 := rfl
theorem Rv.one (x : Rv) : x.L.toArray.all (·.oneCell') = true := by
  cases x
  unfold Rv.L
  kernel_rfl
/-- an operation whose answer is known -/
def OpG (W : World) (x : Rv) (b : Bool) : Prop := ∃ X M mr, RO W x X M ∧ OK1 x X M ∧ MR M mr ∧ b = mayO x X M mr
theorem OpG.on {W W' : World} {x : Rv} {b : Bool} (h : OpG W x b) (q : Q W W') : OpG W' x b := by
  obtain ⟨X, M, mr, h1, h2, h3, h4⟩ := h
  exact ⟨X, M, mr, h1.on q, h2, h3, h4⟩
theorem opmay_g (x : Rv) (b : Bool) (w : World) (hg : Gd w) (h : OpG w x b) : Calls Tryz.prog 8 #[.agg x.L.toArray] w fun e V' => e = .returned (.bool b) ∧ Q w V' := by
  obtain ⟨X, M, mr, h1, h2, h3, rfl⟩ := h
  exact opmay_any x X M mr w hg h1 h2 h3
def zero23 : Array Value := #[.int .i64 0, .string ⟨#[]⟩, .int .i64 0, .int .i64 0, .bool false, .int .i64 0, .int .i64 0, .string ⟨#[]⟩, .bool false, .int .i64 0, .int .i64 0, .int .i64 0, .string ⟨#[]⟩, .bool false, .int .i64 0, .slice none 0 0, .slice none 0 0, .int .i64 0, .int .i64 0, .int .i64 0, .slice none 0 0, .int .i64 0, .string ⟨#[]⟩]
/-- an operation laid into a block that was made just now -/
theorem wpl_lay (w : World) {ops : Array Oper} {rest : List Oper} {o : Oper} {a : Act} {Q : Exit → Act → World → Prop} (x y : Operand) (ho : o.op = .store 35 x y) (hgd : o.guard = none) (z : Rv)
    (hx : a.eval x = .pointer (some ⟨w.heap.size, 0, none⟩)) (hy : a.eval y = .agg z.L.toArray)
    {W : World} (hW : W = w.alloc (.cells zero23 35)) (h : wpList Tryz.prog ops Q rest (a.put o.dst undef) (w.alloc (.cells z.L.toArray 35))) : wpList Tryz.prog ops Q (o :: rest) a W := by
  subst hW
  refine wpList_store_row hgd 35 x y ho w.heap.size z.L.toArray hx hy 35 zero23 (heap_alloc_last w _) info35 rfl z.one ?_
  rw [World.setRow_alloc_new]
  exact h
/-- an operation out of a list -/
theorem wpl_loadm {w : World} {ops : Array Oper} {rest : List Oper} {o : Oper} {a : Act} {Q : Exit → Act → World → Prop} (x : Operand) (ho : o.op = .load 35 x) (hw : Region.wanted o (yielded ops a.tmps) = true)
    (b off : Nat) (z : Rv) (hz : w.rangeAt b off z.L) (hx : a.eval x = .pointer (some ⟨b, off, none⟩))
    (h : wpList Tryz.prog ops Q rest (a.put o.dst (.agg z.L.toArray)) w) : wpList Tryz.prog ops Q (o :: rest) a w := by
  simp only [wpList, hw, if_true]
  exact .inl (wp_load_mid 35 x ho b off hx z.L _ hz Tryz.underlying35 rfl info35 h)
theorem all_no' {xs : List Rv} {mb : Rv → Bool} {n : Nat} (h : n < xs.length) (hm : mb xs[n] = false) : xs.all mb = false := by
  rw [List.all_eq_false]
  exact ⟨_, List.getElem_mem h, by simp [hm]⟩
theorem all_succ {xs : List Rv} {mb : Rv → Bool} {n : Nat} (h : n < xs.length) (hm : mb xs[n] = true) (ha : (xs.take n).all mb = true) : (xs.take (n + 1)).all mb = true := by
  rw [List.take_succ_eq_append_getElem h, List.all_append, ha]
  simp [hm]
set_option maxRecDepth 100000 in
set_option maxHeartbeats 4000000 in
theorem batch_any (v : Value) (xs : List Rv) (mb : Rv → Bool) (w : World) (hg : Gd w) (h : Sl Rv.L 23 w v xs) (ho : ∀ x ∈ xs, OpG w x (mb x)) : Calls Tryz.prog 15 #[v] w fun e V' => e = .returned (.bool (decide (xs.length ≤ 32) && xs.all mb)) ∧ Q w V' := by
  have HS := hid h
  have HG := hid hg
  have HO := hid ho
  obtain ⟨ao, cap, rfl, h1, h2⟩ := h.len
  clear h hg ho
  have h3 : xs.length ≤ 9223372036854775807 := Nat.le_trans h1 (by unfold maxLen at h2; omega)
  by_cases h32 : (32 : Int) < (xs.length : Int)
  · have HR : Hid ((decide (xs.length ≤ 32) && xs.all mb) = false) := hid (by rw [decide_eq_false (by omega)]; rfl)
    generalize (decide (xs.length ≤ 32) && xs.all mb) = r at HR ⊢
    go_enter Tryz.func15, Tryz.ntmps15
    go_wp2_with fail
    go_ret
    exact ⟨ret_bool HR.out.symm, Q.refl _⟩
  · have HR : Hid ((decide (xs.length ≤ 32) && xs.all mb) = xs.all mb) := hid (by rw [decide_eq_true (by omega)]; rfl)
    generalize (decide (xs.length ≤ 32) && xs.all mb) = r at HR ⊢
    go_enter Tryz.func15, Tryz.ntmps15
    go_wp2_with fail
    go_loopw [10] (fun s W => ∃ (n : Nat), n ≤ xs.length ∧ s = .int .i64 n ∧ Hid ((xs.take n).all mb = true) ∧ Q w W) (fun s _ => xs.length - (intOf s).toNat)
    case atStart => exact ⟨0, Nat.zero_le _, rfl, hid rfl, Q.refl _⟩
    case round =>
      obtain ⟨n, hn, rfl, ha, hq⟩ := hrel
      have HQ := hid hq
      clear hq
      by_cases hlt : n < xs.length
      · have hlt' : (n : Int) < (xs.length : Int) := by omega
        obtain ⟨g, off, cap', e, _, _, hc⟩ := (HS.out.on HQ.out).at hlt
        cases e
        have HX := hid ((HO.out _ (List.getElem_mem hlt)).on HQ.out)
        have HRg : Hid (wr.rangeAt g (off + n * 23) (xs[n]).L) := hid (fun j u hu => hc j u hu)
        have HYes := hid (fun hm => all_succ hlt hm ha.out)
        have HNo := hid (fun hm => all_no' (mb := mb) hlt hm)
        clear hc
        generalize xs[n] = x at HX HRg HYes HNo
        cases hm : mb x
        · have HN := hid (HNo.out hm)
          rw [hm] at HX
          clear HYes HNo hm
          go_wp2_with (first
            | (with_reducible refine wpl_loadm _ (by with_unfolding_all rfl) (by with_unfolding_all rfl) g (off + n * 23) x (by with_unfolding_all exact HRg.out) (by with_unfolding_all rfl) ?_)
            | (with_reducible refine wpl_lay wr _ _ (by with_unfolding_all rfl) (by with_unfolding_all rfl) x (by with_unfolding_all rfl) (by with_unfolding_all rfl) (by with_unfolding_all rfl) ?_)
            | (with_reducible refine wpl_loadg _ (by with_unfolding_all rfl) (by with_unfolding_all rfl) wr.heap.size (by with_unfolding_all rfl) x.L (by with_unfolding_all exact cq_new wr x.L) (by with_unfolding_all rfl) ?_)
            | (go_at_call 8; refine (opmay_g x _ _ (HG.out.on (HQ.out.alloc _)) (HX.out.on ((Q.refl _).alloc _))).mono ?_; rintro e9 y1 ⟨rfl, q9⟩; have QY : Hid (Q w y1) := hid ((HQ.out.alloc _).trans q9); clear q9))
          go_ret
          exact ⟨ret_bool (by rw [HR.out, HN.out]), QY.out⟩
        · have HN := hid (HYes.out hm)
          rw [hm] at HX
          clear HYes HNo hm
          go_wp2_with (first
            | (with_reducible refine wpl_loadm _ (by with_unfolding_all rfl) (by with_unfolding_all rfl) g (off + n * 23) x (by with_unfolding_all exact HRg.out) (by with_unfolding_all rfl) ?_)
            | (with_reducible refine wpl_lay wr _ _ (by with_unfolding_all rfl) (by with_unfolding_all rfl) x (by with_unfolding_all rfl) (by with_unfolding_all rfl) (by with_unfolding_all rfl) ?_)
            | (with_reducible refine wpl_loadg _ (by with_unfolding_all rfl) (by with_unfolding_all rfl) wr.heap.size (by with_unfolding_all rfl) x.L (by with_unfolding_all exact cq_new wr x.L) (by with_unfolding_all rfl) ?_)
            | (go_at_call 8; refine (opmay_g x _ _ (HG.out.on (HQ.out.alloc _)) (HX.out.on ((Q.refl _).alloc _))).mono ?_; rintro e9 y1 ⟨rfl, q9⟩; have QY : Hid (Q w y1) := hid ((HQ.out.alloc _).trans q9); clear q9))
          go_roundw
          case rel => exact ⟨n + 1, by omega, by go_num, HN, QY.out⟩
          case measure => simp [intOf]; omega
      · have HN : Hid (xs.all mb = true) := by
          show _ = _
          have := ha.out
          rw [List.take_of_length_le (by omega)] at this
          exact this
        go_wp2_with fail
        go_ret
        exact ⟨ret_bool (by rw [HR.out, HN.out]), HQ.out⟩
theorem max4 (ts : Array TypeId) (t : TypeId) (x y z u : Int) (w : World) : (Builtin.max_ ts t #[.int .i64 x, .int .i64 y, .int .i64 z, .int .i64 u]).run Tryz.prog w = .ok (.int .i64 (max (max (max x y) z) u)) w := by
  have h : (if u > (if z > (if y > x then y else x) then z else (if y > x then y else x)) then u else (if z > (if y > x then y else x) then z else (if y > x then y else x))) = max (max (max x y) z) u := by omega
  rw [← h]
  simp [Builtin.max_, Builtin.max2, Sem.run_bind, Sem.run_pure]
def nlB (x : Rv) : Bool := decide (x.row ≤ 1099511627776 ∧ x.col ≤ 1099511627776 ∧ x.la ≤ 1099511627776 ∧ x.lt ≤ 1099511627776)
set_option maxRecDepth 100000 in
set_option maxHeartbeats 4000000 in
theorem near_any (x : Rv) (M : List R.Rg.Rc) (w : World) (h : R.Sl R.rc 4 w (.slice x.ra x.rl x.rc) M) : Calls Tryz.prog 37 #[.agg x.L.toArray] w fun e V' => e = .returned (.bool (nlB x && inB 1099511627776 M)) ∧ Q w V' := by
  have HN := hid (fun V (q : Q w V) => ends_any _ M 1099511627776 V (h.on q))
  generalize inB 1099511627776 M = mb at HN ⊢
  clear h
  have Z1 := hid (cq_new w x.L)
  have d2 := Z1.out.c 2 _ rfl
  have d3 := Z1.out.c 3 _ rfl
  have d18 := Z1.out.c 18 _ rfl
  have d19 := Z1.out.c 19 _ rfl
  have d20 := Z1.out.c 20 _ rfl
  have HB : Hid (nlB x = decide (x.row ≤ 1099511627776 ∧ x.col ≤ 1099511627776 ∧ x.la ≤ 1099511627776 ∧ x.lt ≤ 1099511627776)) := hid rfl
  generalize nlB x = nb at HB ⊢
  obtain ⟨row, hrow⟩ : ∃ r, r = x.row := ⟨_, rfl⟩
  obtain ⟨col, hcol⟩ : ∃ r, r = x.col := ⟨_, rfl⟩
  obtain ⟨la, hla⟩ : ∃ r, r = x.la := ⟨_, rfl⟩
  obtain ⟨lt, hlt⟩ : ∃ r, r = x.lt := ⟨_, rfl⟩
  rw [← hrow, ← hcol, ← hla, ← hlt] at HB
  rw [← hrow] at d2
  rw [← hcol] at d3
  rw [← hla] at d18
  rw [← hlt] at d19
  clear hrow hcol hla hlt
  generalize x.ra = ra at *
  generalize x.rl = rl at *
  generalize x.rc = rc at *
  go_enter Tryz.func37, Tryz.ntmps37
  go_upto_region 1 with fail
  have QA : Hid (Q w (w.alloc (.cells x.L.toArray 35))) := hid ((Q.refl w).alloc _)
  generalize w.alloc (.cells x.L.toArray 35) = w1 at *
  generalize w.heap.size = b0 at *
  obtain ⟨mx, hmx⟩ : ∃ m, max (max (max row col) la) lt = m := ⟨_, rfl⟩
  have HMX : ∀ W, (Builtin.max_ #[2, 2, 2, 2] 2 #[.int .i64 row, .int .i64 col, .int .i64 la, .int .i64 lt]).run Tryz.prog W = .ok (.int .i64 mx) W := fun W => by rw [max4, hmx]
  have HB2 : Hid (nb = decide (mx ≤ 1099511627776)) := hid (by rw [HB.out, Bool.eq_iff_iff, decide_eq_true_eq, decide_eq_true_eq]; omega)
  clear hmx HB
  cases nb with
  | true =>
    have hh := of_decide_eq_true HB2.out.symm
    go_wp2_with (go_at_call 49; refine (HN.out _ QA.out).mono ?_; rintro e9 y1 ⟨rfl, q9⟩; have QY : Hid (Q w y1) := hid (QA.out.trans q9); clear q9)
    go_ret
    exact ⟨ret_bool rfl, QY.out⟩
  | false =>
    have hh := of_decide_eq_false HB2.out.symm
    go_wp2_with (go_at_call 49; refine (HN.out _ QA.out).mono ?_; rintro e9 y1 ⟨rfl, q9⟩; have QY : Hid (Q w y1) := hid (QA.out.trans q9); clear q9)
    go_ret
    exact ⟨ret_bool rfl, QA.out⟩
/-- an operation whose answers are known: may it be, is it near -/
def OpE (W : World) (x : Rv) (b nb : Bool) : Prop := ∃ X M mr, RO W x X M ∧ OK1 x X M ∧ MR M mr ∧ b = mayO x X M mr ∧ nb = (nlB x && inB 1099511627776 M)
theorem OpE.on {W W' : World} {x : Rv} {b nb : Bool} (h : OpE W x b nb) (q : Q W W') : OpE W' x b nb := by
  obtain ⟨X, M, mr, h1, h2, h3, h4⟩ := h
  exact ⟨X, M, mr, h1.on q, h2, h3, h4⟩
theorem OpE.g {W : World} {x : Rv} {b nb : Bool} (h : OpE W x b nb) : OpG W x b := by
  obtain ⟨X, M, mr, h1, h2, h3, h4, _⟩ := h
  exact ⟨X, M, mr, h1, h2, h3, h4⟩
theorem near_g (x : Rv) (b nb : Bool) (w : World) (h : OpE w x b nb) : Calls Tryz.prog 37 #[.agg x.L.toArray] w fun e V' => e = .returned (.bool nb) ∧ Q w V' := by
  obtain ⟨X, M, mr, h1, h2, h3, _, rfl⟩ := h
  exact near_any x M w h1.r
/-- may a client make it? -/
def on1 (c : Int) (nb : Rv → Bool) (x : Rv) : Bool := nb x && (decide (x.k ≠ 5) || decide (ownK x.sh.data.toList = c))
def edB (c : Int) (xs : List Rv) (mb nb : Rv → Bool) : Bool := decide (0 ≤ c ∧ c < 16 ∧ 0 < xs.length) && ((decide (xs.length ≤ 32) && xs.all mb) && xs.all (on1 c nb))
set_option maxRecDepth 100000 in
set_option maxHeartbeats 8000000 in
theorem edit_any (c : Int) (v : Value) (xs : List Rv) (mb nb : Rv → Bool) (w : World) (hg : Gd w) (h : Sl Rv.L 23 w v xs) (ho : ∀ x ∈ xs, OpE w x (mb x) (nb x)) : Calls Tryz.prog 12 #[.int .i64 c, v] w fun e V' => e = .returned (.bool (edB c xs mb nb)) ∧ Q w V' := by
  have HS := hid h
  have HG := hid hg
  have HO := hid ho
  have HBt := hid (batch_any v xs mb w hg h (fun x hx => (ho x hx).g))
  obtain ⟨ao, cap, rfl, h1, h2⟩ := h.len
  clear h hg ho
  have h3 : xs.length ≤ 9223372036854775807 := Nat.le_trans h1 (by unfold maxLen at h2; omega)
  by_cases c0 : c < 0
  · have HR : Hid (edB c xs mb nb = false) := hid (by unfold edB; rw [decide_eq_false (by omega)]; rfl)
    generalize edB c xs mb nb = r at HR ⊢
    go_enter Tryz.func12, Tryz.ntmps12
    go_wp2_with fail
    go_ret
    exact ⟨ret_bool HR.out.symm, Q.refl _⟩
  by_cases c1 : 16 ≤ c
  · have HR : Hid (edB c xs mb nb = false) := hid (by unfold edB; rw [decide_eq_false (by omega)]; rfl)
    generalize edB c xs mb nb = r at HR ⊢
    go_enter Tryz.func12, Tryz.ntmps12
    go_wp2_with fail
    go_ret
    exact ⟨ret_bool HR.out.symm, Q.refl _⟩
  by_cases c2 : xs.length = 0
  · have HR : Hid (edB c xs mb nb = false) := hid (by unfold edB; rw [decide_eq_false (by omega)]; rfl)
    generalize edB c xs mb nb = r at HR ⊢
    have e0 : ((xs.length : Int) == 0) = true := by rw [c2]; rfl
    clear c2
    go_enter Tryz.func12, Tryz.ntmps12
    go_wp2_with fail
    go_ret
    exact ⟨ret_bool HR.out.symm, Q.refl _⟩
  have e0 : ((xs.length : Int) == 0) = false := by rw [beq_eq_false_iff_ne]; omega
  have HR : Hid (edB c xs mb nb = ((decide (xs.length ≤ 32) && xs.all mb) && xs.all (on1 c nb))) := hid (by unfold edB; rw [decide_eq_true (by omega)]; rfl)
  generalize edB c xs mb nb = r at HR ⊢
  obtain ⟨bt, hbt⟩ : ∃ bt, (decide (xs.length ≤ 32) && xs.all mb) = bt := ⟨_, rfl⟩
  rw [hbt] at HBt HR
  clear hbt c2
  cases bt with
  | false =>
    go_enter Tryz.func12, Tryz.ntmps12
    go_wp2_with (go_at_call 15; refine HBt.out.mono ?_; rintro e9 y1 ⟨rfl, q9⟩; have QY : Hid (Q w y1) := hid q9; clear q9)
    go_ret
    exact ⟨ret_bool (by rw [HR.out]; rfl), QY.out⟩
  | true =>
    rw [Bool.true_and] at HR
    go_enter Tryz.func12, Tryz.ntmps12
    go_wp2_with (go_at_call 15; refine HBt.out.mono ?_; rintro e9 y1 ⟨rfl, q9⟩; have QY : Hid (Q w y1) := hid q9; clear q9)
    go_loopw [25] (fun s W => ∃ (n : Nat), n ≤ xs.length ∧ s = .int .i64 n ∧ Hid ((xs.take n).all (on1 c nb) = true) ∧ Q w W) (fun s _ => xs.length - (intOf s).toNat)
    case atStart => exact ⟨0, Nat.zero_le _, rfl, hid rfl, QY.out⟩
    case round =>
      obtain ⟨n, hn, rfl, ha, hq⟩ := hrel
      have HQ := hid hq
      clear hq
      by_cases hlt : n < xs.length
      · have hlt' : (n : Int) < (xs.length : Int) := by omega
        obtain ⟨g, off, cap', e, _, _, hc⟩ := (HS.out.on HQ.out).at hlt
        cases e
        have HX := hid ((HO.out _ (List.getElem_mem hlt)).on HQ.out)
        have HRg : Hid (wr.rangeAt g (off + n * 23) (xs[n]).L) := hid (fun j u hu => hc j u hu)
        have HYes := hid (fun hm => all_succ (mb := on1 c nb) hlt hm ha.out)
        have HNo := hid (fun hm => all_no' (mb := on1 c nb) hlt hm)
        have hsz : (xs[n]).sh.size ≤ 1000000 := by obtain ⟨_, _, _, _, k1, _⟩ := HX.out; exact k1.sh
        clear hc
        generalize xs[n] = x at HX HRg HYes HNo hsz
        have HW := hid (fun V (q : Q w V) => owner_any x.sh V (HG.out.on q).1 (by omega))
        have HU : Hid (on1 c nb x = (nb x && (decide (x.k ≠ 5) || decide (ownK x.sh.data.toList = c)))) := hid rfl
        generalize on1 c nb x = ob at HYes HNo HU
        generalize ownK x.sh.data.toList = ow at HW HU
        clear hsz
        cases hm : nb x
        · have HN := hid (HNo.out (by rw [HU.out, hm]; rfl))
          rw [hm] at HX
          clear HYes HNo hm HU HW
          go_wp2_with (first
            | (with_reducible refine wpl_loadm _ (by with_unfolding_all rfl) (by with_unfolding_all rfl) g (off + n * 23) x (by with_unfolding_all exact HRg.out) (by with_unfolding_all rfl) ?_)
            | (with_reducible refine wpl_lay wr _ _ (by with_unfolding_all rfl) (by with_unfolding_all rfl) x (by with_unfolding_all rfl) (by with_unfolding_all rfl) (by with_unfolding_all rfl) ?_)
            | (with_reducible refine wpl_loadg _ (by with_unfolding_all rfl) (by with_unfolding_all rfl) wr.heap.size (by with_unfolding_all rfl) x.L (by with_unfolding_all exact cq_new wr x.L) (by with_unfolding_all rfl) ?_)
            | (go_at_call 37; refine (near_g x _ _ _ (HX.out.on ((Q.refl _).alloc _))).mono ?_; rintro e9 y2 ⟨rfl, q9⟩; have QY2 : Hid (Q w y2) := hid ((HQ.out.alloc _).trans q9); clear q9))
          go_ret
          exact ⟨ret_bool (by rw [HR.out, HN.out]), QY2.out⟩
        · rw [hm] at HX HU
          rw [Bool.true_and] at HU
          clear hm
          by_cases hk : x.k = 5
          · have ek : (x.k == 5) = true := by simpa using hk
            by_cases hw : ow = c
            · have ew : (ow != c) = false := by simpa using hw
              have HN := hid (HYes.out (by rw [HU.out, decide_eq_true hw]; simp))
              clear HYes HNo HU hw hk
              go_wp2_with (first
                | (with_reducible refine wpl_loadm _ (by with_unfolding_all rfl) (by with_unfolding_all rfl) g (off + n * 23) x (by with_unfolding_all exact HRg.out) (by with_unfolding_all rfl) ?_)
                | (with_reducible refine wpl_lay wr _ _ (by with_unfolding_all rfl) (by with_unfolding_all rfl) x (by with_unfolding_all rfl) (by with_unfolding_all rfl) (by with_unfolding_all rfl) ?_)
                | (with_reducible refine wpl_loadg _ (by with_unfolding_all rfl) (by with_unfolding_all rfl) wr.heap.size (by with_unfolding_all rfl) x.L (by with_unfolding_all exact cq_new wr x.L) (by with_unfolding_all rfl) ?_)
                | (go_at_call 37; refine (near_g x _ _ _ (HX.out.on ((Q.refl _).alloc _))).mono ?_; rintro e9 y2 ⟨rfl, q9⟩; have QY2 : Hid (Q w y2) := hid ((HQ.out.alloc _).trans q9); have ZY := hid ((cq_new wr x.L).on q9); clear q9; have d0 := ZY.out.c 0 _ rfl; have d1 := ZY.out.c 1 _ rfl)
                | (go_at_call 38; refine (HW.out _ QY2.out).mono ?_; rintro e9 y3 ⟨rfl, q9⟩; have QY3 : Hid (Q w y3) := hid (QY2.out.trans q9); clear q9))
              go_roundw
              case rel => exact ⟨n + 1, by omega, by go_num, HN, QY3.out⟩
              case measure => simp [intOf]; omega
            · have ew : (ow != c) = true := by simpa using hw
              have HN := hid (HNo.out (by rw [HU.out, decide_eq_false hw, decide_eq_false (fun x => x hk)]; rfl))
              clear HYes HNo HU hw hk
              go_wp2_with (first
                | (with_reducible refine wpl_loadm _ (by with_unfolding_all rfl) (by with_unfolding_all rfl) g (off + n * 23) x (by with_unfolding_all exact HRg.out) (by with_unfolding_all rfl) ?_)
                | (with_reducible refine wpl_lay wr _ _ (by with_unfolding_all rfl) (by with_unfolding_all rfl) x (by with_unfolding_all rfl) (by with_unfolding_all rfl) (by with_unfolding_all rfl) ?_)
                | (with_reducible refine wpl_loadg _ (by with_unfolding_all rfl) (by with_unfolding_all rfl) wr.heap.size (by with_unfolding_all rfl) x.L (by with_unfolding_all exact cq_new wr x.L) (by with_unfolding_all rfl) ?_)
                | (go_at_call 37; refine (near_g x _ _ _ (HX.out.on ((Q.refl _).alloc _))).mono ?_; rintro e9 y2 ⟨rfl, q9⟩; have QY2 : Hid (Q w y2) := hid ((HQ.out.alloc _).trans q9); have ZY := hid ((cq_new wr x.L).on q9); clear q9; have d0 := ZY.out.c 0 _ rfl; have d1 := ZY.out.c 1 _ rfl)
                | (go_at_call 38; refine (HW.out _ QY2.out).mono ?_; rintro e9 y3 ⟨rfl, q9⟩; have QY3 : Hid (Q w y3) := hid (QY2.out.trans q9); clear q9))
              go_ret
              exact ⟨ret_bool (by rw [HR.out, HN.out]), QY3.out⟩
          · have ek : (x.k == 5) = false := by simpa using hk
            have HN := hid (HYes.out (by rw [HU.out, decide_eq_true hk]; rfl))
            clear HYes HNo HU hk HW
            go_wp2_with (first
              | (with_reducible refine wpl_loadm _ (by with_unfolding_all rfl) (by with_unfolding_all rfl) g (off + n * 23) x (by with_unfolding_all exact HRg.out) (by with_unfolding_all rfl) ?_)
              | (with_reducible refine wpl_lay wr _ _ (by with_unfolding_all rfl) (by with_unfolding_all rfl) x (by with_unfolding_all rfl) (by with_unfolding_all rfl) (by with_unfolding_all rfl) ?_)
              | (with_reducible refine wpl_loadg _ (by with_unfolding_all rfl) (by with_unfolding_all rfl) wr.heap.size (by with_unfolding_all rfl) x.L (by with_unfolding_all exact cq_new wr x.L) (by with_unfolding_all rfl) ?_)
              | (go_at_call 37; refine (near_g x _ _ _ (HX.out.on ((Q.refl _).alloc _))).mono ?_; rintro e9 y2 ⟨rfl, q9⟩; have QY2 : Hid (Q w y2) := hid ((HQ.out.alloc _).trans q9); have ZY := hid ((cq_new wr x.L).on q9); clear q9; have d0 := ZY.out.c 0 _ rfl; have d1 := ZY.out.c 1 _ rfl))
            go_roundw
            case rel => exact ⟨n + 1, by omega, by go_num, HN, QY2.out⟩
            case measure => simp [intOf]; omega
      · have HN : Hid (xs.all (on1 c nb) = true) := by
          show _ = _
          have := ha.out
          rw [List.take_of_length_le (by omega)] at this
          exact this
        go_wp2_with fail
        go_ret
        exact ⟨ret_bool (by rw [HR.out, HN.out]), HQ.out⟩
theorem info35x : (Tryz.prog.info? 35).map (fun i => (i.zero, i.size)) = some (some (.agg zero23), 23) := by kernel_rfl
/-- a list of operations laid anew -/
theorem wpl_bsl {w : World} {ops : Array Oper} {rest : List Oper} {o : Oper} {a : Act} {Q : Exit → Act → World → Prop} (len : Nat) (parts : Array (Nat × Operand)) (ho : o.op = .buildSlice 42 len parts) (hw : Region.wanted o (yielded ops a.tmps) = true)
    (xs : List Rv) (hl : 0 < len ∧ len ≤ 1000)
    (hf : Instr.fill (fun i => some (i * 23, 23)) ((Array.range (len * 23)).map (zero23[· % zero23.size]!)) (parts.map fun (i, x) => (i, a.eval x)).toList = some (flat Rv.L xs).toArray)
    (h : wpList Tryz.prog ops Q rest (a.put o.dst (.slice (some ⟨w.heap.size, 0, none⟩) len len)) (w.alloc (.cells (flat Rv.L xs).toArray 35))) : wpList Tryz.prog ops Q (o :: rest) a w := by
  simp only [wpList, hw, if_true]
  cases hq : Tryz.prog.info? 35 with
  | none =>
    have hx := info35x
    rw [hq] at hx
    cases hx
  | some ie =>
    have hx := info35x
    rw [hq] at hx
    simp only [Option.map_some, Option.some.injEq, Prod.mk.injEq] at hx
    obtain ⟨hz, hs⟩ := hx
    refine .inl (wp_buildSlice 42 35 len parts ho (flat Rv.L xs).toArray ie (.agg zero23) Tryz.underlying42 hq hz (by rw [hs]; omega) (by rw [hs]; omega) ?_ h)
    rw [hs]
    exact hf
theorem sl_lit23 (W : World) (xs : List Rv) (hl : xs.length ≤ 1000) : Sl Rv.L 23 (W.alloc (.cells (flat Rv.L xs).toArray 35)) (.slice (some ⟨W.heap.size, 0, none⟩) xs.length xs.length) xs := by
  refine ⟨some ⟨W.heap.size, 0, none⟩, xs.length, rfl, Nat.le_refl _, by unfold maxLen; omega, fun _ => ⟨W.heap.size, 0, rfl, fun i hi j u hu => ?_⟩⟩
  have hj : j < 23 := (List.getElem?_eq_some_iff.1 hu).1
  rw [World.cell?_alloc_at _ _ _ _ rfl]
  rw [← hu, ← flat_at Rv.L Rv.len xs i hi j hj]
  simp
def opA : Rv := ⟨7, ⟨#[99, 48, 110, 48]⟩, 0, 0, false, 0, 0, ⟨#[]⟩, false, 0, 0, 0, ⟨#[]⟩, false, 0, none, 0, 0, none, 0, 0, 0, 0, 0, none, 0, 0, 0, ⟨#[]⟩⟩
def opB : Rv := ⟨5, ⟨#[99, 49, 110, 49]⟩, 0, 0, false, 0, 0, ⟨#[]⟩, false, 0, 0, 0, ⟨#[]⟩, false, 0, none, 0, 0, none, 0, 0, 0, 0, 0, none, 0, 0, 0, ⟨#[120]⟩⟩
theorem mr_nil : MR [] false := ⟨fun e => absurd e Bool.false_ne_true, fun e => absurd e.1 (by simp)⟩
theorem sm_zero : Sm zeroE := by unfold zeroE; simp [Sm, Sm.SmL]
theorem opA_e (W : World) : OpE W opA true true := ⟨zeroE, [], false, ⟨rd_zero W, R.sl_nil W⟩, ⟨by decide, by decide, by decide, sm_zero, by decide, by decide⟩, mr_nil, by kernel_rfl, by kernel_rfl⟩
theorem opB_e (W : World) : OpE W opB true true := ⟨zeroE, [], false, ⟨rd_zero W, R.sl_nil W⟩, ⟨by decide, by decide, by decide, sm_zero, by decide, by decide⟩, mr_nil, by kernel_rfl, by kernel_rfl⟩
theorem begA (V : World) (hg : Gd V) : Calls Tryz.prog 8 #[.agg opA.L.toArray] V fun e V' => e = .returned (.bool true) ∧ Q V V' := opmay_g opA true V hg (opA_e V).g
theorem begAB (V : World) (hg : Gd V) : Calls Tryz.prog 15 #[.slice (some ⟨V.heap.size, 0, none⟩) 2 2] (V.alloc (.cells (flat Rv.L [opA, opB]).toArray 35)) fun e V' => e = .returned (.bool true) ∧ Q V V' :=
  (batch_any _ [opA, opB] (fun _ => true) _ (hg.on ((Q.refl _).alloc _)) (sl_lit23 V [opA, opB] (by decide)) (fun x hx => by
    simp only [List.mem_cons, List.not_mem_nil, or_false] at hx
    rcases hx with rfl | rfl
    · exact (opA_e _).g
    · exact (opB_e _).g)).mono fun e V' h => ⟨h.1, ((Q.refl _).alloc _).trans h.2⟩
theorem begEd (c : Int) (r : Bool) (hr : edB c [opB] (fun _ => true) (fun _ => true) = r) (V : World) (hg : Gd V) : Calls Tryz.prog 12 #[.int .i64 c, .slice (some ⟨V.heap.size, 0, none⟩) 1 1] (V.alloc (.cells (flat Rv.L [opB]).toArray 35)) fun e V' => e = .returned (.bool r) ∧ Q V V' := by
  rw [← hr]
  exact (edit_any c _ [opB] (fun _ => true) (fun _ => true) _ (hg.on ((Q.refl _).alloc _)) (sl_lit23 V [opB] (by decide)) (fun x hx => by
    simp only [List.mem_cons, List.not_mem_nil, or_false] at hx
    subst hx
    exact opB_e _)).mono fun e V' h => ⟨h.1, ((Q.refl _).alloc _).trans h.2⟩
theorem begAA (V : World) : Calls Tryz.prog 10 #[.agg opA.L.toArray, .agg opA.L.toArray] V fun e V' => e = .returned (.bool true) ∧ Q V V' :=
  opeq_any opA opA zeroE zeroE [] [] true V ⟨rd_zero V, R.sl_nil V⟩ ⟨rd_zero V, R.sl_nil V⟩ (by decide) (by decide) (by decide) ⟨fun _ => ⟨rfl, rfl, rfl, rfl, ⟨rfl, rfl, rfl⟩, rfl, rfl, rfl, rfl, ⟨rfl, rfl, rfl, rfl, rfl⟩, rfl⟩, fun _ => rfl⟩
theorem begANB (V : World) : Calls Tryz.prog 10 #[.agg opA.L.toArray, .agg opB.L.toArray] V fun e V' => e = .returned (.bool false) ∧ Q V V' :=
  opeq_any opA opB zeroE zeroE [] [] false V ⟨rd_zero V, R.sl_nil V⟩ ⟨rd_zero V, R.sl_nil V⟩ (by decide) (by decide) (by decide) ⟨fun e => absurd e Bool.false_ne_true, fun e => absurd e.1 (by decide)⟩
theorem begN (V : World) (hg : Gd V) : Calls Tryz.prog 15 #[.slice none 0 0] V fun e V' => e = .returned (.bool true) ∧ Q V V' :=
  batch_any _ [] (fun _ => true) V hg (sl_nil V) (fun x hx => absurd hx (by simp))
set_option maxRecDepth 100000 in
set_option maxHeartbeats 8000000 in
theorem begun_any (w : World) (hg : Gd w) : Calls Tryz.prog 6 #[] w fun e V' => e = .returned (.bool true) ∧ Q w V' := by
  have HG := hid hg
  clear hg
  have HE1 := hid (begEd 1 true (by kernel_rfl))
  have HE2 := hid (begEd 2 false (by kernel_rfl))
  go_enter Tryz.func6, Tryz.ntmps6
  go_upto_region 2 with (first
    | (with_reducible refine wpl_buildt 35 _ (by with_unfolding_all rfl) (by with_unfolding_all rfl) opA.L.toArray (by kernel_rfl) ?_)
    | (with_reducible refine wpl_lay w _ _ (by with_unfolding_all rfl) (by with_unfolding_all rfl) opA (by with_unfolding_all rfl) (by with_unfolding_all rfl) (by with_unfolding_all rfl) ?_))
  have ZA := hid (cq_new w opA.L)
  have QA : Hid (Q w (w.alloc (.cells opA.L.toArray 35))) := hid ((Q.refl w).alloc _)
  generalize w.alloc (.cells opA.L.toArray 35) = w1 at ZA QA ⊢
  generalize w.heap.size = p at ZA ⊢
  go_upto_region 3 with (first
    | (with_reducible refine wpl_buildt 35 _ (by with_unfolding_all rfl) (by with_unfolding_all rfl) opB.L.toArray (by kernel_rfl) ?_)
    | (with_reducible refine wpl_lay w1 _ _ (by with_unfolding_all rfl) (by with_unfolding_all rfl) opB (by with_unfolding_all rfl) (by with_unfolding_all rfl) (by with_unfolding_all rfl) ?_))
  have HZ : Hid (∀ V, Q (w1.alloc (.cells opB.L.toArray 35)) V → Cq V p opA.L ∧ Cq V w1.heap.size opB.L ∧ Gd V ∧ Q w V) := hid (fun V q => ⟨(ZA.out.on ((Q.refl _).alloc _)).on q, (cq_new w1 opB.L).on q, HG.out.on ((QA.out.alloc _).trans q), (QA.out.alloc _).trans q⟩)
  clear ZA QA HG
  generalize w1.alloc (.cells opB.L.toArray 35) = w2 at HZ ⊢
  generalize w1.heap.size = q at HZ ⊢
  have Q0 : Q w2 w2 := Q.refl _
  go_wp2_with (first
    | (with_reducible refine wpl_loadg _ (by with_unfolding_all rfl) (by with_unfolding_all rfl) p (by with_unfolding_all rfl) opA.L (by with_unfolding_all exact (HZ.out _ (by assumption)).1) (by with_unfolding_all rfl) ?_)
    | (with_reducible refine wpl_loadg _ (by with_unfolding_all rfl) (by with_unfolding_all rfl) q (by with_unfolding_all rfl) opB.L (by with_unfolding_all exact (HZ.out _ (by assumption)).2.1) (by with_unfolding_all rfl) ?_)
    | (with_reducible refine wpl_bsl 2 _ (by with_unfolding_all rfl) (by with_unfolding_all rfl) [opA, opB] (by decide) (by kernel_rfl) ?_)
    | (with_reducible refine wpl_bsl 1 _ (by with_unfolding_all rfl) (by with_unfolding_all rfl) [opB] (by decide) (by kernel_rfl) ?_)
    | (go_at_call 15; have hQ := Q6; refine (begN _ (HZ.out _ Q6).2.2.1).mono ?_; rintro e9 y7 ⟨rfl, q9⟩; have Q7 : Q w2 y7 := Q6.trans q9; clear q9 hQ)
    | (go_at_call 10; have hQ := Q5; refine (begANB _).mono ?_; rintro e9 y6 ⟨rfl, q9⟩; have Q6 : Q w2 y6 := Q5.trans q9; clear q9 hQ)
    | (go_at_call 10; have hQ := Q4; refine (begAA _).mono ?_; rintro e9 y5 ⟨rfl, q9⟩; have Q5 : Q w2 y5 := Q4.trans q9; clear q9 hQ)
    | (go_at_call 12; have hQ := Q3; refine (HE2.out _ (HZ.out _ Q3).2.2.1).mono ?_; rintro e9 y4 ⟨rfl, q9⟩; have Q4 : Q w2 y4 := Q3.trans q9; clear q9 hQ)
    | (go_at_call 12; have hQ := Q2; refine (HE1.out _ (HZ.out _ Q2).2.2.1).mono ?_; rintro e9 y3 ⟨rfl, q9⟩; have Q3 : Q w2 y3 := Q2.trans q9; clear q9 hQ)
    | (go_at_call 15; have hQ := Q1; refine (begAB _ (HZ.out _ Q1).2.2.1).mono ?_; rintro e9 y2 ⟨rfl, q9⟩; have Q2 : Q w2 y2 := Q1.trans q9; clear q9 hQ)
    | (go_at_call 8; refine (begA _ (HZ.out _ Q0).2.2.1).mono ?_; rintro e9 y1 ⟨rfl, q9⟩; have Q1 : Q w2 y1 := Q0.trans q9; clear q9))
  go_ret
  exact ⟨rfl, (HZ.out _ Q7).2.2.2⟩
end Go.Proofs.YtngnakdbhkjbjaaGreatDoor
namespace Go.Proofs.YtngnakdbhkjbjaaGreatDoor
open Go.RowKit
open IV
set_option linter.unusedVariables false
set_option linter.unusedSimpArgs false
section
variable {ops : Array Oper} {Q : Exit → Act → World → Prop} {a0 : Act} {ds : List Nat} {J : (Nat → Value) → World → Prop} {v : Nat → Value} {w : World} {i : Nat} {o : Oper} {d t t' b off g : Nat} {z : Rv}
theorem opw_loadm (ho : ops[i]? = some o) (hg : o.guard = none) (hop : o.op = .load 35 (.tmp t)) (hd : o.dst = some d) (hm : d ∈ ds) (ht : t ∈ ds) (hts : (a0.tmps[t]?).isSome = true) (hv : v t = .pointer (some ⟨b, off, none⟩)) (hr : w.rangeAt b off z.L) (hI : J (up v d (.agg z.L.toArray)) w) :
    WO Tryz.prog ops Q i (Ks a0 ds J) (frm a0 ds v) w :=
  opw_wp ho hg (wp_load_mid 35 (.tmp t) hop b off ((frm_eval ht hts).trans hv) z.L _ hr Tryz.underlying35 rfl info35 (ks_put hd hm hI))
theorem opw_storer (ho : ops[i]? = some o) (hg : o.guard = none) (hop : o.op = .store 35 (.tmp t) (.tmp t')) (hd : o.dst = none) (ht : t ∈ ds) (hts : (a0.tmps[t]?).isSome = true) (ht' : t' ∈ ds) (hts' : (a0.tmps[t']?).isSome = true) (hv : v t = .pointer (some ⟨g, 0, none⟩)) (hv' : v t' = .agg z.L.toArray) (hq : Cq w g zero23.toList) (hI : J v (w.setRow g z.L.toArray)) :
    WO Tryz.prog ops Q i (Ks a0 ds J) (frm a0 ds v) w :=
  opw_wp ho hg (wp_store_row 35 (.tmp t) (.tmp t') hop g z.L.toArray ((frm_eval ht hts).trans hv) ((frm_eval ht' hts').trans hv') 35 zero23 hq.h info35 rfl z.one (ks_non hd hI))
end
/-- what the moves and loads yield -/
def val7 (b off k : Nat) (x : Rv) (j : Nat) : Value := match j % 4 with | 0 => .slice (some ⟨b, off, none⟩) 7 7 | 1 => .int .i64 k | 2 => .pointer (some ⟨b, off + k * 23, none⟩) | _ => .agg x.L.toArray
structure F7 (w : World) (b off k : Nat) (x : Rv) (L : Nat → Bool) (v : Nat → Value) (W : World) : Prop where
  q : Q w W
  mv : ∀ j, j < 20 → L j = true → v (33 + j) = val7 b off k x j
  bl : ∀ i, i < 5 → L (20 + i) = true → ∃ g, v (3 + i) = .pointer (some ⟨g, 0, none⟩) ∧ w.heap.size ≤ g ∧ (L (25 + i) = false → Cq W g zero23.toList) ∧ (L (25 + i) = true → Cq W g x.L)
  ne : ∀ i j, i < 5 → j < 5 → i ≠ j → L (20 + i) = true → L (20 + j) = true → v (3 + i) ≠ v (3 + j)
  cl : ∀ i, i < 5 → L (25 + i) = true → L (20 + i) = true
section
variable {w W : World} {b off k : Nat} {x : Rv} {L : Nat → Bool} {v : Nat → Value}
theorem F7.m (J : F7 w b off k x L v W) (j : Nat) (hj : j < 20) : F7 w b off k x (ul L j) (up v (33 + j) (val7 b off k x j)) W := by
  refine ⟨J.q, fun i hi h => ?_, fun i hi h => ?_, fun i i' hi hi' hn h h' => ?_, fun i hi h => ?_⟩
  · by_cases e : i = j
    · subst e; exact up_same
    · rw [ul_ne e] at h
      rw [up_ne (by omega)]
      exact J.mv i hi h
  · rw [ul_ne (by omega)] at h
    rw [up_ne (by omega), ul_ne (by omega)]
    exact J.bl i hi h
  · rw [ul_ne (by omega)] at h h'
    rw [up_ne (by omega), up_ne (by omega)]
    exact J.ne i i' hi hi' hn h h'
  · rw [ul_ne (by omega)] at h ⊢
    exact J.cl i hi h
theorem F7.a (J : F7 w b off k x L v W) (i : Nat) (hi : i < 5) (hL : L (20 + i) = false) : F7 w b off k x (ul L (20 + i)) (up v (3 + i) (.pointer (some ⟨W.heap.size, 0, none⟩))) (W.alloc (.cells zero23 35)) := by
  have hq : Q W (W.alloc (.cells zero23 35)) := (Q.refl _).alloc _
  have hne : ∀ j, j < 5 → j ≠ i → L (20 + j) = true → v (3 + j) ≠ .pointer (some ⟨W.heap.size, 0, none⟩) := by
    intro j hj hji h he
    obtain ⟨g, h1, h2, h3, h4⟩ := J.bl j hj h
    have hl : g < W.heap.size := by
      cases hh : L (25 + j)
      · exact (h3 hh).l
      · exact (h4 hh).l
    rw [h1] at he
    simp only [Value.pointer.injEq, Option.some.injEq, Addr.mk.injEq] at he
    omega
  refine ⟨J.q.alloc _, fun j hj h => ?_, fun j hj h => ?_, fun j j' hj hj' hn h h' => ?_, fun j hj h => ?_⟩
  · rw [ul_ne (by omega)] at h
    rw [up_ne (by omega)]
    exact J.mv j hj h
  · rw [ul_ne (by omega)]
    by_cases e : j = i
    · subst e
      refine ⟨W.heap.size, up_same, J.q.size, fun _ => ?_, fun hh => ?_⟩
      · exact cq_new W zero23.toList
      · have := J.cl j hj hh
        rw [hL] at this
        cases this
    · rw [ul_ne (by omega)] at h
      rw [up_ne (by omega)]
      obtain ⟨g, h1, h2, h3, h4⟩ := J.bl j hj h
      exact ⟨g, h1, h2, fun a => (h3 a).on hq, fun a => (h4 a).on hq⟩
  · by_cases e : j = i
    · subst e
      rw [ul_ne (by omega)] at h'
      rw [up_same, up_ne (by omega)]
      exact fun e => hne j' hj' (fun h => hn h.symm) h' e.symm
    · rw [ul_ne (by omega)] at h
      by_cases e' : j' = i
      · subst e'
        rw [up_same, up_ne (by omega)]
        exact hne j hj e h
      · rw [ul_ne (by omega)] at h'
        rw [up_ne (by omega), up_ne (by omega)]
        exact J.ne j j' hj hj' hn h h'
  · rw [ul_ne (by omega)] at h
    by_cases e : j = i
    · subst e; exact ul_same
    · rw [ul_ne (by omega)]
      exact J.cl j hj h
theorem Cq.row {W : World} {q : Nat} {cs : List Value} (h : Cq W q cs) (ds : List Value) : Cq (W.setRow q ds.toArray) q ds := ⟨setRow_heap W q _ _ _ _ h.h⟩
theorem Cq.orow {W : World} {q p : Nat} {cs : List Value} (h : Cq W q cs) (hp : q ≠ p) (ds : Array Value) : Cq (W.setRow p ds) q cs := ⟨(setRow_other W p q ds hp).trans h.h⟩
theorem F7.s (J : F7 w b off k x L v W) (i : Nat) (hi : i < 5) (hL : L (25 + i) = false) (h20 : L (20 + i) = true) (g : Nat) (hg : v (3 + i) = .pointer (some ⟨g, 0, none⟩)) : F7 w b off k x (ul L (25 + i)) v (W.setRow g x.L.toArray) := by
  obtain ⟨g', e1, e2, e3, _⟩ := J.bl i hi h20
  rw [hg] at e1
  simp at e1
  subst e1
  refine ⟨below_setRow J.q e2 _, fun j hj h => ?_, fun j hj h => ?_, fun j j' hj hj' hn h h' => ?_, fun j hj h => ?_⟩
  · rw [ul_ne (by omega)] at h
    exact J.mv j hj h
  · rw [ul_ne (by omega)] at h
    by_cases e : j = i
    · subst e
      exact ⟨g, hg, e2, fun a => (by rw [ul_same] at a; cases a), fun _ => (e3 hL).row _⟩
    · rw [ul_ne (by omega)]
      obtain ⟨g2, h1, h2, h3, h4⟩ := J.bl j hj h
      have hne : g2 ≠ g := by
        intro he
        subst he
        exact J.ne j i hj hi e h h20 (by rw [h1, hg])
      exact ⟨g2, h1, h2, fun a => (h3 a).orow hne _, fun a => (h4 a).orow hne _⟩
  · rw [ul_ne (by omega)] at h h'
    exact J.ne j j' hj hj' hn h h'
  · rw [ul_ne (by omega)]
    by_cases e : j = i
    · subst e; exact h20
    · rw [ul_ne (by omega)] at h
      exact J.cl j hj h
theorem F7.start {v : Nat → Value} (q : Q w W) : F7 w b off k x (fun _ => false) v W := ⟨q, fun _ _ h => (by cases h), fun _ _ h => (by cases h), fun _ _ _ _ _ h => (by cases h), fun _ _ h => (by cases h)⟩
end
end Go.Proofs.YtngnakdbhkjbjaaGreatDoor
namespace Go.Proofs.YtngnakdbhkjbjaaGreatDoor
open Go.RowKit
def Rv.va (x : Rv) : Rv := { x with row := x.row + 5 }
def Rv.vb1 (x : Rv) : Rv := { x with lt := 9 }
def Rv.vc (x : Rv) : Rv := { x with fm := x.fm + 3 }
def Rv.vd (x : Rv) : Rv := { x with nm := x.nm ++ ⟨#[121]⟩ }
def Rv.ve1 (x : Rv) : Rv := { x with vk := 3, vn := 0, vt := ⟨#[]⟩, vb := false, ve := 0 }
/-- an operation, and its five copies -/
structure FA (W : World) (x : Rv) : Prop where
  o : OpG W x true
  a : OpG W x.va (x.k == 1)
  b : OpG W x.vb1 false
  c : OpG W x.vc (x.k == 4)
  d : OpG W x.vd (x.k == 5 || x.k == 6)
  e : OpG W x.ve1 (x.k == 1)
  r : 0 ≤ x.row ∧ x.row ≤ 100
  f : 0 ≤ x.fm ∧ x.fm ≤ 100
  n : x.nm.size ≤ 100
def f1 : Rv := ⟨1, ⟨#[99, 48, 110, 48]⟩, 1, 0, false, 0, 0, ⟨#[]⟩, false, 0, 0, 0, ⟨#[]⟩, false, 0, none, 0, 0, none, 0, 0, 0, 0, 0, none, 0, 0, 0, ⟨#[]⟩⟩
def f2 : Rv := ⟨2, ⟨#[99, 48, 110, 48]⟩, 0, 0, false, 0, 0, ⟨#[]⟩, false, 0, 0, 0, ⟨#[]⟩, false, 0, none, 0, 0, none, 0, 0, 1, 0, 0, none, 0, 0, 0, ⟨#[]⟩⟩
def f3 : Rv := ⟨3, ⟨#[99, 48, 110, 48]⟩, 0, 0, false, 0, 0, ⟨#[]⟩, false, 0, 0, 0, ⟨#[]⟩, false, 0, none, 0, 0, none, 0, 0, 2, 0, 0, none, 0, 0, 0, ⟨#[]⟩⟩
def f4 (g : Nat) : Rv := ⟨4, ⟨#[99, 48, 110, 48]⟩, 0, 0, false, 0, 0, ⟨#[]⟩, false, 0, 0, 0, ⟨#[]⟩, false, 0, none, 0, 0, none, 0, 0, 0, 0, 0, some ⟨g, 0, none⟩, 1, 1, 0, ⟨#[]⟩⟩
def f5 : Rv := ⟨5, ⟨#[99, 48, 110, 48]⟩, 0, 0, false, 0, 0, ⟨#[]⟩, false, 0, 0, 0, ⟨#[]⟩, false, 0, none, 0, 0, none, 0, 0, 0, 0, 0, none, 0, 0, 0, ⟨#[120]⟩⟩
def f6 : Rv := ⟨6, ⟨#[99, 48, 110, 48]⟩, 0, 0, false, 0, 0, ⟨#[]⟩, false, 0, 0, 0, ⟨#[]⟩, false, 0, none, 0, 0, none, 0, 0, 0, 0, 0, none, 0, 0, 0, ⟨#[120]⟩⟩
def f7 : Rv := ⟨7, ⟨#[99, 48, 110, 48]⟩, 0, 0, false, 0, 0, ⟨#[]⟩, false, 0, 0, 0, ⟨#[]⟩, false, 0, none, 0, 0, none, 0, 0, 0, 0, 0, none, 0, 0, 0, ⟨#[]⟩⟩
theorem og (W : World) (x : Rv) (b : Bool) (h1 : x.sh.size ≤ 1000000) (h2 : x.nm.size ≤ 1000000) (h3 : x.vt.size ≤ 1000000)
    (ht : (x.tk = 0 ∧ x.tm = 0 ∧ x.tt = ⟨#[]⟩ ∧ x.tb = false ∧ x.te = 0 ∧ x.a1 = none ∧ x.l1 = 0 ∧ x.c1 = 0 ∧ x.a2 = none ∧ x.l2 = 0 ∧ x.c2 = 0) ∧ x.ra = none ∧ x.rl = 0 ∧ x.rc = 0)
    (hb : b = mayO x zeroE [] false) : OpG W x b := by
  obtain ⟨⟨e1, e2, e3, e4, e5, e6, e7, e8, e9, e10, e11⟩, e12, e13, e14⟩ := ht
  refine ⟨zeroE, [], false, ⟨?_, ?_⟩, ⟨h1, h2, h3, sm_zero, by decide, by decide⟩, mr_nil, hb⟩
  · rw [e1, e2, e3, e4, e5, e6, e7, e8, e9, e10, e11]
    exact rd_zero W
  · rw [e12, e13, e14]
    exact R.sl_nil W
theorem fa1 (W : World) : FA W f1 := ⟨(og W _ _ (by decide) (by decide) (by decide) ⟨⟨rfl, rfl, rfl, rfl, rfl, rfl, rfl, rfl, rfl, rfl, rfl⟩, rfl, rfl, rfl⟩ (by kernel_rfl)), (og W _ _ (by decide) (by decide) (by decide) ⟨⟨rfl, rfl, rfl, rfl, rfl, rfl, rfl, rfl, rfl, rfl, rfl⟩, rfl, rfl, rfl⟩ (by kernel_rfl)), (og W _ _ (by decide) (by decide) (by decide) ⟨⟨rfl, rfl, rfl, rfl, rfl, rfl, rfl, rfl, rfl, rfl, rfl⟩, rfl, rfl, rfl⟩ (by kernel_rfl)), (og W _ _ (by decide) (by decide) (by decide) ⟨⟨rfl, rfl, rfl, rfl, rfl, rfl, rfl, rfl, rfl, rfl, rfl⟩, rfl, rfl, rfl⟩ (by kernel_rfl)), (og W _ _ (by decide) (by decide) (by decide) ⟨⟨rfl, rfl, rfl, rfl, rfl, rfl, rfl, rfl, rfl, rfl, rfl⟩, rfl, rfl, rfl⟩ (by kernel_rfl)), (og W _ _ (by decide) (by decide) (by decide) ⟨⟨rfl, rfl, rfl, rfl, rfl, rfl, rfl, rfl, rfl, rfl, rfl⟩, rfl, rfl, rfl⟩ (by kernel_rfl)), by decide, by decide, by decide⟩
theorem fa2 (W : World) : FA W f2 := ⟨(og W _ _ (by decide) (by decide) (by decide) ⟨⟨rfl, rfl, rfl, rfl, rfl, rfl, rfl, rfl, rfl, rfl, rfl⟩, rfl, rfl, rfl⟩ (by kernel_rfl)), (og W _ _ (by decide) (by decide) (by decide) ⟨⟨rfl, rfl, rfl, rfl, rfl, rfl, rfl, rfl, rfl, rfl, rfl⟩, rfl, rfl, rfl⟩ (by kernel_rfl)), (og W _ _ (by decide) (by decide) (by decide) ⟨⟨rfl, rfl, rfl, rfl, rfl, rfl, rfl, rfl, rfl, rfl, rfl⟩, rfl, rfl, rfl⟩ (by kernel_rfl)), (og W _ _ (by decide) (by decide) (by decide) ⟨⟨rfl, rfl, rfl, rfl, rfl, rfl, rfl, rfl, rfl, rfl, rfl⟩, rfl, rfl, rfl⟩ (by kernel_rfl)), (og W _ _ (by decide) (by decide) (by decide) ⟨⟨rfl, rfl, rfl, rfl, rfl, rfl, rfl, rfl, rfl, rfl, rfl⟩, rfl, rfl, rfl⟩ (by kernel_rfl)), (og W _ _ (by decide) (by decide) (by decide) ⟨⟨rfl, rfl, rfl, rfl, rfl, rfl, rfl, rfl, rfl, rfl, rfl⟩, rfl, rfl, rfl⟩ (by kernel_rfl)), by decide, by decide, by decide⟩
theorem fa3 (W : World) : FA W f3 := ⟨(og W _ _ (by decide) (by decide) (by decide) ⟨⟨rfl, rfl, rfl, rfl, rfl, rfl, rfl, rfl, rfl, rfl, rfl⟩, rfl, rfl, rfl⟩ (by kernel_rfl)), (og W _ _ (by decide) (by decide) (by decide) ⟨⟨rfl, rfl, rfl, rfl, rfl, rfl, rfl, rfl, rfl, rfl, rfl⟩, rfl, rfl, rfl⟩ (by kernel_rfl)), (og W _ _ (by decide) (by decide) (by decide) ⟨⟨rfl, rfl, rfl, rfl, rfl, rfl, rfl, rfl, rfl, rfl, rfl⟩, rfl, rfl, rfl⟩ (by kernel_rfl)), (og W _ _ (by decide) (by decide) (by decide) ⟨⟨rfl, rfl, rfl, rfl, rfl, rfl, rfl, rfl, rfl, rfl, rfl⟩, rfl, rfl, rfl⟩ (by kernel_rfl)), (og W _ _ (by decide) (by decide) (by decide) ⟨⟨rfl, rfl, rfl, rfl, rfl, rfl, rfl, rfl, rfl, rfl, rfl⟩, rfl, rfl, rfl⟩ (by kernel_rfl)), (og W _ _ (by decide) (by decide) (by decide) ⟨⟨rfl, rfl, rfl, rfl, rfl, rfl, rfl, rfl, rfl, rfl, rfl⟩, rfl, rfl, rfl⟩ (by kernel_rfl)), by decide, by decide, by decide⟩
theorem fa5 (W : World) : FA W f5 := ⟨(og W _ _ (by decide) (by decide) (by decide) ⟨⟨rfl, rfl, rfl, rfl, rfl, rfl, rfl, rfl, rfl, rfl, rfl⟩, rfl, rfl, rfl⟩ (by kernel_rfl)), (og W _ _ (by decide) (by decide) (by decide) ⟨⟨rfl, rfl, rfl, rfl, rfl, rfl, rfl, rfl, rfl, rfl, rfl⟩, rfl, rfl, rfl⟩ (by kernel_rfl)), (og W _ _ (by decide) (by decide) (by decide) ⟨⟨rfl, rfl, rfl, rfl, rfl, rfl, rfl, rfl, rfl, rfl, rfl⟩, rfl, rfl, rfl⟩ (by kernel_rfl)), (og W _ _ (by decide) (by decide) (by decide) ⟨⟨rfl, rfl, rfl, rfl, rfl, rfl, rfl, rfl, rfl, rfl, rfl⟩, rfl, rfl, rfl⟩ (by kernel_rfl)), (og W _ _ (by decide) (by decide) (by decide) ⟨⟨rfl, rfl, rfl, rfl, rfl, rfl, rfl, rfl, rfl, rfl, rfl⟩, rfl, rfl, rfl⟩ (by kernel_rfl)), (og W _ _ (by decide) (by decide) (by decide) ⟨⟨rfl, rfl, rfl, rfl, rfl, rfl, rfl, rfl, rfl, rfl, rfl⟩, rfl, rfl, rfl⟩ (by kernel_rfl)), by decide, by decide, by decide⟩
theorem fa6 (W : World) : FA W f6 := ⟨(og W _ _ (by decide) (by decide) (by decide) ⟨⟨rfl, rfl, rfl, rfl, rfl, rfl, rfl, rfl, rfl, rfl, rfl⟩, rfl, rfl, rfl⟩ (by kernel_rfl)), (og W _ _ (by decide) (by decide) (by decide) ⟨⟨rfl, rfl, rfl, rfl, rfl, rfl, rfl, rfl, rfl, rfl, rfl⟩, rfl, rfl, rfl⟩ (by kernel_rfl)), (og W _ _ (by decide) (by decide) (by decide) ⟨⟨rfl, rfl, rfl, rfl, rfl, rfl, rfl, rfl, rfl, rfl, rfl⟩, rfl, rfl, rfl⟩ (by kernel_rfl)), (og W _ _ (by decide) (by decide) (by decide) ⟨⟨rfl, rfl, rfl, rfl, rfl, rfl, rfl, rfl, rfl, rfl, rfl⟩, rfl, rfl, rfl⟩ (by kernel_rfl)), (og W _ _ (by decide) (by decide) (by decide) ⟨⟨rfl, rfl, rfl, rfl, rfl, rfl, rfl, rfl, rfl, rfl, rfl⟩, rfl, rfl, rfl⟩ (by kernel_rfl)), (og W _ _ (by decide) (by decide) (by decide) ⟨⟨rfl, rfl, rfl, rfl, rfl, rfl, rfl, rfl, rfl, rfl, rfl⟩, rfl, rfl, rfl⟩ (by kernel_rfl)), by decide, by decide, by decide⟩
theorem fa7 (W : World) : FA W f7 := ⟨(og W _ _ (by decide) (by decide) (by decide) ⟨⟨rfl, rfl, rfl, rfl, rfl, rfl, rfl, rfl, rfl, rfl, rfl⟩, rfl, rfl, rfl⟩ (by kernel_rfl)), (og W _ _ (by decide) (by decide) (by decide) ⟨⟨rfl, rfl, rfl, rfl, rfl, rfl, rfl, rfl, rfl, rfl, rfl⟩, rfl, rfl, rfl⟩ (by kernel_rfl)), (og W _ _ (by decide) (by decide) (by decide) ⟨⟨rfl, rfl, rfl, rfl, rfl, rfl, rfl, rfl, rfl, rfl, rfl⟩, rfl, rfl, rfl⟩ (by kernel_rfl)), (og W _ _ (by decide) (by decide) (by decide) ⟨⟨rfl, rfl, rfl, rfl, rfl, rfl, rfl, rfl, rfl, rfl, rfl⟩, rfl, rfl, rfl⟩ (by kernel_rfl)), (og W _ _ (by decide) (by decide) (by decide) ⟨⟨rfl, rfl, rfl, rfl, rfl, rfl, rfl, rfl, rfl, rfl, rfl⟩, rfl, rfl, rfl⟩ (by kernel_rfl)), (og W _ _ (by decide) (by decide) (by decide) ⟨⟨rfl, rfl, rfl, rfl, rfl, rfl, rfl, rfl, rfl, rfl, rfl⟩, rfl, rfl, rfl⟩ (by kernel_rfl)), by decide, by decide, by decide⟩
def rc1 : R.Rg.Rc := ⟨0, 0, 1, 1⟩
def ls1 : List R.Rg.Rc := [⟨0, 0, 1, 1⟩]
theorem cnt1 : R.Rg.cnted ls1 = ls1 := by simp [R.Rg.cnted, ls1, R.Rg.mayB]
theorem nf1' : R.Rg.Nf (R.Rg.dif (R.Rg.cnted ls1) []) ls1 := by
  rw [cnt1]
  refine ⟨[⟨0, 1, [⟨0, 1⟩]⟩], 0, ⟨by simp, by simp, by simp, by simp, trivial⟩, rfl, fun r => ?_⟩
  rw [R.Rg.valB]
  by_cases h : (0 : Int) ≤ r ∧ r < 1
  · rw [if_pos h]
    refine ⟨⟨0, by simp, by simp, trivial⟩, fun c => ?_⟩
    rw [Bool.eq_iff_iff]
    simp [R.Rg.inS, R.Rg.dif, R.Rg.has, ls1, R.Rg.inR, R.Rg.act]
    omega
  · rw [if_neg h]
    refine ⟨⟨0, trivial⟩, fun c => ?_⟩
    rw [Bool.eq_iff_iff]
    simp [R.Rg.valB, R.Rg.inS, R.Rg.dif, R.Rg.has, ls1, R.Rg.inR, R.Rg.act]
    omega
theorem nf1 : R.Rg.Nf (R.Rg.dif (R.Rg.cnted [rc1]) []) [rc1] := nf1'
theorem mr1 : MR [rc1] true := ⟨fun _ => ⟨by decide, by decide, nf1, by decide, by decide⟩, fun _ => rfl⟩
theorem og4 (W : World) (g : Nat) (x : Rv) (b : Bool) (hr : R.Sl R.rc 4 W (.slice (some ⟨g, 0, none⟩) 1 1) [rc1]) (h1 : x.sh.size ≤ 1000000) (h2 : x.nm.size ≤ 1000000) (h3 : x.vt.size ≤ 1000000)
    (ht : (x.tk = 0 ∧ x.tm = 0 ∧ x.tt = ⟨#[]⟩ ∧ x.tb = false ∧ x.te = 0 ∧ x.a1 = none ∧ x.l1 = 0 ∧ x.c1 = 0 ∧ x.a2 = none ∧ x.l2 = 0 ∧ x.c2 = 0) ∧ x.ra = some ⟨g, 0, none⟩ ∧ x.rl = 1 ∧ x.rc = 1)
    (hb : b = mayO x zeroE [rc1] true) : OpG W x b := by
  obtain ⟨⟨e1, e2, e3, e4, e5, e6, e7, e8, e9, e10, e11⟩, e12, e13, e14⟩ := ht
  refine ⟨zeroE, [rc1], true, ⟨?_, ?_⟩, ⟨h1, h2, h3, sm_zero, by decide, by decide⟩, mr1, hb⟩
  · rw [e1, e2, e3, e4, e5, e6, e7, e8, e9, e10, e11]
    exact rd_zero W
  · rw [e12, e13, e14]
    exact hr
theorem fa4 (W : World) (g : Nat) (hr : R.Sl R.rc 4 W (.slice (some ⟨g, 0, none⟩) 1 1) [rc1]) : FA W (f4 g) := ⟨(og4 W g _ _ hr (by show (⟨#[99, 48, 110, 48]⟩ : ByteArray).size ≤ 1000000; decide) (by first | (show (⟨#[]⟩ : ByteArray).size ≤ 1000000; decide) | (show ((⟨#[]⟩ : ByteArray) ++ ⟨#[121]⟩).size ≤ 1000000; decide)) (by show (⟨#[]⟩ : ByteArray).size ≤ 1000000; decide) ⟨⟨rfl, rfl, rfl, rfl, rfl, rfl, rfl, rfl, rfl, rfl, rfl⟩, rfl, rfl, rfl⟩ (by kernel_rfl)), (og4 W g _ _ hr (by show (⟨#[99, 48, 110, 48]⟩ : ByteArray).size ≤ 1000000; decide) (by first | (show (⟨#[]⟩ : ByteArray).size ≤ 1000000; decide) | (show ((⟨#[]⟩ : ByteArray) ++ ⟨#[121]⟩).size ≤ 1000000; decide)) (by show (⟨#[]⟩ : ByteArray).size ≤ 1000000; decide) ⟨⟨rfl, rfl, rfl, rfl, rfl, rfl, rfl, rfl, rfl, rfl, rfl⟩, rfl, rfl, rfl⟩ (by kernel_rfl)), (og4 W g _ _ hr (by show (⟨#[99, 48, 110, 48]⟩ : ByteArray).size ≤ 1000000; decide) (by first | (show (⟨#[]⟩ : ByteArray).size ≤ 1000000; decide) | (show ((⟨#[]⟩ : ByteArray) ++ ⟨#[121]⟩).size ≤ 1000000; decide)) (by show (⟨#[]⟩ : ByteArray).size ≤ 1000000; decide) ⟨⟨rfl, rfl, rfl, rfl, rfl, rfl, rfl, rfl, rfl, rfl, rfl⟩, rfl, rfl, rfl⟩ (by kernel_rfl)), (og4 W g _ _ hr (by show (⟨#[99, 48, 110, 48]⟩ : ByteArray).size ≤ 1000000; decide) (by first | (show (⟨#[]⟩ : ByteArray).size ≤ 1000000; decide) | (show ((⟨#[]⟩ : ByteArray) ++ ⟨#[121]⟩).size ≤ 1000000; decide)) (by show (⟨#[]⟩ : ByteArray).size ≤ 1000000; decide) ⟨⟨rfl, rfl, rfl, rfl, rfl, rfl, rfl, rfl, rfl, rfl, rfl⟩, rfl, rfl, rfl⟩ (by kernel_rfl)), (og4 W g _ _ hr (by show (⟨#[99, 48, 110, 48]⟩ : ByteArray).size ≤ 1000000; decide) (by first | (show (⟨#[]⟩ : ByteArray).size ≤ 1000000; decide) | (show ((⟨#[]⟩ : ByteArray) ++ ⟨#[121]⟩).size ≤ 1000000; decide)) (by show (⟨#[]⟩ : ByteArray).size ≤ 1000000; decide) ⟨⟨rfl, rfl, rfl, rfl, rfl, rfl, rfl, rfl, rfl, rfl, rfl⟩, rfl, rfl, rfl⟩ (by kernel_rfl)), (og4 W g _ _ hr (by show (⟨#[99, 48, 110, 48]⟩ : ByteArray).size ≤ 1000000; decide) (by first | (show (⟨#[]⟩ : ByteArray).size ≤ 1000000; decide) | (show ((⟨#[]⟩ : ByteArray) ++ ⟨#[121]⟩).size ≤ 1000000; decide)) (by show (⟨#[]⟩ : ByteArray).size ≤ 1000000; decide) ⟨⟨rfl, rfl, rfl, rfl, rfl, rfl, rfl, rfl, rfl, rfl, rfl⟩, rfl, rfl, rfl⟩ (by kernel_rfl)), ⟨by show (0 : Int) ≤ 0; omega, by show (0 : Int) ≤ 100; omega⟩, ⟨by show (0 : Int) ≤ 0; omega, by show (0 : Int) ≤ 100; omega⟩, by show (⟨#[]⟩ : ByteArray).size ≤ 100; decide⟩
theorem rsl_one (W : World) : R.Sl R.rc 4 (W.alloc (.cells #[.int .i64 0, .int .i64 0, .int .i64 1, .int .i64 1] 49)) (.slice (some ⟨W.heap.size, 0, none⟩) 1 1) [rc1] := by
  refine ⟨some ⟨W.heap.size, 0, none⟩, 1, rfl, Nat.le_refl _, by unfold maxLen; omega, fun _ => ⟨W.heap.size, 0, rfl, fun i hi j u hu => ?_⟩⟩
  have hi0 : i = 0 := by simpa using hi
  subst hi0
  rw [World.cell?_alloc_at _ _ _ _ rfl]
  have hj : j < 4 := (List.getElem?_eq_some_iff.1 hu).1
  rcases (by omega : j = 0 ∨ j = 1 ∨ j = 2 ∨ j = 3) with rfl | rfl | rfl | rfl <;> exact hu
/-- the seven -/
def fs7 (g : Nat) : List Rv := [f1, f2, f3, f4 g, f5, f6, f7]
theorem fa_all (W : World) (g : Nat) (hr : R.Sl R.rc 4 W (.slice (some ⟨g, 0, none⟩) 1 1) [rc1]) : ∀ x ∈ fs7 g, FA W x := by
  intro x hx
  simp only [fs7, List.mem_cons, List.not_mem_nil, or_false] at hx
  rcases hx with rfl | rfl | rfl | rfl | rfl | rfl | rfl
  · exact fa1 W
  · exact fa2 W
  · exact fa3 W
  · exact fa4 W g hr
  · exact fa5 W
  · exact fa6 W
  · exact fa7 W
def f0 : Rv := ⟨0, ⟨#[99, 48, 110, 48]⟩, 0, 0, false, 0, 0, ⟨#[]⟩, false, 0, 0, 0, ⟨#[]⟩, false, 0, none, 0, 0, none, 0, 0, 0, 0, 0, none, 0, 0, 0, ⟨#[]⟩⟩
def f8 : Rv := ⟨8, ⟨#[99, 48, 110, 48]⟩, 0, 0, false, 0, 0, ⟨#[]⟩, false, 0, 0, 0, ⟨#[]⟩, false, 0, none, 0, 0, none, 0, 0, 0, 0, 0, none, 0, 0, 0, ⟨#[]⟩⟩
theorem og0 (W : World) : OpG W f0 false := (og W _ _ (by decide) (by decide) (by decide) ⟨⟨rfl, rfl, rfl, rfl, rfl, rfl, rfl, rfl, rfl, rfl, rfl⟩, rfl, rfl, rfl⟩ (by kernel_rfl))
theorem og8 (W : World) : OpG W f8 false := (og W _ _ (by decide) (by decide) (by decide) ⟨⟨rfl, rfl, rfl, rfl, rfl, rfl, rfl, rfl, rfl, rfl, rfl⟩, rfl, rfl, rfl⟩ (by kernel_rfl))
end Go.Proofs.YtngnakdbhkjbjaaGreatDoor
