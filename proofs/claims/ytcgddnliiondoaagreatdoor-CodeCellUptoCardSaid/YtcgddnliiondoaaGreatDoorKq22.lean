/- counterpaneref5.may, walked: references, ranges, and what is. -/
import Derived.Test.YtcgddnliiondoaaGreatDoorKq21
import Derived.Test.YtcgddnliiondoaaGreatDoorKq16
set_option linter.unusedVariables false
set_option linter.unusedSimpArgs false
set_option maxRecDepth 100000
set_option maxHeartbeats 8000000
namespace Go.Proofs.YtcgddnliiondoaaGreatDoor
open Go.RowKit
def MRe (W : World) (x : Rf) : Prop := ∀ V, Q W V → Calls Tryz.prog 92 #[.agg #[.string ⟨x.1.toArray⟩, .int .i64 x.2.1, .int .i64 x.2.2.1, .bool x.2.2.2.1, .bool x.2.2.2.2]] V fun e w' => e = .returned (.bool (mayR x.1 x.2.1 x.2.2.1)) ∧ Q V w'
set_option maxHeartbeats 8000000 in
theorem rn_5 (n : Int) (t : ByteArray) (b : Bool) (e : Int) (a1 : Option Addr) (l1 c1 : Nat) (a2 : Option Addr) (l2 c2 : Nat) (W : World) (d : Nat) (rs : List Rf) (hr : Sl rf 5 W (.slice a1 l1 c1) rs) (HM : Hid (∀ x ∈ rs, MRe W x)) : Calls Tryz.prog 58 #[.agg #[.int .i64 5, .int .i64 n, .string t, .bool b, .int .i64 e, .slice a1 l1 c1, .slice a2 l2 c2], .int .i64 (d : Int)] W fun e' W' => e' = .returned (.bool (decide (d ≤ 50) && ((oneB rs) && bareB n t.data.toList b e 0 l2))) ∧ Q W W' := by
  have hll : rs.length = l1 := by
    obtain ⟨_, _, hv, _⟩ := hr
    simp only [Value.slice.injEq] at hv
    exact hv.2.1.symm
  by_cases q_d : 50 < d
  · skip
    have s_d : (50 : Int) < (d : Int) := by omega
    have HR : Hid ((decide (d ≤ 50) && ((oneB rs) && bareB n t.data.toList b e 0 l2)) = false) := by show _ = _; rw [decide_eq_false (by omega), Bool.false_and]
    generalize (decide (d ≤ 50) && ((oneB rs) && bareB n t.data.toList b e 0 l2)) = rr at HR ⊢
    go_enter Tryz.func58, Tryz.ntmps58
    go_wp2_with fail
    go_ret
    exact ⟨ret_bool HR.out.symm, (Q.refl _).alloc _⟩
  · skip
    have s_d : ¬ (50 : Int) < (d : Int) := by omega
    by_cases q_n0 : n ≠ 0
    · skip
      have s_n : (n == 0) = false := by rw [beq_eq_false_iff_ne]; exact q_n0
      have HR : Hid ((decide (d ≤ 50) && ((oneB rs) && bareB n t.data.toList b e 0 l2)) = false) := by show _ = _; rw [show bareB n t.data.toList b e 0 l2 = false from decide_eq_false (fun h => q_n0 h.1), Bool.and_false, Bool.and_false]
      generalize (decide (d ≤ 50) && ((oneB rs) && bareB n t.data.toList b e 0 l2)) = rr at HR ⊢
      go_enter Tryz.func58, Tryz.ntmps58
      go_wp2_with fail
      go_ret
      exact ⟨ret_bool HR.out.symm, (Q.refl _).alloc _⟩
    · skip
      obtain rfl : n = 0 := Classical.not_not.1 q_n0
      by_cases q_b : b = true
      · skip
        have s_b : b = true := q_b
        have HR : Hid ((decide (d ≤ 50) && ((oneB rs) && bareB 0 t.data.toList b e 0 l2)) = false) := by show _ = _; rw [show bareB 0 t.data.toList b e 0 l2 = false from decide_eq_false (fun h => by rw [q_b] at h; exact absurd h.2.2.1 (by simp)), Bool.and_false, Bool.and_false]
        generalize (decide (d ≤ 50) && ((oneB rs) && bareB 0 t.data.toList b e 0 l2)) = rr at HR ⊢
        go_enter Tryz.func58, Tryz.ntmps58
        go_wp2_with fail
        go_ret
        exact ⟨ret_bool HR.out.symm, (Q.refl _).alloc _⟩
      · skip
        have s_b : b = false := Bool.eq_false_iff.2 q_b
        by_cases q_e0 : e ≠ 0
        · skip
          have s_e : (e == 0) = false := by rw [beq_eq_false_iff_ne]; exact q_e0
          have HR : Hid ((decide (d ≤ 50) && ((oneB rs) && bareB 0 t.data.toList b e 0 l2)) = false) := by show _ = _; rw [show bareB 0 t.data.toList b e 0 l2 = false from decide_eq_false (fun h => q_e0 h.2.2.2.1), Bool.and_false, Bool.and_false]
          generalize (decide (d ≤ 50) && ((oneB rs) && bareB 0 t.data.toList b e 0 l2)) = rr at HR ⊢
          go_enter Tryz.func58, Tryz.ntmps58
          go_wp2_with fail
          go_ret
          exact ⟨ret_bool HR.out.symm, (Q.refl _).alloc _⟩
        · skip
          obtain rfl : e = 0 := Classical.not_not.1 q_e0
          by_cases q_t0 : t.data.toList ≠ []
          · skip
            have s_t : (t.toList == []) = false := by rw [toL, beq_eq_false_iff_ne]; exact q_t0
            have HR : Hid ((decide (d ≤ 50) && ((oneB rs) && bareB 0 t.data.toList b 0 0 l2)) = false) := by show _ = _; rw [show bareB 0 t.data.toList b 0 0 l2 = false from decide_eq_false (fun h => q_t0 h.2.1), Bool.and_false, Bool.and_false]
            generalize (decide (d ≤ 50) && ((oneB rs) && bareB 0 t.data.toList b 0 0 l2)) = rr at HR ⊢
            go_enter Tryz.func58, Tryz.ntmps58
            go_wp2_with fail
            go_ret
            exact ⟨ret_bool HR.out.symm, (Q.refl _).alloc _⟩
          · skip
            have s_t : (t.toList == []) = true := by rw [toL, Classical.not_not.1 q_t0]; rfl
            by_cases h1 : l1 = 1
            · subst h1
              obtain ⟨bb, off, cap, hv, _, _, hc⟩ := hr.rc (by omega)
              match rs, hll with
              | [x], _ =>
                obtain ⟨xs, xr, xc, xa, xb⟩ := x
                have HX := hid (HM.out _ (by simp : (xs, xr, xc, xa, xb) ∈ [(xs, xr, xc, xa, xb)]))
                have H0 := hc 0 (by simp)
                simp only [List.getElem_cons_zero, Nat.zero_mul, Nat.add_zero] at H0
                simp only [List.length_cons, List.length_nil, Nat.zero_add, Value.slice.injEq] at hv
                obtain ⟨rfl, _, rfl⟩ := hv
                unfold MRe at HX
                simp only at HX
                obtain ⟨SX, hSX⟩ : ∃ S : ByteArray, S = ⟨xs.toArray⟩ := ⟨_, rfl⟩
                obtain ⟨r0, r1, r2, r3, r4⟩ := H0
                rw [← hSX] at HX r0
                have hbl : bb < W.heap.size := World.block_lt_of_cell? W ⟨bb, off, none⟩ r0
                have hone : oneB [(xs, xr, xc, xa, xb)] = mayR xs xr xc := rfl
                rw [hone]
                clear HM hc hSX hr hone
                by_cases q_l2 : l2 ≠ 0
                · have s_k : ((l2 : Int) == 0) = false := by rw [beq_eq_false_iff_ne]; omega
                  have HR : Hid ((decide (d ≤ 50) && ((mayR xs xr xc) && bareB 0 t.data.toList b 0 0 l2)) = false) := by show _ = _; rw [show bareB 0 t.data.toList b 0 0 l2 = false from decide_eq_false (fun h => q_l2 h.2.2.2.2.2), Bool.and_false, Bool.and_false]
                  generalize (decide (d ≤ 50) && ((mayR xs xr xc) && bareB 0 t.data.toList b 0 0 l2)) = rr at HR ⊢
                  go_enter Tryz.func58, Tryz.ntmps58
                  go_wp2_with fail
                  go_ret
                  exact ⟨ret_bool HR.out.symm, (Q.refl _).alloc _⟩
                · obtain rfl : l2 = 0 := Classical.not_not.1 q_l2
                  cases hx : mayR xs xr xc
                  · rw [hx] at HX
                    have HR : Hid ((decide (d ≤ 50) && ((false) && bareB 0 t.data.toList b 0 0 0)) = false) := by show _ = _; rw [Bool.false_and, Bool.and_false]
                    generalize (decide (d ≤ 50) && ((false) && bareB 0 t.data.toList b 0 0 0)) = rr at HR ⊢
                    clear q_d q_n0 q_e0 q_t0 q_l2
                    go_enter Tryz.func58, Tryz.ntmps58
                    have HX6 := hid (Bx.start W (.int .i64 5) (.int .i64 0) (.string t) (.bool false) (.int .i64 0) (.slice (some ⟨bb, off, none⟩) 1 c1) (.slice a2 0 c2) 40)
                    go_wp2_with fail
                    refine wp_loop_rounds 2 ?_
                    rw [rounds_succ]
                    go_wp2_with (go_at_call 92; refine (HX.out _ (by repeat (first | with_reducible exact Q.refl _ | with_reducible refine Q.alloc ?_ _ | with_reducible refine Q.drewN ?_ _ | with_reducible refine Q.drew ?_))).mono ?_; rintro e9 w9 ⟨rfl, q9⟩; have Q9 : Hid (Q W w9) := hid (((Q.refl W).alloc _).trans q9); have X9 := hid (HX6.out.on q9); clear q9; obtain ⟨_, _, v0, v1, v2, v3, v4, v5, v6⟩ := X9.out)
                    go_ret
                    exact ⟨ret_bool HR.out.symm, Q9.out⟩
                  · rw [hx] at HX
                    have HR : Hid ((decide (d ≤ 50) && ((true) && bareB 0 t.data.toList b 0 0 0)) = true) := by show _ = _; rw [decide_eq_true (by omega : d ≤ 50), show bareB 0 t.data.toList b 0 0 0 = true from decide_eq_true ⟨rfl, Classical.not_not.1 q_t0, s_b, rfl, rfl, rfl⟩]; rfl
                    generalize (decide (d ≤ 50) && ((true) && bareB 0 t.data.toList b 0 0 0)) = rr at HR ⊢
                    clear q_d q_n0 q_e0 q_t0 q_l2
                    go_enter Tryz.func58, Tryz.ntmps58
                    have HX6 := hid (Bx.start W (.int .i64 5) (.int .i64 0) (.string t) (.bool false) (.int .i64 0) (.slice (some ⟨bb, off, none⟩) 1 c1) (.slice a2 0 c2) 40)
                    go_wp2_with fail
                    refine wp_loop_rounds 2 ?_
                    rw [rounds_succ]
                    go_wp2_with (go_at_call 92; refine (HX.out _ (by repeat (first | with_reducible exact Q.refl _ | with_reducible refine Q.alloc ?_ _ | with_reducible refine Q.drewN ?_ _ | with_reducible refine Q.drew ?_))).mono ?_; rintro e9 w9 ⟨rfl, q9⟩; have Q9 : Hid (Q W w9) := hid (((Q.refl W).alloc _).trans q9); have X9 := hid (HX6.out.on q9); clear q9; obtain ⟨_, _, v0, v1, v2, v3, v4, v5, v6⟩ := X9.out)
                    rw [rounds_succ]
                    go_wp2_with fail
                    refine wp_loop_rounds 1 ?_
                    rw [rounds_succ]
                    go_wp2_with fail
                    go_ret
                    exact ⟨ret_bool HR.out.symm, Q9.out⟩
            · have s_r : ((l1 : Int) == 1) = false := by rw [beq_eq_false_iff_ne]; omega
              have hno := one_no (rs := rs) (by omega)
              rw [hno]
              clear hno HM hr
              have HR : Hid ((decide (d ≤ 50) && ((false) && bareB 0 t.data.toList b 0 0 l2)) = false) := by show _ = _; rw [Bool.false_and, Bool.and_false]
              generalize (decide (d ≤ 50) && ((false) && bareB 0 t.data.toList b 0 0 l2)) = rr at HR ⊢
              go_enter Tryz.func58, Tryz.ntmps58
              go_wp2_with fail
              go_ret
              exact ⟨ret_bool HR.out.symm, (Q.refl _).alloc _⟩
set_option maxHeartbeats 8000000 in
theorem rn_6 (n : Int) (t : ByteArray) (b : Bool) (e : Int) (a1 : Option Addr) (l1 c1 : Nat) (a2 : Option Addr) (l2 c2 : Nat) (W : World) (d : Nat) (rs : List Rf) (hr : Sl rf 5 W (.slice a1 l1 c1) rs) (HM : Hid (∀ x ∈ rs, MRe W x)) : Calls Tryz.prog 58 #[.agg #[.int .i64 6, .int .i64 n, .string t, .bool b, .int .i64 e, .slice a1 l1 c1, .slice a2 l2 c2], .int .i64 (d : Int)] W fun e' W' => e' = .returned (.bool (decide (d ≤ 50) && ((rngB rs) && bareB n t.data.toList b e 0 l2))) ∧ Q W W' := by
  have hll : rs.length = l1 := by
    obtain ⟨_, _, hv, _⟩ := hr
    simp only [Value.slice.injEq] at hv
    exact hv.2.1.symm
  by_cases q_d : 50 < d
  · skip
    have s_d : (50 : Int) < (d : Int) := by omega
    have HR : Hid ((decide (d ≤ 50) && ((rngB rs) && bareB n t.data.toList b e 0 l2)) = false) := by show _ = _; rw [decide_eq_false (by omega), Bool.false_and]
    generalize (decide (d ≤ 50) && ((rngB rs) && bareB n t.data.toList b e 0 l2)) = rr at HR ⊢
    go_enter Tryz.func58, Tryz.ntmps58
    go_wp2_with fail
    go_ret
    exact ⟨ret_bool HR.out.symm, (Q.refl _).alloc _⟩
  · skip
    have s_d : ¬ (50 : Int) < (d : Int) := by omega
    by_cases q_n0 : n ≠ 0
    · skip
      have s_n : (n == 0) = false := by rw [beq_eq_false_iff_ne]; exact q_n0
      have HR : Hid ((decide (d ≤ 50) && ((rngB rs) && bareB n t.data.toList b e 0 l2)) = false) := by show _ = _; rw [show bareB n t.data.toList b e 0 l2 = false from decide_eq_false (fun h => q_n0 h.1), Bool.and_false, Bool.and_false]
      generalize (decide (d ≤ 50) && ((rngB rs) && bareB n t.data.toList b e 0 l2)) = rr at HR ⊢
      go_enter Tryz.func58, Tryz.ntmps58
      go_wp2_with fail
      go_ret
      exact ⟨ret_bool HR.out.symm, (Q.refl _).alloc _⟩
    · skip
      obtain rfl : n = 0 := Classical.not_not.1 q_n0
      by_cases q_b : b = true
      · skip
        have s_b : b = true := q_b
        have HR : Hid ((decide (d ≤ 50) && ((rngB rs) && bareB 0 t.data.toList b e 0 l2)) = false) := by show _ = _; rw [show bareB 0 t.data.toList b e 0 l2 = false from decide_eq_false (fun h => by rw [q_b] at h; exact absurd h.2.2.1 (by simp)), Bool.and_false, Bool.and_false]
        generalize (decide (d ≤ 50) && ((rngB rs) && bareB 0 t.data.toList b e 0 l2)) = rr at HR ⊢
        go_enter Tryz.func58, Tryz.ntmps58
        go_wp2_with fail
        go_ret
        exact ⟨ret_bool HR.out.symm, (Q.refl _).alloc _⟩
      · skip
        have s_b : b = false := Bool.eq_false_iff.2 q_b
        by_cases q_e0 : e ≠ 0
        · skip
          have s_e : (e == 0) = false := by rw [beq_eq_false_iff_ne]; exact q_e0
          have HR : Hid ((decide (d ≤ 50) && ((rngB rs) && bareB 0 t.data.toList b e 0 l2)) = false) := by show _ = _; rw [show bareB 0 t.data.toList b e 0 l2 = false from decide_eq_false (fun h => q_e0 h.2.2.2.1), Bool.and_false, Bool.and_false]
          generalize (decide (d ≤ 50) && ((rngB rs) && bareB 0 t.data.toList b e 0 l2)) = rr at HR ⊢
          go_enter Tryz.func58, Tryz.ntmps58
          go_wp2_with fail
          go_ret
          exact ⟨ret_bool HR.out.symm, (Q.refl _).alloc _⟩
        · skip
          obtain rfl : e = 0 := Classical.not_not.1 q_e0
          by_cases q_t0 : t.data.toList ≠ []
          · skip
            have s_t : (t.toList == []) = false := by rw [toL, beq_eq_false_iff_ne]; exact q_t0
            have HR : Hid ((decide (d ≤ 50) && ((rngB rs) && bareB 0 t.data.toList b 0 0 l2)) = false) := by show _ = _; rw [show bareB 0 t.data.toList b 0 0 l2 = false from decide_eq_false (fun h => q_t0 h.2.1), Bool.and_false, Bool.and_false]
            generalize (decide (d ≤ 50) && ((rngB rs) && bareB 0 t.data.toList b 0 0 l2)) = rr at HR ⊢
            go_enter Tryz.func58, Tryz.ntmps58
            go_wp2_with fail
            go_ret
            exact ⟨ret_bool HR.out.symm, (Q.refl _).alloc _⟩
          · skip
            have s_t : (t.toList == []) = true := by rw [toL, Classical.not_not.1 q_t0]; rfl
            by_cases h1 : l1 = 2
            · subst h1
              obtain ⟨bb, off, cap, hv, _, _, hc⟩ := hr.rc (by omega)
              match rs, hll with
              | [x, y], _ =>
                obtain ⟨xs, xr, xc, xa, xb⟩ := x
                obtain ⟨ys, yr, yc, ya, yb⟩ := y
                have HX := hid (HM.out _ (by simp : (xs, xr, xc, xa, xb) ∈ [(xs, xr, xc, xa, xb), (ys, yr, yc, ya, yb)]))
                have HY := hid (HM.out _ (by simp : (ys, yr, yc, ya, yb) ∈ [(xs, xr, xc, xa, xb), (ys, yr, yc, ya, yb)]))
                have H0 := hc 0 (by simp)
                have H1 := hc 1 (by simp)
                simp only [List.getElem_cons_zero, List.getElem_cons_succ, Nat.zero_mul, Nat.add_zero, Nat.one_mul] at H0 H1
                simp only [List.length_cons, List.length_nil, Nat.zero_add, Value.slice.injEq] at hv
                obtain ⟨rfl, _, rfl⟩ := hv
                unfold MRe at HX HY
                simp only at HX HY
                obtain ⟨SX, hSX⟩ : ∃ S : ByteArray, S = ⟨xs.toArray⟩ := ⟨_, rfl⟩
                obtain ⟨SY, hSY, lSY⟩ : ∃ S : ByteArray, S = ⟨ys.toArray⟩ ∧ S.data.toList = ys := ⟨_, rfl, rfl⟩
                obtain ⟨r0, r1, r2, r3, r4⟩ := H0
                obtain ⟨y0, y1, y2, y3, y4⟩ := H1
                rw [← hSX] at HX r0
                rw [← hSY] at HY y0
                have hbl : bb < W.heap.size := World.block_lt_of_cell? W ⟨bb, off, none⟩ r0
                have HYc := hid (fun (W1 : World) (q : Q W W1) => (q.cell (World.block_lt_of_cell? W ⟨bb, off + 5, none⟩ y0)).trans y0)
                have HYd := hid (fun (W1 : World) (q : Q W W1) => (q.cell (World.block_lt_of_cell? W ⟨bb, off + 5 + 1, none⟩ y1)).trans y1)
                have HYe := hid (fun (W1 : World) (q : Q W W1) => (q.cell (World.block_lt_of_cell? W ⟨bb, off + 5 + 2, none⟩ y2)).trans y2)
                have HYf := hid (fun (W1 : World) (q : Q W W1) => (q.cell (World.block_lt_of_cell? W ⟨bb, off + 5 + 3, none⟩ y3)).trans y3)
                have HYg := hid (fun (W1 : World) (q : Q W W1) => (q.cell (World.block_lt_of_cell? W ⟨bb, off + 5 + 4, none⟩ y4)).trans y4)
                have hone : rngB [(xs, xr, xc, xa, xb), (ys, yr, yc, ya, yb)] = (mayR xs xr xc && (mayR ys yr yc && decide (ys = []))) := rfl
                rw [hone]
                have LS := hid lSY
                clear HM hc hSX hSY lSY hr hone
                by_cases hz : ys = []
                · have fz : (SY.toList == []) = true := by rw [toL, LS.out, hz]; rfl
                  by_cases q_l2 : l2 ≠ 0
                  · have s_k : ((l2 : Int) == 0) = false := by rw [beq_eq_false_iff_ne]; omega
                    have HR : Hid ((decide (d ≤ 50) && ((mayR xs xr xc && (mayR ys yr yc && decide (ys = []))) && bareB 0 t.data.toList b 0 0 l2)) = false) := by show _ = _; rw [show bareB 0 t.data.toList b 0 0 l2 = false from decide_eq_false (fun h => q_l2 h.2.2.2.2.2), Bool.and_false, Bool.and_false]
                    generalize (decide (d ≤ 50) && ((mayR xs xr xc && (mayR ys yr yc && decide (ys = []))) && bareB 0 t.data.toList b 0 0 l2)) = rr at HR ⊢
                    go_enter Tryz.func58, Tryz.ntmps58
                    go_wp2_with fail
                    go_ret
                    exact ⟨ret_bool HR.out.symm, (Q.refl _).alloc _⟩
                  · obtain rfl : l2 = 0 := Classical.not_not.1 q_l2
                    cases hx : mayR xs xr xc
                    · rw [hx] at HX
                      have HR : Hid ((decide (d ≤ 50) && ((false && (mayR ys yr yc && decide (ys = []))) && bareB 0 t.data.toList b 0 0 0)) = false) := by show _ = _; rw [Bool.false_and, Bool.false_and, Bool.and_false]
                      generalize (decide (d ≤ 50) && ((false && (mayR ys yr yc && decide (ys = []))) && bareB 0 t.data.toList b 0 0 0)) = rr at HR ⊢
                      clear q_d q_n0 q_e0 q_t0 q_l2
                      go_enter Tryz.func58, Tryz.ntmps58
                      have HX6 := hid (Bx.start W (.int .i64 6) (.int .i64 0) (.string t) (.bool false) (.int .i64 0) (.slice (some ⟨bb, off, none⟩) 2 c1) (.slice a2 0 c2) 40)
                      go_wp2_with fail
                      refine wp_loop_rounds 3 ?_
                      rw [rounds_succ]
                      go_wp2_with (go_at_call_of 92 SX; refine (HX.out _ (by repeat (first | with_reducible exact Q.refl _ | with_reducible refine Q.alloc ?_ _ | with_reducible refine Q.drewN ?_ _ | with_reducible refine Q.drew ?_))).mono ?_; rintro e9 w9 ⟨rfl, q9⟩; have Q9 : Hid (Q W w9) := hid (((Q.refl W).alloc _).trans q9); have X9 := hid (HX6.out.on q9); clear q9; obtain ⟨_, _, v0, v1, v2, v3, v4, v5, v6⟩ := X9.out; have n0 := HYc.out w9 Q9.out; have n1 := HYd.out w9 Q9.out; have n2 := HYe.out w9 Q9.out; have n3 := HYf.out w9 Q9.out; have n4 := HYg.out w9 Q9.out)
                      go_ret
                      exact ⟨ret_bool HR.out.symm, Q9.out⟩
                    · rw [hx] at HX
                      cases hy : mayR ys yr yc
                      · rw [hy] at HY
                        have HR : Hid ((decide (d ≤ 50) && ((true && (false && decide (ys = []))) && bareB 0 t.data.toList b 0 0 0)) = false) := by show _ = _; rw [Bool.false_and, Bool.and_false, Bool.false_and, Bool.and_false]
                        generalize (decide (d ≤ 50) && ((true && (false && decide (ys = []))) && bareB 0 t.data.toList b 0 0 0)) = rr at HR ⊢
                        clear q_d q_n0 q_e0 q_t0 q_l2 hz
                        go_enter Tryz.func58, Tryz.ntmps58
                        have HX6 := hid (Bx.start W (.int .i64 6) (.int .i64 0) (.string t) (.bool false) (.int .i64 0) (.slice (some ⟨bb, off, none⟩) 2 c1) (.slice a2 0 c2) 40)
                        go_wp2_with fail
                        refine wp_loop_rounds 3 ?_
                        rw [rounds_succ]
                        go_wp2_with (go_at_call_of 92 SX; refine (HX.out _ (by repeat (first | with_reducible exact Q.refl _ | with_reducible refine Q.alloc ?_ _ | with_reducible refine Q.drewN ?_ _ | with_reducible refine Q.drew ?_))).mono ?_; rintro e9 w9 ⟨rfl, q9⟩; have Q9 : Hid (Q W w9) := hid (((Q.refl W).alloc _).trans q9); have X9 := hid (HX6.out.on q9); clear q9; obtain ⟨_, _, v0, v1, v2, v3, v4, v5, v6⟩ := X9.out; have n0 := HYc.out w9 Q9.out; have n1 := HYd.out w9 Q9.out; have n2 := HYe.out w9 Q9.out; have n3 := HYf.out w9 Q9.out; have n4 := HYg.out w9 Q9.out)
                        rw [rounds_succ]
                        go_wp2_with (go_at_call_of 92 SY; refine (HY.out _ Q9.out).mono ?_; rintro e8 w8 ⟨rfl, q8⟩; have Q8 : Hid (Q W w8) := hid (Q9.out.trans q8); have X8 := hid (X9.out.on q8); clear q8; obtain ⟨_, _, u0, u1, u2, u3, u4, u5, u6⟩ := X8.out)
                        go_ret
                        exact ⟨ret_bool HR.out.symm, Q8.out⟩
                      · rw [hy] at HY
                        have HR : Hid ((decide (d ≤ 50) && ((true && (true && decide (ys = []))) && bareB 0 t.data.toList b 0 0 0)) = true) := by show _ = _; rw [decide_eq_true (by omega : d ≤ 50), decide_eq_true hz, show bareB 0 t.data.toList b 0 0 0 = true from decide_eq_true ⟨rfl, Classical.not_not.1 q_t0, s_b, rfl, rfl, rfl⟩]; rfl
                        generalize (decide (d ≤ 50) && ((true && (true && decide (ys = []))) && bareB 0 t.data.toList b 0 0 0)) = rr at HR ⊢
                        clear q_d q_n0 q_e0 q_t0 q_l2 hz
                        go_enter Tryz.func58, Tryz.ntmps58
                        have HX6 := hid (Bx.start W (.int .i64 6) (.int .i64 0) (.string t) (.bool false) (.int .i64 0) (.slice (some ⟨bb, off, none⟩) 2 c1) (.slice a2 0 c2) 40)
                        go_wp2_with fail
                        refine wp_loop_rounds 3 ?_
                        rw [rounds_succ]
                        go_wp2_with (go_at_call_of 92 SX; refine (HX.out _ (by repeat (first | with_reducible exact Q.refl _ | with_reducible refine Q.alloc ?_ _ | with_reducible refine Q.drewN ?_ _ | with_reducible refine Q.drew ?_))).mono ?_; rintro e9 w9 ⟨rfl, q9⟩; have Q9 : Hid (Q W w9) := hid (((Q.refl W).alloc _).trans q9); have X9 := hid (HX6.out.on q9); clear q9; obtain ⟨_, _, v0, v1, v2, v3, v4, v5, v6⟩ := X9.out; have n0 := HYc.out w9 Q9.out; have n1 := HYd.out w9 Q9.out; have n2 := HYe.out w9 Q9.out; have n3 := HYf.out w9 Q9.out; have n4 := HYg.out w9 Q9.out)
                        rw [rounds_succ]
                        go_wp2_with (go_at_call_of 92 SY; refine (HY.out _ Q9.out).mono ?_; rintro e8 w8 ⟨rfl, q8⟩; have Q8 : Hid (Q W w8) := hid (Q9.out.trans q8); have X8 := hid (X9.out.on q8); clear q8; obtain ⟨_, _, u0, u1, u2, u3, u4, u5, u6⟩ := X8.out)
                        rw [rounds_succ]
                        go_wp2_with fail
                        refine wp_loop_rounds 1 ?_
                        rw [rounds_succ]
                        go_wp2_with fail
                        go_ret
                        exact ⟨ret_bool HR.out.symm, Q8.out⟩
                · have fz : (SY.toList == []) = false := by rw [toL, LS.out, beq_eq_false_iff_ne]; exact hz
                  have HR : Hid ((decide (d ≤ 50) && ((mayR xs xr xc && (mayR ys yr yc && decide (ys = []))) && bareB 0 t.data.toList b 0 0 l2)) = false) := by show _ = _; rw [decide_eq_false hz, Bool.and_false, Bool.and_false, Bool.false_and, Bool.and_false]
                  generalize (decide (d ≤ 50) && ((mayR xs xr xc && (mayR ys yr yc && decide (ys = []))) && bareB 0 t.data.toList b 0 0 l2)) = rr at HR ⊢
                  go_enter Tryz.func58, Tryz.ntmps58
                  go_wp2_with fail
                  go_ret
                  exact ⟨ret_bool HR.out.symm, (Q.refl _).alloc _⟩
            · have s_r : ((l1 : Int) == 2) = false := by rw [beq_eq_false_iff_ne]; omega
              have hno := rng_no (rs := rs) (by omega)
              rw [hno]
              clear hno HM hr
              have HR : Hid ((decide (d ≤ 50) && ((false) && bareB 0 t.data.toList b 0 0 l2)) = false) := by show _ = _; rw [Bool.false_and, Bool.and_false]
              generalize (decide (d ≤ 50) && ((false) && bareB 0 t.data.toList b 0 0 l2)) = rr at HR ⊢
              go_enter Tryz.func58, Tryz.ntmps58
              go_wp2_with fail
              go_ret
              exact ⟨ret_bool HR.out.symm, (Q.refl _).alloc _⟩
set_option maxHeartbeats 8000000 in
theorem rn_k (k : Int) (n : Int) (t : ByteArray) (b : Bool) (e : Int) (a1 : Option Addr) (l1 c1 : Nat) (a2 : Option Addr) (l2 c2 : Nat) (W : World) (d : Nat) (hk : k < 1 ∨ 9 < k) : Calls Tryz.prog 58 #[.agg #[.int .i64 k, .int .i64 n, .string t, .bool b, .int .i64 e, .slice a1 l1 c1, .slice a2 l2 c2], .int .i64 (d : Int)] W fun e' W' => e' = .returned (.bool false) ∧ Q W W' := by
  have k1 : (k == 1) = false := by rw [beq_eq_false_iff_ne]; omega
  have p1 : ¬ k = 1 := by omega
  have m1 : (k != 1) = true := by rw [bne_iff_ne]; omega
  have k2 : (k == 2) = false := by rw [beq_eq_false_iff_ne]; omega
  have p2 : ¬ k = 2 := by omega
  have m2 : (k != 2) = true := by rw [bne_iff_ne]; omega
  have k3 : (k == 3) = false := by rw [beq_eq_false_iff_ne]; omega
  have p3 : ¬ k = 3 := by omega
  have m3 : (k != 3) = true := by rw [bne_iff_ne]; omega
  have k4 : (k == 4) = false := by rw [beq_eq_false_iff_ne]; omega
  have p4 : ¬ k = 4 := by omega
  have m4 : (k != 4) = true := by rw [bne_iff_ne]; omega
  have k5 : (k == 5) = false := by rw [beq_eq_false_iff_ne]; omega
  have p5 : ¬ k = 5 := by omega
  have m5 : (k != 5) = true := by rw [bne_iff_ne]; omega
  have k6 : (k == 6) = false := by rw [beq_eq_false_iff_ne]; omega
  have p6 : ¬ k = 6 := by omega
  have m6 : (k != 6) = true := by rw [bne_iff_ne]; omega
  have k7 : (k == 7) = false := by rw [beq_eq_false_iff_ne]; omega
  have p7 : ¬ k = 7 := by omega
  have m7 : (k != 7) = true := by rw [bne_iff_ne]; omega
  have k8 : (k == 8) = false := by rw [beq_eq_false_iff_ne]; omega
  have p8 : ¬ k = 8 := by omega
  have m8 : (k != 8) = true := by rw [bne_iff_ne]; omega
  have k9 : (k == 9) = false := by rw [beq_eq_false_iff_ne]; omega
  have p9 : ¬ k = 9 := by omega
  have m9 : (k != 9) = true := by rw [bne_iff_ne]; omega
  clear hk
  by_cases q_d : 50 < d
  · skip
    have s_d : (50 : Int) < (d : Int) := by omega
    go_enter Tryz.func58, Tryz.ntmps58
    go_wp2_with fail
    go_ret
    exact ⟨rfl, (Q.refl _).alloc _⟩
  · skip
    have s_d : ¬ (50 : Int) < (d : Int) := by omega
    by_cases q_n0 : n ≠ 0
    · skip
      have s_n : (n == 0) = false := by rw [beq_eq_false_iff_ne]; exact q_n0
      go_enter Tryz.func58, Tryz.ntmps58
      go_wp2_with fail
      go_ret
      exact ⟨rfl, (Q.refl _).alloc _⟩
    · skip
      obtain rfl : n = 0 := Classical.not_not.1 q_n0
      by_cases q_b : b = true
      · skip
        have s_b : b = true := q_b
        go_enter Tryz.func58, Tryz.ntmps58
        go_wp2_with fail
        go_ret
        exact ⟨rfl, (Q.refl _).alloc _⟩
      · skip
        have s_b : b = false := Bool.eq_false_iff.2 q_b
        by_cases q_e0 : e ≠ 0
        · skip
          have s_e : (e == 0) = false := by rw [beq_eq_false_iff_ne]; exact q_e0
          have s_e2 : (e != 0) = true := by rw [bne_iff_ne]; exact q_e0
          go_enter Tryz.func58, Tryz.ntmps58
          go_wp2_with fail
          go_ret
          exact ⟨rfl, (Q.refl _).alloc _⟩
        · skip
          obtain rfl : e = 0 := Classical.not_not.1 q_e0
          by_cases q_t0 : t.data.toList ≠ []
          · skip
            have s_t : (t.toList == []) = false := by rw [toL, beq_eq_false_iff_ne]; exact q_t0
            have s_t2 : t.toList.isEmpty = false := by rw [toL]; cases h : t.data.toList with | nil => exact absurd h q_t0 | cons _ _ => rfl
            go_enter Tryz.func58, Tryz.ntmps58
            go_wp2_with fail
            go_ret
            exact ⟨rfl, (Q.refl _).alloc _⟩
          · skip
            have s_t : (t.toList == []) = true := by rw [toL, Classical.not_not.1 q_t0]; rfl
            have s_t2 : t.toList.isEmpty = true := by rw [toL, Classical.not_not.1 q_t0]; rfl
            go_enter Tryz.func58, Tryz.ntmps58
            go_wp2_with fail
            go_ret
            exact ⟨rfl, (Q.refl _).alloc _⟩
end Go.Proofs.YtcgddnliiondoaaGreatDoor
