/- counterpaneref5.may, walked: nodes without kids. -/
import Derived.Test.YtcgddnliiondoaaGreatDoorKq05
import Derived.Test.YtcgddnliiondoaaGreatDoorKq14
import Derived.Test.YtcgddnliiondoaaGreatDoorKq16
import Derived.Test.YtcgddnliiondoaaGreatDoorKq15
set_option linter.unusedVariables false
set_option linter.unusedSimpArgs false
set_option maxRecDepth 100000
set_option maxHeartbeats 8000000
namespace Go.Proofs.YtcgddnliiondoaaGreatDoor
open Go.RowKit
theorem may2_no {t : List UInt8} (h : 200 < t.length ∨ Lib.validD t = false) : V.mayB 2 0 t false 0 = false := by
  have e : V.mayB 2 0 t false 0 = V.mtB t := by simp [V.mayB]
  rw [e]
  unfold V.mtB
  rcases h with h | h
  · rw [decide_eq_false (by omega), Bool.false_and]
  · rw [h, Bool.and_false]
theorem may2_yes {t : List UInt8} (h1 : ¬ 200 < t.length) (h2 : Lib.validD t = true) : V.mayB 2 0 t false 0 = true := by
  have e : V.mayB 2 0 t false 0 = V.mtB t := by simp [V.mayB]
  rw [e]
  unfold V.mtB
  rw [decide_eq_true (by omega), h2]
  rfl
theorem en_no {e : Int} (h : e < 1 ∨ 7 < e) : enL e = [] := by
  unfold enL
  rw [if_neg (by omega), if_neg (by omega), if_neg (by omega), if_neg (by omega), if_neg (by omega), if_neg (by omega), if_neg (by omega)]
theorem en_yes {e : Int} (h1 : ¬ e < 1) (h2 : ¬ 7 < e) : enL e ≠ [] := by
  rcases (by omega : e = 1 ∨ e = 2 ∨ e = 3 ∨ e = 4 ∨ e = 5 ∨ e = 6 ∨ e = 7) with rfl | rfl | rfl | rfl | rfl | rfl | rfl <;> decide
set_option maxHeartbeats 8000000 in
theorem rn_1 (n : Int) (t : ByteArray) (b : Bool) (e : Int) (a1 : Option Addr) (l1 c1 : Nat) (a2 : Option Addr) (l2 c2 : Nat) (W : World) (d : Nat) : Calls Tryz.prog 58 #[.agg #[.int .i64 1, .int .i64 n, .string t, .bool b, .int .i64 e, .slice a1 l1 c1, .slice a2 l2 c2], .int .i64 (d : Int)] W fun e' W' => e' = .returned (.bool (decide (d ≤ 50) && ((decide (0 ≤ n)) && bareB 0 t.data.toList b e l1 l2))) ∧ Q W W' := by
  by_cases q_d : 50 < d
  · skip
    have s_d : (50 : Int) < (d : Int) := by omega
    have HR : Hid ((decide (d ≤ 50) && ((decide (0 ≤ n)) && bareB 0 t.data.toList b e l1 l2)) = false) := by show _ = _; rw [decide_eq_false (by omega), Bool.false_and]
    generalize (decide (d ≤ 50) && ((decide (0 ≤ n)) && bareB 0 t.data.toList b e l1 l2)) = rr at HR ⊢
    go_enter Tryz.func58, Tryz.ntmps58
    go_wp2_with fail
    go_ret
    exact ⟨ret_bool HR.out.symm, (Q.refl _).alloc _⟩
  · skip
    have s_d : ¬ (50 : Int) < (d : Int) := by omega
    by_cases q_b : b = true
    · skip
      have s_b : b = true := q_b
      have HR : Hid ((decide (d ≤ 50) && ((decide (0 ≤ n)) && bareB 0 t.data.toList b e l1 l2)) = false) := by show _ = _; rw [show bareB 0 t.data.toList b e l1 l2 = false from decide_eq_false (fun h => by rw [q_b] at h; exact absurd h.2.2.1 (by simp)), Bool.and_false, Bool.and_false]
      generalize (decide (d ≤ 50) && ((decide (0 ≤ n)) && bareB 0 t.data.toList b e l1 l2)) = rr at HR ⊢
      go_enter Tryz.func58, Tryz.ntmps58
      go_wp2_with fail
      go_ret
      exact ⟨ret_bool HR.out.symm, (Q.refl _).alloc _⟩
    · skip
      have s_b : b = false := Bool.eq_false_iff.2 q_b
      by_cases q_e0 : e ≠ 0
      · skip
        have s_e : (e == 0) = false := by rw [beq_eq_false_iff_ne]; exact q_e0
        have HR : Hid ((decide (d ≤ 50) && ((decide (0 ≤ n)) && bareB 0 t.data.toList b e l1 l2)) = false) := by show _ = _; rw [show bareB 0 t.data.toList b e l1 l2 = false from decide_eq_false (fun h => q_e0 h.2.2.2.1), Bool.and_false, Bool.and_false]
        generalize (decide (d ≤ 50) && ((decide (0 ≤ n)) && bareB 0 t.data.toList b e l1 l2)) = rr at HR ⊢
        go_enter Tryz.func58, Tryz.ntmps58
        go_wp2_with fail
        go_ret
        exact ⟨ret_bool HR.out.symm, (Q.refl _).alloc _⟩
      · skip
        obtain rfl : e = 0 := Classical.not_not.1 q_e0
        by_cases q_t0 : t.data.toList ≠ []
        · skip
          have s_t : (t.toList == []) = false := by rw [toL, beq_eq_false_iff_ne]; exact q_t0
          have HR : Hid ((decide (d ≤ 50) && ((decide (0 ≤ n)) && bareB 0 t.data.toList b 0 l1 l2)) = false) := by show _ = _; rw [show bareB 0 t.data.toList b 0 l1 l2 = false from decide_eq_false (fun h => q_t0 h.2.1), Bool.and_false, Bool.and_false]
          generalize (decide (d ≤ 50) && ((decide (0 ≤ n)) && bareB 0 t.data.toList b 0 l1 l2)) = rr at HR ⊢
          go_enter Tryz.func58, Tryz.ntmps58
          go_wp2_with fail
          go_ret
          exact ⟨ret_bool HR.out.symm, (Q.refl _).alloc _⟩
        · skip
          have s_t : (t.toList == []) = true := by rw [toL, Classical.not_not.1 q_t0]; rfl
          by_cases q_nneg : n < 0
          · skip
            have s_m : n < 0 := q_nneg
            have HR : Hid ((decide (d ≤ 50) && ((decide (0 ≤ n)) && bareB 0 t.data.toList b 0 l1 l2)) = false) := by show _ = _; rw [show (decide (0 ≤ n)) = false from decide_eq_false (by omega), Bool.false_and, Bool.and_false]
            generalize (decide (d ≤ 50) && ((decide (0 ≤ n)) && bareB 0 t.data.toList b 0 l1 l2)) = rr at HR ⊢
            go_enter Tryz.func58, Tryz.ntmps58
            go_wp2_with fail
            go_ret
            exact ⟨ret_bool HR.out.symm, (Q.refl _).alloc _⟩
          · skip
            have s_m : ¬ n < 0 := q_nneg
            by_cases q_l1 : l1 ≠ 0
            · skip
              have s_r : ((l1 : Int) == 0) = false := by rw [beq_eq_false_iff_ne]; omega
              have HR : Hid ((decide (d ≤ 50) && ((decide (0 ≤ n)) && bareB 0 t.data.toList b 0 l1 l2)) = false) := by show _ = _; rw [show bareB 0 t.data.toList b 0 l1 l2 = false from decide_eq_false (fun h => q_l1 h.2.2.2.2.1), Bool.and_false, Bool.and_false]
              generalize (decide (d ≤ 50) && ((decide (0 ≤ n)) && bareB 0 t.data.toList b 0 l1 l2)) = rr at HR ⊢
              go_enter Tryz.func58, Tryz.ntmps58
              go_wp2_with fail
              go_ret
              exact ⟨ret_bool HR.out.symm, (Q.refl _).alloc _⟩
            · skip
              obtain rfl : l1 = 0 := Classical.not_not.1 q_l1
              by_cases q_l2 : l2 ≠ 0
              · skip
                have s_k : ((l2 : Int) == 0) = false := by rw [beq_eq_false_iff_ne]; omega
                have HR : Hid ((decide (d ≤ 50) && ((decide (0 ≤ n)) && bareB 0 t.data.toList b 0 0 l2)) = false) := by show _ = _; rw [show bareB 0 t.data.toList b 0 0 l2 = false from decide_eq_false (fun h => q_l2 h.2.2.2.2.2), Bool.and_false, Bool.and_false]
                generalize (decide (d ≤ 50) && ((decide (0 ≤ n)) && bareB 0 t.data.toList b 0 0 l2)) = rr at HR ⊢
                go_enter Tryz.func58, Tryz.ntmps58
                go_wp2_with fail
                go_ret
                exact ⟨ret_bool HR.out.symm, (Q.refl _).alloc _⟩
              · skip
                obtain rfl : l2 = 0 := Classical.not_not.1 q_l2
                have HR : Hid ((decide (d ≤ 50) && ((decide (0 ≤ n)) && bareB 0 t.data.toList b 0 0 0)) = true) := by show _ = _; rw [decide_eq_true (by omega), show (decide (0 ≤ n)) = true from decide_eq_true (by omega), show bareB 0 t.data.toList b 0 0 0 = true from decide_eq_true ⟨rfl, Classical.not_not.1 q_t0, s_b, rfl, rfl, rfl⟩]; rfl
                generalize (decide (d ≤ 50) && ((decide (0 ≤ n)) && bareB 0 t.data.toList b 0 0 0)) = rr at HR ⊢
                clear q_d q_e0 q_t0 q_nneg q_l1 q_l2
                go_enter Tryz.func58, Tryz.ntmps58
                go_wp2_with fail
                refine wp_loop_rounds 1 ?_
                rw [rounds_succ]
                go_wp2_with fail
                refine wp_loop_rounds 1 ?_
                rw [rounds_succ]
                go_wp2_with fail
                go_ret
                exact ⟨ret_bool HR.out.symm, (Q.refl _).alloc _⟩
set_option maxHeartbeats 8000000 in
theorem rn_2 (n : Int) (t : ByteArray) (b : Bool) (e : Int) (a1 : Option Addr) (l1 c1 : Nat) (a2 : Option Addr) (l2 c2 : Nat) (W : World) (d : Nat) (hs : t.size ≤ 4000000000) : Calls Tryz.prog 58 #[.agg #[.int .i64 2, .int .i64 n, .string t, .bool b, .int .i64 e, .slice a1 l1 c1, .slice a2 l2 c2], .int .i64 (d : Int)] W fun e' W' => e' = .returned (.bool (decide (d ≤ 50) && ((V.mayB 2 0 t.data.toList false 0) && bareB n [] b e l1 l2))) ∧ Q W W' := by
  have HU := hid (fun W' => V.utf8_any t W' (by omega))
  by_cases q_d : 50 < d
  · skip
    have s_d : (50 : Int) < (d : Int) := by omega
    have HR : Hid ((decide (d ≤ 50) && ((V.mayB 2 0 t.data.toList false 0) && bareB n [] b e l1 l2)) = false) := by show _ = _; rw [decide_eq_false (by omega), Bool.false_and]
    generalize (decide (d ≤ 50) && ((V.mayB 2 0 t.data.toList false 0) && bareB n [] b e l1 l2)) = rr at HR ⊢
    go_enter Tryz.func58, Tryz.ntmps58
    go_wp2_with (go_at_call 59; refine (HU.out _).mono ?_; rintro e9 w9 ⟨rfl, h9⟩; replace h9 := h9.symm; subst h9)
    go_ret
    exact ⟨ret_bool HR.out.symm, (Q.refl _).alloc _⟩
  · skip
    have s_d : ¬ (50 : Int) < (d : Int) := by omega
    by_cases q_n0 : n ≠ 0
    · skip
      have s_n : (n == 0) = false := by rw [beq_eq_false_iff_ne]; exact q_n0
      have HR : Hid ((decide (d ≤ 50) && ((V.mayB 2 0 t.data.toList false 0) && bareB n [] b e l1 l2)) = false) := by show _ = _; rw [show bareB n [] b e l1 l2 = false from decide_eq_false (fun h => q_n0 h.1), Bool.and_false, Bool.and_false]
      generalize (decide (d ≤ 50) && ((V.mayB 2 0 t.data.toList false 0) && bareB n [] b e l1 l2)) = rr at HR ⊢
      go_enter Tryz.func58, Tryz.ntmps58
      go_wp2_with (go_at_call 59; refine (HU.out _).mono ?_; rintro e9 w9 ⟨rfl, h9⟩; replace h9 := h9.symm; subst h9)
      go_ret
      exact ⟨ret_bool HR.out.symm, (Q.refl _).alloc _⟩
    · skip
      obtain rfl : n = 0 := Classical.not_not.1 q_n0
      by_cases q_b : b = true
      · skip
        have s_b : b = true := q_b
        have HR : Hid ((decide (d ≤ 50) && ((V.mayB 2 0 t.data.toList false 0) && bareB 0 [] b e l1 l2)) = false) := by show _ = _; rw [show bareB 0 [] b e l1 l2 = false from decide_eq_false (fun h => by rw [q_b] at h; exact absurd h.2.2.1 (by simp)), Bool.and_false, Bool.and_false]
        generalize (decide (d ≤ 50) && ((V.mayB 2 0 t.data.toList false 0) && bareB 0 [] b e l1 l2)) = rr at HR ⊢
        go_enter Tryz.func58, Tryz.ntmps58
        go_wp2_with (go_at_call 59; refine (HU.out _).mono ?_; rintro e9 w9 ⟨rfl, h9⟩; replace h9 := h9.symm; subst h9)
        go_ret
        exact ⟨ret_bool HR.out.symm, (Q.refl _).alloc _⟩
      · skip
        have s_b : b = false := Bool.eq_false_iff.2 q_b
        by_cases q_e0 : e ≠ 0
        · skip
          have s_e : (e == 0) = false := by rw [beq_eq_false_iff_ne]; exact q_e0
          have HR : Hid ((decide (d ≤ 50) && ((V.mayB 2 0 t.data.toList false 0) && bareB 0 [] b e l1 l2)) = false) := by show _ = _; rw [show bareB 0 [] b e l1 l2 = false from decide_eq_false (fun h => q_e0 h.2.2.2.1), Bool.and_false, Bool.and_false]
          generalize (decide (d ≤ 50) && ((V.mayB 2 0 t.data.toList false 0) && bareB 0 [] b e l1 l2)) = rr at HR ⊢
          go_enter Tryz.func58, Tryz.ntmps58
          go_wp2_with (go_at_call 59; refine (HU.out _).mono ?_; rintro e9 w9 ⟨rfl, h9⟩; replace h9 := h9.symm; subst h9)
          go_ret
          exact ⟨ret_bool HR.out.symm, (Q.refl _).alloc _⟩
        · skip
          obtain rfl : e = 0 := Classical.not_not.1 q_e0
          by_cases q_tlen : 200 < t.size
          · skip
            have s_l : (200 : Int) < (t.size : Int) := by omega
            have HR : Hid ((decide (d ≤ 50) && ((V.mayB 2 0 t.data.toList false 0) && bareB 0 [] b 0 l1 l2)) = false) := by show _ = _; rw [show (V.mayB 2 0 t.data.toList false 0) = false from may2_no (.inl (by rw [len_data]; omega)), Bool.false_and, Bool.and_false]
            generalize (decide (d ≤ 50) && ((V.mayB 2 0 t.data.toList false 0) && bareB 0 [] b 0 l1 l2)) = rr at HR ⊢
            go_enter Tryz.func58, Tryz.ntmps58
            go_wp2_with (go_at_call 59; refine (HU.out _).mono ?_; rintro e9 w9 ⟨rfl, h9⟩; replace h9 := h9.symm; subst h9)
            go_ret
            exact ⟨ret_bool HR.out.symm, (Q.refl _).alloc _⟩
          · skip
            have s_l : ¬ (200 : Int) < (t.size : Int) := by omega
            by_cases q_utf : Lib.validD t.data.toList = false
            · skip
              rw [q_utf] at HU
              have HR : Hid ((decide (d ≤ 50) && ((V.mayB 2 0 t.data.toList false 0) && bareB 0 [] b 0 l1 l2)) = false) := by show _ = _; rw [show (V.mayB 2 0 t.data.toList false 0) = false from may2_no (.inr q_utf), Bool.false_and, Bool.and_false]
              generalize (decide (d ≤ 50) && ((V.mayB 2 0 t.data.toList false 0) && bareB 0 [] b 0 l1 l2)) = rr at HR ⊢
              go_enter Tryz.func58, Tryz.ntmps58
              go_wp2_with (go_at_call 59; refine (HU.out _).mono ?_; rintro e9 w9 ⟨rfl, h9⟩; replace h9 := h9.symm; subst h9)
              go_ret
              exact ⟨ret_bool HR.out.symm, (Q.refl _).alloc _⟩
            · skip
              have q_u2 : Lib.validD t.data.toList = true := by simpa using q_utf
              rw [q_u2] at HU
              by_cases q_l1 : l1 ≠ 0
              · skip
                have s_r : ((l1 : Int) == 0) = false := by rw [beq_eq_false_iff_ne]; omega
                have HR : Hid ((decide (d ≤ 50) && ((V.mayB 2 0 t.data.toList false 0) && bareB 0 [] b 0 l1 l2)) = false) := by show _ = _; rw [show bareB 0 [] b 0 l1 l2 = false from decide_eq_false (fun h => q_l1 h.2.2.2.2.1), Bool.and_false, Bool.and_false]
                generalize (decide (d ≤ 50) && ((V.mayB 2 0 t.data.toList false 0) && bareB 0 [] b 0 l1 l2)) = rr at HR ⊢
                go_enter Tryz.func58, Tryz.ntmps58
                go_wp2_with (go_at_call 59; refine (HU.out _).mono ?_; rintro e9 w9 ⟨rfl, h9⟩; replace h9 := h9.symm; subst h9)
                go_ret
                exact ⟨ret_bool HR.out.symm, (Q.refl _).alloc _⟩
              · skip
                obtain rfl : l1 = 0 := Classical.not_not.1 q_l1
                by_cases q_l2 : l2 ≠ 0
                · skip
                  have s_k : ((l2 : Int) == 0) = false := by rw [beq_eq_false_iff_ne]; omega
                  have HR : Hid ((decide (d ≤ 50) && ((V.mayB 2 0 t.data.toList false 0) && bareB 0 [] b 0 0 l2)) = false) := by show _ = _; rw [show bareB 0 [] b 0 0 l2 = false from decide_eq_false (fun h => q_l2 h.2.2.2.2.2), Bool.and_false, Bool.and_false]
                  generalize (decide (d ≤ 50) && ((V.mayB 2 0 t.data.toList false 0) && bareB 0 [] b 0 0 l2)) = rr at HR ⊢
                  go_enter Tryz.func58, Tryz.ntmps58
                  go_wp2_with (go_at_call 59; refine (HU.out _).mono ?_; rintro e9 w9 ⟨rfl, h9⟩; replace h9 := h9.symm; subst h9)
                  go_ret
                  exact ⟨ret_bool HR.out.symm, (Q.refl _).alloc _⟩
                · skip
                  obtain rfl : l2 = 0 := Classical.not_not.1 q_l2
                  have HR : Hid ((decide (d ≤ 50) && ((V.mayB 2 0 t.data.toList false 0) && bareB 0 [] b 0 0 0)) = true) := by show _ = _; rw [decide_eq_true (by omega), show (V.mayB 2 0 t.data.toList false 0) = true from may2_yes (by rw [len_data]; omega) q_u2, show bareB 0 [] b 0 0 0 = true from decide_eq_true ⟨rfl, rfl, s_b, rfl, rfl, rfl⟩]; rfl
                  generalize (decide (d ≤ 50) && ((V.mayB 2 0 t.data.toList false 0) && bareB 0 [] b 0 0 0)) = rr at HR ⊢
                  clear q_d q_n0 q_e0 q_tlen q_utf q_l1 q_l2
                  go_enter Tryz.func58, Tryz.ntmps58
                  go_wp2_with (go_at_call 59; refine (HU.out _).mono ?_; rintro e9 w9 ⟨rfl, h9⟩; replace h9 := h9.symm; subst h9)
                  refine wp_loop_rounds 1 ?_
                  rw [rounds_succ]
                  go_wp2_with fail
                  refine wp_loop_rounds 1 ?_
                  rw [rounds_succ]
                  go_wp2_with fail
                  go_ret
                  exact ⟨ret_bool HR.out.symm, (Q.refl _).alloc _⟩
set_option maxHeartbeats 8000000 in
theorem rn_3 (n : Int) (t : ByteArray) (b : Bool) (e : Int) (a1 : Option Addr) (l1 c1 : Nat) (a2 : Option Addr) (l2 c2 : Nat) (W : World) (d : Nat) : Calls Tryz.prog 58 #[.agg #[.int .i64 3, .int .i64 n, .string t, .bool b, .int .i64 e, .slice a1 l1 c1, .slice a2 l2 c2], .int .i64 (d : Int)] W fun e' W' => e' = .returned (.bool (decide (d ≤ 50) && ((true) && bareB n t.data.toList false e l1 l2))) ∧ Q W W' := by
  by_cases q_d : 50 < d
  · skip
    have s_d : (50 : Int) < (d : Int) := by omega
    have HR : Hid ((decide (d ≤ 50) && ((true) && bareB n t.data.toList false e l1 l2)) = false) := by show _ = _; rw [decide_eq_false (by omega), Bool.false_and]
    generalize (decide (d ≤ 50) && ((true) && bareB n t.data.toList false e l1 l2)) = rr at HR ⊢
    go_enter Tryz.func58, Tryz.ntmps58
    go_wp2_with fail
    go_ret
    exact ⟨ret_bool HR.out.symm, (Q.refl _).alloc _⟩
  · skip
    have s_d : ¬ (50 : Int) < (d : Int) := by omega
    by_cases q_n0 : n ≠ 0
    · skip
      have s_n : (n == 0) = false := by rw [beq_eq_false_iff_ne]; exact q_n0
      have HR : Hid ((decide (d ≤ 50) && ((true) && bareB n t.data.toList false e l1 l2)) = false) := by show _ = _; rw [show bareB n t.data.toList false e l1 l2 = false from decide_eq_false (fun h => q_n0 h.1), Bool.and_false, Bool.and_false]
      generalize (decide (d ≤ 50) && ((true) && bareB n t.data.toList false e l1 l2)) = rr at HR ⊢
      go_enter Tryz.func58, Tryz.ntmps58
      go_wp2_with fail
      go_ret
      exact ⟨ret_bool HR.out.symm, (Q.refl _).alloc _⟩
    · skip
      obtain rfl : n = 0 := Classical.not_not.1 q_n0
      by_cases q_e0 : e ≠ 0
      · skip
        have s_e : (e == 0) = false := by rw [beq_eq_false_iff_ne]; exact q_e0
        have HR : Hid ((decide (d ≤ 50) && ((true) && bareB 0 t.data.toList false e l1 l2)) = false) := by show _ = _; rw [show bareB 0 t.data.toList false e l1 l2 = false from decide_eq_false (fun h => q_e0 h.2.2.2.1), Bool.and_false, Bool.and_false]
        generalize (decide (d ≤ 50) && ((true) && bareB 0 t.data.toList false e l1 l2)) = rr at HR ⊢
        go_enter Tryz.func58, Tryz.ntmps58
        go_wp2_with fail
        go_ret
        exact ⟨ret_bool HR.out.symm, (Q.refl _).alloc _⟩
      · skip
        obtain rfl : e = 0 := Classical.not_not.1 q_e0
        by_cases q_t0 : t.data.toList ≠ []
        · skip
          have s_t : (t.toList == []) = false := by rw [toL, beq_eq_false_iff_ne]; exact q_t0
          have HR : Hid ((decide (d ≤ 50) && ((true) && bareB 0 t.data.toList false 0 l1 l2)) = false) := by show _ = _; rw [show bareB 0 t.data.toList false 0 l1 l2 = false from decide_eq_false (fun h => q_t0 h.2.1), Bool.and_false, Bool.and_false]
          generalize (decide (d ≤ 50) && ((true) && bareB 0 t.data.toList false 0 l1 l2)) = rr at HR ⊢
          go_enter Tryz.func58, Tryz.ntmps58
          go_wp2_with fail
          go_ret
          exact ⟨ret_bool HR.out.symm, (Q.refl _).alloc _⟩
        · skip
          have s_t : (t.toList == []) = true := by rw [toL, Classical.not_not.1 q_t0]; rfl
          by_cases q_l1 : l1 ≠ 0
          · skip
            have s_r : ((l1 : Int) == 0) = false := by rw [beq_eq_false_iff_ne]; omega
            have HR : Hid ((decide (d ≤ 50) && ((true) && bareB 0 t.data.toList false 0 l1 l2)) = false) := by show _ = _; rw [show bareB 0 t.data.toList false 0 l1 l2 = false from decide_eq_false (fun h => q_l1 h.2.2.2.2.1), Bool.and_false, Bool.and_false]
            generalize (decide (d ≤ 50) && ((true) && bareB 0 t.data.toList false 0 l1 l2)) = rr at HR ⊢
            go_enter Tryz.func58, Tryz.ntmps58
            go_wp2_with fail
            go_ret
            exact ⟨ret_bool HR.out.symm, (Q.refl _).alloc _⟩
          · skip
            obtain rfl : l1 = 0 := Classical.not_not.1 q_l1
            by_cases q_l2 : l2 ≠ 0
            · skip
              have s_k : ((l2 : Int) == 0) = false := by rw [beq_eq_false_iff_ne]; omega
              have HR : Hid ((decide (d ≤ 50) && ((true) && bareB 0 t.data.toList false 0 0 l2)) = false) := by show _ = _; rw [show bareB 0 t.data.toList false 0 0 l2 = false from decide_eq_false (fun h => q_l2 h.2.2.2.2.2), Bool.and_false, Bool.and_false]
              generalize (decide (d ≤ 50) && ((true) && bareB 0 t.data.toList false 0 0 l2)) = rr at HR ⊢
              go_enter Tryz.func58, Tryz.ntmps58
              go_wp2_with fail
              go_ret
              exact ⟨ret_bool HR.out.symm, (Q.refl _).alloc _⟩
            · skip
              obtain rfl : l2 = 0 := Classical.not_not.1 q_l2
              have HR : Hid ((decide (d ≤ 50) && ((true) && bareB 0 t.data.toList false 0 0 0)) = true) := by show _ = _; rw [decide_eq_true (by omega), show (true) = true from rfl, show bareB 0 t.data.toList false 0 0 0 = true from decide_eq_true ⟨rfl, Classical.not_not.1 q_t0, rfl, rfl, rfl, rfl⟩]; rfl
              generalize (decide (d ≤ 50) && ((true) && bareB 0 t.data.toList false 0 0 0)) = rr at HR ⊢
              clear q_d q_n0 q_e0 q_t0 q_l1 q_l2
              go_enter Tryz.func58, Tryz.ntmps58
              go_wp2_with fail
              refine wp_loop_rounds 1 ?_
              rw [rounds_succ]
              go_wp2_with fail
              refine wp_loop_rounds 1 ?_
              rw [rounds_succ]
              go_wp2_with fail
              go_ret
              exact ⟨ret_bool HR.out.symm, (Q.refl _).alloc _⟩
set_option maxHeartbeats 8000000 in
theorem rn_4 (n : Int) (t : ByteArray) (b : Bool) (e : Int) (a1 : Option Addr) (l1 c1 : Nat) (a2 : Option Addr) (l2 c2 : Nat) (W : World) (d : Nat) : Calls Tryz.prog 58 #[.agg #[.int .i64 4, .int .i64 n, .string t, .bool b, .int .i64 e, .slice a1 l1 c1, .slice a2 l2 c2], .int .i64 (d : Int)] W fun e' W' => e' = .returned (.bool (decide (d ≤ 50) && ((decide (enL e ≠ [])) && bareB n t.data.toList b 0 l1 l2))) ∧ Q W W' := by
  by_cases q_d : 50 < d
  · skip
    have s_d : (50 : Int) < (d : Int) := by omega
    have HR : Hid ((decide (d ≤ 50) && ((decide (enL e ≠ [])) && bareB n t.data.toList b 0 l1 l2)) = false) := by show _ = _; rw [decide_eq_false (by omega), Bool.false_and]
    generalize (decide (d ≤ 50) && ((decide (enL e ≠ [])) && bareB n t.data.toList b 0 l1 l2)) = rr at HR ⊢
    go_enter Tryz.func58, Tryz.ntmps58
    go_wp2_with fail
    go_ret
    exact ⟨ret_bool HR.out.symm, (Q.refl _).alloc _⟩
  · skip
    have s_d : ¬ (50 : Int) < (d : Int) := by omega
    by_cases q_n0 : n ≠ 0
    · skip
      have s_n : (n == 0) = false := by rw [beq_eq_false_iff_ne]; exact q_n0
      have HR : Hid ((decide (d ≤ 50) && ((decide (enL e ≠ [])) && bareB n t.data.toList b 0 l1 l2)) = false) := by show _ = _; rw [show bareB n t.data.toList b 0 l1 l2 = false from decide_eq_false (fun h => q_n0 h.1), Bool.and_false, Bool.and_false]
      generalize (decide (d ≤ 50) && ((decide (enL e ≠ [])) && bareB n t.data.toList b 0 l1 l2)) = rr at HR ⊢
      go_enter Tryz.func58, Tryz.ntmps58
      go_wp2_with fail
      go_ret
      exact ⟨ret_bool HR.out.symm, (Q.refl _).alloc _⟩
    · skip
      obtain rfl : n = 0 := Classical.not_not.1 q_n0
      by_cases q_b : b = true
      · skip
        have s_b : b = true := q_b
        have HR : Hid ((decide (d ≤ 50) && ((decide (enL e ≠ [])) && bareB 0 t.data.toList b 0 l1 l2)) = false) := by show _ = _; rw [show bareB 0 t.data.toList b 0 l1 l2 = false from decide_eq_false (fun h => by rw [q_b] at h; exact absurd h.2.2.1 (by simp)), Bool.and_false, Bool.and_false]
        generalize (decide (d ≤ 50) && ((decide (enL e ≠ [])) && bareB 0 t.data.toList b 0 l1 l2)) = rr at HR ⊢
        go_enter Tryz.func58, Tryz.ntmps58
        go_wp2_with fail
        go_ret
        exact ⟨ret_bool HR.out.symm, (Q.refl _).alloc _⟩
      · skip
        have s_b : b = false := Bool.eq_false_iff.2 q_b
        by_cases q_t0 : t.data.toList ≠ []
        · skip
          have s_t : (t.toList == []) = false := by rw [toL, beq_eq_false_iff_ne]; exact q_t0
          have HR : Hid ((decide (d ≤ 50) && ((decide (enL e ≠ [])) && bareB 0 t.data.toList b 0 l1 l2)) = false) := by show _ = _; rw [show bareB 0 t.data.toList b 0 l1 l2 = false from decide_eq_false (fun h => q_t0 h.2.1), Bool.and_false, Bool.and_false]
          generalize (decide (d ≤ 50) && ((decide (enL e ≠ [])) && bareB 0 t.data.toList b 0 l1 l2)) = rr at HR ⊢
          go_enter Tryz.func58, Tryz.ntmps58
          go_wp2_with fail
          go_ret
          exact ⟨ret_bool HR.out.symm, (Q.refl _).alloc _⟩
        · skip
          have s_t : (t.toList == []) = true := by rw [toL, Classical.not_not.1 q_t0]; rfl
          by_cases q_elo : e < 1
          · skip
            have s_1 : e < 1 := q_elo
            have HR : Hid ((decide (d ≤ 50) && ((decide (enL e ≠ [])) && bareB 0 t.data.toList b 0 l1 l2)) = false) := by show _ = _; rw [show (decide (enL e ≠ [])) = false from decide_eq_false (fun h => h (en_no (.inl q_elo))), Bool.false_and, Bool.and_false]
            generalize (decide (d ≤ 50) && ((decide (enL e ≠ [])) && bareB 0 t.data.toList b 0 l1 l2)) = rr at HR ⊢
            go_enter Tryz.func58, Tryz.ntmps58
            go_wp2_with fail
            go_ret
            exact ⟨ret_bool HR.out.symm, (Q.refl _).alloc _⟩
          · skip
            have s_1 : ¬ e < 1 := q_elo
            by_cases q_ehi : 7 < e
            · skip
              have s_7 : 7 < e := q_ehi
              have HR : Hid ((decide (d ≤ 50) && ((decide (enL e ≠ [])) && bareB 0 t.data.toList b 0 l1 l2)) = false) := by show _ = _; rw [show (decide (enL e ≠ [])) = false from decide_eq_false (fun h => h (en_no (.inr q_ehi))), Bool.false_and, Bool.and_false]
              generalize (decide (d ≤ 50) && ((decide (enL e ≠ [])) && bareB 0 t.data.toList b 0 l1 l2)) = rr at HR ⊢
              go_enter Tryz.func58, Tryz.ntmps58
              go_wp2_with fail
              go_ret
              exact ⟨ret_bool HR.out.symm, (Q.refl _).alloc _⟩
            · skip
              have s_7 : ¬ 7 < e := q_ehi
              by_cases q_l1 : l1 ≠ 0
              · skip
                have s_r : ((l1 : Int) == 0) = false := by rw [beq_eq_false_iff_ne]; omega
                have HR : Hid ((decide (d ≤ 50) && ((decide (enL e ≠ [])) && bareB 0 t.data.toList b 0 l1 l2)) = false) := by show _ = _; rw [show bareB 0 t.data.toList b 0 l1 l2 = false from decide_eq_false (fun h => q_l1 h.2.2.2.2.1), Bool.and_false, Bool.and_false]
                generalize (decide (d ≤ 50) && ((decide (enL e ≠ [])) && bareB 0 t.data.toList b 0 l1 l2)) = rr at HR ⊢
                go_enter Tryz.func58, Tryz.ntmps58
                go_wp2_with fail
                go_ret
                exact ⟨ret_bool HR.out.symm, (Q.refl _).alloc _⟩
              · skip
                obtain rfl : l1 = 0 := Classical.not_not.1 q_l1
                by_cases q_l2 : l2 ≠ 0
                · skip
                  have s_k : ((l2 : Int) == 0) = false := by rw [beq_eq_false_iff_ne]; omega
                  have HR : Hid ((decide (d ≤ 50) && ((decide (enL e ≠ [])) && bareB 0 t.data.toList b 0 0 l2)) = false) := by show _ = _; rw [show bareB 0 t.data.toList b 0 0 l2 = false from decide_eq_false (fun h => q_l2 h.2.2.2.2.2), Bool.and_false, Bool.and_false]
                  generalize (decide (d ≤ 50) && ((decide (enL e ≠ [])) && bareB 0 t.data.toList b 0 0 l2)) = rr at HR ⊢
                  go_enter Tryz.func58, Tryz.ntmps58
                  go_wp2_with fail
                  go_ret
                  exact ⟨ret_bool HR.out.symm, (Q.refl _).alloc _⟩
                · skip
                  obtain rfl : l2 = 0 := Classical.not_not.1 q_l2
                  have HR : Hid ((decide (d ≤ 50) && ((decide (enL e ≠ [])) && bareB 0 t.data.toList b 0 0 0)) = true) := by show _ = _; rw [decide_eq_true (by omega), show (decide (enL e ≠ [])) = true from decide_eq_true (en_yes (by omega) (by omega)), show bareB 0 t.data.toList b 0 0 0 = true from decide_eq_true ⟨rfl, Classical.not_not.1 q_t0, s_b, rfl, rfl, rfl⟩]; rfl
                  generalize (decide (d ≤ 50) && ((decide (enL e ≠ [])) && bareB 0 t.data.toList b 0 0 0)) = rr at HR ⊢
                  clear q_d q_n0 q_t0 q_elo q_ehi q_l1 q_l2
                  go_enter Tryz.func58, Tryz.ntmps58
                  go_wp2_with fail
                  refine wp_loop_rounds 1 ?_
                  rw [rounds_succ]
                  go_wp2_with fail
                  refine wp_loop_rounds 1 ?_
                  rw [rounds_succ]
                  go_wp2_with fail
                  go_ret
                  exact ⟨ret_bool HR.out.symm, (Q.refl _).alloc _⟩
end Go.Proofs.YtcgddnliiondoaaGreatDoor
