/- Words for the walks: nothing that was there has turned; an o. -/
import Derived.Test.YthebfhdpofhmpaaGreatDoorRows
import Derived.Test.YthebfhdpofhmpaaGreatDoorKc00
import Derived.WalkKit
import Derived.WalkSpells
import Derived.WalkLawsBesides
set_option linter.unusedVariables false
set_option linter.unusedSimpArgs false
set_option maxRecDepth 100000
set_option maxHeartbeats 8000000
namespace Go.Proofs.YthebfhdpofhmpaaGreatDoor.L
open Go.RowKit
theorem hid {p : Prop} (h : p) : Hid p := h
theorem ret_int {k : IntKind} {a b : Int} (h : a = b) : Ending.returned (.int k a) = .returned (.int k b) := by rw [h]
theorem ret_bool {a b : Bool} (h : a = b) : Ending.returned (.bool a) = .returned (.bool b) := by rw [h]
def Q (w w' : World) : Prop := Below w.heap.size w w'
theorem Q.refl (w : World) : Q w w := Below.refl _ _
theorem Q.trans {a b c : World} (h : Q a b) (k : Q b c) : Q a c := Below.trans h (Below.mono k h.size)
theorem Q.drew {a w : World} (h : Q a w) : Q a w.drew := Below.drew h
theorem Q.drewN {a w : World} (h : Q a w) (n : Nat) : Q a (w.drewN n) := below_drewN h n
theorem Q.alloc {a w : World} (h : Q a w) (o : Obj) : Q a (w.alloc o) := Below.alloc h h.size o
def mayB (k a t : Int) : Bool := decide ((0 ≤ a ∧ a < 2199023255552) ∧ (0 ≤ t ∧ t < 2199023255552) ∧ Ax.okB k a t = true)
def plB (n : Int) : Bool := decide (0 ≤ n ∧ n ≤ 1152921504606846976)
def mnB (n : Int) : Bool := decide (0 ≤ n ∧ n < 2199023255552)
def og (g a : Int) (bh : Bool) : Int := if a < g ∨ (g = a ∧ bh = true) then g + 1 else g
def ix (k a t i : Int) : Int := if mayB k a t = true ∧ plB i = true then Ax.idx k a t i else -1
set_option maxHeartbeats 400000 in
theorem mayNumber_any (n : Int) (w : World) : Calls Tryz.prog 48 #[.int .i64 n] w fun e w' => e = .returned (.bool (mnB n)) ∧ w' = w := by
  by_cases h0 : 0 ≤ n
  · by_cases h1 : n < 2199023255552
    · have H : Hid (true = mnB n) := by show _ = _; simp [mnB, h0, h1]
      go_enter Tryz.func48, Tryz.ntmps48
      go_wp2
      go_ret
      exact ⟨ret_bool H.out, rfl⟩
    · have H : Hid (false = mnB n) := by show _ = _; simp [mnB, h0, h1]
      go_enter Tryz.func48, Tryz.ntmps48
      go_wp2
      go_ret
      exact ⟨ret_bool H.out, rfl⟩
  · have H : Hid (false = mnB n) := by show _ = _; simp [mnB, h0]
    go_enter Tryz.func48, Tryz.ntmps48
    go_wp2
    go_ret
    exact ⟨ret_bool H.out, rfl⟩
set_option maxHeartbeats 400000 in
theorem mayPlace_any (n : Int) (w : World) : Calls Tryz.prog 79 #[.int .i64 n] w fun e w' => e = .returned (.bool (plB n)) ∧ w' = w := by
  by_cases h0 : 0 ≤ n
  · by_cases h1 : n ≤ 1152921504606846976
    · have H : Hid (true = plB n) := by show _ = _; simp [plB, h0, h1]
      go_enter Tryz.func79, Tryz.ntmps79
      go_wp2
      go_ret
      exact ⟨ret_bool H.out, rfl⟩
    · have H : Hid (false = plB n) := by show _ = _; simp [plB, h0, h1]
      go_enter Tryz.func79, Tryz.ntmps79
      go_wp2
      go_ret
      exact ⟨ret_bool H.out, rfl⟩
  · have H : Hid (false = plB n) := by show _ = _; simp [plB, h0]
    go_enter Tryz.func79, Tryz.ntmps79
    go_wp2
    go_ret
    exact ⟨ret_bool H.out, rfl⟩
set_option maxHeartbeats 400000 in
theorem closed_any (n a : Int) (w : World) (ha : 0 ≤ a) (hn : n ≤ 4611686018427387904) : Calls Tryz.prog 81 #[.int .i64 n, .int .i64 a] w fun e w' => e = .returned (.int .i64 (Ax.lf n a)) ∧ w' = w := by
  by_cases h : a < n
  · have H : Hid (n - 1 = Ax.lf n a) := by show _ = _; simp [Ax.lf, h]
    go_enter Tryz.func81, Tryz.ntmps81
    go_wp2
    go_ret
    exact ⟨ret_int H.out, rfl⟩
  · have H : Hid (n = Ax.lf n a) := by show _ = _; simp [Ax.lf, h]
    go_enter Tryz.func81, Tryz.ntmps81
    go_wp2
    go_ret
    exact ⟨ret_int H.out, rfl⟩
set_option maxHeartbeats 400000 in
theorem openedGap_any (g a : Int) (bh : Bool) (w : World) (h0 : -4611686018427387904 ≤ g) (hn : g ≤ 4611686018427387904) : Calls Tryz.prog 101 #[.int .i64 g, .int .i64 a, .bool bh] w fun e w' => e = .returned (.int .i64 (og g a bh)) ∧ w' = w := by
  by_cases h : a < g
  · have H : Hid (g + 1 = og g a bh) := by show _ = _; simp [og, h]
    go_enter Tryz.func101, Tryz.ntmps101
    go_wp2
    go_ret
    exact ⟨ret_int H.out, rfl⟩
  · by_cases h2 : g = a
    · cases bh
      · have H : Hid (g = og g a false) := by show _ = _; simp [og, h]
        have h3 : (g == a) = true := by simpa using h2
        clear h2
        go_enter Tryz.func101, Tryz.ntmps101
        go_wp2
        go_ret
        exact ⟨ret_int H.out, rfl⟩
      · have H : Hid (g + 1 = og g a true) := by show _ = _; simp [og, h, h2]
        have h3 : (g == a) = true := by simpa using h2
        clear h2
        go_enter Tryz.func101, Tryz.ntmps101
        go_wp2
        go_ret
        exact ⟨ret_int H.out, rfl⟩
    · have H : Hid (g = og g a bh) := by show _ = _; simp [og, h, h2]
      have h3 : (g == a) = false := by simpa using h2
      clear h2
      go_enter Tryz.func101, Tryz.ntmps101
      go_wp2
      go_ret
      exact ⟨ret_int H.out, rfl⟩
set_option maxHeartbeats 400000 in
theorem opened_any (g a : Int) (w : World) (h0 : -4611686018427387904 ≤ g) (hn : g ≤ 4611686018427387904) : Calls Tryz.prog 80 #[.int .i64 g, .int .i64 a] w fun e w' => e = .returned (.int .i64 (og g a true)) ∧ w' = w := by
  go_enter Tryz.func80, Tryz.ntmps80
  go_wp2_with (go_at_call 101; refine (openedGap_any _ _ _ _ h0 hn).mono ?_; rintro e w1 ⟨rfl, rfl⟩)
  go_ret
  exact ⟨rfl, rfl⟩
set_option maxHeartbeats 400000 in
theorem landing_any (k a t : Int) (w : World) (ha : 0 ≤ a) (hn : t ≤ 4611686018427387904) : Calls Tryz.prog 82 #[.agg #[.int .i64 k, .int .i64 a, .int .i64 t]] w fun e w' => e = .returned (.int .i64 (Ax.lf t a)) ∧ w' = w.alloc (.cells #[.int .i64 k, .int .i64 a, .int .i64 t] 28) := by
  go_enter Tryz.func82, Tryz.ntmps82
  go_wp2_with (go_at_call 81; refine (closed_any _ _ _ ha hn).mono ?_; rintro e w1 ⟨rfl, rfl⟩)
  go_ret
  exact ⟨rfl, rfl⟩
theorem mayB_noA {k a t : Int} (h : mnB a = false) : false = mayB k a t := by
  unfold mnB at h; unfold mayB; simp at h ⊢; omega
theorem mayB_noT {k a t : Int} (h : mnB t = false) : false = mayB k a t := by
  unfold mnB at h; unfold mayB; simp at h ⊢; omega
theorem mayB_of {k a t : Int} (h : mnB a = true) (h' : mnB t = true) : mayB k a t = Ax.okB k a t := by
  unfold mnB at h h'; unfold mayB; simp at h h' ⊢
  cases h3 : Ax.okB k a t
  · simp
  · simp; omega
set_option maxHeartbeats 1000000 in
theorem may_any (k a t : Int) (w : World) : Calls Tryz.prog 30 #[.agg #[.int .i64 k, .int .i64 a, .int .i64 t]] w fun e w' => e = .returned (.bool (mayB k a t)) ∧ w' = w.alloc (.cells #[.int .i64 k, .int .i64 a, .int .i64 t] 28) := by
  cases hA : mnB a
  · have H := hid (mayB_noA (k := k) (t := t) hA)
    go_enter Tryz.func30, Tryz.ntmps30
    go_wp2_with (go_at_call 48; refine (mayNumber_any _ _).mono ?_; rintro e w1 ⟨rfl, rfl⟩)
    go_ret
    exact ⟨ret_bool H.out, rfl⟩
  · cases hT : mnB t
    · have H := hid (mayB_noT (k := k) (a := a) hT)
      go_enter Tryz.func30, Tryz.ntmps30
      go_wp2_with (go_at_call 48; refine (mayNumber_any _ _).mono ?_; rintro e w1 ⟨rfl, rfl⟩)
      go_ret
      exact ⟨ret_bool H.out, rfl⟩
    · have H := hid (mayB_of (k := k) hA hT)
      have hb : 0 ≤ a ∧ a < 2199023255552 := by unfold mnB at hA; simpa using hA
      obtain ⟨hb0, hb1⟩ := hb
      by_cases h1 : k = 1
      · have HR : Hid ((t == 0) = mayB k a t) := by show _ = _; rw [H.out]; unfold Ax.okB; rw [if_pos h1]; rw [Bool.eq_iff_iff]; simp
        have h1' : (k == 1) = true := by simpa using h1
        clear h1
        go_enter Tryz.func30, Tryz.ntmps30
        go_wp2_with (go_at_call 48; refine (mayNumber_any _ _).mono ?_; rintro e w1 ⟨rfl, rfl⟩)
        all_goals go_ret
        all_goals exact ⟨ret_bool HR.out, rfl⟩
      · have h1' : (k == 1) = false := by simpa using h1
        by_cases h2 : k = 2
        · have HR : Hid ((t == 0) = mayB k a t) := by show _ = _; rw [H.out]; unfold Ax.okB; rw [if_neg h1, if_pos h2]; rw [Bool.eq_iff_iff]; simp
          have h2' : (k == 2) = true := by simpa using h2
          clear h1 h2
          go_enter Tryz.func30, Tryz.ntmps30
          go_wp2_with (go_at_call 48; refine (mayNumber_any _ _).mono ?_; rintro e w1 ⟨rfl, rfl⟩)
          all_goals go_ret
          all_goals exact ⟨ret_bool HR.out, rfl⟩
        · have h2' : (k == 2) = false := by simpa using h2
          by_cases h3 : k = 3
          · have h3' : (k == 3) = true := by simpa using h3
            have HE : Hid (mayB k a t = decide (t ≠ a ∧ t ≠ a + 1)) := by show _ = _; rw [H.out]; unfold Ax.okB; rw [if_neg h1, if_neg h2, if_pos h3]
            by_cases h4 : t = a
            · have HR : Hid (false = mayB k a t) := by show _ = _; rw [HE.out]; simp [h4]
              have h4' : (t != a) = false := by simpa using h4
              clear h1 h2 h3 h4
              go_enter Tryz.func30, Tryz.ntmps30
              go_wp2_with (go_at_call 48; refine (mayNumber_any _ _).mono ?_; rintro e w1 ⟨rfl, rfl⟩)
              all_goals go_ret
              all_goals exact ⟨ret_bool HR.out, rfl⟩
            · have h4' : (t != a) = true := by simpa using h4
              by_cases h5 : t = a + 1
              · have HR : Hid (false = mayB k a t) := by show _ = _; rw [HE.out]; simp [h5]
                have h5' : (t != a + 1) = false := by simpa using h5
                clear h1 h2 h3 h4 h5
                go_enter Tryz.func30, Tryz.ntmps30
                go_wp2_with (go_at_call 48; refine (mayNumber_any _ _).mono ?_; rintro e w1 ⟨rfl, rfl⟩)
                all_goals go_ret
                all_goals exact ⟨ret_bool HR.out, rfl⟩
              · have HR : Hid (true = mayB k a t) := by show _ = _; rw [HE.out]; simp [h4, h5]
                have h5' : (t != a + 1) = true := by simpa using h5
                clear h1 h2 h3 h4 h5
                go_enter Tryz.func30, Tryz.ntmps30
                go_wp2_with (go_at_call 48; refine (mayNumber_any _ _).mono ?_; rintro e w1 ⟨rfl, rfl⟩)
                all_goals go_ret
                all_goals exact ⟨ret_bool HR.out, rfl⟩
          · have h3' : (k == 3) = false := by simpa using h3
            have HR : Hid (false = mayB k a t) := by show _ = _; rw [H.out]; unfold Ax.okB; rw [if_neg h1, if_neg h2, if_neg h3]
            clear h1 h2 h3
            go_enter Tryz.func30, Tryz.ntmps30
            go_wp2_with (go_at_call 48; refine (mayNumber_any _ _).mono ?_; rintro e w1 ⟨rfl, rfl⟩)
            all_goals go_ret
            all_goals exact ⟨ret_bool HR.out, rfl⟩
theorem Q.cell {a w : World} (h : Q a w) {b o : Nat} (hb : b < a.heap.size) : w.cell? ⟨b, o, none⟩ = a.cell? ⟨b, o, none⟩ := Below.cell h hb
end Go.Proofs.YthebfhdpofhmpaaGreatDoor.L
