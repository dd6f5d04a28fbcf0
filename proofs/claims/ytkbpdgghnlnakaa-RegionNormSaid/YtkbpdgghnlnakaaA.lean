/- May a rectangle be? Both answers. -/
import Derived.Test.YtkbpdgghnlnakaaQ
namespace Go.Proofs.Ytkbpdgghnlnakaa
open Go.RowKit
set_option linter.unusedVariables false
set_option linter.unusedSimpArgs false

def mS (f t : Int) : Bool := decide (0 ≤ f ∧ f < t ∧ t ≤ 4398046511104)
theorem mayB_eq (x : Rg.Rc) : Rg.mayB x = (mS x.a x.c && mS x.b x.d) := by
  unfold Rg.mayB mS
  rw [Bool.eq_iff_iff, Bool.and_eq_true, decide_eq_true_eq, decide_eq_true_eq, decide_eq_true_eq]
  omega
set_option maxHeartbeats 400000 in
theorem maySpan_any (f t : Int) (w : World) : Calls Try.prog 21 #[.int .i64 f, .int .i64 t] w fun e w' => e = .returned (.bool (mS f t)) ∧ w' = w := by
  by_cases h0 : 0 ≤ f
  · by_cases h1 : f < t
    · by_cases h2 : t ≤ 4398046511104
      · have H : Hid (true = mS f t) := by show _ = _; simp [mS, h0, h1, h2]
        go_enter Try.func21, Try.ntmps21
        go_wp2
        go_ret
        exact ⟨ret_bool H.out, rfl⟩
      · have H : Hid (false = mS f t) := by show _ = _; simp [mS, h0, h1, h2]
        go_enter Try.func21, Try.ntmps21
        go_wp2
        go_ret
        exact ⟨ret_bool H.out, rfl⟩
    · have H : Hid (false = mS f t) := by show _ = _; simp [mS, h0, h1]
      go_enter Try.func21, Try.ntmps21
      go_wp2
      go_ret
      exact ⟨ret_bool H.out, rfl⟩
  · have H : Hid (false = mS f t) := by show _ = _; simp [mS, h0]
    go_enter Try.func21, Try.ntmps21
    go_wp2
    go_ret
    exact ⟨ret_bool H.out, rfl⟩
set_option maxHeartbeats 400000 in
theorem may_any (a b c d : Int) (w : World) : Calls Try.prog 9 #[.agg #[.int .i64 a, .int .i64 b, .int .i64 c, .int .i64 d]] w fun e w' => e = .returned (.bool (Rg.mayB ⟨a, b, c, d⟩)) ∧ w' = w.alloc (.cells #[.int .i64 a, .int .i64 b, .int .i64 c, .int .i64 d] 28) := by
  have H := hid (mayB_eq ⟨a, b, c, d⟩)
  cases hA : mS a c
  · have HR : Hid (false = Rg.mayB ⟨a, b, c, d⟩) := by show _ = _; rw [H.out]; simp only [hA]; rfl
    go_enter Try.func9, Try.ntmps9
    go_wp2_with (go_at_call 21; refine (maySpan_any _ _ _).mono ?_; rintro e w1 ⟨rfl, rfl⟩)
    go_ret
    exact ⟨ret_bool HR.out, rfl⟩
  · have HR : Hid (mS b d = Rg.mayB ⟨a, b, c, d⟩) := by show _ = _; rw [H.out]; simp only [hA]; rfl
    go_enter Try.func9, Try.ntmps9
    go_wp2_with (go_at_call 21; refine (maySpan_any _ _ _).mono ?_; rintro e w1 ⟨rfl, rfl⟩)
    go_ret
    exact ⟨ret_bool HR.out, rfl⟩
set_option maxHeartbeats 1000000 in
theorem mayRect_any (a b c d : Int) (w : World) : Calls Try.prog 10 #[.agg #[.int .i64 a, .int .i64 b, .int .i64 c, .int .i64 d]] w fun e w' => e = .returned (.bool (Rg.mayB ⟨a, b, c, d⟩)) ∧ w' = w.alloc (.cells #[.int .i64 a, .int .i64 b, .int .i64 c, .int .i64 d] 28) := by
  have H : Hid (Rg.mayB ⟨a, b, c, d⟩ = decide (0 ≤ a ∧ a < c ∧ c ≤ 4398046511104 ∧ 0 ≤ b ∧ b < d ∧ d ≤ 4398046511104)) := rfl
  generalize Rg.mayB ⟨a, b, c, d⟩ = r at *
  by_cases h0 : 0 ≤ a
  · by_cases h1 : 0 ≤ b
    · by_cases h2 : a < c
      · by_cases h3 : b < d
        · by_cases h4 : c ≤ 4398046511104
          · by_cases h5 : d ≤ 4398046511104
            · have HR : Hid (true = r) := by show _ = _; rw [H.out]; simp [h0, h1, h2, h3, h4, h5]
              clear H
              go_enter Try.func10, Try.ntmps10
              go_wp2
              go_ret
              exact ⟨ret_bool HR.out, rfl⟩
            · have HR : Hid (false = r) := by show _ = _; rw [H.out]; simp [h5]
              clear H
              go_enter Try.func10, Try.ntmps10
              go_wp2
              go_ret
              exact ⟨ret_bool HR.out, rfl⟩
          · have HR : Hid (false = r) := by show _ = _; rw [H.out]; simp [h4]
            clear H
            go_enter Try.func10, Try.ntmps10
            go_wp2
            go_ret
            exact ⟨ret_bool HR.out, rfl⟩
        · have HR : Hid (false = r) := by show _ = _; rw [H.out]; simp [h3]
          clear H
          go_enter Try.func10, Try.ntmps10
          go_wp2
          go_ret
          exact ⟨ret_bool HR.out, rfl⟩
      · have HR : Hid (false = r) := by show _ = _; rw [H.out]; simp [h2]
        clear H
        go_enter Try.func10, Try.ntmps10
        go_wp2
        go_ret
        exact ⟨ret_bool HR.out, rfl⟩
    · have HR : Hid (false = r) := by show _ = _; rw [H.out]; simp [h1]
      clear H
      go_enter Try.func10, Try.ntmps10
      go_wp2
      go_ret
      exact ⟨ret_bool HR.out, rfl⟩
  · have HR : Hid (false = r) := by show _ = _; rw [H.out]; simp [h0]
    clear H
    go_enter Try.func10, Try.ntmps10
    go_wp2
    go_ret
    exact ⟨ret_bool HR.out, rfl⟩
end Go.Proofs.Ytkbpdgghnlnakaa
