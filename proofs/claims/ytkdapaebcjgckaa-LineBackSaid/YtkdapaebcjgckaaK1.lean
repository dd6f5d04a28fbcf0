/- counterpanelaw3.LineBack: the walk where a line moves. -/
import Derived.Test.YtkdapaebcjgckaaK
namespace Go.Proofs.Ytkdapaebcjgckaa
open Go.RowKit
set_option linter.unusedVariables false
set_option linter.unusedSimpArgs false

set_option maxHeartbeats 2000000 in
theorem back_far (a t i K : Int) (w : World) (h0 : 0 ≤ a) (h1 : 0 ≤ t) (h2 : 0 ≤ i) (h3 : a ≤ 1099511627776) (h4 : t ≤ 1099511627776) (h5 : i ≤ 1099511627776) (hn : (t == a) = false) (hn' : (t == a + 1) = false) (hK : ix 3 a t a = K) (hb : ix 2 a 0 (ix 1 a 0 i) = i)
    (hm : K < a ∧ ix 3 K (a + 1) (ix 3 a t i) = i ∨ a ≤ K ∧ ix 3 K a (ix 3 a t i) = i) :
    Calls Try.prog 8 #[.int .i64 a, .int .i64 t, .int .i64 i] w fun e w' => e = .returned (.bool true) ∧ Q w w' := by
  rcases hm with ⟨hk, hm⟩ | ⟨hk, hm⟩
  all_goals
    go_enter Try.func8, Try.ntmps8
    go_wp2_with fail
    go_upto_region 11 with (first | (go_at_call 9; refine (begun_any _).mono ?_; rintro e w1 ⟨rfl, q1⟩) | (go_at_call 10; refine (index_any _ _ _ _ _).mono ?_; rintro e w2 ⟨rfl, q2⟩; replace q1 := q1.trans q2; clear q2))
    go_upto_region 16 with (go_at_call 10; refine (index_any _ _ _ _ _).mono ?_; rintro e w3 ⟨rfl, q3⟩; obtain ⟨hc3, hf3⟩ := bcell q3; have z3 := q3.size; simp only [World.size_alloc] at z3; have y3 : w2.heap.size < w3.heap.size := (by omega))
    go_region_with (go_at_call 10; refine (index_any _ _ _ _ _).mono ?_; rintro e w4 ⟨rfl, q4⟩; obtain ⟨hc4, hf4⟩ := bcell q4)
    all_goals go_wp2
    all_goals go_ret
    all_goals refine ⟨rfl, ?_⟩
    all_goals repeat' (first | with_reducible exact Q.refl _ | with_reducible exact q1 | with_reducible refine Q.alloc ?_ _ | with_reducible refine Q.setCell ?_ (by have := q1.size; omega) _ | with_reducible refine Q.drew ?_ | with_reducible refine Q.drewN ?_ _ | with_reducible refine Q.trans ?_ (by assumption))
theorem back_walk (a t i : Int) (w : World) : Calls Try.prog 8 #[.int .i64 a, .int .i64 t, .int .i64 i] w fun e w' => e = .returned (.bool true) ∧ Q w w' := by
  by_cases h : 0 ≤ a ∧ 0 ≤ t ∧ 0 ≤ i ∧ a ≤ 1099511627776 ∧ t ≤ 1099511627776 ∧ i ≤ 1099511627776
  · obtain ⟨h0, h1, h2, h3, h4, h5⟩ := h
    by_cases e1 : t = a
    · exact back_near a t i w h0 h1 h2 h3 h4 h5 (.inl e1)
    · by_cases e2 : t = a + 1
      · exact back_near a t i w h0 h1 h2 h3 h4 h5 (.inr ⟨by simpa using e1, e2⟩)
      · have m := mov_back h0 h1 h2 h3 h4 h5 e1 e2
        refine back_far a t i _ w h0 h1 h2 h3 h4 h5 (by simpa using e1) (by simpa using e2) rfl (ins_del h0 h2 h3 h5) ?_
        by_cases hk : ix 3 a t a < a
        · rw [if_pos hk] at m
          exact .inl ⟨hk, m⟩
        · rw [if_neg hk] at m
          exact .inr ⟨by omega, m⟩
  · exact back_out a t i w (by omega)
end Go.Proofs.Ytkdapaebcjgckaa
