/- counterpanelaw3: end and made: what each returns. -/
import Derived.Test.YtkdapaebcjgckaaS0
import Derived.Test.YtkdapaebcjgckaaM
namespace Go.Proofs.Ytkdapaebcjgckaa
open Go.RowKit
set_option linter.unusedVariables false
set_option linter.unusedSimpArgs false

set_option maxHeartbeats 1000000 in
theorem end_any (k a t x0 x1 x2 : Int) (xb : Bool) (n : Int) (w : World) : Calls Try.prog 15 #[.agg #[.int .i64 k, .int .i64 a, .int .i64 t], .agg #[.int .i64 x0, .int .i64 x1, .int .i64 x2], .bool xb, .int .i64 n] w
    fun e w' => e = .returned (.int .i64 (en k a t x0 x1 x2 xb n)) ∧ Q w w' := by
  obtain ⟨K, hK⟩ : ∃ K, ix k a t n = K := ⟨_, rfl⟩
  by_cases h : K < 0
  · have H : Hid (K = en k a t x0 x1 x2 xb n) := by show _ = _; unfold en; rw [hK, if_pos (.inl h)]
    go_enter Try.func15, Try.ntmps15
    go_wp2_with (go_at_call 10; refine (index_any _ _ _ _ _).mono ?_; rintro e w1 ⟨rfl, q1⟩)
    go_ret
    exact ⟨ret_int H.out, (((Q.refl _).alloc _).alloc _).trans q1⟩
  · cases xb
    · have H : Hid (K = en k a t x0 x1 x2 false n) := by show _ = _; unfold en; rw [hK, if_pos (.inr rfl)]
      go_enter Try.func15, Try.ntmps15
      go_wp2_with (go_at_call 10; refine (index_any _ _ _ _ _).mono ?_; rintro e w1 ⟨rfl, q1⟩)
      go_ret
      exact ⟨ret_int H.out, (((Q.refl _).alloc _).alloc _).trans q1⟩
    · have H : Hid (ix x0 x1 x2 K = en k a t x0 x1 x2 true n) := by show _ = _; unfold en; rw [hK, if_neg (by rintro (h' | h'); exact h h'; cases h')]
      have B := hid (lb_new (w.alloc (.cells #[.int .i64 k, .int .i64 a, .int .i64 t] 23)) x0 x1 x2)
      rw [World.size_alloc] at B
      have HX := hid (fun W => index_any k a t n W)
      rw [hK] at HX
      go_enter Try.func15, Try.ntmps15
      go_upto_region 2 with (go_at_call 10; refine (HX.out _).mono ?_; rintro e w1 ⟨rfl, q1⟩; have b0 := (B.out.on q1).c0; have b1 := (B.out.on q1).c1; have b2 := (B.out.on q1).c2)
      go_wp2_with (go_at_call 10; refine (index_any _ _ _ _ _).mono ?_; rintro e w2 ⟨rfl, q2⟩)
      go_ret
      exact ⟨ret_int H.out, ((((Q.refl _).alloc _).alloc _).trans q1).trans q2⟩

set_option maxHeartbeats 1000000 in
theorem made_any (k a t x0 x1 x2 : Int) (xb : Bool) (w : World) : Calls Try.prog 16 #[.agg #[.int .i64 k, .int .i64 a, .int .i64 t], .agg #[.int .i64 x0, .int .i64 x1, .int .i64 x2], .bool xb] w
    fun e w' => e = .returned (.int .i64 (md k a x0 x1 x2 xb)) ∧ Q w w' := by
  by_cases h : k = 1
  · subst h
    cases xb
    · have H : Hid (a = md 1 a x0 x1 x2 false) := by show _ = _; unfold md; simp
      go_enter Try.func16, Try.ntmps16
      go_wp2
      go_ret
      exact ⟨ret_int H.out, ((Q.refl _).alloc _).alloc _⟩
    · have H : Hid (ix x0 x1 x2 a = md 1 a x0 x1 x2 true) := by show _ = _; unfold md; simp
      go_enter Try.func16, Try.ntmps16
      go_wp2_with (go_at_call 10; refine (index_any _ _ _ _ _).mono ?_; rintro e w1 ⟨rfl, q1⟩)
      go_ret
      exact ⟨ret_int H.out, (((Q.refl _).alloc _).alloc _).trans q1⟩
  · have H : Hid (-1 = md k a x0 x1 x2 xb) := by show _ = _; unfold md; rw [if_neg h]
    have h' : (k != 1) = true := by simpa using h
    clear h
    go_enter Try.func16, Try.ntmps16
    go_wp2
    go_ret
    exact ⟨ret_int H.out, ((Q.refl _).alloc _).alloc _⟩
end Go.Proofs.Ytkdapaebcjgckaa
