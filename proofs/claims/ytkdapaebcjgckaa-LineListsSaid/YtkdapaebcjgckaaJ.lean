/- Transform of both, of any kind; what every statement of this layer asks first. -/
import Derived.Test.YtkdapaebcjgckaaF1
import Derived.Test.YtkdapaebcjgckaaF2
import Derived.Test.YtkdapaebcjgckaaF3
import Derived.Test.YtkdapaebcjgckaaH1
import Derived.Test.YtkdapaebcjgckaaH2
import Derived.Test.YtkdapaebcjgckaaH3
import Derived.Test.YtkdapaebcjgckaaE
namespace Go.Proofs.Ytkdapaebcjgckaa
open Go.RowKit
set_option linter.unusedVariables false
set_option linter.unusedSimpArgs false

theorem transform_any (k a t k' a' t' : Int) (pr : Bool) (w : World) : Calls Try.prog 13 #[.agg #[.int .i64 k, .int .i64 a, .int .i64 t], .agg #[.int .i64 k', .int .i64 a', .int .i64 t'], .bool pr] w
    fun e w' => e = .returned (trV k a t k' a' t' pr) ∧ Q w w' := by
  cases hm : mayB k a t
  · exact transform_no k a t k' a' t' pr w (.inl hm)
  · cases hm' : mayB k' a' t'
    · exact transform_no k a t k' a' t' pr w (.inr (.inl ⟨hm, hm'⟩))
    · cases hs : (pr && smB k a k' a')
      · rcases may_k hm with rfl | rfl | rfl
        · exact transform_k1 a t k' a' t' pr w hm hm' hs
        · exact transform_k2 a t k' a' t' pr w hm hm' hs
        · exact transform_k3 a t k' a' t' pr w hm hm' hs
      · rw [Bool.and_eq_true] at hs
        exact transform_no k a t k' a' t' pr w (.inr (.inr ⟨hm, hm', hs.1, hs.2⟩))
theorem rtransform_any (k a t k' a' t' : Int) (pr : Bool) (w : World) : Calls Try.prog 14 #[.agg #[.int .i64 k, .int .i64 a, .int .i64 t], .agg #[.int .i64 k', .int .i64 a', .int .i64 t'], .bool pr] w
    fun e w' => e = .returned (trV k a t k' a' t' pr) ∧ Q w w' := by
  cases hm : mayB k a t
  · exact rtransform_no k a t k' a' t' pr w (.inl hm)
  · cases hm' : mayB k' a' t'
    · exact rtransform_no k a t k' a' t' pr w (.inr ⟨hm, hm'⟩)
    · cases hs : (pr && smB k a k' a')
      · rcases may_k hm with rfl | rfl | rfl
        · exact rtransform_k1 a t k' a' t' pr w hm hm' hs
        · exact rtransform_k2 a t k' a' t' pr w hm hm' hs
        · exact rtransform_k3 a t k' a' t' pr w hm hm' hs
      · rw [Bool.and_eq_true] at hs
        obtain ⟨h1, h2⟩ := hs
        unfold smB at h2
        obtain ⟨rfl, rfl, rfl⟩ := of_decide_eq_true h2
        exact rtransform_same a t t' pr w hm hm' h1

theorem b_may : mayB 3 1 4 = true := by decide +kernel
theorem b_i1 : ix 3 1 4 1 = 3 := by decide +kernel
theorem b_i2 : ix 3 1 4 2 = 1 := by decide +kernel
theorem b_b3 : bk 3 1 4 3 = 1 := by decide +kernel
theorem b_g : gp 1 2 0 2 true = 3 := by decide +kernel
theorem b_t : trB 1 2 0 2 0 0 true = true := by decide +kernel
theorem b_tA : tA 1 2 0 2 0 0 true = 1 := by decide +kernel
theorem b_tT : tT 1 2 0 2 0 0 true = 0 := by decide +kernel
theorem b_tv : trV 1 2 0 2 0 0 true = .tuple #[.agg #[.int .i64 1, .int .i64 1, .int .i64 0], .bool true] := by rw [trV_yes b_t, b_tA, b_tT]
theorem begun_i1 (w : World) : Calls Try.prog 10 #[.agg #[.int .i64 3, .int .i64 1, .int .i64 4], .int .i64 1] w fun e w' => e = .returned (.int .i64 3) ∧ Q w w' := by
  have h := index_any 3 1 4 1 w; rw [b_i1] at h; exact h
theorem begun_i2 (w : World) : Calls Try.prog 10 #[.agg #[.int .i64 3, .int .i64 1, .int .i64 4], .int .i64 2] w fun e w' => e = .returned (.int .i64 1) ∧ Q w w' := by
  have h := index_any 3 1 4 2 w; rw [b_i2] at h; exact h
theorem begun_b3 (w : World) : Calls Try.prog 12 #[.agg #[.int .i64 3, .int .i64 1, .int .i64 4], .int .i64 3] w fun e w' => e = .returned (.int .i64 1) ∧ Q w w' := by
  have h := back_any 3 1 4 3 w; rw [b_b3] at h; exact h
theorem begun_g (w : World) : Calls Try.prog 20 #[.agg #[.int .i64 1, .int .i64 2, .int .i64 0], .int .i64 2, .bool true] w fun e w' => e = .returned (.int .i64 3) ∧ Q w w' := by
  have h := gap_any 1 2 0 2 true w; rw [b_g] at h; exact h
theorem begun_m (w : World) : Calls Try.prog 19 #[.agg #[.int .i64 3, .int .i64 1, .int .i64 4]] w fun e w' => e = .returned (.bool true) ∧ w' = w.alloc (.cells #[.int .i64 3, .int .i64 1, .int .i64 4] 23) := by
  have h := may_any 3 1 4 w; rw [b_may] at h; exact h
theorem begun_t (w : World) : Calls Try.prog 13 #[.agg #[.int .i64 1, .int .i64 2, .int .i64 0], .agg #[.int .i64 2, .int .i64 0, .int .i64 0], .bool true] w fun e w' => e = .returned (.tuple #[.agg #[.int .i64 1, .int .i64 1, .int .i64 0], .bool true]) ∧ Q w w' := by
  have h := transform_any 1 2 0 2 0 0 true w; rw [b_tv] at h; exact h

/-- what the world says of two boxes -/
structure Two (w W : World) : Prop where
  q : Q w W
  a0 : W.cell? ⟨w.heap.size, 0, none⟩ = some (.int .i64 3)
  a1 : W.cell? ⟨w.heap.size, 1, none⟩ = some (.int .i64 1)
  a2 : W.cell? ⟨w.heap.size, 2, none⟩ = some (.int .i64 4)
theorem Two.on {w W W' : World} (h : Two w W) (g : Q W W') : Two w W' := by
  have l : w.heap.size < W.heap.size := World.block_lt_of_cell? W ⟨w.heap.size, 0, none⟩ h.a0
  exact ⟨h.q.trans g, (g.cell l).trans h.a0, (g.cell l).trans h.a1, (g.cell l).trans h.a2⟩
theorem two_new (w : World) : Two w (w.alloc (.cells #[.int .i64 3, .int .i64 1, .int .i64 4] 23)) :=
  ⟨(Q.refl _).alloc _, by simp [World.cell?_alloc_new], by simp [World.cell?_alloc_new], by simp [World.cell?_alloc_new]⟩

end Go.Proofs.Ytkdapaebcjgckaa
