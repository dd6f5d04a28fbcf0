/- What every statement of this layer asks first. -/
import Derived.Test.YtkdapaebcjgckaaJ
namespace Go.Proofs.Ytkdapaebcjgckaa
open Go.RowKit
set_option linter.unusedVariables false
set_option linter.unusedSimpArgs false

/-- two boxes: the operation, and at block b the one that was transformed -/
structure Bo (w W : World) (b : Nat) : Prop where
  t : Two w W
  t1 : W.cell? ⟨b, 1, none⟩ = some (.int .i64 1)
theorem Bo.on {w W W' : World} {b : Nat} (h : Bo w W b) (g : Q W W') : Bo w W' b :=
  ⟨h.t.on g, (g.cell (World.block_lt_of_cell? W ⟨b, 1, none⟩ h.t1)).trans h.t1⟩
theorem bo_new {w w1 : World} (h : Two w w1) : Bo w (w1.alloc (.cells #[.int .i64 1, .int .i64 1, .int .i64 0] 23)) w1.heap.size :=
  ⟨h.on ((Q.refl _).alloc _), by simp [World.cell?_alloc_new]⟩

set_option maxHeartbeats 1000000 in
theorem begun_any (w : World) : Calls Try.prog 9 #[] w fun e w' => e = .returned (.bool true) ∧ Q w w' := by
  have T := hid (two_new w)
  have r1 := b_i1
  have r2 := b_i2
  have r3 := b_b3
  have r4 := b_g
  go_enter Try.func9, Try.ntmps9
  go_wp2_with (first
    | (go_at_call 13; refine (begun_t _).mono ?_; rintro e w1 ⟨rfl, q1⟩; have B := hid (bo_new (T.out.on q1)); clear q1; have c0 := B.out.t.a0; have c1 := B.out.t.a1; have c2 := B.out.t.a2)
    | (go_at_call 19; refine (begun_m _).mono ?_; rintro e w2 ⟨rfl, rfl⟩; replace B := hid (B.out.on ((Q.refl _).alloc (.cells #[.int .i64 3, .int .i64 1, .int .i64 4] 23))); have d0 := B.out.t.a0; have d1 := B.out.t.a1; have d2 := B.out.t.a2)
    | (go_at_call 10; refine (index_any _ _ _ _ _).mono ?_; rintro e w3 ⟨rfl, q3⟩; replace B := hid (B.out.on q3); clear q3; have e0 := B.out.t.a0; have e1 := B.out.t.a1; have e2 := B.out.t.a2)
    | (go_at_call 12; refine (back_any _ _ _ _ _).mono ?_; rintro e w5 ⟨rfl, q5⟩; replace B := hid (B.out.on q5); clear q5; have g1 := B.out.t1)
    | (go_at_call 20; refine (gap_any _ _ _ _ _ _).mono ?_; rintro e w6 ⟨rfl, q6⟩; replace B := hid (B.out.on q6); clear q6))
  go_ret
  exact ⟨rfl, B.out.t.q⟩
end Go.Proofs.Ytkdapaebcjgckaa
