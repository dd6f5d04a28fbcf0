/- counterpanelaw3.LineTransform: an operation behind another one: the walk. -/
import Derived.Test.YtkdapaebcjgckaaJ1
namespace Go.Proofs.Ytkdapaebcjgckaa
open Go.RowKit
set_option linter.unusedVariables false
set_option linter.unusedSimpArgs false

/-- an operation in a block of its own -/
structure Lb (W : World) (b : Nat) (k a t : Int) : Prop where
  c0 : W.cell? ⟨b, 0, none⟩ = some (.int .i64 k)
  c1 : W.cell? ⟨b, 1, none⟩ = some (.int .i64 a)
  c2 : W.cell? ⟨b, 2, none⟩ = some (.int .i64 t)
theorem Lb.lt {W : World} {b : Nat} {k a t : Int} (h : Lb W b k a t) : b < W.heap.size := World.block_lt_of_cell? W ⟨b, 0, none⟩ h.c0
theorem Lb.on {W W' : World} {b : Nat} {k a t : Int} (h : Lb W b k a t) (g : Q W W') : Lb W' b k a t :=
  ⟨(g.cell h.lt).trans h.c0, (g.cell h.lt).trans h.c1, (g.cell h.lt).trans h.c2⟩
theorem lb_new (W : World) (k a t : Int) : Lb (W.alloc (.cells #[.int .i64 k, .int .i64 a, .int .i64 t] 23)) W.heap.size k a t :=
  ⟨by simp [World.cell?_alloc_new], by simp [World.cell?_alloc_new], by simp [World.cell?_alloc_new]⟩
theorem Lb.alloc {W : World} {b : Nat} {k a t : Int} (h : Lb W b k a t) (o : Obj) : Lb (W.alloc o) b k a t := h.on ((Q.refl _).alloc _)

set_option maxHeartbeats 2000000 in
theorem tr_walk (k a t k' a' t' : Int) (pr : Bool) (w : World) :
    Calls Try.prog 4 #[.agg #[.int .i64 k, .int .i64 a, .int .i64 t], .agg #[.int .i64 k', .int .i64 a', .int .i64 t'], .bool pr] w fun e w' => e = .returned (.bool true) ∧ Q w w' := by
  obtain ⟨x0, x1, x2, xb, hv⟩ : ∃ x0 x1 x2 xb, trV k a t k' a' t' pr = .tuple #[.agg #[.int .i64 x0, .int .i64 x1, .int .i64 x2], .bool xb] := ⟨_, _, _, _, rfl⟩
  have HT := hid (fun W => transform_any k a t k' a' t' pr W)
  have HR := hid (fun W => rtransform_any k a t k' a' t' pr W)
  rw [hv] at HT HR
  clear hv
  have A := hid (lb_new w k a t)
  have B := hid (lb_new (w.alloc (.cells #[.int .i64 k, .int .i64 a, .int .i64 t] 23)) k' a' t')
  rw [World.size_alloc] at B
  replace A := hid (A.out.alloc (.cells #[.int .i64 k', .int .i64 a', .int .i64 t'] 23))
  go_enter Try.func4, Try.ntmps4
  go_wp2_with (first
    | (go_at_call 9; refine (begun_any _).mono ?_; rintro e w1 ⟨rfl, q1⟩; replace A := hid (A.out.on q1); replace B := hid (B.out.on q1); have a0 := A.out.c0; have a1 := A.out.c1; have a2 := A.out.c2; have b0 := B.out.c0; have b1 := B.out.c1; have b2 := B.out.c2)
    | (go_at_call 13; refine (HT.out _).mono ?_; rintro e w2 ⟨rfl, q2⟩; replace A := hid (A.out.on q2); replace B := hid (B.out.on q2); have C := hid (lb_new w2 x0 x1 x2); have d0 := A.out.c0; have d1 := A.out.c1; have d2 := A.out.c2; have e0 := B.out.c0; have e1 := B.out.c1; have e2 := B.out.c2; have zA := A.out.lt; have zB := B.out.lt)
    | (go_at_call 14; refine (HR.out _).mono ?_; rintro e w3 ⟨rfl, q3⟩; replace C := hid ((C.out.on q3).alloc (.cells #[.int .i64 x0, .int .i64 x1, .int .i64 x2] 23)); have f0 := C.out.c0; have f1 := C.out.c1; have f2 := C.out.c2))
  go_ret
  refine ⟨rfl, ?_⟩
  repeat' (first | with_reducible exact Q.refl _ | with_reducible refine Q.alloc ?_ _ | with_reducible refine Q.trans ?_ (by assumption))
end Go.Proofs.Ytkdapaebcjgckaa
