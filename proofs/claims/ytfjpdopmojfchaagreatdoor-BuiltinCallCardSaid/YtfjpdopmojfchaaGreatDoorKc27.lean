/- builtin.Binary of what is no o. -/
import Derived.Test.YtfjpdopmojfchaaGreatDoorKc21
set_option linter.unusedVariables false
set_option linter.unusedSimpArgs false
set_option maxRecDepth 100000
set_option maxHeartbeats 8000000
namespace Go.Proofs.YtfjpdopmojfchaaGreatDoor
open Go.RowKit
set_option maxHeartbeats 1000000 in
theorem rnum_any (n : Int) (b : Bool) (w : World) : Calls Tryz.prog 54 #[.int .i64 n, .bool b] w fun x w' => x = .returned (if b = true then nu n else er 4).v ∧ Q w w' := by
  have HB := hid (bxz w)
  cases b
  · have HC := hid (fun W => err_any 4 W)
    simp only [Cv.v, vv, er, Bool.false_eq_true, if_false] at *
    go_enter Tryz.func54, Tryz.ntmps54
    go_wp2_with (go_at_call 26; refine (HC.out _).mono ?_; rintro x w1 ⟨rfl, q1⟩; have B1 := HB.out.on q1; have Q1 : Hid (Q w w1) := hid (((Q.refl _).alloc _).trans q1); clear q1; obtain ⟨d0, d1, d2, d3, d4, y0, y1, y2, y3, y4, _⟩ := B1)
    exact bodyPost_ret (v := (er 4).v) (by simp [results, Tryz.results54, go_sem, vv, Cv.v, er, d0, d1, d2, d3, d4]) rfl ⟨rfl, Q5 Q1.out (Nat.le_refl _)⟩
  · have HC := hid (fun W => num_any n W)
    simp only [Cv.v, vv, nu, if_true] at *
    go_enter Tryz.func54, Tryz.ntmps54
    go_wp2_with (go_at_call 27; refine (HC.out _).mono ?_; rintro x w1 ⟨rfl, q1⟩; have B1 := HB.out.on q1; have Q1 : Hid (Q w w1) := hid (((Q.refl _).alloc _).trans q1); clear q1; obtain ⟨d0, d1, d2, d3, d4, y0, y1, y2, y3, y4, _⟩ := B1)
    exact bodyPost_ret (v := (nu n).v) (by simp [results, Tryz.results54, go_sem, vv, Cv.v, nu, d0, d1, d2, d3, d4]) rfl ⟨rfl, Q5 Q1.out (Nat.le_refl _)⟩
end Go.Proofs.YtfjpdopmojfchaaGreatDoor
