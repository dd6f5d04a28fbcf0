/- Package builtin: the small functions. -/
import Derived.Test.YtfjpdopmojfchaaGreatDoorV6
import Derived.Test.YtfjpdopmojfchaaGreatDoorW2
import Derived.Test.YtfjpdopmojfchaaGreatDoorX0
import Derived.Test.YtfjpdopmojfchaaGreatDoorY
namespace Go.Proofs.YtfjpdopmojfchaaGreatDoor
open Go.RowKit
set_option linter.unusedVariables false
set_option linter.unusedSimpArgs false
def Cv.v (x : Cv) : Value := vv x.k x.n x.t x.b x.e
def Cv.cells (x : Cv) : List Value := [.int .i64 x.k, .int .i64 x.n, .string x.t, .bool x.b, .int .i64 x.e]
theorem Cv.len (x : Cv) : x.cells.length = 5 := rfl
def Cv.cut (x : Cv) : Cv := { x with t := cutT x.t }
/-- errors, numbers, truths, texts -/
def er (e : Int) : Cv := ⟨4, 0, ⟨#[]⟩, false, e⟩
def nu (n : Int) : Cv := ⟨1, n, ⟨#[]⟩, false, 0⟩
def bo (b : Bool) : Cv := ⟨3, 0, ⟨#[]⟩, b, 0⟩
def tx (t : ByteArray) : Cv := ⟨2, 0, t, false, 0⟩
/-- what a value counts as -/
def ctd (x : Cv) : Cv := if x.may = true then x else er 5
/-- its text is no longer than a text can be -/
def Cv.sm (x : Cv) : Prop := (x.t.size : Int) ≤ 9223372036854775000
theorem Q5 {a w : World} (h : Q a w) {b : Nat} (hb : a.heap.size ≤ b) {s0 s1 s2 s3 s4 : Value} :
    Q a (((((w.setCell ⟨b, 0, none⟩ s0).setCell ⟨b, 1, none⟩ s1).setCell ⟨b, 2, none⟩ s2).setCell ⟨b, 3, none⟩ s3).setCell ⟨b, 4, none⟩ s4) :=
  ((((h.setCell hb _).setCell hb _).setCell hb _).setCell hb _).setCell hb _
theorem failure_any (n : Int) (w : World) : Calls Tryz.prog 30 #[.int .i64 n] w fun x w' => x = .returned (er n).v ∧ Q w w' := by
  go_enter Tryz.func30, Tryz.ntmps30
  go_wp2
  exact bodyPost_ret (v := (er n).v) (by simp [results, Tryz.results30, go_sem, vv, Cv.v, er]) rfl ⟨rfl, (Q.refl _).alloc _⟩
theorem number_any (n : Int) (w : World) : Calls Tryz.prog 55 #[.int .i64 n] w fun x w' => x = .returned (nu n).v ∧ Q w w' := by
  go_enter Tryz.func55, Tryz.ntmps55
  go_wp2
  exact bodyPost_ret (v := (nu n).v) (by simp [results, Tryz.results55, go_sem, vv, Cv.v, nu]) rfl ⟨rfl, (Q.refl _).alloc _⟩
theorem btruth_any (b : Bool) (w : World) : Calls Tryz.prog 43 #[.bool b] w fun x w' => x = .returned (bo b).v ∧ Q w w' := by
  go_enter Tryz.func43, Tryz.ntmps43
  go_wp2
  exact bodyPost_ret (v := (bo b).v) (by simp [results, Tryz.results43, go_sem, vv, Cv.v, bo]) rfl ⟨rfl, (Q.refl _).alloc _⟩
theorem btext_any (t : ByteArray) (w : World) : Calls Tryz.prog 92 #[.string t] w fun x w' => x = .returned (tx t).v ∧ Q w w' := by
  go_enter Tryz.func92, Tryz.ntmps92
  go_wp2
  exact bodyPost_ret (v := (tx t).v) (by simp [results, Tryz.results92, go_sem, vv, Cv.v, tx]) rfl ⟨rfl, (Q.refl _).alloc _⟩
theorem bxz (W : World) : Bx (W.alloc (.cells #[.int .i64 0, .int .i64 0, .string ⟨#[]⟩, .bool false, .int .i64 0] 37)) W.heap.size (.int .i64 0) (.int .i64 0) (.string ⟨#[]⟩) (.bool false) (.int .i64 0) := bx_new W _ _ _ _ _
set_option maxHeartbeats 1000000 in
theorem result_any (n : Int) (b : Bool) (w : World) : Calls Tryz.prog 81 #[.int .i64 n, .bool b] w fun x w' => x = .returned (if b = true then nu n else er 4).v ∧ Q w w' := by
  have HB := hid (bxz w)
  cases b
  · have HC := hid (fun W => failure_any 4 W)
    simp only [Cv.v, vv, er, Bool.false_eq_true, if_false] at *
    go_enter Tryz.func81, Tryz.ntmps81
    go_wp2_with (go_at_call 30; refine (HC.out _).mono ?_; rintro x w1 ⟨rfl, q1⟩; have B1 := HB.out.on q1; have Q1 : Hid (Q w w1) := hid (((Q.refl _).alloc _).trans q1); clear q1; obtain ⟨d0, d1, d2, d3, d4, y0, y1, y2, y3, y4, _⟩ := B1)
    exact bodyPost_ret (v := (er 4).v) (by simp [results, Tryz.results81, go_sem, vv, Cv.v, er, d0, d1, d2, d3, d4]) rfl ⟨rfl, Q5 Q1.out (Nat.le_refl _)⟩
  · have HC := hid (fun W => number_any n W)
    simp only [Cv.v, vv, nu, if_true] at *
    go_enter Tryz.func81, Tryz.ntmps81
    go_wp2_with (go_at_call 55; refine (HC.out _).mono ?_; rintro x w1 ⟨rfl, q1⟩; have B1 := HB.out.on q1; have Q1 : Hid (Q w w1) := hid (((Q.refl _).alloc _).trans q1); clear q1; obtain ⟨d0, d1, d2, d3, d4, y0, y1, y2, y3, y4, _⟩ := B1)
    exact bodyPost_ret (v := (nu n).v) (by simp [results, Tryz.results81, go_sem, vv, Cv.v, nu, d0, d1, d2, d3, d4]) rfl ⟨rfl, Q5 Q1.out (Nat.le_refl _)⟩
set_option maxHeartbeats 1000000 in
theorem counted_any (x : Cv) (w : World) (hw : Std2 w) (hs : x.sm) : Calls Tryz.prog 37 #[x.v] w fun r w' => r = .returned (ctd x).v ∧ Q w w' := by
  obtain ⟨k, n, t, b, e⟩ := x
  have HM := hid (fun W (q : Q w W) => may_any k n t b e W (hw.on q) hs)
  have HA := hid (bx_new w (.int .i64 k) (.int .i64 n) (.string t) (.bool b) (.int .i64 e))
  have HB := hid (bxz (w.alloc (.cells #[.int .i64 k, .int .i64 n, .string t, .bool b, .int .i64 e] 37)))
  have HF := hid (fun W => failure_any 5 W)
  unfold ctd Cv.may
  simp only
  cases hm : mayB k n t.toList b e
  · rw [hm] at HM
    simp only [Cv.v, vv, er, Bool.false_eq_true, if_false] at *
    go_enter Tryz.func37, Tryz.ntmps37
    go_wp2_with (first
      | (go_at_call 80; refine (HM.out _ (((Q.refl _).alloc _).alloc _)).mono ?_; rintro x w1 ⟨rfl, q1⟩; have B1 := HB.out.on q1; have Q1 : Hid (Q w w1) := hid ((((Q.refl _).alloc _).alloc _).trans q1); clear q1)
      | (go_at_call 30; refine (HF.out _).mono ?_; rintro x w2 ⟨rfl, q1⟩; have B2 := B1.on q1; have Q2 : Hid (Q w w2) := hid (Q1.out.trans q1); clear q1; obtain ⟨d0, d1, d2, d3, d4, y0, y1, y2, y3, y4, _⟩ := B2; simp only [World.size_alloc] at *))
    exact bodyPost_ret (v := (er 5).v) (by simp [results, Tryz.results37, go_sem, vv, Cv.v, er, d0, d1, d2, d3, d4]) rfl ⟨rfl, Q5 Q2.out (by omega)⟩
  · rw [hm] at HM
    simp only [Cv.v, vv, if_true] at *
    go_enter Tryz.func37, Tryz.ntmps37
    go_wp2_with (first
      | (go_at_call 80; refine (HM.out _ (((Q.refl _).alloc _).alloc _)).mono ?_; rintro x w1 ⟨rfl, q1⟩; have A1 := (HA.out.on ((Q.refl _).alloc _)).on q1; have B1 := HB.out.on q1; have Q1 : Hid (Q w w1) := hid ((((Q.refl _).alloc _).alloc _).trans q1); clear q1; obtain ⟨a0, a1, a2, a3, a4, _⟩ := A1; obtain ⟨d0, d1, d2, d3, d4, y0, y1, y2, y3, y4, _⟩ := B1; simp only [World.size_alloc] at *))
    exact bodyPost_ret (v := .agg #[.int .i64 k, .int .i64 n, .string t, .bool b, .int .i64 e]) (by simp [results, Tryz.results37, go_sem, d0, d1, d2, d3, d4]) rfl ⟨rfl, Q5 Q1.out (by omega)⟩
end Go.Proofs.YtfjpdopmojfchaaGreatDoor
