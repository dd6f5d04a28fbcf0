/- Functions of single values, ea. -/
import Derived.Test.YtfjpdopmojfchaaGreatDoorKc13
import Derived.Test.YtfjpdopmojfchaaGreatDoorKc19
import Derived.Test.YtfjpdopmojfchaaGreatDoorKc20
import Derived.Test.YtfjpdopmojfchaaGreatDoorKc17
import Derived.Test.YtfjpdopmojfchaaGreatDoorKc22
import Derived.Test.YtfjpdopmojfchaaGreatDoorKc18
set_option linter.unusedVariables false
set_option linter.unusedSimpArgs false
set_option maxRecDepth 100000
set_option maxHeartbeats 8000000
namespace Go.Proofs.YtfjpdopmojfchaaGreatDoor
open Go.RowKit
theorem btak {W : World} {p K G F : Nat} {f : Value} (hf : f = .func (.func 110) #[] #[.pointer (some ⟨p, 0, none⟩)]) (h : TakV W f K G F) : ∃ q r, W.cell? ⟨p, 0, none⟩ = some (.func (.func K) #[] #[.pointer (some ⟨q, 0, none⟩), .pointer (some ⟨r, 0, none⟩)]) ∧ W.cell? ⟨q, 0, none⟩ = some (.func (.func G) #[] #[]) ∧ W.cell? ⟨r, 0, none⟩ = some (.func (.func F) #[] #[]) := by
  obtain ⟨p', q, r, e, c, d, g⟩ := h
  rw [hf] at e
  simp at e
  subst e
  exact ⟨q, r, c, d, g⟩
set_option maxHeartbeats 1000000 in
theorem singk112 (P : List (Value × Cv)) (v : Value) (y : Cv) (p q r : Nat) (w : World) (hw : Std2 w) (h : Args w v (sg P)) (hm : P.length ≤ 1000) (hs : ∀ p ∈ P, p.2.sm) (hp : w.cell? ⟨p, 0, none⟩ = some (.func (.func 112) #[] #[.pointer (some ⟨q, 0, none⟩), .pointer (some ⟨r, 0, none⟩)]))
    (HG : ∀ W s, Q w W → Sl Cv.cells 5 W s (P.map fun p => ctd p.2) → Calls Tryz.prog 112 #[s, .pointer (some ⟨q, 0, none⟩), .pointer (some ⟨r, 0, none⟩)] W fun r W' => r = .returned y.v ∧ Q W W') :
    Calls Tryz.prog 110 #[v, .pointer (some ⟨p, 0, none⟩)] w fun r w' => r = .returned y.v ∧ Q w w' := by
  have HB := hid (bxz w)
  have HS := hid (fun W (g : Q w W) => singles_yes P v W (hw.on g) (h.on g) hm hs)
  have HG' := hid HG
  have hpl := World.block_lt_of_cell? w _ hp
  have HP := hid (fun W (g : Q w W) => fcell hp g)
  obtain ⟨yk, yn, yt, yb, ye⟩ := y
  clear hw h hm hs hp HG
  simp only [Cv.v, vv] at *
  go_enter Tryz.func110, Tryz.ntmps110
  go_wp2_with (first
    | (go_at_call 111; refine (HS.out _ ((Q.refl _).alloc _)).mono ?_; rintro x w1 ⟨s, rfl, S1, q1⟩; have B1 := HB.out.on q1; have Q1 : Hid (Q w w1) := hid (((Q.refl _).alloc _).trans q1); clear q1; have cp := HP.out _ Q1.out; have S2 := hid S1; clear S1)
    | (go_at_call 112; refine (HG'.out _ _ Q1.out S2.out).mono ?_; rintro x w2 ⟨rfl, q1⟩; have B2 := B1.on q1; have Q2 : Hid (Q w w2) := hid (Q1.out.trans q1); clear q1; obtain ⟨d0, d1, d2, d3, d4, y0, y1, y2, y3, y4, _⟩ := B2))
  exact bodyPost_ret (v := .agg #[.int .i64 yk, .int .i64 yn, .string yt, .bool yb, .int .i64 ye]) (by simp [results, Tryz.results110, go_sem, d0, d1, d2, d3, d4]) rfl ⟨rfl, Q5 Q2.out (Nat.le_refl _)⟩
set_option maxHeartbeats 1000000 in
theorem singk86 (P : List (Value × Cv)) (v : Value) (y : Cv) (p q r : Nat) (w : World) (hw : Std2 w) (h : Args w v (sg P)) (hm : P.length ≤ 1000) (hs : ∀ p ∈ P, p.2.sm) (hp : w.cell? ⟨p, 0, none⟩ = some (.func (.func 86) #[] #[.pointer (some ⟨q, 0, none⟩), .pointer (some ⟨r, 0, none⟩)]))
    (HG : ∀ W s, Q w W → Sl Cv.cells 5 W s (P.map fun p => ctd p.2) → Calls Tryz.prog 86 #[s, .pointer (some ⟨q, 0, none⟩), .pointer (some ⟨r, 0, none⟩)] W fun r W' => r = .returned y.v ∧ Q W W') :
    Calls Tryz.prog 110 #[v, .pointer (some ⟨p, 0, none⟩)] w fun r w' => r = .returned y.v ∧ Q w w' := by
  have HB := hid (bxz w)
  have HS := hid (fun W (g : Q w W) => singles_yes P v W (hw.on g) (h.on g) hm hs)
  have HG' := hid HG
  have hpl := World.block_lt_of_cell? w _ hp
  have HP := hid (fun W (g : Q w W) => fcell hp g)
  obtain ⟨yk, yn, yt, yb, ye⟩ := y
  clear hw h hm hs hp HG
  simp only [Cv.v, vv] at *
  go_enter Tryz.func110, Tryz.ntmps110
  go_wp2_with (first
    | (go_at_call 111; refine (HS.out _ ((Q.refl _).alloc _)).mono ?_; rintro x w1 ⟨s, rfl, S1, q1⟩; have B1 := HB.out.on q1; have Q1 : Hid (Q w w1) := hid (((Q.refl _).alloc _).trans q1); clear q1; have cp := HP.out _ Q1.out; have S2 := hid S1; clear S1)
    | (go_at_call 86; refine (HG'.out _ _ Q1.out S2.out).mono ?_; rintro x w2 ⟨rfl, q1⟩; have B2 := B1.on q1; have Q2 : Hid (Q w w2) := hid (Q1.out.trans q1); clear q1; obtain ⟨d0, d1, d2, d3, d4, y0, y1, y2, y3, y4, _⟩ := B2))
  exact bodyPost_ret (v := .agg #[.int .i64 yk, .int .i64 yn, .string yt, .bool yb, .int .i64 ye]) (by simp [results, Tryz.results110, go_sem, d0, d1, d2, d3, d4]) rfl ⟨rfl, Q5 Q2.out (Nat.le_refl _)⟩
set_option maxHeartbeats 1000000 in
theorem singk115 (P : List (Value × Cv)) (v : Value) (y : Cv) (p q r : Nat) (w : World) (hw : Std2 w) (h : Args w v (sg P)) (hm : P.length ≤ 1000) (hs : ∀ p ∈ P, p.2.sm) (hp : w.cell? ⟨p, 0, none⟩ = some (.func (.func 115) #[] #[.pointer (some ⟨q, 0, none⟩), .pointer (some ⟨r, 0, none⟩)]))
    (HG : ∀ W s, Q w W → Sl Cv.cells 5 W s (P.map fun p => ctd p.2) → Calls Tryz.prog 115 #[s, .pointer (some ⟨q, 0, none⟩), .pointer (some ⟨r, 0, none⟩)] W fun r W' => r = .returned y.v ∧ Q W W') :
    Calls Tryz.prog 110 #[v, .pointer (some ⟨p, 0, none⟩)] w fun r w' => r = .returned y.v ∧ Q w w' := by
  have HB := hid (bxz w)
  have HS := hid (fun W (g : Q w W) => singles_yes P v W (hw.on g) (h.on g) hm hs)
  have HG' := hid HG
  have hpl := World.block_lt_of_cell? w _ hp
  have HP := hid (fun W (g : Q w W) => fcell hp g)
  obtain ⟨yk, yn, yt, yb, ye⟩ := y
  clear hw h hm hs hp HG
  simp only [Cv.v, vv] at *
  go_enter Tryz.func110, Tryz.ntmps110
  go_wp2_with (first
    | (go_at_call 111; refine (HS.out _ ((Q.refl _).alloc _)).mono ?_; rintro x w1 ⟨s, rfl, S1, q1⟩; have B1 := HB.out.on q1; have Q1 : Hid (Q w w1) := hid (((Q.refl _).alloc _).trans q1); clear q1; have cp := HP.out _ Q1.out; have S2 := hid S1; clear S1)
    | (go_at_call 115; refine (HG'.out _ _ Q1.out S2.out).mono ?_; rintro x w2 ⟨rfl, q1⟩; have B2 := B1.on q1; have Q2 : Hid (Q w w2) := hid (Q1.out.trans q1); clear q1; obtain ⟨d0, d1, d2, d3, d4, y0, y1, y2, y3, y4, _⟩ := B2))
  exact bodyPost_ret (v := .agg #[.int .i64 yk, .int .i64 yn, .string yt, .bool yb, .int .i64 ye]) (by simp [results, Tryz.results110, go_sem, d0, d1, d2, d3, d4]) rfl ⟨rfl, Q5 Q2.out (Nat.le_refl _)⟩
end Go.Proofs.YtfjpdopmojfchaaGreatDoor
