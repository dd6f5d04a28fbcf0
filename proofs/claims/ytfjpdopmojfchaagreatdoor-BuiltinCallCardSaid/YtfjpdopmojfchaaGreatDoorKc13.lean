/- Boxes: a value in five cells o. -/
import Derived.Test.YtfjpdopmojfchaaGreatDoorKc11
import Derived.Test.YtfjpdopmojfchaaGreatDoorKc01
import Derived.Test.YtfjpdopmojfchaaGreatDoorKc02
import Derived.OwnWalk
import Derived.Laws.EntriesVeiled
set_option linter.unusedVariables false
set_option linter.unusedSimpArgs false
set_option maxRecDepth 100000
set_option maxHeartbeats 8000000
namespace Go.Proofs.YtfjpdopmojfchaaGreatDoor
open Go.RowKit
structure Bx (W : World) (b : Nat) (v0 v1 v2 v3 v4 : Value) : Prop where
  c0 : W.cell? ⟨b, 0, none⟩ = some v0
  c1 : W.cell? ⟨b, 1, none⟩ = some v1
  c2 : W.cell? ⟨b, 2, none⟩ = some v2
  c3 : W.cell? ⟨b, 3, none⟩ = some v3
  c4 : W.cell? ⟨b, 4, none⟩ = some v4
  f0 : W.frozen? ⟨b, 0, none⟩ = false
  f1 : W.frozen? ⟨b, 1, none⟩ = false
  f2 : W.frozen? ⟨b, 2, none⟩ = false
  f3 : W.frozen? ⟨b, 3, none⟩ = false
  f4 : W.frozen? ⟨b, 4, none⟩ = false
  big : b < W.heap.size
theorem bx_new (W : World) (v0 v1 v2 v3 v4 : Value) : Bx (W.alloc (.cells #[v0, v1, v2, v3, v4] 37)) W.heap.size v0 v1 v2 v3 v4 := by
  constructor
  all_goals simp [World.cell?_alloc_new, World.frozen?_alloc_new]
theorem Bx.on {W W' : World} {b : Nat} {v0 v1 v2 v3 v4 : Value} (h : Bx W b v0 v1 v2 v3 v4) (q : Q W W') : Bx W' b v0 v1 v2 v3 v4 := by
  have hb := h.big
  constructor
  · rw [q.cell hb]; exact h.c0
  · rw [q.cell hb]; exact h.c1
  · rw [q.cell hb]; exact h.c2
  · rw [q.cell hb]; exact h.c3
  · rw [q.cell hb]; exact h.c4
  · rw [Below.frozen q (p := ⟨b, 0, none⟩) hb]; exact h.f0
  · rw [Below.frozen q (p := ⟨b, 1, none⟩) hb]; exact h.f1
  · rw [Below.frozen q (p := ⟨b, 2, none⟩) hb]; exact h.f2
  · rw [Below.frozen q (p := ⟨b, 3, none⟩) hb]; exact h.f3
  · rw [Below.frozen q (p := ⟨b, 4, none⟩) hb]; exact h.f4
  · exact q.lt hb
theorem Bx.far {W : World} {b b' k : Nat} {v v0 v1 v2 v3 v4 : Value} (h : Bx W b v0 v1 v2 v3 v4) (hb : b' ≠ b) : Bx (W.setCell ⟨b', k, none⟩ v) b v0 v1 v2 v3 v4 := by
  constructor
  all_goals first
    | (rw [World.cell?_setCell_far _ _ _ _ hb]; first | exact h.c0 | exact h.c1 | exact h.c2 | exact h.c3 | exact h.c4)
    | (rw [World.frozen?_setCell]; first | exact h.f0 | exact h.f1 | exact h.f2 | exact h.f3 | exact h.f4)
    | (rw [World.size_setCell]; exact h.big)
theorem Bx.set0 {W : World} {b : Nat} {v v0 v1 v2 v3 v4 : Value} (h : Bx W b v0 v1 v2 v3 v4) : Bx (W.setCell ⟨b, 0, none⟩ v) b v v1 v2 v3 v4 := by
  constructor
  · exact World.cell?_setCell_same _ _ _ h.c0
  · rw [World.cell?_setCell_other _ _ _ _ (by simp)]; exact h.c1
  · rw [World.cell?_setCell_other _ _ _ _ (by simp)]; exact h.c2
  · rw [World.cell?_setCell_other _ _ _ _ (by simp)]; exact h.c3
  · rw [World.cell?_setCell_other _ _ _ _ (by simp)]; exact h.c4
  · rw [World.frozen?_setCell]; exact h.f0
  · rw [World.frozen?_setCell]; exact h.f1
  · rw [World.frozen?_setCell]; exact h.f2
  · rw [World.frozen?_setCell]; exact h.f3
  · rw [World.frozen?_setCell]; exact h.f4
  · rw [World.size_setCell]; exact h.big
theorem Bx.set1 {W : World} {b : Nat} {v v0 v1 v2 v3 v4 : Value} (h : Bx W b v0 v1 v2 v3 v4) : Bx (W.setCell ⟨b, 1, none⟩ v) b v0 v v2 v3 v4 := by
  constructor
  · rw [World.cell?_setCell_other _ _ _ _ (by simp)]; exact h.c0
  · exact World.cell?_setCell_same _ _ _ h.c1
  · rw [World.cell?_setCell_other _ _ _ _ (by simp)]; exact h.c2
  · rw [World.cell?_setCell_other _ _ _ _ (by simp)]; exact h.c3
  · rw [World.cell?_setCell_other _ _ _ _ (by simp)]; exact h.c4
  · rw [World.frozen?_setCell]; exact h.f0
  · rw [World.frozen?_setCell]; exact h.f1
  · rw [World.frozen?_setCell]; exact h.f2
  · rw [World.frozen?_setCell]; exact h.f3
  · rw [World.frozen?_setCell]; exact h.f4
  · rw [World.size_setCell]; exact h.big
theorem Bx.set2 {W : World} {b : Nat} {v v0 v1 v2 v3 v4 : Value} (h : Bx W b v0 v1 v2 v3 v4) : Bx (W.setCell ⟨b, 2, none⟩ v) b v0 v1 v v3 v4 := by
  constructor
  · rw [World.cell?_setCell_other _ _ _ _ (by simp)]; exact h.c0
  · rw [World.cell?_setCell_other _ _ _ _ (by simp)]; exact h.c1
  · exact World.cell?_setCell_same _ _ _ h.c2
  · rw [World.cell?_setCell_other _ _ _ _ (by simp)]; exact h.c3
  · rw [World.cell?_setCell_other _ _ _ _ (by simp)]; exact h.c4
  · rw [World.frozen?_setCell]; exact h.f0
  · rw [World.frozen?_setCell]; exact h.f1
  · rw [World.frozen?_setCell]; exact h.f2
  · rw [World.frozen?_setCell]; exact h.f3
  · rw [World.frozen?_setCell]; exact h.f4
  · rw [World.size_setCell]; exact h.big
theorem Bx.set3 {W : World} {b : Nat} {v v0 v1 v2 v3 v4 : Value} (h : Bx W b v0 v1 v2 v3 v4) : Bx (W.setCell ⟨b, 3, none⟩ v) b v0 v1 v2 v v4 := by
  constructor
  · rw [World.cell?_setCell_other _ _ _ _ (by simp)]; exact h.c0
  · rw [World.cell?_setCell_other _ _ _ _ (by simp)]; exact h.c1
  · rw [World.cell?_setCell_other _ _ _ _ (by simp)]; exact h.c2
  · exact World.cell?_setCell_same _ _ _ h.c3
  · rw [World.cell?_setCell_other _ _ _ _ (by simp)]; exact h.c4
  · rw [World.frozen?_setCell]; exact h.f0
  · rw [World.frozen?_setCell]; exact h.f1
  · rw [World.frozen?_setCell]; exact h.f2
  · rw [World.frozen?_setCell]; exact h.f3
  · rw [World.frozen?_setCell]; exact h.f4
  · rw [World.size_setCell]; exact h.big
theorem Bx.set4 {W : World} {b : Nat} {v v0 v1 v2 v3 v4 : Value} (h : Bx W b v0 v1 v2 v3 v4) : Bx (W.setCell ⟨b, 4, none⟩ v) b v0 v1 v2 v3 v := by
  constructor
  · rw [World.cell?_setCell_other _ _ _ _ (by simp)]; exact h.c0
  · rw [World.cell?_setCell_other _ _ _ _ (by simp)]; exact h.c1
  · rw [World.cell?_setCell_other _ _ _ _ (by simp)]; exact h.c2
  · rw [World.cell?_setCell_other _ _ _ _ (by simp)]; exact h.c3
  · exact World.cell?_setCell_same _ _ _ h.c4
  · rw [World.frozen?_setCell]; exact h.f0
  · rw [World.frozen?_setCell]; exact h.f1
  · rw [World.frozen?_setCell]; exact h.f2
  · rw [World.frozen?_setCell]; exact h.f3
  · rw [World.frozen?_setCell]; exact h.f4
  · rw [World.size_setCell]; exact h.big
def set5 (W : World) (b : Nat) (s0 s1 s2 s3 s4 : Value) : World :=
  ((((W.setCell ⟨b, 0, none⟩ s0).setCell ⟨b, 1, none⟩ s1).setCell ⟨b, 2, none⟩ s2).setCell ⟨b, 3, none⟩ s3).setCell ⟨b, 4, none⟩ s4
theorem Bx.set5 {W : World} {b : Nat} {v0 v1 v2 v3 v4 s0 s1 s2 s3 s4 : Value} (h : Bx W b v0 v1 v2 v3 v4) : Bx (set5 W b s0 s1 s2 s3 s4) b s0 s1 s2 s3 s4 := h.set0.set1.set2.set3.set4
theorem Bx.far5 {W : World} {b b' : Nat} {v0 v1 v2 v3 v4 s0 s1 s2 s3 s4 : Value} (h : Bx W b v0 v1 v2 v3 v4) (hb : b' ≠ b) : Bx (YtfjpdopmojfchaaGreatDoor.set5 W b' s0 s1 s2 s3 s4) b v0 v1 v2 v3 v4 := ((((h.far hb).far hb).far hb).far hb).far hb
theorem Q.set5 {a w : World} (h : Q a w) {b : Nat} (hb : a.heap.size ≤ b) {s0 s1 s2 s3 s4 : Value} : Q a (YtfjpdopmojfchaaGreatDoor.set5 w b s0 s1 s2 s3 s4) := ((((h.setCell hb _).setCell hb _).setCell hb _).setCell hb _).setCell hb _
structure B3 (w : World) (k n : Int) (t : ByteArray) (b : Bool) (e : Int) (k' n' : Int) (t' : ByteArray) (b' : Bool) (e' : Int) (k2 n2 : Int) (t2 : ByteArray) (b2 : Bool) (e2 : Int) (W : World) : Prop where
  q : Q w W
  x : Bx W w.heap.size (.int .i64 k) (.int .i64 n) (.string t) (.bool b) (.int .i64 e)
  y : Bx W (w.heap.size + 1) (.int .i64 k') (.int .i64 n') (.string t') (.bool b') (.int .i64 e')
  z : Bx W (w.heap.size + 1 + 1) (.int .i64 k2) (.int .i64 n2) (.string t2) (.bool b2) (.int .i64 e2)
theorem B3.on {w W W' : World} {k n : Int} {t : ByteArray} {b : Bool} {e : Int} {k' n' : Int} {t' : ByteArray} {b' : Bool} {e' : Int} {k2 n2 : Int} {t2 : ByteArray} {b2 : Bool} {e2 : Int} (h : B3 w k n t b e k' n' t' b' e' k2 n2 t2 b2 e2 W) (g : Q W W') : B3 w k n t b e k' n' t' b' e' k2 n2 t2 b2 e2 W' :=
  ⟨h.q.trans g, h.x.on g, h.y.on g, h.z.on g⟩
theorem B3.drew {w W : World} {k n : Int} {t : ByteArray} {b : Bool} {e : Int} {k' n' : Int} {t' : ByteArray} {b' : Bool} {e' : Int} {k2 n2 : Int} {t2 : ByteArray} {b2 : Bool} {e2 : Int} (h : B3 w k n t b e k' n' t' b' e' k2 n2 t2 b2 e2 W) : B3 w k n t b e k' n' t' b' e' k2 n2 t2 b2 e2 W.drew := h.on (Q.refl _).drew
theorem b3_new (w : World) (k n : Int) (t : ByteArray) (b : Bool) (e : Int) (k' n' : Int) (t' : ByteArray) (b' : Bool) (e' : Int) (k2 n2 : Int) (t2 : ByteArray) (b2 : Bool) (e2 : Int) :
    B3 w k n t b e k' n' t' b' e' k2 n2 t2 b2 e2 (((w.alloc (.cells #[.int .i64 k, .int .i64 n, .string t, .bool b, .int .i64 e] 37)).alloc (.cells #[.int .i64 k', .int .i64 n', .string t', .bool b', .int .i64 e'] 37)).alloc (.cells #[.int .i64 k2, .int .i64 n2, .string t2, .bool b2, .int .i64 e2] 37)) := by
  refine ⟨(((Q.refl _).alloc _).alloc _).alloc _, ?_, ?_, ?_⟩
  · exact ((bx_new w _ _ _ _ _).on ((Q.refl _).alloc _)).on ((Q.refl _).alloc _)
  · have h := bx_new (w.alloc (.cells #[.int .i64 k, .int .i64 n, .string t, .bool b, .int .i64 e] 37)) (.int .i64 k') (.int .i64 n') (.string t') (.bool b') (.int .i64 e')
    rw [World.size_alloc] at h
    exact h.on ((Q.refl _).alloc _)
  · have h := bx_new ((w.alloc (.cells #[.int .i64 k, .int .i64 n, .string t, .bool b, .int .i64 e] 37)).alloc (.cells #[.int .i64 k', .int .i64 n', .string t', .bool b', .int .i64 e'] 37)) (.int .i64 k2) (.int .i64 n2) (.string t2) (.bool b2) (.int .i64 e2)
    rw [World.size_alloc, World.size_alloc] at h
    exact h
def Cv.v (x : Cv) : Value := vv x.k x.n x.t x.b x.e
def Cv.cells (x : Cv) : List Value := [.int .i64 x.k, .int .i64 x.n, .string x.t, .bool x.b, .int .i64 x.e]
theorem Cv.len (x : Cv) : x.cells.length = 5 := rfl
def Cv.cut (x : Cv) : Cv := { x with t := cutT x.t }
def er (e : Int) : Cv := ⟨4, 0, ⟨#[]⟩, false, e⟩
def nu (n : Int) : Cv := ⟨1, n, ⟨#[]⟩, false, 0⟩
def bo (b : Bool) : Cv := ⟨3, 0, ⟨#[]⟩, b, 0⟩
def tx (t : ByteArray) : Cv := ⟨2, 0, t, false, 0⟩
def ctd (x : Cv) : Cv := if x.may = true then x else er 5
def Cv.sm (x : Cv) : Prop := (x.t.size : Int) ≤ 9223372036854775000
theorem Q5 {a w : World} (h : Q a w) {b : Nat} (hb : a.heap.size ≤ b) {s0 s1 s2 s3 s4 : Value} :
    Q a (((((w.setCell ⟨b, 0, none⟩ s0).setCell ⟨b, 1, none⟩ s1).setCell ⟨b, 2, none⟩ s2).setCell ⟨b, 3, none⟩ s3).setCell ⟨b, 4, none⟩ s4) :=
  ((((h.setCell hb _).setCell hb _).setCell hb _).setCell hb _).setCell hb _
theorem failure_any (n : Int) (w : World) : Calls Tryz.prog 30 #[.int .i64 n] w fun x w' => x = .returned (er n).v ∧ Q w w' := by
  go_enter Tryz.func30, Tryz.ntmps30
  go_wp2
  exact bodyPost_ret (v := (er n).v) (by simp [results, Tryz.results30, go_sem, vv, Cv.v, er]) rfl ⟨rfl, (Q.refl _).alloc _⟩
theorem number_any (n : Int) (w : World) : Calls Tryz.prog 55 #[.int .i64 n] w fun x w' => x = .returned (nu n).v ∧ Q w w' := by
  go_enter Tryz.func55, Tryz.ntmps55
  go_wp2
  exact bodyPost_ret (v := (nu n).v) (by simp [results, Tryz.results55, go_sem, vv, Cv.v, nu]) rfl ⟨rfl, (Q.refl _).alloc _⟩
theorem btruth_any (b : Bool) (w : World) : Calls Tryz.prog 43 #[.bool b] w fun x w' => x = .returned (bo b).v ∧ Q w w' := by
  go_enter Tryz.func43, Tryz.ntmps43
  go_wp2
  exact bodyPost_ret (v := (bo b).v) (by simp [results, Tryz.results43, go_sem, vv, Cv.v, bo]) rfl ⟨rfl, (Q.refl _).alloc _⟩
theorem btext_any (t : ByteArray) (w : World) : Calls Tryz.prog 92 #[.string t] w fun x w' => x = .returned (tx t).v ∧ Q w w' := by
  go_enter Tryz.func92, Tryz.ntmps92
  go_wp2
  exact bodyPost_ret (v := (tx t).v) (by simp [results, Tryz.results92, go_sem, vv, Cv.v, tx]) rfl ⟨rfl, (Q.refl _).alloc _⟩
theorem bxz (W : World) : Bx (W.alloc (.cells #[.int .i64 0, .int .i64 0, .string ⟨#[]⟩, .bool false, .int .i64 0] 37)) W.heap.size (.int .i64 0) (.int .i64 0) (.string ⟨#[]⟩) (.bool false) (.int .i64 0) := bx_new W _ _ _ _ _
set_option maxHeartbeats 1000000 in
theorem result_any (n : Int) (b : Bool) (w : World) : Calls Tryz.prog 81 #[.int .i64 n, .bool b] w fun x w' => x = .returned (if b = true then nu n else er 4).v ∧ Q w w' := by
  have HB := hid (bxz w)
  cases b
  · have HC := hid (fun W => failure_any 4 W)
    simp only [Cv.v, vv, er, Bool.false_eq_true, if_false] at *
    go_enter Tryz.func81, Tryz.ntmps81
    go_wp2_with (go_at_call 30; refine (HC.out _).mono ?_; rintro x w1 ⟨rfl, q1⟩; have B1 := HB.out.on q1; have Q1 : Hid (Q w w1) := hid (((Q.refl _).alloc _).trans q1); clear q1; obtain ⟨d0, d1, d2, d3, d4, y0, y1, y2, y3, y4, _⟩ := B1)
    exact bodyPost_ret (v := (er 4).v) (by simp [results, Tryz.results81, go_sem, vv, Cv.v, er, d0, d1, d2, d3, d4]) rfl ⟨rfl, Q5 Q1.out (Nat.le_refl _)⟩
  · have HC := hid (fun W => number_any n W)
    simp only [Cv.v, vv, nu, if_true] at *
    go_enter Tryz.func81, Tryz.ntmps81
    go_wp2_with (go_at_call 55; refine (HC.out _).mono ?_; rintro x w1 ⟨rfl, q1⟩; have B1 := HB.out.on q1; have Q1 : Hid (Q w w1) := hid (((Q.refl _).alloc _).trans q1); clear q1; obtain ⟨d0, d1, d2, d3, d4, y0, y1, y2, y3, y4, _⟩ := B1)
    exact bodyPost_ret (v := (nu n).v) (by simp [results, Tryz.results81, go_sem, vv, Cv.v, nu, d0, d1, d2, d3, d4]) rfl ⟨rfl, Q5 Q1.out (Nat.le_refl _)⟩
set_option maxHeartbeats 1000000 in
theorem counted_any (x : Cv) (w : World) (hw : Std2 w) (hs : x.sm) : Calls Tryz.prog 37 #[x.v] w fun r w' => r = .returned (ctd x).v ∧ Q w w' := by
  obtain ⟨k, n, t, b, e⟩ := x
  have HM := hid (fun W (q : Q w W) => may_any k n t b e W (hw.on q) hs)
  have HA := hid (bx_new w (.int .i64 k) (.int .i64 n) (.string t) (.bool b) (.int .i64 e))
  have HB := hid (bxz (w.alloc (.cells #[.int .i64 k, .int .i64 n, .string t, .bool b, .int .i64 e] 37)))
  have HF := hid (fun W => failure_any 5 W)
  unfold ctd Cv.may
  simp only
  cases hm : mayB k n t.toList b e
  · rw [hm] at HM
    simp only [Cv.v, vv, er, Bool.false_eq_true, if_false] at *
    go_enter Tryz.func37, Tryz.ntmps37
    go_wp2_with (first
      | (go_at_call 80; refine (HM.out _ (((Q.refl _).alloc _).alloc _)).mono ?_; rintro x w1 ⟨rfl, q1⟩; have B1 := HB.out.on q1; have Q1 : Hid (Q w w1) := hid ((((Q.refl _).alloc _).alloc _).trans q1); clear q1)
      | (go_at_call 30; refine (HF.out _).mono ?_; rintro x w2 ⟨rfl, q1⟩; have B2 := B1.on q1; have Q2 : Hid (Q w w2) := hid (Q1.out.trans q1); clear q1; obtain ⟨d0, d1, d2, d3, d4, y0, y1, y2, y3, y4, _⟩ := B2; simp only [World.size_alloc] at *))
    exact bodyPost_ret (v := (er 5).v) (by simp [results, Tryz.results37, go_sem, vv, Cv.v, er, d0, d1, d2, d3, d4]) rfl ⟨rfl, Q5 Q2.out (by omega)⟩
  · rw [hm] at HM
    simp only [Cv.v, vv, if_true] at *
    go_enter Tryz.func37, Tryz.ntmps37
    go_wp2_with (first
      | (go_at_call 80; refine (HM.out _ (((Q.refl _).alloc _).alloc _)).mono ?_; rintro x w1 ⟨rfl, q1⟩; have A1 := (HA.out.on ((Q.refl _).alloc _)).on q1; have B1 := HB.out.on q1; have Q1 : Hid (Q w w1) := hid ((((Q.refl _).alloc _).alloc _).trans q1); clear q1; obtain ⟨a0, a1, a2, a3, a4, _⟩ := A1; obtain ⟨d0, d1, d2, d3, d4, y0, y1, y2, y3, y4, _⟩ := B1; simp only [World.size_alloc] at *))
    exact bodyPost_ret (v := .agg #[.int .i64 k, .int .i64 n, .string t, .bool b, .int .i64 e]) (by simp [results, Tryz.results37, go_sem, d0, d1, d2, d3, d4]) rfl ⟨rfl, Q5 Q1.out (by omega)⟩
theorem sl_lit {α : Type} {enc : α → List Value} {k : Nat} (hk : ∀ x, (enc x).length = k) (W : World) (xs : List α) (n : Nat) (hn : xs.length = n) (hl : n ≤ 1000) (t : TypeId) : Sl enc k (W.alloc (.cells (flat enc xs).toArray t)) (.slice (some ⟨W.heap.size, 0, none⟩) n n) xs := by
  subst hn
  refine ⟨some ⟨W.heap.size, 0, none⟩, xs.length, rfl, Nat.le_refl _, by unfold maxLen; omega, fun _ => ⟨W.heap.size, 0, rfl, fun i hi j u hu => ?_⟩⟩
  have hj : j < k := by rw [← hk xs[i]]; exact (List.getElem?_eq_some_iff.1 hu).1
  rw [World.cell?_alloc_at _ _ _ _ rfl]
  rw [← hu, ← flat_at enc hk xs i hi j hj]
  simp
structure Ag where
  r : Bool
  s : Value
  l : List Cv
def Ag.cells (a : Ag) : List Value := [.bool a.r, a.s]
theorem Ag.len (a : Ag) : a.cells.length = 2 := rfl
structure Args (W : World) (v : Value) (A : List Ag) : Prop where
  sl : Sl Ag.cells 2 W v A
  vs : ∀ a ∈ A, Sl Cv.cells 5 W a.s a.l
theorem Args.on {W W' : World} {v : Value} {A : List Ag} (h : Args W v A) (q : Q W W') : Args W' v A := ⟨h.sl.on q, fun a ha => (h.vs a ha).on q⟩
theorem getD_at (l : List Cv) {i : Nat} (hi : i < l.length) : l.getD i cv0 = l[i] := by rw [List.getD_eq_getElem?_getD, List.getElem?_eq_getElem hi]; rfl
theorem at5_of {W : World} {b o : Nat} {x : Cv} (h : Ats Cv.cells W b o x) : At5 W b o x := ⟨h 0 _ rfl, h 1 _ rfl, h 2 _ rfl, h 3 _ rfl, h 4 _ rfl⟩
set_option maxHeartbeats 1000000 in
theorem worst_sl (l : List Cv) (v : Value) (w : World) (hw : Std2 w) (h : Sl Cv.cells 5 w v l) (hm : l.length ≤ 1000) (hs : ∀ x ∈ l, x.sm) :
    Calls Tryz.prog 38 #[v] w fun e w' => e = .returned (.int .i64 (worst l)) ∧ Q w w' := by
  obtain ⟨ao, cap, rfl, h1, h2, h3⟩ := h
  rcases Nat.eq_zero_or_pos l.length with h0 | h0
  · have hl := List.eq_nil_of_length_eq_zero h0
    subst hl
    clear h3
    simp only [List.length_nil]
    go_enter Tryz.func38, Tryz.ntmps38
    go_wp2
    refine wp_loop_rounds 1 ?_
    rw [rounds_succ]
    go_wp2
    go_ret
    exact ⟨rfl, Q.refl _⟩
  · obtain ⟨b, off, rfl, hc⟩ := h3 h0
    refine worst_row b off l.length cap l w hw rfl (by omega) (fun i hi => ?_) (fun i hi => ?_)
    · rw [getD_at _ hi]; exact hs _ (List.getElem_mem hi)
    · rw [getD_at _ hi]; exact at5_of (hc i hi)
def AggV (W : World) (f : Value) (F : Nat) : Prop := ∃ p, f = .func (.func 103) #[] #[.pointer (some ⟨p, 0, none⟩)] ∧ W.cell? ⟨p, 0, none⟩ = some (.func (.func F) #[] #[])
def SinV (W : World) (f : Value) (F : Nat) : Prop := ∃ p, f = .func (.func 110) #[] #[.pointer (some ⟨p, 0, none⟩)] ∧ W.cell? ⟨p, 0, none⟩ = some (.func (.func F) #[] #[])
theorem fcell {W W' : World} {p : Nat} {u : Value} (h : W.cell? ⟨p, 0, none⟩ = some u) (q : Q W W') : W'.cell? ⟨p, 0, none⟩ = some u := (q.cell (World.block_lt_of_cell? W ⟨p, 0, none⟩ h)).trans h
theorem AggV.on {W W' : World} {f : Value} {F : Nat} (h : AggV W f F) (q : Q W W') : AggV W' f F := by
  obtain ⟨p, e, c⟩ := h
  exact ⟨p, e, fcell c q⟩
theorem SinV.on {W W' : World} {f : Value} {F : Nat} (h : SinV W f F) (q : Q W W') : SinV W' f F := by
  obtain ⟨p, e, c⟩ := h
  exact ⟨p, e, fcell c q⟩
def TakV (W : World) (f : Value) (K G F : Nat) : Prop := ∃ p q r, f = .func (.func 110) #[] #[.pointer (some ⟨p, 0, none⟩)] ∧ W.cell? ⟨p, 0, none⟩ = some (.func (.func K) #[] #[.pointer (some ⟨q, 0, none⟩), .pointer (some ⟨r, 0, none⟩)]) ∧ W.cell? ⟨q, 0, none⟩ = some (.func (.func G) #[] #[]) ∧ W.cell? ⟨r, 0, none⟩ = some (.func (.func F) #[] #[])
theorem TakV.on {W W' : World} {f : Value} {K G F : Nat} (h : TakV W f K G F) (q : Q W W') : TakV W' f K G F := by
  obtain ⟨p, r, t, e, c, d, g⟩ := h
  exact ⟨p, r, t, e, fcell c q, fcell d q, fcell g q⟩
theorem aggregate_any (fn : Fn) (fi ca : Array Value) (w : World) : Calls Tryz.prog 57 #[.func fn fi ca] w fun e w' => e = .returned (.agg #[.int .i64 0, .int .i64 9223372036854775807, .func (.func 103) #[] #[.pointer (some ⟨w.heap.size, 0, none⟩)]]) ∧ w'.cell? ⟨w.heap.size, 0, none⟩ = some (.func fn fi ca) ∧ w.heap.size < w'.heap.size ∧ Q w w' := by
  go_enter Tryz.func57, Tryz.ntmps57
  go_wp2
  exact bodyPost_ret (v := .agg #[.int .i64 0, .int .i64 9223372036854775807, .func (.func 103) #[] #[.pointer (some ⟨w.heap.size, 0, none⟩)]]) (by simp [results, Tryz.results57, go_sem]) rfl ⟨rfl, by simp, by simp only [World.size_alloc]; omega, ((Q.refl _).alloc _).alloc _⟩
theorem ofSingles_any (lo hi : Int) (fn : Fn) (fi ca : Array Value) (w : World) : Calls Tryz.prog 63 #[.int .i64 lo, .int .i64 hi, .func fn fi ca] w fun e w' => e = .returned (.agg #[.int .i64 lo, .int .i64 hi, .func (.func 110) #[] #[.pointer (some ⟨w.heap.size, 0, none⟩)]]) ∧ w'.cell? ⟨w.heap.size, 0, none⟩ = some (.func fn fi ca) ∧ w.heap.size < w'.heap.size ∧ Q w w' := by
  go_enter Tryz.func63, Tryz.ntmps63
  go_wp2
  exact bodyPost_ret (v := .agg #[.int .i64 lo, .int .i64 hi, .func (.func 110) #[] #[.pointer (some ⟨w.heap.size, 0, none⟩)]]) (by simp [results, Tryz.results63, go_sem]) rfl ⟨rfl, by simp, by simp only [World.size_alloc]; omega, ((Q.refl _).alloc _).alloc _⟩
abbrev fz (w : World) : World := w.alloc (.cells #[.int .i64 0, .int .i64 0, .nilFunc] 58)
theorem fz_c (w : World) : (fz w).cell? ⟨w.heap.size, 0, none⟩ = some (.int .i64 0) ∧ (fz w).cell? ⟨w.heap.size, 1, none⟩ = some (.int .i64 0) ∧ (fz w).cell? ⟨w.heap.size, 2, none⟩ = some .nilFunc := ⟨by simp, by simp, by simp⟩
theorem fz_f (w : World) (j : Nat) : (fz w).frozen? ⟨w.heap.size, j, none⟩ = false := by simp [World.frozen?_alloc_new]
theorem fz_q (w : World) : Q w (fz w) := (Q.refl _).alloc _
theorem fz_on {w W : World} (q : Q (fz w) W) : W.cell? ⟨w.heap.size, 0, none⟩ = some (.int .i64 0) ∧ W.cell? ⟨w.heap.size, 1, none⟩ = some (.int .i64 0) ∧ W.cell? ⟨w.heap.size, 2, none⟩ = some .nilFunc ∧ W.frozen? ⟨w.heap.size, 0, none⟩ = false ∧ W.frozen? ⟨w.heap.size, 1, none⟩ = false ∧ W.frozen? ⟨w.heap.size, 2, none⟩ = false := by
  have hl : w.heap.size < (fz w).heap.size := by simp
  refine ⟨?_, ?_, ?_, ?_, ?_, ?_⟩
  · rw [q.cell hl]; exact (fz_c w).1
  · rw [q.cell hl]; exact (fz_c w).2.1
  · rw [q.cell hl]; exact (fz_c w).2.2
  · rw [Below.frozen q (p := ⟨w.heap.size, 0, none⟩) hl]; exact fz_f w 0
  · rw [Below.frozen q (p := ⟨w.heap.size, 1, none⟩) hl]; exact fz_f w 1
  · rw [Below.frozen q (p := ⟨w.heap.size, 2, none⟩) hl]; exact fz_f w 2
theorem fz_set {w W : World} (q : Q w W) (a b c : Value) : Q w (((W.setCell ⟨w.heap.size, 0, none⟩ a).setCell ⟨w.heap.size, 1, none⟩ b).setCell ⟨w.heap.size, 2, none⟩ c) := ((q.setCell (Nat.le_refl _) _).setCell (Nat.le_refl _) _).setCell (Nat.le_refl _) _
theorem fz_far {w W : World} {p : Nat} (hp : w.heap.size ≠ p) (a b c : Value) : (((W.setCell ⟨w.heap.size, 0, none⟩ a).setCell ⟨w.heap.size, 1, none⟩ b).setCell ⟨w.heap.size, 2, none⟩ c).cell? ⟨p, 0, none⟩ = W.cell? ⟨p, 0, none⟩ := by
  rw [World.cell?_setCell_far _ _ _ _ hp, World.cell?_setCell_far _ _ _ _ hp, World.cell?_setCell_far _ _ _ _ hp]
set_option maxHeartbeats 1000000 in
theorem find_sum (w : World) : Calls Tryz.prog 29 #[.string ⟨#[83, 85, 77]⟩] w fun e w' => ∃ f, e = .returned (.tuple #[.agg #[.int .i64 0, .int .i64 9223372036854775807, f], .bool true]) ∧ AggV w' f 58 ∧ Q w w' := by
  have HA := hid (fun W => aggregate_any (.func 58) #[] #[] W)
  go_enter Tryz.func29, Tryz.ntmps29
  go_wp2_with (go_at_call 57; refine (HA.out _).mono ?_; rintro e w1 ⟨rfl, c1, l1, q1⟩; obtain ⟨d0, d1, d2, y0, y1, y2⟩ := fz_on q1; have Q1 := hid ((fz_q w).trans q1); have C1 := hid c1; clear c1 q1)
  refine bodyPost_ret (v := .tuple #[.agg #[.int .i64 0, .int .i64 9223372036854775807, .func (.func 103) #[] #[.pointer (some ⟨w.heap.size + 1, 0, none⟩)]], .bool true]) (by simp [results, Tryz.results29, go_sem, d0, d1, d2]) rfl ?_
  exact ⟨_, rfl, ⟨w.heap.size + 1, rfl, by rw [fz_far (by omega)]; simpa using C1.out⟩, fz_set Q1.out _ _ _⟩
set_option maxHeartbeats 1000000 in
theorem find_min (w : World) : Calls Tryz.prog 29 #[.string ⟨#[77, 73, 78]⟩] w fun e w' => ∃ f, e = .returned (.tuple #[.agg #[.int .i64 0, .int .i64 9223372036854775807, f], .bool true]) ∧ AggV w' f 59 ∧ Q w w' := by
  have HA := hid (fun W => aggregate_any (.func 59) #[] #[] W)
  go_enter Tryz.func29, Tryz.ntmps29
  go_wp2_with (go_at_call 57; refine (HA.out _).mono ?_; rintro e w1 ⟨rfl, c1, l1, q1⟩; obtain ⟨d0, d1, d2, y0, y1, y2⟩ := fz_on q1; have Q1 := hid ((fz_q w).trans q1); have C1 := hid c1; clear c1 q1)
  refine bodyPost_ret (v := .tuple #[.agg #[.int .i64 0, .int .i64 9223372036854775807, .func (.func 103) #[] #[.pointer (some ⟨w.heap.size + 1, 0, none⟩)]], .bool true]) (by simp [results, Tryz.results29, go_sem, d0, d1, d2]) rfl ?_
  exact ⟨_, rfl, ⟨w.heap.size + 1, rfl, by rw [fz_far (by omega)]; simpa using C1.out⟩, fz_set Q1.out _ _ _⟩
set_option maxHeartbeats 1000000 in
theorem find_max (w : World) : Calls Tryz.prog 29 #[.string ⟨#[77, 65, 88]⟩] w fun e w' => ∃ f, e = .returned (.tuple #[.agg #[.int .i64 0, .int .i64 9223372036854775807, f], .bool true]) ∧ AggV w' f 60 ∧ Q w w' := by
  have HA := hid (fun W => aggregate_any (.func 60) #[] #[] W)
  go_enter Tryz.func29, Tryz.ntmps29
  go_wp2_with (go_at_call 57; refine (HA.out _).mono ?_; rintro e w1 ⟨rfl, c1, l1, q1⟩; obtain ⟨d0, d1, d2, y0, y1, y2⟩ := fz_on q1; have Q1 := hid ((fz_q w).trans q1); have C1 := hid c1; clear c1 q1)
  refine bodyPost_ret (v := .tuple #[.agg #[.int .i64 0, .int .i64 9223372036854775807, .func (.func 103) #[] #[.pointer (some ⟨w.heap.size + 1, 0, none⟩)]], .bool true]) (by simp [results, Tryz.results29, go_sem, d0, d1, d2]) rfl ?_
  exact ⟨_, rfl, ⟨w.heap.size + 1, rfl, by rw [fz_far (by omega)]; simpa using C1.out⟩, fz_set Q1.out _ _ _⟩
set_option maxHeartbeats 1000000 in
theorem find_count (w : World) : Calls Tryz.prog 29 #[.string ⟨#[67, 79, 85, 78, 84]⟩] w fun e w' => ∃ f, e = .returned (.tuple #[.agg #[.int .i64 0, .int .i64 9223372036854775807, f], .bool true]) ∧ AggV w' f 61 ∧ Q w w' := by
  have HA := hid (fun W => aggregate_any (.func 61) #[] #[] W)
  go_enter Tryz.func29, Tryz.ntmps29
  go_wp2_with (go_at_call 57; refine (HA.out _).mono ?_; rintro e w1 ⟨rfl, c1, l1, q1⟩; obtain ⟨d0, d1, d2, y0, y1, y2⟩ := fz_on q1; have Q1 := hid ((fz_q w).trans q1); have C1 := hid c1; clear c1 q1)
  refine bodyPost_ret (v := .tuple #[.agg #[.int .i64 0, .int .i64 9223372036854775807, .func (.func 103) #[] #[.pointer (some ⟨w.heap.size + 1, 0, none⟩)]], .bool true]) (by simp [results, Tryz.results29, go_sem, d0, d1, d2]) rfl ?_
  exact ⟨_, rfl, ⟨w.heap.size + 1, rfl, by rw [fz_far (by omega)]; simpa using C1.out⟩, fz_set Q1.out _ _ _⟩
set_option maxHeartbeats 1000000 in
theorem find_average (w : World) : Calls Tryz.prog 29 #[.string ⟨#[65, 86, 69, 82, 65, 71, 69]⟩] w fun e w' => ∃ f, e = .returned (.tuple #[.agg #[.int .i64 0, .int .i64 9223372036854775807, f], .bool true]) ∧ AggV w' f 62 ∧ Q w w' := by
  have HA := hid (fun W => aggregate_any (.func 62) #[] #[] W)
  go_enter Tryz.func29, Tryz.ntmps29
  go_wp2_with (go_at_call 57; refine (HA.out _).mono ?_; rintro e w1 ⟨rfl, c1, l1, q1⟩; obtain ⟨d0, d1, d2, y0, y1, y2⟩ := fz_on q1; have Q1 := hid ((fz_q w).trans q1); have C1 := hid c1; clear c1 q1)
  refine bodyPost_ret (v := .tuple #[.agg #[.int .i64 0, .int .i64 9223372036854775807, .func (.func 103) #[] #[.pointer (some ⟨w.heap.size + 1, 0, none⟩)]], .bool true]) (by simp [results, Tryz.results29, go_sem, d0, d1, d2]) rfl ?_
  exact ⟨_, rfl, ⟨w.heap.size + 1, rfl, by rw [fz_far (by omega)]; simpa using C1.out⟩, fz_set Q1.out _ _ _⟩
set_option maxHeartbeats 1000000 in
theorem find_if (w : World) : Calls Tryz.prog 29 #[.string ⟨#[73, 70]⟩] w fun e w' => ∃ f, e = .returned (.tuple #[.agg #[.int .i64 2, .int .i64 3, f], .bool true]) ∧ SinV w' f 64 ∧ Q w w' := by
  have HA := hid (fun W => ofSingles_any 2 3 (.func 64) #[] #[] W)
  go_enter Tryz.func29, Tryz.ntmps29
  go_wp2_with (go_at_call 63; refine (HA.out _).mono ?_; rintro e w1 ⟨rfl, c1, l1, q1⟩; obtain ⟨d0, d1, d2, y0, y1, y2⟩ := fz_on q1; have Q1 := hid ((fz_q w).trans q1); have C1 := hid c1; clear c1 q1)
  refine bodyPost_ret (v := .tuple #[.agg #[.int .i64 2, .int .i64 3, .func (.func 110) #[] #[.pointer (some ⟨w.heap.size + 1, 0, none⟩)]], .bool true]) (by simp [results, Tryz.results29, go_sem, d0, d1, d2]) rfl ?_
  exact ⟨_, rfl, ⟨w.heap.size + 1, rfl, by rw [fz_far (by omega)]; simpa using C1.out⟩, fz_set Q1.out _ _ _⟩
set_option maxHeartbeats 1000000 in
theorem find_iserror (w : World) : Calls Tryz.prog 29 #[.string ⟨#[73, 83, 69, 82, 82, 79, 82]⟩] w fun e w' => ∃ f, e = .returned (.tuple #[.agg #[.int .i64 1, .int .i64 1, f], .bool true]) ∧ SinV w' f 74 ∧ Q w w' := by
  have HA := hid (fun W => ofSingles_any 1 1 (.func 74) #[] #[] W)
  go_enter Tryz.func29, Tryz.ntmps29
  go_wp2_with (go_at_call 63; refine (HA.out _).mono ?_; rintro e w1 ⟨rfl, c1, l1, q1⟩; obtain ⟨d0, d1, d2, y0, y1, y2⟩ := fz_on q1; have Q1 := hid ((fz_q w).trans q1); have C1 := hid c1; clear c1 q1)
  refine bodyPost_ret (v := .tuple #[.agg #[.int .i64 1, .int .i64 1, .func (.func 110) #[] #[.pointer (some ⟨w.heap.size + 1, 0, none⟩)]], .bool true]) (by simp [results, Tryz.results29, go_sem, d0, d1, d2]) rfl ?_
  exact ⟨_, rfl, ⟨w.heap.size + 1, rfl, by rw [fz_far (by omega)]; simpa using C1.out⟩, fz_set Q1.out _ _ _⟩
set_option maxHeartbeats 1000000 in
theorem find_no (w : World) : Calls Tryz.prog 29 #[.string ⟨#[105, 102]⟩] w fun e w' => e = .returned (.tuple #[.agg #[.int .i64 0, .int .i64 0, .nilFunc], .bool false]) ∧ Q w w' := by
  go_enter Tryz.func29, Tryz.ntmps29
  go_wp2
  exact bodyPost_ret (v := .tuple #[.agg #[.int .i64 0, .int .i64 0, .nilFunc], .bool false]) (by simp [results, Tryz.results29, go_sem]) rfl ⟨rfl, (Q.refl _).alloc _⟩
theorem mk_bool (fn : Fn) (fi ca : Array Value) (fn' : Fn) (fi' ca' : Array Value) (w : World) : Calls Tryz.prog 65 #[.func fn fi ca, .func fn' fi' ca'] w fun e w' => e = .returned (.func (.func 112) #[] #[.pointer (some ⟨w.heap.size, 0, none⟩), .pointer (some ⟨w.heap.size + 1, 0, none⟩)]) ∧ w'.cell? ⟨w.heap.size, 0, none⟩ = some (.func fn fi ca) ∧ w'.cell? ⟨w.heap.size + 1, 0, none⟩ = some (.func fn' fi' ca') ∧ w.heap.size + 1 < w'.heap.size ∧ Q w w' := by
  go_enter Tryz.func65, Tryz.ntmps65
  go_wp2
  exact bodyPost_ret (v := .func (.func 112) #[] #[.pointer (some ⟨w.heap.size, 0, none⟩), .pointer (some ⟨w.heap.size + 1, 0, none⟩)]) (by simp [results, Tryz.results65, go_sem]) rfl ⟨rfl, by simp, by simp, by simp only [World.size_alloc]; omega, ((Q.refl _).alloc _).alloc _⟩
theorem mk_str (fn : Fn) (fi ca : Array Value) (fn' : Fn) (fi' ca' : Array Value) (w : World) : Calls Tryz.prog 40 #[.func fn fi ca, .func fn' fi' ca'] w fun e w' => e = .returned (.func (.func 86) #[] #[.pointer (some ⟨w.heap.size, 0, none⟩), .pointer (some ⟨w.heap.size + 1, 0, none⟩)]) ∧ w'.cell? ⟨w.heap.size, 0, none⟩ = some (.func fn fi ca) ∧ w'.cell? ⟨w.heap.size + 1, 0, none⟩ = some (.func fn' fi' ca') ∧ w.heap.size + 1 < w'.heap.size ∧ Q w w' := by
  go_enter Tryz.func40, Tryz.ntmps40
  go_wp2
  exact bodyPost_ret (v := .func (.func 86) #[] #[.pointer (some ⟨w.heap.size, 0, none⟩), .pointer (some ⟨w.heap.size + 1, 0, none⟩)]) (by simp [results, Tryz.results40, go_sem]) rfl ⟨rfl, by simp, by simp, by simp only [World.size_alloc]; omega, ((Q.refl _).alloc _).alloc _⟩
theorem mk_fix (fn : Fn) (fi ca : Array Value) (fn' : Fn) (fi' ca' : Array Value) (w : World) : Calls Tryz.prog 70 #[.func fn fi ca, .func fn' fi' ca'] w fun e w' => e = .returned (.func (.func 115) #[] #[.pointer (some ⟨w.heap.size, 0, none⟩), .pointer (some ⟨w.heap.size + 1, 0, none⟩)]) ∧ w'.cell? ⟨w.heap.size, 0, none⟩ = some (.func fn fi ca) ∧ w'.cell? ⟨w.heap.size + 1, 0, none⟩ = some (.func fn' fi' ca') ∧ w.heap.size + 1 < w'.heap.size ∧ Q w w' := by
  go_enter Tryz.func70, Tryz.ntmps70
  go_wp2
  exact bodyPost_ret (v := .func (.func 115) #[] #[.pointer (some ⟨w.heap.size, 0, none⟩), .pointer (some ⟨w.heap.size + 1, 0, none⟩)]) (by simp [results, Tryz.results70, go_sem]) rfl ⟨rfl, by simp, by simp, by simp only [World.size_alloc]; omega, ((Q.refl _).alloc _).alloc _⟩
set_option maxHeartbeats 1000000 in
theorem find_and (w : World) : Calls Tryz.prog 29 #[.string ⟨#[65, 78, 68]⟩] w fun e w' => ∃ f, e = .returned (.tuple #[.agg #[.int .i64 1, .int .i64 9223372036854775807, f], .bool true]) ∧ TakV w' f 112 66 67 ∧ Q w w' := by
  have HS := hid (fun W => mk_bool (.func 66) #[] #[] (.func 67) #[] #[] W)
  have HA := hid (fun W => ofSingles_any 1 9223372036854775807 (.func 112) #[] #[.pointer (some ⟨w.heap.size + 1, 0, none⟩), .pointer (some ⟨w.heap.size + 1 + 1, 0, none⟩)] W)
  go_enter Tryz.func29, Tryz.ntmps29
  go_wp2_with (first
    | (go_at_call 65; refine (HS.out _).mono ?_; rintro e w1 ⟨rfl, c1, c2, l1, q1⟩; simp only [World.size_alloc] at c1 c2 l1 ⊢; have Q1 := hid q1; have C1 := hid c1; have C2 := hid c2; clear c1 c2 q1)
    | (go_at_call 63; refine (HA.out _).mono ?_; rintro e w2 ⟨rfl, c2, l2, q2⟩; obtain ⟨d0, d1, d2, y0, y1, y2⟩ := fz_on (Q1.out.trans q2); have Q2 := hid ((fz_q w).trans (Q1.out.trans q2)); have C3 := hid c2; have C4 := hid (fcell C1.out q2); have C5 := hid (fcell C2.out q2); clear c2 q2))
  refine bodyPost_ret (v := .tuple #[.agg #[.int .i64 1, .int .i64 9223372036854775807, .func (.func 110) #[] #[.pointer (some ⟨w1.heap.size, 0, none⟩)]], .bool true]) (by simp [results, Tryz.results29, go_sem, d0, d1, d2]) rfl ?_
  exact ⟨_, rfl, ⟨w1.heap.size, w.heap.size + 1, w.heap.size + 1 + 1, rfl, by rw [fz_far (by omega)]; exact C3.out, by rw [fz_far (by omega)]; exact C4.out, by rw [fz_far (by omega)]; exact C5.out⟩, fz_set Q2.out _ _ _⟩
set_option maxHeartbeats 1000000 in
theorem find_or (w : World) : Calls Tryz.prog 29 #[.string ⟨#[79, 82]⟩] w fun e w' => ∃ f, e = .returned (.tuple #[.agg #[.int .i64 1, .int .i64 9223372036854775807, f], .bool true]) ∧ TakV w' f 112 66 68 ∧ Q w w' := by
  have HS := hid (fun W => mk_bool (.func 66) #[] #[] (.func 68) #[] #[] W)
  have HA := hid (fun W => ofSingles_any 1 9223372036854775807 (.func 112) #[] #[.pointer (some ⟨w.heap.size + 1, 0, none⟩), .pointer (some ⟨w.heap.size + 1 + 1, 0, none⟩)] W)
  go_enter Tryz.func29, Tryz.ntmps29
  go_wp2_with (first
    | (go_at_call 65; refine (HS.out _).mono ?_; rintro e w1 ⟨rfl, c1, c2, l1, q1⟩; simp only [World.size_alloc] at c1 c2 l1 ⊢; have Q1 := hid q1; have C1 := hid c1; have C2 := hid c2; clear c1 c2 q1)
    | (go_at_call 63; refine (HA.out _).mono ?_; rintro e w2 ⟨rfl, c2, l2, q2⟩; obtain ⟨d0, d1, d2, y0, y1, y2⟩ := fz_on (Q1.out.trans q2); have Q2 := hid ((fz_q w).trans (Q1.out.trans q2)); have C3 := hid c2; have C4 := hid (fcell C1.out q2); have C5 := hid (fcell C2.out q2); clear c2 q2))
  refine bodyPost_ret (v := .tuple #[.agg #[.int .i64 1, .int .i64 9223372036854775807, .func (.func 110) #[] #[.pointer (some ⟨w1.heap.size, 0, none⟩)]], .bool true]) (by simp [results, Tryz.results29, go_sem, d0, d1, d2]) rfl ?_
  exact ⟨_, rfl, ⟨w1.heap.size, w.heap.size + 1, w.heap.size + 1 + 1, rfl, by rw [fz_far (by omega)]; exact C3.out, by rw [fz_far (by omega)]; exact C4.out, by rw [fz_far (by omega)]; exact C5.out⟩, fz_set Q2.out _ _ _⟩
set_option maxHeartbeats 1000000 in
theorem find_not (w : World) : Calls Tryz.prog 29 #[.string ⟨#[78, 79, 84]⟩] w fun e w' => ∃ f, e = .returned (.tuple #[.agg #[.int .i64 1, .int .i64 1, f], .bool true]) ∧ TakV w' f 112 66 69 ∧ Q w w' := by
  have HS := hid (fun W => mk_bool (.func 66) #[] #[] (.func 69) #[] #[] W)
  have HA := hid (fun W => ofSingles_any 1 1 (.func 112) #[] #[.pointer (some ⟨w.heap.size + 1, 0, none⟩), .pointer (some ⟨w.heap.size + 1 + 1, 0, none⟩)] W)
  go_enter Tryz.func29, Tryz.ntmps29
  go_wp2_with (first
    | (go_at_call 65; refine (HS.out _).mono ?_; rintro e w1 ⟨rfl, c1, c2, l1, q1⟩; simp only [World.size_alloc] at c1 c2 l1 ⊢; have Q1 := hid q1; have C1 := hid c1; have C2 := hid c2; clear c1 c2 q1)
    | (go_at_call 63; refine (HA.out _).mono ?_; rintro e w2 ⟨rfl, c2, l2, q2⟩; obtain ⟨d0, d1, d2, y0, y1, y2⟩ := fz_on (Q1.out.trans q2); have Q2 := hid ((fz_q w).trans (Q1.out.trans q2)); have C3 := hid c2; have C4 := hid (fcell C1.out q2); have C5 := hid (fcell C2.out q2); clear c2 q2))
  refine bodyPost_ret (v := .tuple #[.agg #[.int .i64 1, .int .i64 1, .func (.func 110) #[] #[.pointer (some ⟨w1.heap.size, 0, none⟩)]], .bool true]) (by simp [results, Tryz.results29, go_sem, d0, d1, d2]) rfl ?_
  exact ⟨_, rfl, ⟨w1.heap.size, w.heap.size + 1, w.heap.size + 1 + 1, rfl, by rw [fz_far (by omega)]; exact C3.out, by rw [fz_far (by omega)]; exact C4.out, by rw [fz_far (by omega)]; exact C5.out⟩, fz_set Q2.out _ _ _⟩
set_option maxHeartbeats 1000000 in
theorem find_abs (w : World) : Calls Tryz.prog 29 #[.string ⟨#[65, 66, 83]⟩] w fun e w' => ∃ f, e = .returned (.tuple #[.agg #[.int .i64 1, .int .i64 1, f], .bool true]) ∧ TakV w' f 115 71 72 ∧ Q w w' := by
  have HS := hid (fun W => mk_fix (.func 71) #[] #[] (.func 72) #[] #[] W)
  have HA := hid (fun W => ofSingles_any 1 1 (.func 115) #[] #[.pointer (some ⟨w.heap.size + 1, 0, none⟩), .pointer (some ⟨w.heap.size + 1 + 1, 0, none⟩)] W)
  go_enter Tryz.func29, Tryz.ntmps29
  go_wp2_with (first
    | (go_at_call 70; refine (HS.out _).mono ?_; rintro e w1 ⟨rfl, c1, c2, l1, q1⟩; simp only [World.size_alloc] at c1 c2 l1 ⊢; have Q1 := hid q1; have C1 := hid c1; have C2 := hid c2; clear c1 c2 q1)
    | (go_at_call 63; refine (HA.out _).mono ?_; rintro e w2 ⟨rfl, c2, l2, q2⟩; obtain ⟨d0, d1, d2, y0, y1, y2⟩ := fz_on (Q1.out.trans q2); have Q2 := hid ((fz_q w).trans (Q1.out.trans q2)); have C3 := hid c2; have C4 := hid (fcell C1.out q2); have C5 := hid (fcell C2.out q2); clear c2 q2))
  refine bodyPost_ret (v := .tuple #[.agg #[.int .i64 1, .int .i64 1, .func (.func 110) #[] #[.pointer (some ⟨w1.heap.size, 0, none⟩)]], .bool true]) (by simp [results, Tryz.results29, go_sem, d0, d1, d2]) rfl ?_
  exact ⟨_, rfl, ⟨w1.heap.size, w.heap.size + 1, w.heap.size + 1 + 1, rfl, by rw [fz_far (by omega)]; exact C3.out, by rw [fz_far (by omega)]; exact C4.out, by rw [fz_far (by omega)]; exact C5.out⟩, fz_set Q2.out _ _ _⟩
set_option maxHeartbeats 1000000 in
theorem find_len (w : World) : Calls Tryz.prog 29 #[.string ⟨#[76, 69, 78]⟩] w fun e w' => ∃ f, e = .returned (.tuple #[.agg #[.int .i64 1, .int .i64 1, f], .bool true]) ∧ TakV w' f 86 41 73 ∧ Q w w' := by
  have HS := hid (fun W => mk_str (.func 41) #[] #[] (.func 73) #[] #[] W)
  have HA := hid (fun W => ofSingles_any 1 1 (.func 86) #[] #[.pointer (some ⟨w.heap.size + 1, 0, none⟩), .pointer (some ⟨w.heap.size + 1 + 1, 0, none⟩)] W)
  go_enter Tryz.func29, Tryz.ntmps29
  go_wp2_with (first
    | (go_at_call 40; refine (HS.out _).mono ?_; rintro e w1 ⟨rfl, c1, c2, l1, q1⟩; simp only [World.size_alloc] at c1 c2 l1 ⊢; have Q1 := hid q1; have C1 := hid c1; have C2 := hid c2; clear c1 c2 q1)
    | (go_at_call 63; refine (HA.out _).mono ?_; rintro e w2 ⟨rfl, c2, l2, q2⟩; obtain ⟨d0, d1, d2, y0, y1, y2⟩ := fz_on (Q1.out.trans q2); have Q2 := hid ((fz_q w).trans (Q1.out.trans q2)); have C3 := hid c2; have C4 := hid (fcell C1.out q2); have C5 := hid (fcell C2.out q2); clear c2 q2))
  refine bodyPost_ret (v := .tuple #[.agg #[.int .i64 1, .int .i64 1, .func (.func 110) #[] #[.pointer (some ⟨w1.heap.size, 0, none⟩)]], .bool true]) (by simp [results, Tryz.results29, go_sem, d0, d1, d2]) rfl ?_
  exact ⟨_, rfl, ⟨w1.heap.size, w.heap.size + 1, w.heap.size + 1 + 1, rfl, by rw [fz_far (by omega)]; exact C3.out, by rw [fz_far (by omega)]; exact C4.out, by rw [fz_far (by omega)]; exact C5.out⟩, fz_set Q2.out _ _ _⟩
set_option maxHeartbeats 1000000 in
theorem find_concat (w : World) : Calls Tryz.prog 29 #[.string ⟨#[67, 79, 78, 67, 65, 84]⟩] w fun e w' => ∃ f, e = .returned (.tuple #[.agg #[.int .i64 0, .int .i64 9223372036854775807, f], .bool true]) ∧ TakV w' f 86 41 42 ∧ Q w w' := by
  have HS := hid (fun W => mk_str (.func 41) #[] #[] (.func 42) #[] #[] W)
  have HA := hid (fun W => ofSingles_any 0 9223372036854775807 (.func 86) #[] #[.pointer (some ⟨w.heap.size + 1, 0, none⟩), .pointer (some ⟨w.heap.size + 1 + 1, 0, none⟩)] W)
  go_enter Tryz.func29, Tryz.ntmps29
  go_wp2_with (first
    | (go_at_call 40; refine (HS.out _).mono ?_; rintro e w1 ⟨rfl, c1, c2, l1, q1⟩; simp only [World.size_alloc] at c1 c2 l1 ⊢; have Q1 := hid q1; have C1 := hid c1; have C2 := hid c2; clear c1 c2 q1)
    | (go_at_call 63; refine (HA.out _).mono ?_; rintro e w2 ⟨rfl, c2, l2, q2⟩; obtain ⟨d0, d1, d2, y0, y1, y2⟩ := fz_on (Q1.out.trans q2); have Q2 := hid ((fz_q w).trans (Q1.out.trans q2)); have C3 := hid c2; have C4 := hid (fcell C1.out q2); have C5 := hid (fcell C2.out q2); clear c2 q2))
  refine bodyPost_ret (v := .tuple #[.agg #[.int .i64 0, .int .i64 9223372036854775807, .func (.func 110) #[] #[.pointer (some ⟨w1.heap.size, 0, none⟩)]], .bool true]) (by simp [results, Tryz.results29, go_sem, d0, d1, d2]) rfl ?_
  exact ⟨_, rfl, ⟨w1.heap.size, w.heap.size + 1, w.heap.size + 1 + 1, rfl, by rw [fz_far (by omega)]; exact C3.out, by rw [fz_far (by omega)]; exact C4.out, by rw [fz_far (by omega)]; exact C5.out⟩, fz_set Q2.out _ _ _⟩
set_option maxHeartbeats 1000000 in
theorem find_na (w : World) : Calls Tryz.prog 29 #[.string ⟨#[78, 65]⟩] w fun e w' => ∃ f, e = .returned (.tuple #[.agg #[.int .i64 0, .int .i64 0, f], .bool true]) ∧ SinV w' f 75 ∧ Q w w' := by
  have HA := hid (fun W => ofSingles_any 0 0 (.func 75) #[] #[] W)
  go_enter Tryz.func29, Tryz.ntmps29
  go_wp2_with (go_at_call 63; refine (HA.out _).mono ?_; rintro e w1 ⟨rfl, c1, l1, q1⟩; obtain ⟨d0, d1, d2, y0, y1, y2⟩ := fz_on q1; have Q1 := hid ((fz_q w).trans q1); have C1 := hid c1; clear c1 q1)
  refine bodyPost_ret (v := .tuple #[.agg #[.int .i64 0, .int .i64 0, .func (.func 110) #[] #[.pointer (some ⟨w.heap.size + 1, 0, none⟩)]], .bool true]) (by simp [results, Tryz.results29, go_sem, d0, d1, d2]) rfl ?_
  exact ⟨_, rfl, ⟨w.heap.size + 1, rfl, by rw [fz_far (by omega)]; simpa using C1.out⟩, fz_set Q1.out _ _ _⟩
theorem info24 : (Tryz.prog.info? 37).map (fun i => (i.zero, i.size, i.bytes)) = some (some (.agg #[.int .i64 0, .int .i64 0, .string ⟨#[]⟩, .bool false, .int .i64 0]), 5, 48) := by kernel_rfl
structure At2 (w : World) (b o : Nat) (a : Ag) : Prop where
  c0 : w.cell? ⟨b, o, none⟩ = some (.bool a.r)
  c1 : w.cell? ⟨b, o + 1, none⟩ = some a.s
theorem at2_of {W : World} {b o : Nat} {x : Ag} (h : Ats Ag.cells W b o x) : At2 W b o x := ⟨h 0 _ rfl, h 1 _ rfl⟩
def sg (P : List (Value × Cv)) : List Ag := P.map fun p => ⟨false, p.1, [p.2]⟩
theorem sg_at {P : List (Value × Cv)} {i : Nat} (hi : i < (sg P).length) (hp : i < P.length) : (sg P)[i] = ⟨false, P[i].1, [P[i].2]⟩ := by simp [sg]
theorem single_sl {W : World} {s : Value} {x : Cv} (h : Sl Cv.cells 5 W s [x]) : ∃ b off cap, s = .slice (some ⟨b, off, none⟩) 1 cap ∧ At5 W b off x := by
  obtain ⟨b, off, cap, hv, _, _, ha⟩ := h.at (i := 0) (by simp)
  refine ⟨b, off, cap, hv, ?_⟩
  have := at5_of ha
  simpa using this
theorem sg_snoc (P : List (Value × Cv)) (k : Nat) (hk : k < P.length) : (P.take (k + 1)).map (fun p => ctd p.2) = (P.take k).map (fun p => ctd p.2) ++ [ctd P[k].2] := by
  rw [List.take_succ_eq_append_getElem hk, List.map_append]
  rfl
theorem sg_len (P : List (Value × Cv)) (k : Nat) (hk : k ≤ P.length) : ((P.take k).map (fun p => ctd p.2)).length = k := by simp; omega
set_option maxHeartbeats 4000000 in
theorem singles_yes (P : List (Value × Cv)) (v : Value) (w : World) (hw : Std2 w) (h : Args w v (sg P)) (hm : P.length ≤ 1000) (hs : ∀ p ∈ P, p.2.sm) :
    Calls Tryz.prog 111 #[v] w fun e w' => ∃ s, e = .returned (.tuple #[s, .bool true]) ∧ Sl Cv.cells 5 w' s (P.map fun p => ctd p.2) ∧ Q w w' := by
  obtain ⟨⟨ao, cap, rfl, h1, h2, h3⟩, hvs⟩ := h
  have hlen : (sg P).length = P.length := by simp [sg]
  rw [hlen] at h1 ⊢
  obtain ⟨n, hn⟩ : ∃ n, P.length = n := ⟨_, rfl⟩
  have HP := hid hn
  obtain ⟨i0, hi, hz0, hz1, hz2⟩ := inf_of info24
  have HC : Hid (0 < n → ∃ b off, ao = some ⟨b, off, none⟩ ∧ ∀ i (hp : i < P.length), At2 w b (off + i * 2) ⟨false, P[i].1, [P[i].2]⟩ ∧ Sl Cv.cells 5 w P[i].1 [P[i].2]) := by
    intro h0
    rw [← hn] at h0
    obtain ⟨b, off, ha, hc⟩ := h3 (by rw [hlen]; exact h0)
    refine ⟨b, off, ha, fun i hp => ⟨?_, ?_⟩⟩
    · have := at2_of (hc i (by rw [hlen]; exact hp))
      rw [sg_at _ hp] at this
      exact this
    · exact hvs ⟨false, P[i].1, [P[i].2]⟩ (by simp only [sg, List.mem_map]; exact ⟨P[i], List.getElem_mem hp, rfl⟩)
  have HS := hid hs
  have HW := hid hw
  have hbz : i0.bytes = 48 := hz2
  rw [hn] at h1 hm ⊢
  clear hw hs h3 hvs hlen hn
  go_enter Tryz.func111, Tryz.ntmps111
  go_wp2_with (at_make; refine wpList_make_own _ rfl _ _ 27 rfl w.heap.size 37 i0 (.agg #[.int .i64 0, .int .i64 0, .string ⟨#[]⟩, .bool false, .int .i64 0]) 5 Tryz.underlying27 hi hz0 hz1 .i64 .i64 _ n rfl rfl (by omega) (by rw [hbz]; omega) (by unfold maxLen; omega) (Nat.le_refl _) ?_; intro w0 hown0 hgrow0)
  have HQ0 : Hid (Q w w0) := Below.grown (Q.refl w) hgrow0 (Nat.le_refl _) (fun k hk => by cases hk)
  have HO0 : Hid (Own Cv.cells 37 5 w.heap.size w0 (.slice (some ⟨w.heap.size, 0, none⟩) 0 n) []) := hown0
  clear hown0 hgrow0
  go_wp2
  go_loopw [2, 3, 4, 12] (fun r2 r3 s i W => ∃ k : Nat, k ≤ n ∧ i = .int .i64 k ∧ r2 = .slice none 0 0 ∧ r3 = .bool false ∧ Own Cv.cells 37 5 w.heap.size W s ((P.take k).map fun p => ctd p.2) ∧ Q w W) (fun _ _ _ i _ => n - (intOf i).toNat)
  case atStart => exact ⟨0, Nat.zero_le _, rfl, rfl, rfl, HO0.out, HQ0.out⟩
  case round =>
    obtain ⟨k, hk, rfl, rfl, rfl, hown, hq⟩ := hrel
    by_cases hlt : k < n
    · obtain ⟨b, off, rfl, hc⟩ := HC.out (by omega)
      have hkp : k < P.length := by have := HP.out; omega
      obtain ⟨⟨c0, c1⟩, hsl⟩ := hc k hkp
      have hF := hid (sg_snoc P k hkp)
      have hL := hid (sg_len P k (by omega))
      have hsm := HS.out P[k] (List.getElem_mem hkp)
      have c0' := (hq.cell (World.block_lt_of_cell? w _ c0)).trans c0
      have c1' := (hq.cell (World.block_lt_of_cell? w _ c1)).trans c1
      have hsl' := hsl.on hq
      simp only at c0' c1' hsl'
      clear c0 c1 hsl hc
      generalize P[k] = p at *
      obtain ⟨s, x⟩ := p
      simp only at c0' c1' hsl' hsm
      obtain ⟨b', off', cap', rfl, a5⟩ := single_sl hsl'
      have HU := hid (fun W (q : Q w W) => counted_any x W (HW.out.on q) hsm)
      have HA5 := hid a5
      obtain ⟨xk, xn, xt, xb, xe⟩ := x
      have hcx : ∃ y, ctd ⟨xk, xn, xt, xb, xe⟩ = y := ⟨_, rfl⟩
      obtain ⟨y, hy⟩ := hcx
      rw [hy] at HU
      have hF' : Hid ((P.take (k + 1)).map (fun p => ctd p.2) = (P.take k).map (fun p => ctd p.2) ++ [y]) := by
        show _ = _
        rw [hF.out, hy]
      obtain ⟨yk, yn, yt, yb, ye⟩ := y
      obtain ⟨d0, d1, d2, d3, d4⟩ := a5
      simp only [Cv.v, vv] at HU d0 d1 d2 d3 d4
      generalize (P.take k).map (fun p => ctd p.2) = L at hown hF' hL
      have HOW := hid hown
      have HQ := hid hq
      have hb1 := World.block_lt_of_cell? wr _ d0
      have hkl : (k : Int) < (n : Int) := by omega
      clear hown hq hy hF hsl'
      go_wp2_with (first
        | (go_at_call 37; refine (HU.out _ ((HQ.out).alloc _)).mono ?_; rintro r w2 ⟨rfl, q2⟩; have Q2 := hid (((Q.refl wr).alloc _).trans q2); clear q2)
        | (at_builtin; refine wpList_append_own _ rfl _ _ 27 rfl w.heap.size 37 i0 (.agg #[.int .i64 0, .int .i64 0, .string ⟨#[]⟩, .bool false, .int .i64 0]) 5 48 Tryz.underlying27 hi hz0 hz1 hz2 rfl (by decide) _ _ _ rfl (World.ownsRow.alloc (Own.on HOW.out Q2.out) _) ⟨w2.heap.size, 0, none⟩ 1 1 [.int .i64 yk, .int .i64 yn, .string yt, .bool yb, .int .i64 ye] rfl rfl ?c1 ?c2 ?c3 ?c4 ?c5 ?_))
      case c1 => exact news_new w2 [.int .i64 yk, .int .i64 yn, .string yt, .bool yb, .int .i64 ye] 37
      case c2 =>
        intro u hu
        simp at hu
        rcases hu with rfl | rfl | rfl | rfl | rfl <;> rfl
      case c3 => have := hL.out; unfold maxLen; omega
      case c4 => have := hL.out; omega
      case c5 => have := (HQ.out.trans Q2.out).size; simp; omega
      · intro v' w3 hown' hgrow _
        have HO2 : Hid (Own Cv.cells 37 5 w.heap.size w3 v' ((P.take (k + 1)).map fun p => ctd p.2)) := by
          show Own _ _ _ _ _ _ _
          rw [hF'.out]
          exact own_snoc' (x := (⟨yk, yn, yt, yb, ye⟩ : Cv)) hown' rfl
        have HQ2 : Hid (Q w w3) := Below.grown ((HQ.out.trans Q2.out).alloc _) hgrow (by have := (HQ.out.trans Q2.out).size; simp; omega) (Own.blk HOW.out)
        clear hown' hgrow
        go_wp2
        go_roundw
        case rel => exact ⟨k + 1, by omega, by go_num, rfl, rfl, HO2.out, HQ2.out⟩
        case measure => simp [intOf]; omega
    · have hkn : k = n := by omega
      subst hkn
      have HOW : Hid (Sl Cv.cells 5 wr u4 (P.map fun p => ctd p.2)) := by
        show Sl _ _ _ _ _
        rw [List.take_of_length_le (by have := HP.out; omega)] at hown
        exact hown.sl Cv.len (by omega)
      clear hown
      have hkl : ¬ (k : Int) < (k : Int) := by omega
      go_wp2
      go_ret2
      exact ⟨_, rfl, HOW.out, hq⟩
set_option maxHeartbeats 1000000 in
theorem sing75 (P : List (Value × Cv)) (v : Value) (y : Cv) (p : Nat)  (w : World) (hw : Std2 w) (h : Args w v (sg P)) (hm : P.length ≤ 1000) (hs : ∀ p ∈ P, p.2.sm) (hp : w.cell? ⟨p, 0, none⟩ = some (.func (.func 64) #[] #[]))
    (HG : ∀ W s, Q w W → Sl Cv.cells 5 W s (P.map fun p => ctd p.2) → Calls Tryz.prog 64 #[s] W fun r W' => r = .returned y.v ∧ Q W W') :
    Calls Tryz.prog 110 #[v, .pointer (some ⟨p, 0, none⟩)] w fun r w' => r = .returned y.v ∧ Q w w' := by
  have HB := hid (bxz w)
  have HS := hid (fun W (g : Q w W) => singles_yes P v W (hw.on g) (h.on g) hm hs)
  have HG' := hid HG
  have hpl := World.block_lt_of_cell? w _ hp
  have HP := hid (fun W (g : Q w W) => fcell hp g)
  obtain ⟨yk, yn, yt, yb, ye⟩ := y
  clear hw h hm hs hp HG
  simp only [Cv.v, vv] at *
  go_enter Tryz.func110, Tryz.ntmps110
  go_wp2_with (first
    | (go_at_call 111; refine (HS.out _ ((Q.refl _).alloc _)).mono ?_; rintro x w1 ⟨s, rfl, S1, q1⟩; have B1 := HB.out.on q1; have Q1 : Hid (Q w w1) := hid (((Q.refl _).alloc _).trans q1); clear q1; have cp := HP.out _ Q1.out; have S2 := hid S1; clear S1)
    | (go_at_call 64; refine (HG'.out _ _ Q1.out S2.out).mono ?_; rintro x w2 ⟨rfl, q1⟩; have B2 := B1.on q1; have Q2 : Hid (Q w w2) := hid (Q1.out.trans q1); clear q1; obtain ⟨d0, d1, d2, d3, d4, y0, y1, y2, y3, y4, _⟩ := B2))
  exact bodyPost_ret (v := .agg #[.int .i64 yk, .int .i64 yn, .string yt, .bool yb, .int .i64 ye]) (by simp [results, Tryz.results110, go_sem, d0, d1, d2, d3, d4]) rfl ⟨rfl, Q5 Q2.out (Nat.le_refl _)⟩
set_option maxHeartbeats 1000000 in
theorem sing82 (P : List (Value × Cv)) (v : Value) (y : Cv) (p : Nat)  (w : World) (hw : Std2 w) (h : Args w v (sg P)) (hm : P.length ≤ 1000) (hs : ∀ p ∈ P, p.2.sm) (hp : w.cell? ⟨p, 0, none⟩ = some (.func (.func 74) #[] #[]))
    (HG : ∀ W s, Q w W → Sl Cv.cells 5 W s (P.map fun p => ctd p.2) → Calls Tryz.prog 74 #[s] W fun r W' => r = .returned y.v ∧ Q W W') :
    Calls Tryz.prog 110 #[v, .pointer (some ⟨p, 0, none⟩)] w fun r w' => r = .returned y.v ∧ Q w w' := by
  have HB := hid (bxz w)
  have HS := hid (fun W (g : Q w W) => singles_yes P v W (hw.on g) (h.on g) hm hs)
  have HG' := hid HG
  have hpl := World.block_lt_of_cell? w _ hp
  have HP := hid (fun W (g : Q w W) => fcell hp g)
  obtain ⟨yk, yn, yt, yb, ye⟩ := y
  clear hw h hm hs hp HG
  simp only [Cv.v, vv] at *
  go_enter Tryz.func110, Tryz.ntmps110
  go_wp2_with (first
    | (go_at_call 111; refine (HS.out _ ((Q.refl _).alloc _)).mono ?_; rintro x w1 ⟨s, rfl, S1, q1⟩; have B1 := HB.out.on q1; have Q1 : Hid (Q w w1) := hid (((Q.refl _).alloc _).trans q1); clear q1; have cp := HP.out _ Q1.out; have S2 := hid S1; clear S1)
    | (go_at_call 74; refine (HG'.out _ _ Q1.out S2.out).mono ?_; rintro x w2 ⟨rfl, q1⟩; have B2 := B1.on q1; have Q2 : Hid (Q w w2) := hid (Q1.out.trans q1); clear q1; obtain ⟨d0, d1, d2, d3, d4, y0, y1, y2, y3, y4, _⟩ := B2))
  exact bodyPost_ret (v := .agg #[.int .i64 yk, .int .i64 yn, .string yt, .bool yb, .int .i64 ye]) (by simp [results, Tryz.results110, go_sem, d0, d1, d2, d3, d4]) rfl ⟨rfl, Q5 Q2.out (Nat.le_refl _)⟩
set_option maxHeartbeats 1000000 in
theorem iserr_any (x : Cv) (v : Value) (w : World) (h : Sl Cv.cells 5 w v [x]) : Calls Tryz.prog 74 #[v] w fun r w' => r = .returned (bo (x.k == 4)).v ∧ Q w w' := by
  obtain ⟨b, off, cap, rfl, a5⟩ := single_sl h
  clear h
  have HB := hid (bxz w)
  have HT := hid (fun W => btruth_any (x.k == 4) W)
  obtain ⟨k, n, t, bb, e⟩ := x
  have hlt := World.block_lt_of_cell? w _ a5.c0
  obtain ⟨c0, c1, c2, c3, c4⟩ := a5
  simp only [Cv.v, vv, bo] at *
  go_enter Tryz.func74, Tryz.ntmps74
  go_wp2_with (go_at_call 43; refine (HT.out _).mono ?_; rintro x w2 ⟨rfl, q1⟩; have B2 := HB.out.on q1; have Q2 : Hid (Q w w2) := hid (((Q.refl _).alloc _).trans q1); clear q1; obtain ⟨d0, d1, d2, d3, d4, y0, y1, y2, y3, y4, _⟩ := B2)
  exact bodyPost_ret (v := .agg #[.int .i64 3, .int .i64 0, .string ⟨#[]⟩, .bool (k == 4), .int .i64 0]) (by simp [results, Tryz.results74, go_sem, d0, d1, d2, d3, d4]) rfl ⟨rfl, Q5 Q2.out (Nat.le_refl _)⟩
theorem two_sl {W : World} {s : Value} {x y : Cv} (h : Sl Cv.cells 5 W s [x, y]) : ∃ b off cap, s = .slice (some ⟨b, off, none⟩) 2 cap ∧ At5 W b off x ∧ At5 W b (off + 5) y := by
  obtain ⟨ao, cap, hv, h1, h2, h3⟩ := h
  obtain ⟨b, off, rfl, hc⟩ := h3 (by simp)
  have e0 := at5_of (hc 0 (by simp))
  have e1 := at5_of (hc 1 (by simp))
  simp at e0 e1
  exact ⟨b, off, cap, hv, e0, e1⟩
theorem three_sl {W : World} {s : Value} {x y z : Cv} (h : Sl Cv.cells 5 W s [x, y, z]) : ∃ b off cap, s = .slice (some ⟨b, off, none⟩) 3 cap ∧ At5 W b off x ∧ At5 W b (off + 5) y ∧ At5 W b (off + 10) z := by
  obtain ⟨ao, cap, hv, h1, h2, h3⟩ := h
  obtain ⟨b, off, rfl, hc⟩ := h3 (by simp)
  have e0 := at5_of (hc 0 (by simp))
  have e1 := at5_of (hc 1 (by simp))
  have e2 := at5_of (hc 2 (by simp))
  simp at e0 e1 e2
  exact ⟨b, off, cap, hv, e0, e1, e2⟩
end Go.Proofs.YtfjpdopmojfchaaGreatDoor
