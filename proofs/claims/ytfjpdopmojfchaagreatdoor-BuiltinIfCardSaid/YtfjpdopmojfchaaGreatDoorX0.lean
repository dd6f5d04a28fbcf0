/- Boxes: a value in five cells of its own. -/
import Derived.Test.YtfjpdopmojfchaaGreatDoorW2
import Derived.Test.YtfjpdopmojfchaaGreatDoorV6
import Derived.Test.YtfjpdopmojfchaaGreatDoorK
namespace Go.Proofs.YtfjpdopmojfchaaGreatDoor
open Go.RowKit
set_option linter.unusedVariables false
set_option linter.unusedSimpArgs false
/-- five cells of one block hold these, and may be written -/
structure Bx (W : World) (b : Nat) (v0 v1 v2 v3 v4 : Value) : Prop where
  c0 : W.cell? ⟨b, 0, none⟩ = some v0
  c1 : W.cell? ⟨b, 1, none⟩ = some v1
  c2 : W.cell? ⟨b, 2, none⟩ = some v2
  c3 : W.cell? ⟨b, 3, none⟩ = some v3
  c4 : W.cell? ⟨b, 4, none⟩ = some v4
  f0 : W.frozen? ⟨b, 0, none⟩ = false
  f1 : W.frozen? ⟨b, 1, none⟩ = false
  f2 : W.frozen? ⟨b, 2, none⟩ = false
  f3 : W.frozen? ⟨b, 3, none⟩ = false
  f4 : W.frozen? ⟨b, 4, none⟩ = false
  big : b < W.heap.size
theorem bx_new (W : World) (v0 v1 v2 v3 v4 : Value) : Bx (W.alloc (.cells #[v0, v1, v2, v3, v4] 37)) W.heap.size v0 v1 v2 v3 v4 := by
  constructor
  all_goals simp [World.cell?_alloc_new, World.frozen?_alloc_new]
theorem Bx.on {W W' : World} {b : Nat} {v0 v1 v2 v3 v4 : Value} (h : Bx W b v0 v1 v2 v3 v4) (q : Q W W') : Bx W' b v0 v1 v2 v3 v4 := by
  have hb := h.big
  constructor
  · rw [q.cell hb]; exact h.c0
  · rw [q.cell hb]; exact h.c1
  · rw [q.cell hb]; exact h.c2
  · rw [q.cell hb]; exact h.c3
  · rw [q.cell hb]; exact h.c4
  · rw [Below.frozen q (p := ⟨b, 0, none⟩) hb]; exact h.f0
  · rw [Below.frozen q (p := ⟨b, 1, none⟩) hb]; exact h.f1
  · rw [Below.frozen q (p := ⟨b, 2, none⟩) hb]; exact h.f2
  · rw [Below.frozen q (p := ⟨b, 3, none⟩) hb]; exact h.f3
  · rw [Below.frozen q (p := ⟨b, 4, none⟩) hb]; exact h.f4
  · exact q.lt hb
theorem Bx.far {W : World} {b b' k : Nat} {v v0 v1 v2 v3 v4 : Value} (h : Bx W b v0 v1 v2 v3 v4) (hb : b' ≠ b) : Bx (W.setCell ⟨b', k, none⟩ v) b v0 v1 v2 v3 v4 := by
  constructor
  all_goals first
    | (rw [World.cell?_setCell_far _ _ _ _ hb]; first | exact h.c0 | exact h.c1 | exact h.c2 | exact h.c3 | exact h.c4)
    | (rw [World.frozen?_setCell]; first | exact h.f0 | exact h.f1 | exact h.f2 | exact h.f3 | exact h.f4)
    | (rw [World.size_setCell]; exact h.big)
theorem Bx.set0 {W : World} {b : Nat} {v v0 v1 v2 v3 v4 : Value} (h : Bx W b v0 v1 v2 v3 v4) : Bx (W.setCell ⟨b, 0, none⟩ v) b v v1 v2 v3 v4 := by
  constructor
  · exact World.cell?_setCell_same _ _ _ h.c0
  · rw [World.cell?_setCell_other _ _ _ _ (by simp)]; exact h.c1
  · rw [World.cell?_setCell_other _ _ _ _ (by simp)]; exact h.c2
  · rw [World.cell?_setCell_other _ _ _ _ (by simp)]; exact h.c3
  · rw [World.cell?_setCell_other _ _ _ _ (by simp)]; exact h.c4
  · rw [World.frozen?_setCell]; exact h.f0
  · rw [World.frozen?_setCell]; exact h.f1
  · rw [World.frozen?_setCell]; exact h.f2
  · rw [World.frozen?_setCell]; exact h.f3
  · rw [World.frozen?_setCell]; exact h.f4
  · rw [World.size_setCell]; exact h.big
theorem Bx.set1 {W : World} {b : Nat} {v v0 v1 v2 v3 v4 : Value} (h : Bx W b v0 v1 v2 v3 v4) : Bx (W.setCell ⟨b, 1, none⟩ v) b v0 v v2 v3 v4 := by
  constructor
  · rw [World.cell?_setCell_other _ _ _ _ (by simp)]; exact h.c0
  · exact World.cell?_setCell_same _ _ _ h.c1
  · rw [World.cell?_setCell_other _ _ _ _ (by simp)]; exact h.c2
  · rw [World.cell?_setCell_other _ _ _ _ (by simp)]; exact h.c3
  · rw [World.cell?_setCell_other _ _ _ _ (by simp)]; exact h.c4
  · rw [World.frozen?_setCell]; exact h.f0
  · rw [World.frozen?_setCell]; exact h.f1
  · rw [World.frozen?_setCell]; exact h.f2
  · rw [World.frozen?_setCell]; exact h.f3
  · rw [World.frozen?_setCell]; exact h.f4
  · rw [World.size_setCell]; exact h.big
theorem Bx.set2 {W : World} {b : Nat} {v v0 v1 v2 v3 v4 : Value} (h : Bx W b v0 v1 v2 v3 v4) : Bx (W.setCell ⟨b, 2, none⟩ v) b v0 v1 v v3 v4 := by
  constructor
  · rw [World.cell?_setCell_other _ _ _ _ (by simp)]; exact h.c0
  · rw [World.cell?_setCell_other _ _ _ _ (by simp)]; exact h.c1
  · exact World.cell?_setCell_same _ _ _ h.c2
  · rw [World.cell?_setCell_other _ _ _ _ (by simp)]; exact h.c3
  · rw [World.cell?_setCell_other _ _ _ _ (by simp)]; exact h.c4
  · rw [World.frozen?_setCell]; exact h.f0
  · rw [World.frozen?_setCell]; exact h.f1
  · rw [World.frozen?_setCell]; exact h.f2
  · rw [World.frozen?_setCell]; exact h.f3
  · rw [World.frozen?_setCell]; exact h.f4
  · rw [World.size_setCell]; exact h.big
theorem Bx.set3 {W : World} {b : Nat} {v v0 v1 v2 v3 v4 : Value} (h : Bx W b v0 v1 v2 v3 v4) : Bx (W.setCell ⟨b, 3, none⟩ v) b v0 v1 v2 v v4 := by
  constructor
  · rw [World.cell?_setCell_other _ _ _ _ (by simp)]; exact h.c0
  · rw [World.cell?_setCell_other _ _ _ _ (by simp)]; exact h.c1
  · rw [World.cell?_setCell_other _ _ _ _ (by simp)]; exact h.c2
  · exact World.cell?_setCell_same _ _ _ h.c3
  · rw [World.cell?_setCell_other _ _ _ _ (by simp)]; exact h.c4
  · rw [World.frozen?_setCell]; exact h.f0
  · rw [World.frozen?_setCell]; exact h.f1
  · rw [World.frozen?_setCell]; exact h.f2
  · rw [World.frozen?_setCell]; exact h.f3
  · rw [World.frozen?_setCell]; exact h.f4
  · rw [World.size_setCell]; exact h.big
theorem Bx.set4 {W : World} {b : Nat} {v v0 v1 v2 v3 v4 : Value} (h : Bx W b v0 v1 v2 v3 v4) : Bx (W.setCell ⟨b, 4, none⟩ v) b v0 v1 v2 v3 v := by
  constructor
  · rw [World.cell?_setCell_other _ _ _ _ (by simp)]; exact h.c0
  · rw [World.cell?_setCell_other _ _ _ _ (by simp)]; exact h.c1
  · rw [World.cell?_setCell_other _ _ _ _ (by simp)]; exact h.c2
  · rw [World.cell?_setCell_other _ _ _ _ (by simp)]; exact h.c3
  · exact World.cell?_setCell_same _ _ _ h.c4
  · rw [World.frozen?_setCell]; exact h.f0
  · rw [World.frozen?_setCell]; exact h.f1
  · rw [World.frozen?_setCell]; exact h.f2
  · rw [World.frozen?_setCell]; exact h.f3
  · rw [World.frozen?_setCell]; exact h.f4
  · rw [World.size_setCell]; exact h.big
/-- the world with five cells of a block set -/
def set5 (W : World) (b : Nat) (s0 s1 s2 s3 s4 : Value) : World :=
  ((((W.setCell ⟨b, 0, none⟩ s0).setCell ⟨b, 1, none⟩ s1).setCell ⟨b, 2, none⟩ s2).setCell ⟨b, 3, none⟩ s3).setCell ⟨b, 4, none⟩ s4
theorem Bx.set5 {W : World} {b : Nat} {v0 v1 v2 v3 v4 s0 s1 s2 s3 s4 : Value} (h : Bx W b v0 v1 v2 v3 v4) : Bx (set5 W b s0 s1 s2 s3 s4) b s0 s1 s2 s3 s4 := h.set0.set1.set2.set3.set4
theorem Bx.far5 {W : World} {b b' : Nat} {v0 v1 v2 v3 v4 s0 s1 s2 s3 s4 : Value} (h : Bx W b v0 v1 v2 v3 v4) (hb : b' ≠ b) : Bx (YtfjpdopmojfchaaGreatDoor.set5 W b' s0 s1 s2 s3 s4) b v0 v1 v2 v3 v4 := ((((h.far hb).far hb).far hb).far hb).far hb
theorem Q.set5 {a w : World} (h : Q a w) {b : Nat} (hb : a.heap.size ≤ b) {s0 s1 s2 s3 s4 : Value} : Q a (YtfjpdopmojfchaaGreatDoor.set5 w b s0 s1 s2 s3 s4) := ((((h.setCell hb _).setCell hb _).setCell hb _).setCell hb _).setCell hb _
theorem Bx.drew {W : World} {b : Nat} {v0 v1 v2 v3 v4 : Value} (h : Bx W b v0 v1 v2 v3 v4) : Bx W.drew b v0 v1 v2 v3 v4 := h.on (Q.refl _).drew
/-- three values in their boxes -/
structure B3 (w : World) (k n : Int) (t : ByteArray) (b : Bool) (e : Int) (k' n' : Int) (t' : ByteArray) (b' : Bool) (e' : Int) (k2 n2 : Int) (t2 : ByteArray) (b2 : Bool) (e2 : Int) (W : World) : Prop where
  q : Q w W
  x : Bx W w.heap.size (.int .i64 k) (.int .i64 n) (.string t) (.bool b) (.int .i64 e)
  y : Bx W (w.heap.size + 1) (.int .i64 k') (.int .i64 n') (.string t') (.bool b') (.int .i64 e')
  z : Bx W (w.heap.size + 1 + 1) (.int .i64 k2) (.int .i64 n2) (.string t2) (.bool b2) (.int .i64 e2)
theorem B3.on {w W W' : World} {k n : Int} {t : ByteArray} {b : Bool} {e : Int} {k' n' : Int} {t' : ByteArray} {b' : Bool} {e' : Int} {k2 n2 : Int} {t2 : ByteArray} {b2 : Bool} {e2 : Int} (h : B3 w k n t b e k' n' t' b' e' k2 n2 t2 b2 e2 W) (g : Q W W') : B3 w k n t b e k' n' t' b' e' k2 n2 t2 b2 e2 W' :=
  ⟨h.q.trans g, h.x.on g, h.y.on g, h.z.on g⟩
theorem B3.drew {w W : World} {k n : Int} {t : ByteArray} {b : Bool} {e : Int} {k' n' : Int} {t' : ByteArray} {b' : Bool} {e' : Int} {k2 n2 : Int} {t2 : ByteArray} {b2 : Bool} {e2 : Int} (h : B3 w k n t b e k' n' t' b' e' k2 n2 t2 b2 e2 W) : B3 w k n t b e k' n' t' b' e' k2 n2 t2 b2 e2 W.drew := h.on (Q.refl _).drew
theorem b3_new (w : World) (k n : Int) (t : ByteArray) (b : Bool) (e : Int) (k' n' : Int) (t' : ByteArray) (b' : Bool) (e' : Int) (k2 n2 : Int) (t2 : ByteArray) (b2 : Bool) (e2 : Int) :
    B3 w k n t b e k' n' t' b' e' k2 n2 t2 b2 e2 (((w.alloc (.cells #[.int .i64 k, .int .i64 n, .string t, .bool b, .int .i64 e] 37)).alloc (.cells #[.int .i64 k', .int .i64 n', .string t', .bool b', .int .i64 e'] 37)).alloc (.cells #[.int .i64 k2, .int .i64 n2, .string t2, .bool b2, .int .i64 e2] 37)) := by
  refine ⟨(((Q.refl _).alloc _).alloc _).alloc _, ?_, ?_, ?_⟩
  · exact ((bx_new w _ _ _ _ _).on ((Q.refl _).alloc _)).on ((Q.refl _).alloc _)
  · have h := bx_new (w.alloc (.cells #[.int .i64 k, .int .i64 n, .string t, .bool b, .int .i64 e] 37)) (.int .i64 k') (.int .i64 n') (.string t') (.bool b') (.int .i64 e')
    rw [World.size_alloc] at h
    exact h.on ((Q.refl _).alloc _)
  · have h := bx_new ((w.alloc (.cells #[.int .i64 k, .int .i64 n, .string t, .bool b, .int .i64 e] 37)).alloc (.cells #[.int .i64 k', .int .i64 n', .string t', .bool b', .int .i64 e'] 37)) (.int .i64 k2) (.int .i64 n2) (.string t2) (.bool b2) (.int .i64 e2)
    rw [World.size_alloc, World.size_alloc] at h
    exact h
theorem B3.setAll {w W : World} {k n : Int} {t : ByteArray} {b : Bool} {e : Int} {k' n' : Int} {t' : ByteArray} {b' : Bool} {e' : Int} {k2 n2 : Int} {t2 : ByteArray} {b2 : Bool} {e2 : Int} (h : B3 w k n t b e k' n' t' b' e' k2 n2 t2 b2 e2 W) (s s' s2 : ByteArray) :
    B3 w k n s b e k' n' s' b' e' k2 n2 s2 b2 e2 (set5 (set5 (set5 W w.heap.size (.int .i64 k) (.int .i64 n) (.string s) (.bool b) (.int .i64 e)) (w.heap.size + 1) (.int .i64 k') (.int .i64 n') (.string s') (.bool b') (.int .i64 e')) (w.heap.size + 1 + 1) (.int .i64 k2) (.int .i64 n2) (.string s2) (.bool b2) (.int .i64 e2)) :=
  ⟨((h.q.set5 (by omega)).set5 (by omega)).set5 (by omega), (h.x.set5.far5 (by omega)).far5 (by omega), ((h.y.far5 (by omega)).set5).far5 (by omega), ((h.z.far5 (by omega)).far5 (by omega)).set5⟩
end Go.Proofs.YtfjpdopmojfchaaGreatDoor
