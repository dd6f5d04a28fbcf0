/- P.tree of the reference, walked. -/
import Derived.Test.YtgheopdadfnilaaGreatDoorKs07
import Derived.BigQuiet
namespace Go.Proofs.YtgheopdadfnilaaGreatDoor
open Go.RowKit
set_option linter.unusedVariables false
set_option linter.unusedSimpArgs false
/-- how far a reader is -/
def far (p : Nat) (W : World) : Nat := match W.cell? ⟨p, 1, none⟩ with
  | some (.int _ i) => i.toNat
  | _ => 0
/-- a tree's block that is written over -/
theorem Tb.put {W : World} {q : Nat} {c0 c1 c2 c3 c4 c5 c6 : Value} (h : Tb W q c0 c1 c2 c3 c4 c5 c6) (d0 d1 d2 d3 d4 d5 d6 : Value) :
    Tb (((((((W.setCell ⟨q, 0, none⟩ d0).setCell ⟨q, 1, none⟩ d1).setCell ⟨q, 2, none⟩ d2).setCell ⟨q, 3, none⟩ d3).setCell ⟨q, 4, none⟩ d4).setCell ⟨q, 5, none⟩ d5).setCell ⟨q, 6, none⟩ d6) q d0 d1 d2 d3 d4 d5 d6 := by
  obtain ⟨h0, h1, h2, h3, h4, h5, h6, hf⟩ := h
  have same : ∀ {V : World} {j : Nat} {c d : Value}, V.cell? ⟨q, j, none⟩ = some c → (V.setCell ⟨q, j, none⟩ d).cell? ⟨q, j, none⟩ = some d := fun {V j c d} e => World.cell?_setCell_same _ _ _ e
  have other : ∀ {V : World} {j k : Nat} {d : Value} {o : Option Value}, k ≠ j → V.cell? ⟨q, j, none⟩ = o → (V.setCell ⟨q, k, none⟩ d).cell? ⟨q, j, none⟩ = o := fun {V j k d o} hk e => by
    rw [World.cell?_setCell_other _ _ _ _ (by simp; try omega)]; exact e
  have p0 : ∀ {V : World}, V.cell? ⟨q, 0, none⟩ = some c0 → True := fun _ => trivial
  refine ⟨?_, ?_, ?_, ?_, ?_, ?_, ?_, fun j => ?_⟩
  · exact other (by omega) (other (by omega) (other (by omega) (other (by omega) (other (by omega) (other (by omega) (same h0))))))
  · exact other (by omega) (other (by omega) (other (by omega) (other (by omega) (other (by omega) (same (other (by omega) h1))))))
  · exact other (by omega) (other (by omega) (other (by omega) (other (by omega) (same (other (by omega) (other (by omega) h2))))))
  · exact other (by omega) (other (by omega) (other (by omega) (same (other (by omega) (other (by omega) (other (by omega) h3))))))
  · exact other (by omega) (other (by omega) (same (other (by omega) (other (by omega) (other (by omega) (other (by omega) h4))))))
  · exact other (by omega) (same (other (by omega) (other (by omega) (other (by omega) (other (by omega) (other (by omega) h5))))))
  · exact same (other (by omega) (other (by omega) (other (by omega) (other (by omega) (other (by omega) (other (by omega) h6))))))
  · simp only [World.frozen?_setCell]
    exact hf j
/-- the fourteen cells of two trees in a block -/
structure Tw (W : World) (q : Nat) (c0 c1 c2 c3 c4 c5 c6 d0 d1 d2 d3 d4 d5 d6 : Value) : Prop where
  g0 : W.cell? ⟨q, 0, none⟩ = some c0
  g1 : W.cell? ⟨q, 1, none⟩ = some c1
  g2 : W.cell? ⟨q, 2, none⟩ = some c2
  g3 : W.cell? ⟨q, 3, none⟩ = some c3
  g4 : W.cell? ⟨q, 4, none⟩ = some c4
  g5 : W.cell? ⟨q, 5, none⟩ = some c5
  g6 : W.cell? ⟨q, 6, none⟩ = some c6
  e0 : W.cell? ⟨q, 7, none⟩ = some d0
  e1 : W.cell? ⟨q, 8, none⟩ = some d1
  e2 : W.cell? ⟨q, 9, none⟩ = some d2
  e3 : W.cell? ⟨q, 10, none⟩ = some d3
  e4 : W.cell? ⟨q, 11, none⟩ = some d4
  e5 : W.cell? ⟨q, 12, none⟩ = some d5
  e6 : W.cell? ⟨q, 13, none⟩ = some d6
theorem tw_new (W : World) (c0 c1 c2 c3 c4 c5 c6 d0 d1 d2 d3 d4 d5 d6 : Value) (t : TypeId) : Tw (W.alloc (.cells #[c0, c1, c2, c3, c4, c5, c6, d0, d1, d2, d3, d4, d5, d6] t)) W.heap.size c0 c1 c2 c3 c4 c5 c6 d0 d1 d2 d3 d4 d5 d6 := by
  refine ⟨?_, ?_, ?_, ?_, ?_, ?_, ?_, ?_, ?_, ?_, ?_, ?_, ?_, ?_⟩
  all_goals simp [World.cell?_alloc_new]
/-- two trees in a block, as kids -/
theorem Tw.two {g : Nat → Prop} {W : World} {q : Nat} {c0 c1 c2 c3 c4 c5 c6 d0 d1 d2 d3 d4 d5 d6 : Value} {x y : Ex} (h : Tw W q c0 c1 c2 c3 c4 c5 c6 d0 d1 d2 d3 d4 d5 d6) (hx : Rdg g W x (.agg #[c0, c1, c2, c3, c4, c5, c6])) (hy : Rdg g W y (.agg #[d0, d1, d2, d3, d4, d5, d6])) : Rdg.RdLg g W [x, y] q 0 := by
  unfold Rdg.RdLg
  refine ⟨⟨_, _, _, _, _, _, _, h.g0, h.g1, h.g2, h.g3, h.g4, h.g5, h.g6, hx⟩, ?_⟩
  unfold Rdg.RdLg
  refine ⟨⟨_, _, _, _, _, _, _, h.e0, h.e1, h.e2, h.e3, h.e4, h.e5, h.e6, hy⟩, ?_⟩
  unfold Rdg.RdLg
  trivial
end Go.Proofs.YtgheopdadfnilaaGreatDoor
