/- What the rows give to the walks: a slice of rectangles, open. -/
import Derived.Test.YtcgddnliiondoaaGreatDoorKp03
import Derived.ProofKit
import Derived.OpenShut
import Derived.ChangeOld
import Derived.DataReads
import Derived.Deep.DeepHandedRow
set_option linter.unusedVariables false
set_option linter.unusedSimpArgs false
set_option maxRecDepth 100000
set_option maxHeartbeats 8000000
namespace Go.Proofs.YtcgddnliiondoaaGreatDoor.R
open Go.ChangeShapes Go.WideShapes Go.ChangeAt Go.RowKit
theorem cells28 : Tryz.prog.cellsOf 101 = 4 := by kernel_rfl
theorem open_cells {H : Type} {enc : TypeId × Value → H} {W : World} {sp : Nat → Bool} {held : Bool} {fuel base : Nat} {cs : List Value} {x : DataW H × List MemPlace}
    (h : DataW.trod enc Tryz.prog W base sp held fuel 101 cs = some x) : ∃ y : Rg.Rc, cs = rc y := by
  obtain ⟨xs, m, _, _, hl, hlen, hf⟩ := DataW.trod_struct Tryz.underlying101 h
  rw [cells28] at hl
  have hlen' : xs.length = 4 := hlen
  match cs, hl with
  | [v0, v1, v2, v3], _ =>
    have g0 := hf 0 _ rfl
    have g1 := hf 1 _ rfl
    have g2 := hf 2 _ rfl
    have g3 := hf 3 _ rfl
    match xs, hlen' with
    | [y0, y1, y2, y3], _ =>
      obtain ⟨a, e0, _, _⟩ := DataW.trod_int Tryz.underlying2 g0
      obtain ⟨b, e1, _, _⟩ := DataW.trod_int Tryz.underlying2 g1
      obtain ⟨c, e2, _, _⟩ := DataW.trod_int Tryz.underlying2 g2
      obtain ⟨d, e3, _, _⟩ := DataW.trod_int Tryz.underlying2 g3
      refine ⟨⟨a, b, c, d⟩, ?_⟩
      have f0 : v0 = .int .i64 a := by
        have : [v0] = [.int .i64 a] := e0
        exact (List.cons.inj this).1
      have f1 : v1 = .int .i64 b := by
        have : [v1] = [.int .i64 b] := e1
        exact (List.cons.inj this).1
      have f2 : v2 = .int .i64 c := by
        have : [v2] = [.int .i64 c] := e2
        exact (List.cons.inj this).1
      have f3 : v3 = .int .i64 d := by
        have : [v3] = [.int .i64 d] := e3
        exact (List.cons.inj this).1
      rw [f0, f1, f2, f3]
      rfl
theorem list_of (P : Nat → Rg.Rc → Prop) : ∀ n, (∀ i, i < n → ∃ x, P i x) → ∃ l : List Rg.Rc, l.length = n ∧ ∀ i (h : i < l.length), P i l[i]
  | 0, _ => ⟨[], rfl, fun i hi => absurd hi (by simp)⟩
  | n + 1, h => by
    obtain ⟨l, hl, hp⟩ := list_of P n (fun i hi => h i (by omega))
    obtain ⟨x, hx⟩ := h n (by omega)
    refine ⟨l ++ [x], by simp [hl], fun i hi => ?_⟩
    by_cases hin : i < l.length
    · rw [List.getElem_append_left hin]
      exact hp i hin
    · have hie : i = l.length := by simp at hi; omega
      subst hie
      simp
      rw [hl]
      exact hx
theorem add_plain (b o n : Nat) : (⟨b, o, none⟩ : Addr).add n = ⟨b, o + n, none⟩ := by
  unfold Addr.add
  by_cases h : n = 0
  · subst h; simp
  · simp [h]
end Go.Proofs.YtcgddnliiondoaaGreatDoor.R
