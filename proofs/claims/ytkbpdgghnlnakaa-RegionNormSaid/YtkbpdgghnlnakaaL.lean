/- What the rows give to the walks: a slice of rectangles, opened. -/
import Derived.Test.YtkbpdgghnlnakaaQ
import Derived.ProofKit
import Derived.OpenShut
import Derived.ChangeOld
import Derived.DataReads
import Derived.Deep.DeepHandedRow
namespace Go.Proofs.Ytkbpdgghnlnakaa
open Go.ChangeShapes Go.WideShapes Go.ChangeAt Go.RowKit
set_option linter.unusedVariables false
theorem own : ownKnob Try.prog.godebug = none := by kernel_rfl
theorem cells28 : Try.prog.cellsOf 28 = 4 := by kernel_rfl
theorem laidOut : laidOutB Try.prog = true := by kernel_rfl

set_option maxRecDepth 100000 in
theorem open_cells {H : Type} {enc : TypeId × Value → H} {W : World} {sp : Nat → Bool} {held : Bool} {fuel base : Nat} {cs : List Value} {x : DataW H × List MemPlace}
    (h : DataW.trod enc Try.prog W base sp held fuel 28 cs = some x) : ∃ y : Rg.Rc, cs = rc y := by
  obtain ⟨xs, m, _, _, hl, hlen, hf⟩ := DataW.trod_struct Try.underlying28 h
  rw [cells28] at hl
  have hlen' : xs.length = 4 := hlen
  match cs, hl with
  | [v0, v1, v2, v3], _ =>
    have g0 := hf 0 _ rfl
    have g1 := hf 1 _ rfl
    have g2 := hf 2 _ rfl
    have g3 := hf 3 _ rfl
    match xs, hlen' with
    | [y0, y1, y2, y3], _ =>
      obtain ⟨a, e0, _, _⟩ := DataW.trod_int Try.underlying2 g0
      obtain ⟨b, e1, _, _⟩ := DataW.trod_int Try.underlying2 g1
      obtain ⟨c, e2, _, _⟩ := DataW.trod_int Try.underlying2 g2
      obtain ⟨d, e3, _, _⟩ := DataW.trod_int Try.underlying2 g3
      refine ⟨⟨a, b, c, d⟩, ?_⟩
      have f0 : v0 = .int .i64 a := by
        have : [v0] = [.int .i64 a] := e0
        exact (List.cons.inj this).1
      have f1 : v1 = .int .i64 b := by
        have : [v1] = [.int .i64 b] := e1
        exact (List.cons.inj this).1
      have f2 : v2 = .int .i64 c := by
        have : [v2] = [.int .i64 c] := e2
        exact (List.cons.inj this).1
      have f3 : v3 = .int .i64 d := by
        have : [v3] = [.int .i64 d] := e3
        exact (List.cons.inj this).1
      rw [f0, f1, f2, f3]
      rfl

theorem list_of (P : Nat → Rg.Rc → Prop) : ∀ n, (∀ i, i < n → ∃ x, P i x) → ∃ l : List Rg.Rc, l.length = n ∧ ∀ i (h : i < l.length), P i l[i]
  | 0, _ => ⟨[], rfl, fun i hi => absurd hi (by simp)⟩
  | n + 1, h => by
    obtain ⟨l, hl, hp⟩ := list_of P n (fun i hi => h i (by omega))
    obtain ⟨x, hx⟩ := h n (by omega)
    refine ⟨l ++ [x], by simp [hl], fun i hi => ?_⟩
    by_cases hin : i < l.length
    · rw [List.getElem_append_left hin]
      exact hp i hin
    · have hie : i = l.length := by simp at hi; omega
      subst hie
      simp
      rw [hl]
      exact hx
theorem add_plain (b o n : Nat) : (⟨b, o, none⟩ : Addr).add n = ⟨b, o + n, none⟩ := by
  unfold Addr.add
  by_cases h : n = 0
  · subst h; simp
  · simp [h]

theorem open_sl {H : Type} {enc : TypeId × Value → H} {W : World} {sp : Nat → Bool} {held : Bool} {base base' : Nat} {v : Value} {d : DataW H} {p : List MemPlace} {r : Reach}
    (hv : Value.okWide Try.prog W r base' 22 v) (h : DataW.Trod enc Try.prog W base sp held 22 v d p) : ∃ L : List Rg.Rc, Sl rc 4 W v L := by
  obtain ⟨a0, len0, cap0, rfl⟩ := okWide_slice Try.underlying22 hv
  obtain ⟨fuel, hf⟩ := h
  rcases DataW.trod_slice Try.underlying22 hf with ⟨hcs, _⟩ | ⟨x, l, c, elems, rest, m, _, hcs, _, hb, hl, hm, hlen, hel, _, _⟩
  · simp [Value.cells] at hcs
    obtain ⟨rfl, rfl, rfl⟩ := hcs
    exact ⟨[], sl_nil W⟩
  · simp [Value.cells] at hcs
    obtain ⟨rfl, rfl, rfl⟩ := hcs
    have hcell : ∀ i, i < len0 → ∃ y : Rg.Rc, ∀ j u, (rc y)[j]? = some u → W.cell? ((x.add (i * 4)).add j) = some u := by
      intro i hi
      have hi' := hel i hi
      rw [cells28, List.getElem?_eq_getElem (by omega), Option.bind_eq_some_iff] at hi'
      obtain ⟨cs, h1, h2⟩ := hi'
      obtain ⟨y, rfl⟩ := open_cells h2
      obtain ⟨_, _, h3⟩ := World.cells?_some h1
      refine ⟨y, fun j u hu => ?_⟩
      have hj : j < 4 := by rw [← rc_len y]; exact (List.getElem?_eq_some_iff.1 hu).1
      rw [h3 j (by omega)]
      exact hu
    rcases Nat.eq_zero_or_pos len0 with rfl | hp
    · exact ⟨[], ⟨some x, cap0, rfl, Nat.zero_le _, hm, fun h => absurd h (by simp)⟩⟩
    · obtain ⟨b, off, spot⟩ := x
      obtain ⟨c0, hc0⟩ := hcell 0 hp
      have hspot : spot = none := by simpa [Addr.add] using World.cell?_spot (hc0 0 _ rfl)
      subst hspot
      obtain ⟨L, hL, hP⟩ := list_of (fun i y => At rc W b (off + i * 4) y) len0 (fun i hi => by
        obtain ⟨y, g⟩ := hcell i hi
        refine ⟨y, fun j u hu => ?_⟩
        have := g j u hu
        rw [add_plain, add_plain] at this
        exact this)
      subst hL
      exact ⟨L, ⟨some ⟨b, off, none⟩, cap0, rfl, hl, hm, fun _ => ⟨b, off, rfl, hP⟩⟩⟩
end Go.Proofs.Ytkbpdgghnlnakaa
