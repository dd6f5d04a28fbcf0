/- counterpanelaw18.XformFollows, walked; Slices of lines and o. -/
import Derived.Test.YthebfhdpofhmpaaGreatDoorKc16
import Derived.Test.YthebfhdpofhmpaaGreatDoorKc07
import Derived.ChangeOld
import Derived.DataReads
set_option linter.unusedVariables false
set_option linter.unusedSimpArgs false
set_option maxRecDepth 100000
set_option maxHeartbeats 8000000
namespace Go.Proofs.YthebfhdpofhmpaaGreatDoor
open Go.RowKit
theorem info28f : (Tryz.prog.info? 28).map (·.size) = some 3 := by kernel_rfl
theorem Bk.grown {W W' : World} {t : TypeId} {q : Nat} {cs : Array Value} {row : Option Nat} (h : Bk W t q cs) (g : W.grownBy W' row) (hn : row ≠ some q) : Bk W' t q cs := ⟨(g.block q h.l (fun e => hn e.symm)).trans h.h⟩
end Go.Proofs.YthebfhdpofhmpaaGreatDoor
namespace Go.Proofs.YthebfhdpofhmpaaGreatDoor
open Go.ChangeShapes Go.WideShapes Go.ChangeAt Go.RowKit
set_option linter.unusedVariables false
set_option linter.unusedSimpArgs false
set_option maxRecDepth 100000
theorem laidOut : laidOutB Tryz.prog = true := by kernel_rfl
theorem list_of {α : Type} (P : Nat → α → Prop) : ∀ n, (∀ i, i < n → ∃ x, P i x) → ∃ l : List α, l.length = n ∧ ∀ i (h : i < l.length), P i l[i]
  | 0, _ => ⟨[], rfl, fun i hi => absurd hi (by simp)⟩
  | n + 1, h => by
    obtain ⟨l, hl, hp⟩ := list_of P n (fun i hi => h i (by omega))
    obtain ⟨x, hx⟩ := h n (by omega)
    refine ⟨l ++ [x], by simp [hl], fun i hi => ?_⟩
    by_cases hin : i < l.length
    · rw [List.getElem_append_left hin]
      exact hp i hin
    · have hie : i = l.length := by simp at hi; omega
      subst hie
      simp
      rw [hl]
      exact hx
theorem add_lit9 (b o n : Nat) : (⟨b, o, none⟩ : Addr).add n = ⟨b, o + n, none⟩ := by
  unfold Addr.add
  by_cases h : n = 0
  · subst h; simp
  · simp [h]
theorem open_sl {α : Type} (en : α → List Value) (k : Nat) (t e : TypeId) (hu : Tryz.prog.underlying t = some (.slice e)) (hc : Tryz.prog.cellsOf e = k) (hk : 0 < k) (hlen : ∀ x, (en x).length = k) {H : Type} {enc : TypeId × Value → H} {W : World} {sp : Nat → Bool} {held : Bool} {base base' : Nat} {v : Value} {d : DataW H} {p : List MemPlace} {r : Reach}
    (hel9 : ∀ (fuel base : Nat) (cs : List Value) (x : DataW H × List MemPlace), DataW.trod enc Tryz.prog W base sp held fuel e cs = some x → ∃ y, cs = en y)
    (hv : Value.okWide Tryz.prog W r base' t v) (h : DataW.Trod enc Tryz.prog W base sp held t v d p) : ∃ L : List α, Sl en k W v L := by
  obtain ⟨a0, len0, cap0, rfl⟩ := okWide_slice hu hv
  obtain ⟨fuel, hf⟩ := h
  rcases DataW.trod_slice hu hf with ⟨hcs, _⟩ | ⟨x, l, c, elems, rest, m, _, hcs, _, hb, hl, hm, hlen9, hel, _, _⟩
  · simp [Value.cells] at hcs
    obtain ⟨rfl, rfl, rfl⟩ := hcs
    exact ⟨[], sl_nil W⟩
  · simp [Value.cells] at hcs
    obtain ⟨rfl, rfl, rfl⟩ := hcs
    have hcell : ∀ i, i < len0 → ∃ y : α, ∀ j, j < k → W.cell? ((x.add (i * k)).add j) = (en y)[j]? := by
      intro i hi
      have hi' := hel i hi
      rw [hc, List.getElem?_eq_getElem (by omega), Option.bind_eq_some_iff] at hi'
      obtain ⟨cs, h1, h2⟩ := hi'
      obtain ⟨y, rfl⟩ := hel9 _ _ _ _ h2
      obtain ⟨_, _, h3⟩ := World.cells?_some h1
      exact ⟨y, h3⟩
    rcases Nat.eq_zero_or_pos len0 with rfl | hp
    · exact ⟨[], ⟨some x, cap0, rfl, Nat.zero_le _, hm, fun h => absurd h (by simp)⟩⟩
    · obtain ⟨b, off, spot⟩ := x
      obtain ⟨c0, hc0⟩ := hcell 0 hp
      have hspot : spot = none := by
        have h0 := hc0 0 hk
        rw [List.getElem?_eq_getElem (by rw [hlen]; exact hk)] at h0
        simpa [Addr.add] using World.cell?_spot h0
      subst hspot
      obtain ⟨L, hL, hP⟩ := list_of (fun i y => Ats en W b (off + i * k) y) len0 (fun i hi => by
        obtain ⟨y, g⟩ := hcell i hi
        refine ⟨y, fun j u hu => ?_⟩
        have hj : j < k := by rw [← hlen y]; exact (List.getElem?_eq_some_iff.1 hu).1
        have := g j hj
        rw [add_lit9, add_lit9, hu] at this
        exact this)
      subst hL
      exact ⟨L, ⟨some ⟨b, off, none⟩, cap0, rfl, hl, hm, fun _ => ⟨b, off, rfl, hP⟩⟩⟩
theorem cells28 : Tryz.prog.cellsOf 28 = 3 := by kernel_rfl
theorem open_l3 {H : Type} {enc : TypeId × Value → H} {W : World} {sp : Nat → Bool} {held : Bool} (fuel base : Nat) (cs : List Value) (x : DataW H × List MemPlace)
    (h : DataW.trod enc Tryz.prog W base sp held fuel 28 cs = some x) : ∃ y : L3, cs = le y := by
  obtain ⟨xs, m, _, _, hl, hlen, hf⟩ := DataW.trod_struct Tryz.underlying28 h
  rw [cells28] at hl
  have hlen' : xs.length = 3 := hlen
  match cs, hl with
  | [v0, v1, v2], _ =>
    have g0 := hf 0 _ rfl
    have g1 := hf 1 _ rfl
    have g2 := hf 2 _ rfl
    match xs, hlen' with
    | [y0, y1, y2], _ =>
      obtain ⟨k, e0, _, wk⟩ := DataW.trod_int Tryz.underlying3 g0
      obtain ⟨a, e1, _, wa⟩ := DataW.trod_int Tryz.underlying2 g1
      obtain ⟨t, e2, _, wt⟩ := DataW.trod_int Tryz.underlying2 g2
      refine ⟨(k, a, t), ?_⟩
      have f0 : v0 = .int .i64 k := by
        have : [v0] = [.int .i64 k] := e0
        exact (List.cons.inj this).1
      have f1 : v1 = .int .i64 a := by
        have : [v1] = [.int .i64 a] := e1
        exact (List.cons.inj this).1
      have f2 : v2 = .int .i64 t := by
        have : [v2] = [.int .i64 t] := e2
        exact (List.cons.inj this).1
      rw [f0, f1, f2]
      rfl
end Go.Proofs.YthebfhdpofhmpaaGreatDoor
