/- Rows of bytes, and rows of these, opened. -/
import Derived.Test.YtcefpjjefokjjaaDoorFj
import Derived.Test.YtcefpjjefokjjaaDoorFl
import Derived.ChangeOld
import Derived.DataReads
namespace Go.Proofs.YtcefpjjefokjjaaDoor
open Go.ChangeShapes Go.WideShapes Go.ChangeAt Go.RowKit
set_option linter.unusedVariables false
set_option linter.unusedSimpArgs false
set_option maxRecDepth 100000

theorem laidOut : laidOutB Tryd.prog = true := by kernel_rfl
theorem cells5 : Tryd.prog.cellsOf 5 = 1 := by kernel_rfl
theorem cells23 : Tryd.prog.cellsOf 23 = 1 := by kernel_rfl
theorem list_of {α : Type} (P : Nat → α → Prop) : ∀ n, (∀ i, i < n → ∃ x, P i x) → ∃ l : List α, l.length = n ∧ ∀ i (h : i < l.length), P i l[i]
  | 0, _ => ⟨[], rfl, fun i hi => absurd hi (by simp)⟩
  | n + 1, h => by
    obtain ⟨l, hl, hp⟩ := list_of P n (fun i hi => h i (by omega))
    obtain ⟨x, hx⟩ := h n (by omega)
    refine ⟨l ++ [x], by simp [hl], fun i hi => ?_⟩
    by_cases hin : i < l.length
    · rw [List.getElem_append_left hin]
      exact hp i hin
    · have hie : i = l.length := by simp at hi; omega
      subst hie
      simp
      rw [hl]
      exact hx
theorem row_of {α : Type} (en : α → List Value) (R : α → Prop) (t e : TypeId) (hu : Tryd.prog.underlying t = some (.slice e)) (hc : Tryd.prog.cellsOf e = 1) (hlen : ∀ x, (en x).length = 1) {H : Type} {enc : TypeId × Value → H} {W : World} {sp : Nat → Bool} {held : Bool}
    (hel9 : ∀ (fuel base : Nat) (cs : List Value) (x : DataW H × List MemPlace), DataW.trod enc Tryd.prog W base sp held fuel e cs = some x → ∃ y, cs = en y ∧ R y)
    {fuel base : Nat} {cs : List Value} {x : DataW H × List MemPlace} (h : DataW.trod enc Tryd.prog W base sp held fuel t cs = some x) : ∃ v L, cs = [v] ∧ Sl en 1 W v L ∧ (∀ i (h : i < L.length), R L[i]) ∧ ∀ m c, v = .slice none m c → c = 0 := by
  obtain ⟨d, p⟩ := x
  rcases DataW.trod_slice hu h with ⟨hcs, _⟩ | ⟨x, l, c, elems, rest, m, _, hcs, _, hb, hl, hm, hlen9, hel, _, _⟩
  · exact ⟨_, [], hcs, sl_nil W, fun i h => absurd h (by simp), fun m c e => by injection e with _ _ e; exact e.symm⟩
  · have hcell : ∀ i, i < l → ∃ y : α, (∀ j, j < 1 → W.cell? ((x.add (i * 1)).add j) = (en y)[j]?) ∧ R y := by
      intro i hi
      have hi' := hel i hi
      rw [hc, List.getElem?_eq_getElem (by omega), Option.bind_eq_some_iff] at hi'
      obtain ⟨cs, h1, h2⟩ := hi'
      obtain ⟨y, rfl, hy⟩ := hel9 _ _ _ _ h2
      obtain ⟨_, _, h3⟩ := World.cells?_some h1
      exact ⟨y, h3, hy⟩
    rcases Nat.eq_zero_or_pos l with rfl | hp
    · exact ⟨_, [], hcs, ⟨some x, c, rfl, Nat.zero_le _, hm, fun h => absurd h (by simp)⟩, fun i h => absurd h (by simp), fun m c e => by cases e⟩
    · obtain ⟨b, off, spot⟩ := x
      obtain ⟨c0, hc0, _⟩ := hcell 0 hp
      have hspot : spot = none := by
        have h0 := hc0 0 (by omega)
        rw [List.getElem?_eq_getElem (by rw [hlen]; omega)] at h0
        simpa [Addr.add] using World.cell?_spot h0
      subst hspot
      obtain ⟨L, hL, hP⟩ := list_of (fun i y => Ats en W b (off + i * 1) y ∧ R y) l (fun i hi => by
        obtain ⟨y, g, hy⟩ := hcell i hi
        refine ⟨y, fun j u hu => ?_, hy⟩
        have hj : j < 1 := by rw [← hlen y]; exact (List.getElem?_eq_some_iff.1 hu).1
        have := g j hj
        rw [add_lit, add_lit, hu] at this
        exact this)
      subst hL
      exact ⟨_, L, hcs, ⟨some ⟨b, off, none⟩, c, rfl, hl, hm, fun _ => ⟨b, off, rfl, fun i hi => (hP i hi).1⟩⟩, fun i hi => (hP i hi).2, fun m c e => by cases e⟩
theorem open_u8 {H : Type} {enc : TypeId × Value → H} {W : World} {sp : Nat → Bool} {held : Bool} (fuel base : Nat) (cs : List Value) (x : DataW H × List MemPlace)
    (h : DataW.trod enc Tryd.prog W base sp held fuel 5 cs = some x) : ∃ y : UInt8, cs = eb y ∧ True := by
  obtain ⟨n, rfl, _, hw⟩ := DataW.trod_int Tryd.underlying5 h
  have hr : 0 ≤ n ∧ n ≤ 255 := by
    unfold Lit.wf at hw
    simpa [IntKind.min, IntKind.max, IntKind.signed, IntKind.bits] using hw
  obtain ⟨k, rfl⟩ := Int.eq_ofNat_of_zero_le hr.1
  refine ⟨UInt8.ofNat k, ?_, trivial⟩
  unfold eb
  rw [show (UInt8.ofNat k).toNat = k by simp; omega]
theorem open_sb {H : Type} {enc : TypeId × Value → H} {W : World} {sp : Nat → Bool} {held : Bool} (fuel base : Nat) (cs : List Value) (x : DataW H × List MemPlace)
    (h : DataW.trod enc Tryd.prog W base sp held fuel 23 cs = some x) : ∃ y : Value, cs = ev y ∧ ∃ L, Sb W y L := by
  obtain ⟨v, L, hcs, hs, _, hn⟩ := row_of eb (fun _ => True) 23 5 Tryd.underlying23 cells5 eb_len open_u8 h
  exact ⟨v, hcs, L, hs, hn⟩
theorem open_bytes {H : Type} {enc : TypeId × Value → H} {W : World} {sp : Nat → Bool} {held : Bool} {base base' : Nat} {v : Value} {d : DataW H} {p : List MemPlace} {r : Reach}
    (hv : Value.okWide Tryd.prog W r base' 23 v) (h : DataW.Trod enc Tryd.prog W base sp held 23 v d p) : ∃ L, Sb W v L := by
  obtain ⟨a0, len0, cap0, rfl⟩ := okWide_slice Tryd.underlying23 hv
  obtain ⟨fuel, hf⟩ := h
  obtain ⟨y, hcs, L, hL⟩ := open_sb _ _ _ _ hf
  simp [Value.cells, ev] at hcs
  subst hcs
  exact ⟨L, hL⟩
theorem open_parts {H : Type} {enc : TypeId × Value → H} {W : World} {sp : Nat → Bool} {held : Bool} {base base' : Nat} {v : Value} {d : DataW H} {p : List MemPlace} {r : Reach}
    (hv : Value.okWide Tryd.prog W r base' 22 v) (h : DataW.Trod enc Tryd.prog W base sp held 22 v d p) : ∃ LL, Parts W v LL := by
  obtain ⟨a0, len0, cap0, rfl⟩ := okWide_slice Tryd.underlying22 hv
  obtain ⟨fuel, hf⟩ := h
  obtain ⟨y, vs, hcs, hs, hr, _⟩ := row_of ev (fun y => ∃ L, Sb W y L) 22 23 Tryd.underlying22 cells23 ev_len open_sb hf
  simp [Value.cells] at hcs
  subst hcs
  obtain ⟨LL, hl, hp⟩ := list_of (fun i L => ∀ h : i < vs.length, Sb W vs[i] L) vs.length (fun i hi => by
    obtain ⟨L, hL⟩ := hr i hi
    exact ⟨L, fun _ => hL⟩)
  exact ⟨LL, vs, hl.symm, hs, fun i h h' => hp i h' h⟩
end Go.Proofs.YtcefpjjefokjjaaDoor
