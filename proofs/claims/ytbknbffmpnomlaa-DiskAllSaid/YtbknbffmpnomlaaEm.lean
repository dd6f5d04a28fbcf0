/- Slices of operations, opened. -/
import Derived.Test.YtbknbffmpnomlaaEk
import Derived.Test.YtbknbffmpnomlaaDL
import Derived.DataReads
namespace Go.Proofs.Ytbknbffmpnomlaa
open Go.ChangeShapes Go.WideShapes Go.ChangeAt Go.RowKit
set_option linter.unusedVariables false
set_option linter.unusedSimpArgs false
set_option maxRecDepth 100000

theorem cells5 : Try.prog.cellsOf 5 = 1 := by kernel_rfl
theorem cells32 : Try.prog.cellsOf 32 = 5 := by kernel_rfl
theorem list_of {α : Type} (P : Nat → α → Prop) : ∀ n, (∀ i, i < n → ∃ x, P i x) → ∃ l : List α, l.length = n ∧ ∀ i (h : i < l.length), P i l[i]
  | 0, _ => ⟨[], rfl, fun i hi => absurd hi (by simp)⟩
  | n + 1, h => by
    obtain ⟨l, hl, hp⟩ := list_of P n (fun i hi => h i (by omega))
    obtain ⟨x, hx⟩ := h n (by omega)
    refine ⟨l ++ [x], by simp [hl], fun i hi => ?_⟩
    by_cases hin : i < l.length
    · rw [List.getElem_append_left hin]
      exact hp i hin
    · have hie : i = l.length := by simp at hi; omega
      subst hie
      simp
      rw [hl]
      exact hx
theorem row_of {α : Type} (en : α → List Value) (R : α → Prop) (k : Nat) (t e : TypeId) (hu : Try.prog.underlying t = some (.slice e)) (hc : Try.prog.cellsOf e = k) (hk : 0 < k) (hlen : ∀ x, (en x).length = k) {H : Type} {enc : TypeId × Value → H} {W : World} {sp : Nat → Bool} {held : Bool}
    (hel9 : ∀ (fuel base : Nat) (cs : List Value) (x : DataW H × List MemPlace), DataW.trod enc Try.prog W base sp held fuel e cs = some x → ∃ y, cs = en y ∧ R y)
    {fuel base : Nat} {cs : List Value} {x : DataW H × List MemPlace} (h : DataW.trod enc Try.prog W base sp held fuel t cs = some x) : ∃ v L, cs = [v] ∧ Sl en k W v L ∧ (∀ i (h : i < L.length), R L[i]) ∧ ∀ m c, v = .slice none m c → c = 0 := by
  obtain ⟨d, p⟩ := x
  rcases DataW.trod_slice hu h with ⟨hcs, _⟩ | ⟨x, l, c, elems, rest, m, _, hcs, _, hb, hl, hm, hlen9, hel, _, _⟩
  · exact ⟨_, [], hcs, sl_nil W, fun i h => absurd h (by simp), fun m c e => by injection e with _ _ e; exact e.symm⟩
  · have hcell : ∀ i, i < l → ∃ y : α, (∀ j, j < k → W.cell? ((x.add (i * k)).add j) = (en y)[j]?) ∧ R y := by
      intro i hi
      have hi' := hel i hi
      rw [hc, List.getElem?_eq_getElem (by omega), Option.bind_eq_some_iff] at hi'
      obtain ⟨cs, h1, h2⟩ := hi'
      obtain ⟨y, rfl, hy⟩ := hel9 _ _ _ _ h2
      obtain ⟨_, _, h3⟩ := World.cells?_some h1
      exact ⟨y, h3, hy⟩
    rcases Nat.eq_zero_or_pos l with rfl | hp
    · exact ⟨_, [], hcs, ⟨some x, c, rfl, Nat.zero_le _, hm, fun h => absurd h (by simp)⟩, fun i h => absurd h (by simp), fun m c e => by cases e⟩
    · obtain ⟨b, off, spot⟩ := x
      obtain ⟨c0, hc0, _⟩ := hcell 0 hp
      have hspot : spot = none := by
        have h0 := hc0 0 hk
        rw [List.getElem?_eq_getElem (by rw [hlen]; exact hk)] at h0
        simpa [Addr.add] using World.cell?_spot h0
      subst hspot
      obtain ⟨L, hL, hP⟩ := list_of (fun i y => Ats en W b (off + i * k) y ∧ R y) l (fun i hi => by
        obtain ⟨y, g, hy⟩ := hcell i hi
        refine ⟨y, fun j u hu => ?_, hy⟩
        have hj : j < k := by rw [← hlen y]; exact (List.getElem?_eq_some_iff.1 hu).1
        have := g j hj
        rw [add_lit, add_lit, hu] at this
        exact this)
      subst hL
      exact ⟨_, L, hcs, ⟨some ⟨b, off, none⟩, c, rfl, hl, hm, fun _ => ⟨b, off, rfl, fun i hi => (hP i hi).1⟩⟩, fun i hi => (hP i hi).2, fun m c e => by cases e⟩
theorem open_u8 {H : Type} {enc : TypeId × Value → H} {W : World} {sp : Nat → Bool} {held : Bool} (fuel base : Nat) (cs : List Value) (x : DataW H × List MemPlace)
    (h : DataW.trod enc Try.prog W base sp held fuel 5 cs = some x) : ∃ y : UInt8, cs = eb y ∧ True := by
  obtain ⟨n, rfl, _, hw⟩ := DataW.trod_int Try.underlying5 h
  have hr : 0 ≤ n ∧ n ≤ 255 := by
    unfold Lit.wf at hw
    simpa [IntKind.min, IntKind.max, IntKind.signed, IntKind.bits] using hw
  obtain ⟨k, rfl⟩ := Int.eq_ofNat_of_zero_le hr.1
  refine ⟨UInt8.ofNat k, ?_, trivial⟩
  unfold eb
  rw [show (UInt8.ofNat k).toNat = k by simp; omega]
theorem open_op {H : Type} {enc : TypeId × Value → H} {W : World} {sp : Nat → Bool} {held : Bool} (fuel base : Nat) (cs : List Value) (x : DataW H × List MemPlace)
    (h : DataW.trod enc Try.prog W base sp held fuel 32 cs = some x) : ∃ y : On, cs = eo y ∧ Ov W y := by
  obtain ⟨xs, m, _, _, hl, hlen, hf⟩ := DataW.trod_struct Try.underlying32 h
  rw [cells32] at hl
  have hlen' : xs.length = 5 := hlen
  match cs, hl with
  | [v0, v1, v2, v3, v4], _ =>
    have g0 := hf 0 _ rfl
    have g1 := hf 1 _ rfl
    have g2 := hf 2 _ rfl
    have g3 := hf 3 _ rfl
    have g4 := hf 4 _ rfl
    match xs, hlen' with
    | [y0, y1, y2, y3, y4], _ =>
      obtain ⟨k, e0, _, wk⟩ := DataW.trod_int Try.underlying3 g0
      obtain ⟨a, e1, _, wa⟩ := DataW.trod_int Try.underlying3 g1
      obtain ⟨s, e2, _, ws⟩ := DataW.trod_string Try.underlying9 g2
      obtain ⟨t, e3, _, wt⟩ := DataW.trod_string Try.underlying9 g3
      obtain ⟨v, L, e4, hs, _, hn⟩ := row_of eb (fun _ => True) 1 30 5 Try.underlying30 cells5 (by decide) eb_len open_u8 g4
      have f0 : v0 = .int .i64 k := by
        have : [v0] = [.int .i64 k] := e0
        exact (List.cons.inj this).1
      have f1 : v1 = .int .i64 a := by
        have : [v1] = [.int .i64 a] := e1
        exact (List.cons.inj this).1
      have f2 : v2 = .string s := by
        have : [v2] = [.string s] := e2
        exact (List.cons.inj this).1
      have f3 : v3 = .string t := by
        have : [v3] = [.string t] := e3
        exact (List.cons.inj this).1
      have f4 : v4 = v := by
        have : [v4] = [v] := e4
        exact (List.cons.inj this).1
      obtain ⟨ao, cap, rfl, _, _⟩ := hs.len
      have hr : -9223372036854775808 ≤ a ∧ a ≤ 9223372036854775807 := by
        have h : (decide (IntKind.i64.min ≤ a) && decide (a ≤ IntKind.i64.max)) = true := wa
        rw [Bool.and_eq_true, decide_eq_true_eq, decide_eq_true_eq] at h
        rwa [show IntKind.i64.max = 9223372036854775807 by kernel_rfl, show IntKind.i64.min = -9223372036854775808 by kernel_rfl] at h
      refine ⟨⟨k, a, s, t, ⟨ao, L.length, cap⟩, L⟩, ?_, ⟨⟨hs, hn⟩, ws, wt, hr.1, hr.2⟩⟩
      rw [f0, f1, f2, f3, f4]
      rfl
theorem open_ops {H : Type} {enc : TypeId × Value → H} {W : World} {sp : Nat → Bool} {held : Bool} {base base' : Nat} {v : Value} {d : DataW H} {p : List MemPlace} {r : Reach}
    (hv : Value.okWide Try.prog W r base' 22 v) (h : DataW.Trod enc Try.prog W base sp held 22 v d p) : ∃ ops : List On, Sl eo 5 W v ops ∧ ∀ o ∈ ops, Ov W o := by
  obtain ⟨a0, len0, cap0, rfl⟩ := okWide_slice Try.underlying22 hv
  obtain ⟨fuel, hf⟩ := h
  obtain ⟨y, ops, hcs, hs, hr, _⟩ := row_of eo (Ov W) 5 22 32 Try.underlying22 cells32 (by decide) eo_len open_op hf
  simp [Value.cells] at hcs
  subst hcs
  refine ⟨ops, hs, fun o ho => ?_⟩
  obtain ⟨i, hi, rfl⟩ := List.getElem_of_mem ho
  exact hr i hi
end Go.Proofs.Ytbknbffmpnomlaa
