/- The law counterpanelaw3.LineLists returns true for every two slices of operations on lines: lists made side by side (of each the first six, those that may be and whose numbers are below 2^39) lead every line from 0 to 29 to one place, in both orders, by package axis; no condition. -/
import Derived.Test.YtkdapaebcjgckaaL
import Derived.Test.YtkdapaebcjgckaaV3
import Derived.DataReads
namespace Go.Proofs.Ytkdapaebcjgckaa
namespace lineLists
open Go.ChangeShapes Go.WideShapes Go.ChangeAt Go.RowKit
set_option linter.unusedVariables false

theorem list_of (P : Nat → Ax.Ln → Prop) : ∀ n, (∀ i, i < n → ∃ x, P i x) → ∃ l : List Ax.Ln, l.length = n ∧ ∀ i (h : i < l.length), P i l[i]
  | 0, _ => ⟨[], rfl, fun i hi => absurd hi (by simp)⟩
  | n + 1, h => by
    obtain ⟨l, hl, hp⟩ := list_of P n (fun i hi => h i (by omega))
    obtain ⟨x, hx⟩ := h n (by omega)
    refine ⟨l ++ [x], by simp [hl], fun i hi => ?_⟩
    by_cases hin : i < l.length
    · rw [List.getElem_append_left hin]
      exact hp i hin
    · have hie : i = l.length := by simp at hi; omega
      subst hie
      simp
      rw [hl]
      exact hx

theorem add_plain (b o n : Nat) : (⟨b, o, none⟩ : Addr).add n = ⟨b, o + n, none⟩ := by
  unfold Addr.add
  by_cases h : n = 0
  · subst h; simp
  · simp [h]

theorem open_sl {H : Type} {enc : TypeId × Value → H} {W : World} {sp : Nat → Bool} {held : Bool} {base base' : Nat} {v : Value} {d : DataW H} {p : List MemPlace} {r : Reach}
    (hv : Value.okWide Try.prog W r base' 35 v) (h : DataW.Trod enc Try.prog W base sp held 35 v d p) : ∃ L : List Ax.Ln, Sl W v L ∧ L.length ≤ 9223372036854775807 := by
  obtain ⟨a0, len0, cap0, rfl⟩ := okWide_slice Try.underlying35 hv
  obtain ⟨fuel, hf⟩ := h
  rcases DataW.trod_slice Try.underlying35 hf with ⟨hcs, _⟩ | ⟨x, l, c, elems, rest, m, _, hcs, _, hb, hl, hm, hlen, hel, _, _⟩
  · simp [Value.cells] at hcs
    obtain ⟨rfl, rfl, rfl⟩ := hcs
    exact ⟨[], ⟨none, 0, rfl, fun h => absurd h (by simp)⟩, by simp⟩
  · simp [Value.cells] at hcs
    obtain ⟨rfl, rfl, rfl⟩ := hcs
    have hlm := Nat.le_trans hl hm
    unfold maxLen at hlm
    have hcell : ∀ i, i < len0 → ∃ y : Ax.Ln, W.cell? ((x.add (i * 3)).add 0) = some (.int .i64 y.k) ∧ W.cell? ((x.add (i * 3)).add 1) = some (.int .i64 y.a) ∧ W.cell? ((x.add (i * 3)).add 2) = some (.int .i64 y.t) := by
      intro i hi
      have hi' := hel i hi
      rw [cells23, List.getElem?_eq_getElem (by omega), Option.bind_eq_some_iff] at hi'
      obtain ⟨cs, h1, h2⟩ := hi'
      obtain ⟨k, a, t, rfl, _⟩ := open_cells h2
      obtain ⟨_, _, h3⟩ := World.cells?_some h1
      exact ⟨⟨k, a, t⟩, h3 0 (by omega), h3 1 (by omega), h3 2 (by omega)⟩
    rcases Nat.eq_zero_or_pos len0 with rfl | hp
    · exact ⟨[], ⟨some x, cap0, rfl, fun h => absurd h (by simp)⟩, by simp⟩
    · obtain ⟨b, off, spot⟩ := x
      obtain ⟨c0, hc0, _⟩ := hcell 0 hp
      have hspot : spot = none := by simpa [Addr.add] using World.cell?_spot hc0
      subst hspot
      obtain ⟨L, hL, hP⟩ := list_of (fun i y => At3 W b (off + i * 3) y) len0 (fun i hi => by
        obtain ⟨y, g0, g1, g2⟩ := hcell i hi
        rw [add_plain, add_plain] at g0 g1 g2
        exact ⟨y, g0, g1, g2⟩)
      subst hL
      exact ⟨L, ⟨some ⟨b, off, none⟩, cap0, rfl, fun _ => ⟨b, off, rfl, hP⟩⟩, by omega⟩

set_option maxRecDepth 100000 in
theorem contract (H : Type) (enc : TypeId × Value → H) (W : World) (base : Nat) (args : Array Value) (ds gs : List (DataW H)) (before : List MemPlace)
    (hval : ∀ (j : Nat) t v, Try.f7.params[j]? = some t → args[j]? = some v → Value.okWide Try.prog W .any base t v)
    (hW : DataW.Whole enc Try.prog Try.f7.params.toList Rows.lineListsSpec.vars false W args.toList ds gs before) :
    Calls Try.prog 7 args W fun e W' => ∃ v, e = .returned v ∧ Rows.lineListsSpec.post enc Try.prog Try.f7 false true false false W args v W' := by
  have hW' := hW
  obtain ⟨p, q, hA0, hV, rfl, hfz, hnd⟩ := hW
  have hA : DataW.TrodAll enc Try.prog W 0 (fun _ => true) true Try.f7.params.toList args.toList ds p := hA0
  rw [Try.params7] at hA hval
  obtain ⟨v0, vs0, d0, ds0, p0, q0, hargs, rfl, rfl, h0, r0⟩ := trodAll_cons hA
  obtain ⟨v1, vs1, d1, ds1, p1, q1, rfl, rfl, rfl, h1, r1⟩ := trodAll_cons r0
  obtain ⟨rfl, rfl, rfl⟩ := trodAll_nil r1
  obtain rfl : args = #[v0, v1] := Array.ext' hargs
  obtain ⟨rfl, rfl⟩ := trodVars_none hV
  have k0 := h0
  have k1 := h1
  have lt0 : ∀ x ∈ p0, x.block < W.heap.size := by obtain ⟨m, hm⟩ := k0; exact DataW.trod_lt m _ _ _ hm
  have lt1 : ∀ x ∈ p1, x.block < W.heap.size := by obtain ⟨m, hm⟩ := k1; exact DataW.trod_lt m _ _ _ hm
  obtain ⟨A, sA, lA⟩ := open_sl (hval 0 35 v0 rfl rfl) h0
  obtain ⟨B, sB, lB⟩ := open_sl (hval 1 35 v1 rfl rfl) h1
  clear hA0
  refine (lists_walk v0 v1 A B W sA sB lA lB).mono fun x W' ⟨he, bel⟩ => ?_
  subst he
  exact ⟨_, rfl, _, _, _, [], _, [], hW', trodAll_mk1 (shut_bool Try.underlying4 _),
    (trodAll_cons_mk (Below.trod laidOut (by kernel_rfl) (of_decide_eq_true (by kernel_rfl)) k0 bel lt0) (trodAll_cons_mk (Below.trod laidOut (by kernel_rfl) (of_decide_eq_true (by kernel_rfl)) k1 bel lt1) trodAll_mk0)), rfl, Below.frame bel _, fun h => by cases h⟩

def wit : Array Value := #[.slice none 0 0, .slice none 0 0]
set_option maxRecDepth 100000 in
theorem lifted (os : Os) (started : os.Started) (H : Type) (enc : TypeId × Value → H) :
    ReturnsInHanded {} Try.checked os 7 .any (Rows.lineListsSpec.pre6 enc Try.prog Try.f7 Rows.lineListsRow.domain false) (Rows.lineListsSpec.post enc Try.prog Try.f7 false true false false) := by
  refine returnsInHanded_of_change (C := Try.checked) own started (by kernel_rfl) Try.func7
    (ChangeSpec.witness6 (enc := enc) (C := Try.checked) false ⟨#[], wit, []⟩ 8 (by kernel_rfl) (by kernel_rfl) (by kernel_rfl) (by kernel_rfl)) ?_
  intro W base args ds gs before hval0 hW hcnd _
  exact contract H enc W base args ds gs before hval0 hW
end lineLists
theorem lineLists_holds : Rows.LineListsSaid :=
  OpenClaim.holds_of_wide 7 Try.f7 rfl rfl rfl rfl rfl rfl rfl ⟨rfl, rfl, rfl, rfl, rfl⟩ rfl rfl rfl rfl rfl (by kernel_rfl) Try.func7 (by kernel_rfl)
    (of_decide_eq_true (by kernel_rfl)) (by unfold Func.isWrapper; first | (rw [if_pos (by decide +kernel)]; kernel_rfl) | (rw [if_neg (by decide +kernel)]; exact ⟨rfl, rfl⟩))
    (fun os started H enc _ => lineLists.lifted os started H enc)
end Go.Proofs.Ytkdapaebcjgckaa
