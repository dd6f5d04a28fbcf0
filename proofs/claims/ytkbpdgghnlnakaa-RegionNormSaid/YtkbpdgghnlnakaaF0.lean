/- The gaps between rows, sorted and each once: slices.Sort, slices.Compact. -/
import Derived.Test.YtkbpdgghnlnakaaS0
namespace Go.Proofs.Ytkbpdgghnlnakaa
open Go.RowKit Go.Shelf Go.Lib Go.Sort
set_option linter.unusedVariables false
set_option linter.unusedSimpArgs false

theorem compactUpTo_spec (zs : List Int) (hs : zs.Pairwise (· ≤ ·)) : ∀ m, m ≤ zs.length → (compactUpTo zs.toArray m).Pairwise (· < ·) ∧ ∀ x, x ∈ compactUpTo zs.toArray m ↔ ∃ (j : Nat) (h : j < zs.length), j < m ∧ zs[j] = x
  | 0, _ => ⟨by simp [compactUpTo], fun x => by simp [compactUpTo]⟩
  | m + 1, hm => by
    obtain ⟨i1, i2⟩ := compactUpTo_spec zs hs m (by omega)
    have hmz : m < zs.length := by omega
    have gm : zs.toArray[m]! = zs[m] := by rw [getElem!_pos zs.toArray m (by simpa using hmz)]; simp
    have le : ∀ (i j : Nat) (hi : i < zs.length) (hj : j < zs.length), i ≤ j → zs[i] ≤ zs[j] := fun i j hi hj hij => by
      rcases Nat.lt_or_eq_of_le hij with h | h
      · exact (List.pairwise_iff_getElem.1 hs) i j hi hj h
      · subst h; exact Int.le_refl _
    rw [compactUpTo_succ]
    cases hk : keeps zs.toArray m with
    | true =>
      simp only [if_true]
      rw [gm]
      refine ⟨List.pairwise_append.2 ⟨i1, by simp, fun x hx y hy => ?_⟩, fun x => ?_⟩
      · rw [List.mem_singleton] at hy
        subst hy
        obtain ⟨j, hj, hjm, rfl⟩ := (i2 x).1 hx
        unfold keeps at hk
        rw [decide_eq_true_eq] at hk
        rcases hk with hk | hk
        · omega
        · have g1 : zs.toArray[m - 1]! = zs[m - 1]'(by omega) := by rw [getElem!_pos zs.toArray (m - 1) (by simp; omega)]; simp
          rw [gm, g1] at hk
          have l1 := le j (m - 1) hj (by omega) (by omega)
          have l2 := le (m - 1) m (by omega) hmz (by omega)
          omega
      · rw [List.mem_append, i2, List.mem_singleton]
        constructor
        · rintro (⟨j, hj, hjm, e⟩ | rfl)
          · exact ⟨j, hj, by omega, e⟩
          · exact ⟨m, hmz, by omega, rfl⟩
        · rintro ⟨j, hj, hjm, e⟩
          rcases Nat.lt_or_eq_of_le (Nat.le_of_lt_succ hjm) with h | h
          · exact .inl ⟨j, hj, h, e⟩
          · subst h; exact .inr e.symm
    | false =>
      simp only [Bool.false_eq_true, if_false, List.append_nil]
      refine ⟨i1, fun x => ?_⟩
      rw [i2]
      constructor
      · rintro ⟨j, hj, hjm, e⟩
        exact ⟨j, hj, by omega, e⟩
      · rintro ⟨j, hj, hjm, e⟩
        rcases Nat.lt_or_eq_of_le (Nat.le_of_lt_succ hjm) with h | h
        · exact ⟨j, hj, h, e⟩
        · subst h
          unfold keeps at hk
          rw [decide_eq_false_iff_not] at hk
          have hj0 : j ≠ 0 := fun h => hk (.inl h)
          have g1 : zs.toArray[j - 1]! = zs[j - 1]'(by omega) := by rw [getElem!_pos zs.toArray (j - 1) (by simp; omega)]; simp
          have : zs[j] = zs[j - 1]'(by omega) := by
            rw [← gm, ← g1]
            exact Classical.byContradiction fun h => hk (.inr h)
          exact ⟨j - 1, by omega, by omega, by rw [← this]; exact e⟩
theorem compact_spec (zs : List Int) (hs : zs.Pairwise (· ≤ ·)) : (Lib.compact zs).Pairwise (· < ·) ∧ ∀ x, x ∈ Lib.compact zs ↔ x ∈ zs := by
  obtain ⟨h1, h2⟩ := compactUpTo_spec zs hs zs.length (Nat.le_refl _)
  refine ⟨h1, fun x => ?_⟩
  unfold Lib.compact
  rw [h2, List.mem_iff_getElem]
  exact ⟨fun ⟨j, hj, _, e⟩ => ⟨j, hj, e⟩, fun ⟨j, hj, e⟩ => ⟨j, hj, hj, e⟩⟩
theorem compact_len (zs : List Int) : (Lib.compact zs).length ≤ zs.length := by
  unfold Lib.compact compactUpTo
  rw [List.length_map]
  exact Nat.le_trans (List.length_filter_le _ _) (by simp)
theorem asc_of : ∀ {l : List Int} {g : Int}, (g :: l).Pairwise (· < ·) → Rg.Asc g l
  | [], _, _ => trivial
  | h :: l, g, hp => ⟨(List.pairwise_cons.1 hp).1 h (List.mem_cons_self ..), asc_of (List.pairwise_cons.1 hp).2⟩
theorem ascl_of {l : List Int} (hp : l.Pairwise (· < ·)) : Rg.Ascl l := by
  cases l with
  | nil => trivial
  | cons g l => exact asc_of hp
theorem sorted_ms (zs : List Int) : (zs.mergeSort fun x y => decide (x ≤ y)).Pairwise (· ≤ ·) := by
  have := List.pairwise_mergeSort (le := fun x y : Int => decide (x ≤ y)) (fun a b c h1 h2 => by simp at *; omega) (fun a b => by simp; omega) zs
  exact this.imp (fun h => by simpa using h)

/-- slices.Sort of a row of the call's own -/
theorem sort_any (L : List Int) (B g cap : Nat) (w : World) (h : Own ie 2 1 B w (.slice (some ⟨g, 0, none⟩) L.length cap) L) (hl : L.length ≤ 1000000) :
    Calls Try.prog 37 #[.slice (some ⟨g, 0, none⟩) L.length cap] w fun e w' => e = .returned (.tuple #[]) ∧ ∃ L', L'.Pairwise (· ≤ ·) ∧ (∀ x, x ∈ L' ↔ x ∈ L) ∧ L'.length = L.length ∧ Own ie 2 1 B w' (.slice (some ⟨g, 0, none⟩) L.length cap) L' ∧ w.grownBy w' (some g) := by
  have hcon := AnyM.slices_Sort_int Try.laySort g 0 cap L w (holds_ie h) (h.lt g rfl) (by omega)
  change Calls Try.prog 37 _ _ _ at hcon
  refine hcon.mono ?_
  rintro e w' ⟨rfl, n, os, rfl⟩
  refine ⟨rfl, _, sorted_ms L, fun x => (List.mergeSort_perm L _).mem_iff, List.length_mergeSort L, own_put _ _ h (flat_ie _) (List.length_mergeSort L) ie_len, grownBy_put _⟩
theorem sort_none (p : Option Addr) (cap : Nat) (w : World) : Calls Try.prog 37 #[.slice p 0 cap] w fun e w' => e = .returned (.tuple #[]) ∧ w' = w := AnyM.slices_Sort_int_none Try.laySort p cap w
theorem compact_any (L : List Int) (B g cap : Nat) (w : World) (h : Own ie 2 1 B w (.slice (some ⟨g, 0, none⟩) L.length cap) L) (hs : L.Pairwise (· ≤ ·)) (hl : L.length ≤ 1000000) (hc : L.length ≤ cap) :
    Calls Try.prog 38 #[.slice (some ⟨g, 0, none⟩) L.length cap] w fun e w' => ∃ v' L', e = .returned v' ∧ L'.Pairwise (· < ·) ∧ (∀ x, x ∈ L' ↔ x ∈ L) ∧ L'.length ≤ L.length ∧ Own ie 2 1 B w' v' L' ∧ w.grownBy w' (some g) := by
  have hcon := AnyG.slices_Compact_int Try.layComp g 0 cap L w (holds_ie h) (by omega) hc
  change Calls Try.prog 38 _ _ _ at hcon
  refine hcon.mono ?_
  rintro e w' ⟨rfl, q, rfl⟩
  have hlen := compact_len L
  obtain ⟨c1, c2⟩ := compact_spec L hs
  have e0 : (Lib.compact L ++ List.replicate (L.length - (Lib.compact L).length) (0 : Int)).length = L.length := by simp; omega
  generalize List.replicate (L.length - (Lib.compact L).length) (0 : Int) = Z at *
  have h1 := own_put (n := q) (os := #[]) (L' := Lib.compact L ++ Z) (Value.int .i64) (Lib.compact L ++ Z) h (flat_ie _) e0 ie_len
  rw [grow_empty, ← e0] at h1
  refine ⟨_, _, rfl, c1, c2, hlen, own_cut h1 ie_len, ?_⟩
  have h2 := grownBy_put (w := w) (g := g) (n := q) (os := #[]) (enc1 := Value.int .i64) (Lib.compact L ++ Z).toArray
  rw [grow_empty] at h2
  exact h2
theorem compact_none (a : Option Addr) (cap : Nat) (w : World) : Calls Try.prog 38 #[.slice a 0 cap] w fun e w' => e = .returned (.slice a 0 cap) ∧ w' = w := AnyG.slices_Compact_int_empty Try.layComp a cap w
end Go.Proofs.Ytkbpdgghnlnakaa
