/- Rows that the library sorts or cuts: what they hold behind i. -/
import Derived.Test.YtcgddnliiondoaaGreatDoorKp03
import Derived.Test.YtcgddnliiondoaaGreatDoorKp00
import Derived.Sort.OwnSorted
set_option linter.unusedVariables false
set_option linter.unusedSimpArgs false
set_option maxRecDepth 100000
set_option maxHeartbeats 8000000
namespace Go.Proofs.YtcgddnliiondoaaGreatDoor.R
open Go.RowKit Go.Shelf Go.Lib Go.Sort
set_option linter.unusedVariables false
set_option linter.unusedSimpArgs false
section
variable {β : Type} [Inhabited β] {enc1 : β → Value} {w : World} {g n : Nat} {os : Array Obj}
theorem heap_put {cur : Array Value} {e : TypeId} {fr : Nat × Nat} (d : Array β) (hb : w.heap[g]? = some (.cells cur e fr)) :
    (grow (putRow enc1 (Sort.ahead w n) g 0 d) os).heap[g]? = some (.cells (putCells enc1 0 d cur) e fr) := by
  have hg : g < w.heap.size := (Array.getElem?_eq_some_iff.1 hb).1
  rw [heap_grow_old _ _ (by simpa using hg)]
  simp [putRow, mapBlock, Sort.ahead, Array.getElem?_modify, hb, onCells]
theorem grownBy_put (d : Array β) : w.grownBy (grow (putRow enc1 (Sort.ahead w n) g 0 d) os) (some g) := by
  refine ⟨rfl, rfl, rfl, by simp, fun k hk hne => ?_⟩
  rw [heap_grow_old _ _ (by simpa using hk)]
  have : g ≠ k := fun e => hne (by rw [e])
  simp [putRow, mapBlock, Sort.ahead, Array.getElem?_modify, this]
theorem take_put (cur : Array Value) (ts : List β) (h : ts.length ≤ cur.size) : (putCells enc1 0 ts.toArray cur).toList.take ts.length = ts.map enc1 := by
  apply List.ext_getElem?
  intro j
  by_cases hj : j < ts.length
  · rw [List.getElem?_take_of_lt hj, Array.getElem?_toList]
    simp [putCells, hj, show j < cur.size by omega]
  · rw [List.getElem?_take_eq_none (by omega), List.getElem?_eq_none (by simp; omega)]
end
section
variable {α β : Type} [Inhabited β] {enc : α → List Value} {e : TypeId} {k B : Nat}
theorem own_put {w : World} {g cap n : Nat} {os : Array Obj} {L L' : List α} (enc1 : β → Value) (ts : List β) (h : Own enc e k B w (.slice (some ⟨g, 0, none⟩) L.length cap) L) (hm : ts.map enc1 = flat enc L') (hl : L'.length = L.length) (hk : ∀ x, (enc x).length = k) :
    Own enc e k B (grow (putRow enc1 (Sort.ahead w n) g 0 ts.toArray) os) (.slice (some ⟨g, 0, none⟩) L.length cap) L' := by
  obtain ⟨h0, h⟩ := h
  rcases h with ⟨hv, _⟩ | ⟨g', cap', cur, hv, hb, hg, h1, h2, h3, h4⟩
  · cases hv
  · simp only [Value.slice.injEq, Option.some.injEq, Addr.mk.injEq, and_true, true_and] at hv
    obtain ⟨rfl, rfl⟩ := hv
    have hlen : ts.length = L.length * k := by
      have := congrArg List.length hm
      rw [List.length_map, flat_len enc hk, hl] at this
      exact this
    refine ⟨by rw [flat_len enc hk], .inr ⟨g, cap, _, by rw [hl], hb, heap_put ts.toArray hg, by rw [hl]; exact h1, h2, by simp [putCells, h3], ?_⟩⟩
    rw [← hm, hl, ← hlen]
    exact take_put cur ts (by rw [hlen, h3]; exact Nat.mul_le_mul_right _ h1)
theorem own_cut {w : World} {g cap : Nat} {A Z : List α} (h : Own enc e k B w (.slice (some ⟨g, 0, none⟩) (A ++ Z).length cap) (A ++ Z)) (hk : ∀ x, (enc x).length = k) : Own enc e k B w (.slice (some ⟨g, 0, none⟩) A.length cap) A := by
  obtain ⟨h0, h⟩ := h
  rcases h with ⟨hv, _⟩ | ⟨g', cap', cur, hv, hb, hg, h1, h2, h3, h4⟩
  · cases hv
  · simp only [Value.slice.injEq, Option.some.injEq, Addr.mk.injEq, and_true, true_and] at hv
    obtain ⟨rfl, rfl⟩ := hv
    refine ⟨by rw [flat_len enc hk], .inr ⟨g, cap, cur, rfl, hb, hg, by simp at h1; omega, h2, h3, ?_⟩⟩
    have e1 : A.length * k ≤ (A ++ Z).length * k := Nat.mul_le_mul_right _ (by simp)
    have : cur.toList.take (A.length * k) = (cur.toList.take ((A ++ Z).length * k)).take (A.length * k) := by rw [List.take_take, Nat.min_eq_left e1]
    rw [this, h4, flat_append, ← flat_len enc hk A, List.take_left]
end
theorem flat_ie (L : List Int) : L.map (Value.int .i64) = flat ie L := by
  induction L with
  | nil => rfl
  | cons x L ih => rw [flat_cons, List.map_cons, ih]; rfl
theorem holds_ie {w : World} {B g cap : Nat} {L : List Int} (h : Own ie 2 1 B w (.slice (some ⟨g, 0, none⟩) L.length cap) L) : Holds (Value.int .i64) w g 0 L.toArray := by
  intro j hj
  have hj' : j < L.length := by simpa using hj
  refine ⟨?_, World.ownsRow.frozenAt h _⟩
  have := h.cell ie_len hj' 0 _ rfl
  rw [show 0 + j = j * 1 + 0 by omega, this]
  simp [hj']
theorem flatK_list (inh : Inhabited Rg.Rc) (d : Array Rg.Rc) : (flatK rc 4 d).toList = flat rc d.toList := by
  have hlen : (flatK rc 4 d).toList.length = (flat rc d.toList).length := by
    rw [Array.length_toList, size_flatK, flat_len rc rc_len, Array.length_toList]
  apply List.ext_getElem hlen
  intro t h1 h2
  have ht : t < d.size * 4 := by rw [Array.length_toList, size_flatK] at h1; exact h1
  have hi : t / 4 < d.toList.length := by rw [Array.length_toList]; omega
  have hm : t % 4 < 4 := Nat.mod_lt _ (by decide)
  have e1 : (flatK rc 4 d).toList[t] = (flatK rc 4 d)[t]! := by
    rw [Array.getElem_toList, getElem!_pos _ t (by rw [size_flatK]; exact ht)]
  rw [e1, get_flatK rc 4 d t ht]
  have e2 := flat_at rc rc_len d.toList (t / 4) hi (t % 4) hm
  rw [show t / 4 * 4 + t % 4 = t by omega, List.getElem?_eq_getElem h2] at e2
  have e3 : d[t / 4]! = d.toList[t / 4] := by
    rw [Array.getElem_toList, getElem!_pos _ (t / 4) (by rw [Array.length_toList] at hi; exact hi)]
  rw [e3]
  have h3 : t % 4 < (rc d.toList[t / 4]).length := by rw [rc_len]; exact hm
  rw [List.getElem?_eq_getElem h3] at e2
  rw [getElem!_pos (rc d.toList[t / 4]) (t % 4) h3]
  exact (Option.some.inj e2).symm
theorem holds_rc (inh : Inhabited Rg.Rc) {w : World} {B g cap : Nat} {L : List Rg.Rc} (h : Own rc 101 4 B w (.slice (some ⟨g, 0, none⟩) L.length cap) L) : HoldsK rc 4 w g 0 L.toArray := by
  intro j hj
  have hj' : j < L.length * 4 := by rw [size_flatK] at hj; simpa using hj
  refine ⟨?_, World.ownsRow.frozenAt h _⟩
  rw [Nat.zero_add, World.ownsRow.cellAt h j hj']
  have e := flatK_list inh L.toArray
  have e' : (flatK rc 4 L.toArray)[j]! = (flatK rc 4 L.toArray).toList[j]'(by simpa using hj) := by
    rw [Array.getElem_toList, getElem!_pos _ j hj]
  simp only [id]
  rw [e']
  have hlt : j < (flat rc L).length := by rw [flat_len rc rc_len]; exact hj'
  rw [List.getElem?_eq_getElem hlt]
  congr 1
  have : (flatK rc 4 L.toArray).toList = flat rc L := e
  simp only [this]
end Go.Proofs.YtcgddnliiondoaaGreatDoor.R
namespace Go.Proofs.YtcgddnliiondoaaGreatDoor.R
open Go.RowKit Go.Shelf Go.Lib Go.Sort
theorem compactUpTo_spec (zs : List Int) (hs : zs.Pairwise (· ≤ ·)) : ∀ m, m ≤ zs.length → (compactUpTo zs.toArray m).Pairwise (· < ·) ∧ ∀ x, x ∈ compactUpTo zs.toArray m ↔ ∃ (j : Nat) (h : j < zs.length), j < m ∧ zs[j] = x
  | 0, _ => ⟨by simp [compactUpTo], fun x => by simp [compactUpTo]⟩
  | m + 1, hm => by
    obtain ⟨i1, i2⟩ := compactUpTo_spec zs hs m (by omega)
    have hmz : m < zs.length := by omega
    have gm : zs.toArray[m]! = zs[m] := by rw [getElem!_pos zs.toArray m (by simpa using hmz)]; simp
    have le : ∀ (i j : Nat) (hi : i < zs.length) (hj : j < zs.length), i ≤ j → zs[i] ≤ zs[j] := fun i j hi hj hij => by
      rcases Nat.lt_or_eq_of_le hij with h | h
      · exact (List.pairwise_iff_getElem.1 hs) i j hi hj h
      · subst h; exact Int.le_refl _
    rw [compactUpTo_succ]
    cases hk : keeps zs.toArray m with
    | true =>
      simp only [if_true]
      rw [gm]
      refine ⟨List.pairwise_append.2 ⟨i1, by simp, fun x hx y hy => ?_⟩, fun x => ?_⟩
      · rw [List.mem_singleton] at hy
        subst hy
        obtain ⟨j, hj, hjm, rfl⟩ := (i2 x).1 hx
        unfold keeps at hk
        rw [decide_eq_true_eq] at hk
        rcases hk with hk | hk
        · omega
        · have g1 : zs.toArray[m - 1]! = zs[m - 1]'(by omega) := by rw [getElem!_pos zs.toArray (m - 1) (by simp; omega)]; simp
          rw [gm, g1] at hk
          have l1 := le j (m - 1) hj (by omega) (by omega)
          have l2 := le (m - 1) m (by omega) hmz (by omega)
          omega
      · rw [List.mem_append, i2, List.mem_singleton]
        constructor
        · rintro (⟨j, hj, hjm, e⟩ | rfl)
          · exact ⟨j, hj, by omega, e⟩
          · exact ⟨m, hmz, by omega, rfl⟩
        · rintro ⟨j, hj, hjm, e⟩
          rcases Nat.lt_or_eq_of_le (Nat.le_of_lt_succ hjm) with h | h
          · exact .inl ⟨j, hj, h, e⟩
          · subst h; exact .inr e.symm
    | false =>
      simp only [Bool.false_eq_true, if_false, List.append_nil]
      refine ⟨i1, fun x => ?_⟩
      rw [i2]
      constructor
      · rintro ⟨j, hj, hjm, e⟩
        exact ⟨j, hj, by omega, e⟩
      · rintro ⟨j, hj, hjm, e⟩
        rcases Nat.lt_or_eq_of_le (Nat.le_of_lt_succ hjm) with h | h
        · exact ⟨j, hj, h, e⟩
        · subst h
          unfold keeps at hk
          rw [decide_eq_false_iff_not] at hk
          have hj0 : j ≠ 0 := fun h => hk (.inl h)
          have g1 : zs.toArray[j - 1]! = zs[j - 1]'(by omega) := by rw [getElem!_pos zs.toArray (j - 1) (by simp; omega)]; simp
          have : zs[j] = zs[j - 1]'(by omega) := by
            rw [← gm, ← g1]
            exact Classical.byContradiction fun h => hk (.inr h)
          exact ⟨j - 1, by omega, by omega, by rw [← this]; exact e⟩
theorem compact_spec (zs : List Int) (hs : zs.Pairwise (· ≤ ·)) : (Lib.compact zs).Pairwise (· < ·) ∧ ∀ x, x ∈ Lib.compact zs ↔ x ∈ zs := by
  obtain ⟨h1, h2⟩ := compactUpTo_spec zs hs zs.length (Nat.le_refl _)
  refine ⟨h1, fun x => ?_⟩
  unfold Lib.compact
  rw [h2, List.mem_iff_getElem]
  exact ⟨fun ⟨j, hj, _, e⟩ => ⟨j, hj, e⟩, fun ⟨j, hj, e⟩ => ⟨j, hj, hj, e⟩⟩
theorem compact_len (zs : List Int) : (Lib.compact zs).length ≤ zs.length := by
  unfold Lib.compact compactUpTo
  rw [List.length_map]
  exact Nat.le_trans (List.length_filter_le _ _) (by simp)
theorem asc_of : ∀ {l : List Int} {g : Int}, (g :: l).Pairwise (· < ·) → Rg.Asc g l
  | [], _, _ => trivial
  | h :: l, g, hp => ⟨(List.pairwise_cons.1 hp).1 h (List.mem_cons_self ..), asc_of (List.pairwise_cons.1 hp).2⟩
theorem ascl_of {l : List Int} (hp : l.Pairwise (· < ·)) : Rg.Ascl l := by
  cases l with
  | nil => trivial
  | cons g l => exact asc_of hp
theorem sorted_ms (zs : List Int) : (zs.mergeSort fun x y => decide (x ≤ y)).Pairwise (· ≤ ·) := by
  have := List.pairwise_mergeSort (le := fun x y : Int => decide (x ≤ y)) (fun a b c h1 h2 => by simp at *; omega) (fun a b => by simp; omega) zs
  exact this.imp (fun h => by simpa using h)
theorem sort_any (L : List Int) (B g cap : Nat) (w : World) (h : Own ie 2 1 B w (.slice (some ⟨g, 0, none⟩) L.length cap) L) (hl : L.length ≤ 1000000) :
    Calls Tryz.prog 147 #[.slice (some ⟨g, 0, none⟩) L.length cap] w fun e w' => e = .returned (.tuple #[]) ∧ ∃ L', L'.Pairwise (· ≤ ·) ∧ (∀ x, x ∈ L' ↔ x ∈ L) ∧ L'.length = L.length ∧ Own ie 2 1 B w' (.slice (some ⟨g, 0, none⟩) L.length cap) L' ∧ w.grownBy w' (some g) := by
  have hcon := AnyM.slices_Sort_int Tryz.laySort g 0 cap L w (holds_ie h) (h.lt g rfl) (by omega)
  change Calls Tryz.prog 147 _ _ _ at hcon
  refine hcon.mono ?_
  rintro e w' ⟨rfl, n, os, rfl⟩
  refine ⟨rfl, _, sorted_ms L, fun x => (List.mergeSort_perm L _).mem_iff, List.length_mergeSort L, own_put _ _ h (flat_ie _) (List.length_mergeSort L) ie_len, grownBy_put _⟩
theorem sort_none (p : Option Addr) (cap : Nat) (w : World) : Calls Tryz.prog 147 #[.slice p 0 cap] w fun e w' => e = .returned (.tuple #[]) ∧ w' = w := AnyM.slices_Sort_int_none Tryz.laySort p cap w
theorem compact_any (L : List Int) (B g cap : Nat) (w : World) (h : Own ie 2 1 B w (.slice (some ⟨g, 0, none⟩) L.length cap) L) (hs : L.Pairwise (· ≤ ·)) (hl : L.length ≤ 1000000) (hc : L.length ≤ cap) :
    Calls Tryz.prog 148 #[.slice (some ⟨g, 0, none⟩) L.length cap] w fun e w' => ∃ v' L', e = .returned v' ∧ L'.Pairwise (· < ·) ∧ (∀ x, x ∈ L' ↔ x ∈ L) ∧ L'.length ≤ L.length ∧ Own ie 2 1 B w' v' L' ∧ w.grownBy w' (some g) := by
  have hcon := AnyG.slices_Compact_int Tryz.layComp g 0 cap L w (holds_ie h) (by omega) hc
  change Calls Tryz.prog 148 _ _ _ at hcon
  refine hcon.mono ?_
  rintro e w' ⟨rfl, q, rfl⟩
  have hlen := compact_len L
  obtain ⟨c1, c2⟩ := compact_spec L hs
  have e0 : (Lib.compact L ++ List.replicate (L.length - (Lib.compact L).length) (0 : Int)).length = L.length := by simp; omega
  generalize List.replicate (L.length - (Lib.compact L).length) (0 : Int) = Z at *
  have h1 := own_put (n := q) (os := #[]) (L' := Lib.compact L ++ Z) (Value.int .i64) (Lib.compact L ++ Z) h (flat_ie _) e0 ie_len
  rw [grow_empty, ← e0] at h1
  refine ⟨_, _, rfl, c1, c2, hlen, own_cut h1 ie_len, ?_⟩
  have h2 := grownBy_put (w := w) (g := g) (n := q) (os := #[]) (enc1 := Value.int .i64) (Lib.compact L ++ Z).toArray
  rw [grow_empty] at h2
  exact h2
theorem compact_none (a : Option Addr) (cap : Nat) (w : World) : Calls Tryz.prog 148 #[.slice a 0 cap] w fun e w' => e = .returned (.slice a 0 cap) ∧ w' = w := AnyG.slices_Compact_int_empty Tryz.layComp a cap w
end Go.Proofs.YtcgddnliiondoaaGreatDoor.R
