/- Rows that the library sorts or cuts: what they hold behind it. -/
import Derived.Test.YtkbpdgghnlnakaaQ
import Derived.Test.YtkbpdgghnlnakaaSh
import Derived.Sort.OwnSorted
namespace Go.Proofs.Ytkbpdgghnlnakaa
open Go.RowKit Go.Shelf Go.Lib Go.Sort
set_option linter.unusedVariables false
set_option linter.unusedSimpArgs false

section
variable {β : Type} [Inhabited β] {enc1 : β → Value} {w : World} {g n : Nat} {os : Array Obj}
theorem heap_put {cur : Array Value} {e : TypeId} {fr : Nat × Nat} (d : Array β) (hb : w.heap[g]? = some (.cells cur e fr)) :
    (grow (putRow enc1 (Sort.ahead w n) g 0 d) os).heap[g]? = some (.cells (putCells enc1 0 d cur) e fr) := by
  have hg : g < w.heap.size := (Array.getElem?_eq_some_iff.1 hb).1
  rw [heap_grow_old _ _ (by simpa using hg)]
  simp [putRow, mapBlock, Sort.ahead, Array.getElem?_modify, hb, onCells]
theorem grownBy_put (d : Array β) : w.grownBy (grow (putRow enc1 (Sort.ahead w n) g 0 d) os) (some g) := by
  refine ⟨rfl, rfl, rfl, by simp, fun k hk hne => ?_⟩
  rw [heap_grow_old _ _ (by simpa using hk)]
  have : g ≠ k := fun e => hne (by rw [e])
  simp [putRow, mapBlock, Sort.ahead, Array.getElem?_modify, this]
theorem take_put (cur : Array Value) (ts : List β) (h : ts.length ≤ cur.size) : (putCells enc1 0 ts.toArray cur).toList.take ts.length = ts.map enc1 := by
  apply List.ext_getElem?
  intro j
  by_cases hj : j < ts.length
  · rw [List.getElem?_take_of_lt hj, Array.getElem?_toList]
    simp [putCells, hj, show j < cur.size by omega]
  · rw [List.getElem?_take_eq_none (by omega), List.getElem?_eq_none (by simp; omega)]
end

section
variable {α β : Type} [Inhabited β] {enc : α → List Value} {e : TypeId} {k B : Nat}
theorem own_put {w : World} {g cap n : Nat} {os : Array Obj} {L L' : List α} (enc1 : β → Value) (ts : List β) (h : Own enc e k B w (.slice (some ⟨g, 0, none⟩) L.length cap) L) (hm : ts.map enc1 = flat enc L') (hl : L'.length = L.length) (hk : ∀ x, (enc x).length = k) :
    Own enc e k B (grow (putRow enc1 (Sort.ahead w n) g 0 ts.toArray) os) (.slice (some ⟨g, 0, none⟩) L.length cap) L' := by
  obtain ⟨h0, h⟩ := h
  rcases h with ⟨hv, _⟩ | ⟨g', cap', cur, hv, hb, hg, h1, h2, h3, h4⟩
  · cases hv
  · simp only [Value.slice.injEq, Option.some.injEq, Addr.mk.injEq, and_true, true_and] at hv
    obtain ⟨rfl, rfl⟩ := hv
    have hlen : ts.length = L.length * k := by
      have := congrArg List.length hm
      rw [List.length_map, flat_len enc hk, hl] at this
      exact this
    refine ⟨by rw [flat_len enc hk], .inr ⟨g, cap, _, by rw [hl], hb, heap_put ts.toArray hg, by rw [hl]; exact h1, h2, by simp [putCells, h3], ?_⟩⟩
    rw [← hm, hl, ← hlen]
    exact take_put cur ts (by rw [hlen, h3]; exact Nat.mul_le_mul_right _ h1)
theorem own_cut {w : World} {g cap : Nat} {A Z : List α} (h : Own enc e k B w (.slice (some ⟨g, 0, none⟩) (A ++ Z).length cap) (A ++ Z)) (hk : ∀ x, (enc x).length = k) : Own enc e k B w (.slice (some ⟨g, 0, none⟩) A.length cap) A := by
  obtain ⟨h0, h⟩ := h
  rcases h with ⟨hv, _⟩ | ⟨g', cap', cur, hv, hb, hg, h1, h2, h3, h4⟩
  · cases hv
  · simp only [Value.slice.injEq, Option.some.injEq, Addr.mk.injEq, and_true, true_and] at hv
    obtain ⟨rfl, rfl⟩ := hv
    refine ⟨by rw [flat_len enc hk], .inr ⟨g, cap, cur, rfl, hb, hg, by simp at h1; omega, h2, h3, ?_⟩⟩
    have e1 : A.length * k ≤ (A ++ Z).length * k := Nat.mul_le_mul_right _ (by simp)
    have : cur.toList.take (A.length * k) = (cur.toList.take ((A ++ Z).length * k)).take (A.length * k) := by rw [List.take_take, Nat.min_eq_left e1]
    rw [this, h4, flat_append, ← flat_len enc hk A, List.take_left]
end
theorem flat_ie (L : List Int) : L.map (Value.int .i64) = flat ie L := by
  induction L with
  | nil => rfl
  | cons x L ih => rw [flat_cons, List.map_cons, ih]; rfl
theorem holds_ie {w : World} {B g cap : Nat} {L : List Int} (h : Own ie 2 1 B w (.slice (some ⟨g, 0, none⟩) L.length cap) L) : Holds (Value.int .i64) w g 0 L.toArray := by
  intro j hj
  have hj' : j < L.length := by simpa using hj
  refine ⟨?_, World.ownsRow.frozenAt h _⟩
  have := h.cell ie_len hj' 0 _ rfl
  rw [show 0 + j = j * 1 + 0 by omega, this]
  simp [hj']
/-- the cells of a row of rectangles, as the library's sort has them -/
theorem flatK_list (inh : Inhabited Rg.Rc) (d : Array Rg.Rc) : (flatK rc 4 d).toList = flat rc d.toList := by
  have hlen : (flatK rc 4 d).toList.length = (flat rc d.toList).length := by
    rw [Array.length_toList, size_flatK, flat_len rc rc_len, Array.length_toList]
  apply List.ext_getElem hlen
  intro t h1 h2
  have ht : t < d.size * 4 := by rw [Array.length_toList, size_flatK] at h1; exact h1
  have hi : t / 4 < d.toList.length := by rw [Array.length_toList]; omega
  have hm : t % 4 < 4 := Nat.mod_lt _ (by decide)
  have e1 : (flatK rc 4 d).toList[t] = (flatK rc 4 d)[t]! := by
    rw [Array.getElem_toList, getElem!_pos _ t (by rw [size_flatK]; exact ht)]
  rw [e1, get_flatK rc 4 d t ht]
  have e2 := flat_at rc rc_len d.toList (t / 4) hi (t % 4) hm
  rw [show t / 4 * 4 + t % 4 = t by omega, List.getElem?_eq_getElem h2] at e2
  have e3 : d[t / 4]! = d.toList[t / 4] := by
    rw [Array.getElem_toList, getElem!_pos _ (t / 4) (by rw [Array.length_toList] at hi; exact hi)]
  rw [e3]
  have h3 : t % 4 < (rc d.toList[t / 4]).length := by rw [rc_len]; exact hm
  rw [List.getElem?_eq_getElem h3] at e2
  rw [getElem!_pos (rc d.toList[t / 4]) (t % 4) h3]
  exact (Option.some.inj e2).symm
theorem holds_rc (inh : Inhabited Rg.Rc) {w : World} {B g cap : Nat} {L : List Rg.Rc} (h : Own rc 28 4 B w (.slice (some ⟨g, 0, none⟩) L.length cap) L) : HoldsK rc 4 w g 0 L.toArray := by
  intro j hj
  have hj' : j < L.length * 4 := by rw [size_flatK] at hj; simpa using hj
  refine ⟨?_, World.ownsRow.frozenAt h _⟩
  rw [Nat.zero_add, World.ownsRow.cellAt h j hj']
  have e := flatK_list inh L.toArray
  have e' : (flatK rc 4 L.toArray)[j]! = (flatK rc 4 L.toArray).toList[j]'(by simpa using hj) := by
    rw [Array.getElem_toList, getElem!_pos _ j hj]
  simp only [id]
  rw [e']
  have hlt : j < (flat rc L).length := by rw [flat_len rc rc_len]; exact hj'
  rw [List.getElem?_eq_getElem hlt]
  congr 1
  have : (flatK rc 4 L.toArray).toList = flat rc L := e
  simp only [this]
end Go.Proofs.Ytkbpdgghnlnakaa
