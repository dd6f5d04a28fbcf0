/- Words: what was there stands; rows and slices; bytes. -/
import Derived.Test.YtbknbffmpnomlaaRows
import Derived.WalkKit
import Derived.WalkSpells
import Derived.WalkLawsBesides
import Derived.Laws.AppendOwn
import Derived.Laws.AppendOwnNone
import Derived.Laws.OwnMore
import Derived.OneCell
import Derived.Laws.BytesArg
import Derived.Lib.Strings
import Derived.Lib.Slices
import Derived.Lib.Walk
import Derived.Lib.Bytes2
namespace Go.Proofs.Ytbknbffmpnomlaa
open Go.RowKit
set_option linter.unusedVariables false
set_option linter.unusedSimpArgs false
theorem hid {p : Prop} (h : p) : Hid p := h
/-- nothing that was there has turned -/
def Q (w w' : World) : Prop := Below w.heap.size w w'
theorem Q.refl (w : World) : Q w w := Below.refl _ _
theorem Q.trans {a b c : World} (h : Q a b) (k : Q b c) : Q a c := Below.trans h (Below.mono k h.size)
theorem Q.drew {a w : World} (h : Q a w) : Q a w.drew := Below.drew h
theorem Q.drewN {a w : World} (h : Q a w) (n : Nat) : Q a (w.drewN n) := Go.below_drewN h n
theorem Q.alloc {a w : World} (h : Q a w) (o : Obj) : Q a (w.alloc o) := Below.alloc h h.size o
theorem Q.cell {a w : World} (h : Q a w) {b o : Nat} (hb : b < a.heap.size) : w.cell? ⟨b, o, none⟩ = a.cell? ⟨b, o, none⟩ := Below.cell h hb
theorem Q.lt {a w : World} (h : Q a w) {b : Nat} (hb : b < a.heap.size) : b < w.heap.size := Nat.lt_of_lt_of_le hb h.size
theorem Q.setCell {a w : World} (h : Q a w) {b k : Nat} (hb : a.heap.size ≤ b) (v : Value) : Q a (w.setCell ⟨b, k, none⟩ v) := Below.setCell h hb v
theorem ret_int {k : IntKind} {a b : Int} (h : a = b) : Ending.returned (.int k a) = .returned (.int k b) := by rw [h]
theorem ret_bool {a b : Bool} (h : a = b) : Ending.returned (.bool a) = .returned (.bool b) := by rw [h]
theorem ret_str {a b : ByteArray} (h : a = b) : Ending.returned (.string a) = .returned (.string b) := by rw [h]
theorem Q.block {a w : World} (h : Q a w) {b : Nat} (hb : b < a.heap.size) : w.heap[b]? = a.heap[b]? := Below.block h b hb
section
variable {α : Type} (enc : α → List Value)
def flat (L : List α) : List Value := L.flatMap enc
theorem flat_nil : flat enc [] = [] := rfl
theorem flat_cons (x : α) (L : List α) : flat enc (x :: L) = enc x ++ flat enc L := by unfold flat; simp
theorem flat_append (L L' : List α) : flat enc (L ++ L') = flat enc L ++ flat enc L' := by unfold flat; simp
theorem flat_snoc (L : List α) (x : α) : flat enc (L ++ [x]) = flat enc L ++ enc x := by unfold flat; simp
theorem flat_len {k : Nat} (hk : ∀ x, (enc x).length = k) (L : List α) : (flat enc L).length = L.length * k := by
  induction L with
  | nil => simp [flat]
  | cons x L ih => rw [flat_cons, List.length_append, ih, hk, List.length_cons, Nat.succ_mul]; omega
theorem flat_at {k : Nat} (hk : ∀ x, (enc x).length = k) (L : List α) (i : Nat) (h : i < L.length) (j : Nat) (hj : j < k) : (flat enc L)[i * k + j]? = (enc L[i])[j]? := by
  induction L generalizing i with
  | nil => simp at h
  | cons x L ih =>
    rw [flat_cons]
    cases i with
    | zero =>
      rw [Nat.zero_mul, Nat.zero_add, List.getElem?_append_left (by rw [hk]; exact hj)]
      simp
    | succ i =>
      have e : (i + 1) * k + j = k + (i * k + j) := by rw [Nat.succ_mul]; omega
      rw [e, List.getElem?_append_right (by rw [hk]; omega), hk, Nat.add_sub_cancel_left, ih i (by simpa using h)]
      simp
/-- the cells of one -/
def Ats (W : World) (b o : Nat) (x : α) : Prop := ∀ (j : Nat) (u : Value), (enc x)[j]? = some u → W.cell? ⟨b, o + j, none⟩ = some u
variable {enc}
theorem Ats.on {W W' : World} {b o : Nat} {x : α} (h : Ats enc W b o x) (q : Q W W') : Ats enc W' b o x := fun j u hu =>
  (q.cell (World.block_lt_of_cell? W ⟨b, o + j, none⟩ (h j u hu))).trans (h j u hu)
theorem Ats.blk {W W' : World} {b o : Nat} {x : α} (h : Ats enc W b o x) (q : W'.heap[b]? = W.heap[b]?) : Ats enc W' b o x := fun j u hu =>
  (World.cell?_of_block (w := W) (w' := W') (a := ⟨b, o + j, none⟩) q).trans (h j u hu)
variable (enc)
/-- a slice that reads as these; k: the cells of an element -/
def Sl (k : Nat) (W : World) (v : Value) (L : List α) : Prop :=
  ∃ (ao : Option Addr) (cap : Nat), v = .slice ao L.length cap ∧ L.length ≤ cap ∧ cap ≤ maxLen ∧ (0 < L.length → ∃ b off, ao = some ⟨b, off, none⟩ ∧ ∀ i (h : i < L.length), Ats enc W b (off + i * k) L[i])
variable {enc}
variable {k : Nat}
theorem Sl.on {W W' : World} {v : Value} {L : List α} (h : Sl enc k W v L) (q : Q W W') : Sl enc k W' v L := by
  obtain ⟨ao, cap, hv, h1, h2, h⟩ := h
  refine ⟨ao, cap, hv, h1, h2, fun hl => ?_⟩
  obtain ⟨b, off, ha, hc⟩ := h hl
  exact ⟨b, off, ha, fun i hi => (hc i hi).on q⟩
theorem Sl.len {W : World} {v : Value} {L : List α} (h : Sl enc k W v L) : ∃ (ao : Option Addr) (cap : Nat), v = .slice ao L.length cap ∧ L.length ≤ cap ∧ cap ≤ maxLen := by
  obtain ⟨ao, cap, hv, h1, h2, _⟩ := h
  exact ⟨ao, cap, hv, h1, h2⟩
theorem Sl.at {W : World} {v : Value} {L : List α} (h : Sl enc k W v L) {i : Nat} (hi : i < L.length) : ∃ b off cap, v = .slice (some ⟨b, off, none⟩) L.length cap ∧ L.length ≤ cap ∧ cap ≤ maxLen ∧ Ats enc W b (off + i * k) L[i] := by
  obtain ⟨ao, cap, hv, h1, h2, h⟩ := h
  obtain ⟨b, off, ha, hc⟩ := h (by omega)
  subst ha
  exact ⟨b, off, cap, hv, h1, h2, hc i hi⟩
theorem sl_nil (W : World) : Sl enc k W (.slice none 0 0) [] := ⟨none, 0, rfl, Nat.le_refl _, Nat.zero_le _, fun h => absurd h (by simp)⟩
/-- a row of the call's own -/
def Own (enc : α → List Value) (e : TypeId) (k B : Nat) (W : World) (v : Value) (L : List α) : Prop := W.ownsRow B e k v L.length (flat enc L)
variable {e : TypeId} {B : Nat}
theorem own_nil (W : World) : Own enc e k B W (.slice none 0 0) [] := World.ownsRow_nil _ _ _ _
theorem Own.sl {W : World} {v : Value} {L : List α} (h : Own enc e k B W v L) (hk : ∀ x, (enc x).length = k) (hp : 0 < k) : Sl enc k W v L := by
  have h0 := h
  obtain ⟨hl, h⟩ := h
  rcases h with ⟨hv, hn⟩ | ⟨g, cap, cur, hv, hb, hg, h1, h2, h3, h4⟩
  · exact ⟨none, 0, by rw [hv, hn], by omega, Nat.zero_le _, fun h => by omega⟩
  · refine ⟨some ⟨g, 0, none⟩, cap, hv, h1, h2, fun _ => ⟨g, 0, rfl, fun i hi j u hu => ?_⟩⟩
    have hj : j < k := by rw [← hk L[i]]; exact (List.getElem?_eq_some_iff.1 hu).1
    unfold Own at h0
    rw [hv] at h0
    have : i * k + j < L.length * k := Nat.lt_of_lt_of_le (Nat.add_lt_add_left hj _) (by rw [← Nat.succ_mul]; exact Nat.mul_le_mul_right _ hi)
    rw [Nat.zero_add, h0.cellAt (i * k + j) this, flat_at enc hk L i hi j hj]
    exact hu
theorem Own.alloc {W : World} {v : Value} {L : List α} (h : Own enc e k B W v L) (o : Obj) : Own enc e k B (W.alloc o) v L := World.ownsRow.alloc h o
theorem Own.on {W W' : World} {v : Value} {L : List α} (h : Own enc e k B W v L) (q : Q W W') : Own enc e k B W' v L := by
  obtain ⟨hl, h⟩ := h
  refine ⟨hl, ?_⟩
  rcases h with h | ⟨g, cap, cur, hv, hb, hg, h1, h2, h3, h4⟩
  · exact .inl h
  · have hlt : g < W.heap.size := by
      rcases Nat.lt_or_ge g W.heap.size with h' | h'
      · exact h'
      · rw [Array.getElem?_eq_none h'] at hg; cases hg
    exact .inr ⟨g, cap, cur, hv, hb, by rw [Below.block q g hlt]; exact hg, h1, h2, h3, h4⟩
theorem Own.blk {W : World} {v : Value} {L : List α} (h : Own enc e k B W v L) : ∀ j, v.ownBlock = some j → B ≤ j := by
  intro j hj
  obtain ⟨_, h⟩ := h
  rcases h with ⟨hv, _⟩ | ⟨g, cap, cur, hv, hg, _⟩
  · rw [hv] at hj; cases hj
  · rw [hv] at hj
    cases hj
    exact hg
theorem Own.lt {W : World} {v : Value} {L : List α} (h : Own enc e k B W v L) : ∀ j, v.ownBlock = some j → j < W.heap.size := by
  intro j hj
  obtain ⟨_, h⟩ := h
  rcases h with ⟨hv, _⟩ | ⟨g, cap, cur, hv, _, hg, _⟩
  · rw [hv] at hj; cases hj
  · rw [hv] at hj
    cases hj
    rcases Nat.lt_or_ge g W.heap.size with h' | h'
    · exact h'
    · rw [Array.getElem?_eq_none h'] at hg; cases hg
theorem Own.mono {W : World} {v : Value} {L : List α} {B' : Nat} (h : Own enc e k B W v L) (hB : B' ≤ B) : Own enc e k B' W v L := by
  obtain ⟨hl, h⟩ := h
  refine ⟨hl, ?_⟩
  rcases h with h | ⟨g, cap, cur, hv, hb, hr⟩
  · exact .inl h
  · exact .inr ⟨g, cap, cur, hv, by omega, hr⟩
/-- another row, of another type, grew, or was written -/
theorem Own.grown {W W' : World} {row : Option Nat} {v : Value} {L : List α} (h : Own enc e k B W v L) (g : W.grownBy W' row) (hr : v.ownBlock = none ∨ v.ownBlock ≠ row) : Own enc e k B W' v L := World.ownsRow.kept h g hr
theorem own_snoc {W : World} {v : Value} {L : List α} {x : α} (h : W.ownsRow B e k v (L.length + 1) (flat enc L ++ enc x)) : Own enc e k B W v (L ++ [x]) := by
  unfold Own
  rw [flat_snoc, List.length_append]
  exact h
theorem own_snoc' {W : World} {v : Value} {L : List α} {x : α} {n : Nat} (h : W.ownsRow B e k v n (flat enc L ++ enc x)) (hn : n = L.length + 1) : Own enc e k B W v (L ++ [x]) := own_snoc (hn ▸ h)
theorem news_new (W : World) (cs : List Value) (t : TypeId) : ∀ j u, cs[j]? = some u → (W.alloc (.cells cs.toArray t)).cell? ((⟨W.heap.size, 0, none⟩ : Addr).add j) = some u := by
  intro j u hu
  have hj : j < cs.length := (List.getElem?_eq_some_iff.1 hu).1
  have e : ((⟨W.heap.size, 0, none⟩ : Addr).add j) = ⟨W.heap.size, j, none⟩ := by
    unfold Addr.add
    by_cases h : j = 0
    · subst h; simp
    · simp [h]
  rw [e]
  rw [World.cell?_alloc_new]
  simpa using hu
theorem news_at (W : World) (cs : List Value) (t : TypeId) (b : Nat) (hb : b = W.heap.size) : ∀ j u, cs[j]? = some u → (W.alloc (.cells cs.toArray t)).cell? ((⟨b, 0, none⟩ : Addr).add j) = some u := by
  subst hb
  exact news_new W cs t
theorem Own.shape {W : World} {v : Value} {L : List α} (h : Own enc e k B W v L) (hl : 0 < L.length) : ∃ g cap, v = .slice (some ⟨g, 0, none⟩) L.length cap ∧ B ≤ g ∧ g < W.heap.size ∧ L.length ≤ cap ∧ cap ≤ maxLen := by
  have hlt := h.lt
  obtain ⟨_, h⟩ := h
  rcases h with ⟨hv, hn⟩ | ⟨g, cap, cur, hv, hb, hg, h1, h2, _⟩
  · omega
  · exact ⟨g, cap, hv, hb, hlt g (by rw [hv]; rfl), h1, h2⟩
theorem Own.cell {W : World} {g cap i : Nat} {L : List α} (h : Own enc e k B W (.slice (some ⟨g, 0, none⟩) L.length cap) L) (hk : ∀ x, (enc x).length = k) (hi : i < L.length) : Ats enc W g (i * k) L[i] := by
  intro j u hu
  have hj : j < k := by rw [← hk L[i]]; exact (List.getElem?_eq_some_iff.1 hu).1
  have : i * k + j < L.length * k := Nat.lt_of_lt_of_le (Nat.add_lt_add_left hj _) (by rw [← Nat.succ_mul]; exact Nat.mul_le_mul_right _ hi)
  rw [World.ownsRow.cellAt h (i * k + j) this, flat_at enc hk L i hi j hj]
  exact hu
theorem flat_set {L : List α} (hk : ∀ x, (enc x).length = k) (i : Nat) (hi : i < L.length) (j : Nat) (hj : j < k) (u : Value) (x' : α) (hx : enc x' = (enc L[i]).set j u) : (flat enc L).set (i * k + j) u = flat enc (L.set i x') := by
  induction L generalizing i with
  | nil => simp at hi
  | cons x L ih =>
    rw [flat_cons]
    cases i with
    | zero =>
      simp only [List.set_cons_zero, List.getElem_cons_zero] at *
      rw [flat_cons, hx, Nat.zero_mul, Nat.zero_add, List.set_append_left _ _ (by rw [hk]; exact hj)]
    | succ i =>
      simp only [List.set_cons_succ, List.getElem_cons_succ] at *
      have e : (i + 1) * k + j = k + (i * k + j) := by rw [Nat.succ_mul]; omega
      rw [flat_cons, e, List.set_append_right _ _ (by rw [hk]; omega), hk, Nat.add_sub_cancel_left, ih i (by simpa using hi) hx]
theorem Own.set {W : World} {g cap i : Nat} {L : List α} (h : Own enc e k B W (.slice (some ⟨g, 0, none⟩) L.length cap) L) (hk : ∀ x, (enc x).length = k) (hi : i < L.length) (j : Nat) (hj : j < k) (u : Value) (x' : α) (hx : enc x' = (enc L[i]).set j u) :
    Own enc e k B (W.setCell ⟨g, i * k + j, none⟩ u) (.slice (some ⟨g, 0, none⟩) L.length cap) (L.set i x') := by
  have h1 := (World.ownsRow.stored h (i * k + j) u).1
  rw [flat_set hk i hi j hj u x' hx] at h1
  unfold Own
  rw [List.length_set]
  exact h1
theorem Sl.cells {W : World} {v : Value} {L : List α} (h : Sl enc k W v L) (hk : ∀ x, (enc x).length = k) (hp : 0 < k) : ∃ (ao : Option Addr) (cap : Nat), v = .slice ao L.length cap ∧ (L = [] ∨ ∃ ad, ao = some ad ∧ ∀ j u, (flat enc L)[j]? = some u → W.cell? (ad.add j) = some u) := by
  obtain ⟨ao, cap, hv, h1, h2, h⟩ := h
  refine ⟨ao, cap, hv, ?_⟩
  rcases Nat.eq_zero_or_pos L.length with h0 | h0
  · exact .inl (List.eq_nil_of_length_eq_zero h0)
  · obtain ⟨b, off, rfl, hc⟩ := h h0
    refine .inr ⟨_, rfl, fun j u hu => ?_⟩
    have hj : j < L.length * k := by rw [← flat_len enc hk L]; exact (List.getElem?_eq_some_iff.1 hu).1
    have hi : j / k < L.length := Nat.div_lt_of_lt_mul (by rw [Nat.mul_comm]; exact hj)
    have hm : j % k < k := Nat.mod_lt _ hp
    have ej : j / k * k + j % k = j := by rw [Nat.mul_comm]; exact Nat.div_add_mod j k
    have e : ((⟨b, off, none⟩ : Addr).add j) = ⟨b, off + j, none⟩ := by
      unfold Addr.add
      by_cases h : j = 0
      · subst h; simp
      · simp [h]
    rw [e]
    have h5 := flat_at enc hk L (j / k) hi (j % k) hm
    rw [ej, hu] at h5
    have h6 := hc (j / k) hi (j % k) u h5.symm
    rw [show off + j / k * k + j % k = off + j by omega] at h6
    exact h6
end
/-- what an append asks of the element's type -/
def Inf (e : TypeId) (z : Value) (k by' : Nat) (i : TypeInfo) : Prop := Try.prog.info? e = some i ∧ i.zero = some z ∧ i.size = k ∧ i.bytes = by'
theorem inf_of {e : TypeId} {z : Value} {k b : Nat} (h : (Try.prog.info? e).map (fun i => (i.zero, i.size, i.bytes)) = some (some z, k, b)) : ∃ i, Inf e z k b i := by
  obtain ⟨i, hi, hz⟩ := Option.map_eq_some_iff.1 h
  simp only [Prod.mk.injEq] at hz
  exact ⟨i, hi, hz.1, hz.2.1, hz.2.2⟩
/-- bytes as cells -/
def bc (L : List UInt8) : List Value := L.map fun b => .int .u8 b.toNat
theorem bc_len (L : List UInt8) : (bc L).length = L.length := by simp [bc]
theorem bc_app (L M : List UInt8) : bc (L ++ M) = bc L ++ bc M := by simp [bc]
/-- a byte -/
def eb (b : UInt8) : List Value := [.int .u8 b.toNat]
theorem eb_len (b : UInt8) : (eb b).length = 1 := rfl
theorem flat_eb (L : List UInt8) : flat eb L = bc L := by
  induction L with
  | nil => rfl
  | cons x L ih => rw [flat_cons, ih]; rfl
/-- the front is cut off -/
theorem run_from (W : World) (ao : Option Addr) (n cap k : Nat) (hk : k ≤ n) (hn : n ≤ cap) (hc : cap ≤ maxLen) : (Instr.sliceAt 30 (.slice ao n cap) (some (.int .i64 k)) none none).run Try.prog W = .ok (.slice (if cap = k then ao else ao.map (·.add k)) (n - k) (cap - k)) W := by
  have u25 := Try.underlying30
  have h1 : (cap : Int) ≤ 9223372036854775807 := by unfold maxLen at hc; omega
  have h2 : (k : Int) ≤ (n : Int) := by omega
  have h3 : (n : Int) ≤ (cap : Int) := by omega
  have h4 : (k : Int) ≤ (cap : Int) := by omega
  go_simp
theorem run_to (W : World) (ao : Option Addr) (n cap k : Nat) (hk : k ≤ n) (hn : n ≤ cap) (hc : cap ≤ maxLen) : (Instr.sliceAt 30 (.slice ao n cap) none (some (.int .i64 k)) none).run Try.prog W = .ok (.slice (if cap = 0 then ao else ao.map (·.add 0)) k cap) W := by
  have u25 := Try.underlying30
  have h1 : (cap : Int) ≤ 9223372036854775807 := by unfold maxLen at hc; omega
  have h2 : (k : Int) ≤ (n : Int) := by omega
  have h3 : (n : Int) ≤ (cap : Int) := by omega
  have h4 : (k : Int) ≤ (cap : Int) := by omega
  go_simp
theorem add_lit (g o k : Nat) : (⟨g, o, none⟩ : Addr).add k = ⟨g, o + k, none⟩ := by
  unfold Addr.add
  by_cases h : k = 0
  · subst h; simp
  · simp [h]
theorem cut_from {w0 : World} {ao : Option Addr} {n cap : Nat} {D : List UInt8} (h : Sl eb 1 w0 (.slice ao n cap) D) (k : Nat) (hk : k ≤ D.length) : Sl eb 1 w0 (.slice (if cap = k then ao else ao.map (·.add k)) (n - k) (cap - k)) (D.drop k) := by
  obtain ⟨ao', cap', hv, h1, h2, h⟩ := h
  cases hv
  refine ⟨_, _, by rw [List.length_drop], by rw [List.length_drop]; omega, by omega, fun hl => ?_⟩
  rw [List.length_drop] at hl
  obtain ⟨g, o, rfl, hc⟩ := h (by omega)
  refine ⟨g, o + k, ?_, fun i hi => ?_⟩
  · rw [if_neg (by omega)]
    show some ((⟨g, o, none⟩ : Addr).add k) = _
    rw [add_lit]
  · rw [List.length_drop] at hi
    have := hc (k + i) (by omega)
    rw [List.getElem_drop]
    rw [show o + k + i * 1 = o + (k + i) * 1 by omega]
    exact this
theorem cut_to {w0 : World} {ao : Option Addr} {n cap : Nat} {D : List UInt8} (h : Sl eb 1 w0 (.slice ao n cap) D) (k : Nat) (hk : k ≤ D.length) : Sl eb 1 w0 (.slice (if cap = 0 then ao else ao.map (·.add 0)) k cap) (D.take k) := by
  obtain ⟨ao', cap', hv, h1, h2, h⟩ := h
  cases hv
  refine ⟨_, _, by rw [List.length_take]; congr 1; omega, by rw [List.length_take]; omega, h2, fun hl => ?_⟩
  rw [List.length_take] at hl
  obtain ⟨g, o, rfl, hc⟩ := h (by omega)
  refine ⟨g, o, ?_, fun i hi => ?_⟩
  · rw [if_neg (by omega)]
    show some ((⟨g, o, none⟩ : Addr).add 0) = _
    rw [add_lit]
    rfl
  · rw [List.length_take] at hi
    rw [List.getElem_take]
    exact hc i (by omega)
/-- what a slice's front and rest are -/
theorem sl_from {w0 : World} {v : Value} {D : List UInt8} (h : Sl eb 1 w0 v D) (k : Nat) (hk : k ≤ D.length) : ∃ a c, Hid (∀ W, (Instr.sliceAt 30 v (some (.int .i64 k)) none none).run Try.prog W = .ok (.slice a (D.length - k) c) W) ∧ Sl eb 1 w0 (.slice a (D.length - k) c) (D.drop k) := by
  obtain ⟨ao, cap, rfl, h1, h2⟩ := h.len
  exact ⟨_, _, hid (fun W => run_from W ao D.length cap k hk h1 h2), cut_from h k hk⟩
theorem sl_to {w0 : World} {v : Value} {D : List UInt8} (h : Sl eb 1 w0 v D) (k : Nat) (hk : k ≤ D.length) : ∃ a c, Hid (∀ W, (Instr.sliceAt 30 v none (some (.int .i64 k)) none).run Try.prog W = .ok (.slice a k c) W) ∧ Sl eb 1 w0 (.slice a k c) (D.take k) := by
  obtain ⟨ao, cap, rfl, h1, h2⟩ := h.len
  exact ⟨_, _, hid (fun W => run_to W ao D.length cap k hk h1 h2), cut_to h k hk⟩
theorem str_nums (D : List UInt8) : strOfNums (D.map fun b => (b.toNat : Int)) = ⟨D.toArray⟩ := by
  unfold strOfNums
  congr 2
  induction D with
  | nil => rfl
  | cons x D ih => simp [ih]
theorem sl_conv {W : World} {ao : Option Addr} {n cap : Nat} {D : List UInt8} (h : Sl eb 1 W (.slice ao n cap) D) : (convert 30 9 (.slice ao n cap)).run Try.prog W = .ok (.string ⟨D.toArray⟩) W := by
  obtain ⟨ao', cap', hv, h1, h2, h⟩ := h
  cases hv
  rcases Nat.eq_zero_or_pos D.length with h0 | h0
  · obtain rfl : D = [] := List.eq_nil_of_length_eq_zero h0
    show (convert 30 9 (.slice ao 0 cap)).run Try.prog W = _
    rw [run_convert_bytes_string W 30 9 5 _ 0 cap Try.underlying30 (by kernel_rfl) Try.underlying9]
    cases ao <;> simp [Conv.bytesToString, loadCells]
    all_goals rfl
  · obtain ⟨g, o, rfl, hc⟩ := h h0
    rw [run_convert_bytes_arg (P := Try.prog) W 30 5 Try.underlying30 (by kernel_rfl) g o D.length cap (D.map fun b => (b.toNat : Int)) (by simp) (fun i hi => by
      have := hc i hi 0 (.int .u8 D[i].toNat) rfl
      simpa [List.getD, hi] using this) 9 Try.underlying9, str_nums]
end Go.Proofs.Ytbknbffmpnomlaa
