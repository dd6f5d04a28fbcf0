/- Words for the walks: nothing that was there has turned; slic. -/
import Derived.Test.YtcgddnliiondoaaGreatDoorRows
import Derived.Test.YtcgddnliiondoaaGreatDoorKp01
import Derived.WalkKit
import Derived.WalkSpells
import Derived.WalkLawsBesides
import Derived.Laws.AppendOwn
import Derived.Laws.AppendOwnNone
import Derived.Laws.OwnMore
import Derived.BigQuiet
import Derived.Deep.AppendLies
import Derived.OneCell
set_option linter.unusedVariables false
set_option linter.unusedSimpArgs false
set_option maxRecDepth 100000
set_option maxHeartbeats 8000000
namespace Go.Proofs.YtcgddnliiondoaaGreatDoor.R
open Go.RowKit
set_option linter.unusedVariables false
set_option linter.unusedSimpArgs false
theorem hid {p : Prop} (h : p) : Hid p := h
theorem ret_int {k : IntKind} {a b : Int} (h : a = b) : Ending.returned (.int k a) = .returned (.int k b) := by rw [h]
theorem ret_bool {a b : Bool} (h : a = b) : Ending.returned (.bool a) = .returned (.bool b) := by rw [h]
theorem max_if (a b : Int) : max a b = if a < b then b else a := by
  by_cases h : a < b
  · rw [if_pos h]; omega
  · rw [if_neg h]; omega
def Q (w w' : World) : Prop := Below w.heap.size w w'
theorem Q.refl (w : World) : Q w w := Below.refl _ _
theorem Q.trans {a b c : World} (h : Q a b) (k : Q b c) : Q a c := Below.trans h (Below.mono k h.size)
theorem Q.drew {a w : World} (h : Q a w) : Q a w.drew := Below.drew h
theorem Q.drewN {a w : World} (h : Q a w) (n : Nat) : Q a (w.drewN n) := below_drewN h n
theorem Q.alloc {a w : World} (h : Q a w) (o : Obj) : Q a (w.alloc o) := Below.alloc h h.size o
theorem Q.cell {a w : World} (h : Q a w) {b o : Nat} (hb : b < a.heap.size) : w.cell? ⟨b, o, none⟩ = a.cell? ⟨b, o, none⟩ := Below.cell h hb
theorem Q.lt {a w : World} (h : Q a w) {b : Nat} (hb : b < a.heap.size) : b < w.heap.size := Nat.lt_of_lt_of_le hb h.size
theorem Q.block {a w : World} (h : Q a w) {b : Nat} (hb : b < a.heap.size) : w.heap[b]? = a.heap[b]? := Below.block h b hb
def rc (x : Rg.Rc) : List Value := [.int .i64 x.a, .int .i64 x.b, .int .i64 x.c, .int .i64 x.d]
def sp (x : Rg.Sp) : List Value := [.int .i64 x.f, .int .i64 x.t]
def ie (x : Int) : List Value := [.int .i64 x]
theorem rc_len (x : Rg.Rc) : (rc x).length = 4 := rfl
theorem sp_len (x : Rg.Sp) : (sp x).length = 2 := rfl
theorem ie_len (x : Int) : (ie x).length = 1 := rfl
theorem rc_one (x : Rg.Rc) : ∀ u ∈ rc x, u.oneCell' = true := by
  intro u hu
  simp [rc] at hu
  rcases hu with rfl | rfl | rfl | rfl <;> rfl
theorem sp_one (x : Rg.Sp) : ∀ u ∈ sp x, u.oneCell' = true := by
  intro u hu
  simp [sp] at hu
  rcases hu with rfl | rfl <;> rfl
section
variable {α : Type} (enc : α → List Value)
def flat (L : List α) : List Value := L.flatMap enc
theorem flat_cons (x : α) (L : List α) : flat enc (x :: L) = enc x ++ flat enc L := by unfold flat; simp
theorem flat_append (L L' : List α) : flat enc (L ++ L') = flat enc L ++ flat enc L' := by unfold flat; simp
theorem flat_snoc (L : List α) (x : α) : flat enc (L ++ [x]) = flat enc L ++ enc x := by unfold flat; simp
theorem flat_len {k : Nat} (hk : ∀ x, (enc x).length = k) (L : List α) : (flat enc L).length = L.length * k := by
  induction L with
  | nil => simp [flat]
  | cons x L ih => rw [flat_cons, List.length_append, ih, hk, List.length_cons, Nat.succ_mul]; omega
theorem flat_at {k : Nat} (hk : ∀ x, (enc x).length = k) (L : List α) (i : Nat) (h : i < L.length) (j : Nat) (hj : j < k) : (flat enc L)[i * k + j]? = (enc L[i])[j]? := by
  induction L generalizing i with
  | nil => simp at h
  | cons x L ih =>
    rw [flat_cons]
    cases i with
    | zero =>
      rw [Nat.zero_mul, Nat.zero_add, List.getElem?_append_left (by rw [hk]; exact hj)]
      simp
    | succ i =>
      have e : (i + 1) * k + j = k + (i * k + j) := by rw [Nat.succ_mul]; omega
      rw [e, List.getElem?_append_right (by rw [hk]; omega), hk, Nat.add_sub_cancel_left, ih i (by simpa using h)]
      simp
def At (W : World) (b o : Nat) (x : α) : Prop := ∀ (j : Nat) (u : Value), (enc x)[j]? = some u → W.cell? ⟨b, o + j, none⟩ = some u
variable {enc}
theorem At.on {W W' : World} {b o : Nat} {x : α} (h : At enc W b o x) (q : Q W W') : At enc W' b o x := fun j u hu =>
  (q.cell (World.block_lt_of_cell? W ⟨b, o + j, none⟩ (h j u hu))).trans (h j u hu)
theorem At.blk {W W' : World} {b o : Nat} {x : α} (h : At enc W b o x) (q : W'.heap[b]? = W.heap[b]?) : At enc W' b o x := fun j u hu =>
  (World.cell?_of_block (w := W) (w' := W') (a := ⟨b, o + j, none⟩) q).trans (h j u hu)
variable (enc)
def Sl (k : Nat) (W : World) (v : Value) (L : List α) : Prop :=
  ∃ (ao : Option Addr) (cap : Nat), v = .slice ao L.length cap ∧ L.length ≤ cap ∧ cap ≤ maxLen ∧ (0 < L.length → ∃ b off, ao = some ⟨b, off, none⟩ ∧ ∀ i (h : i < L.length), At enc W b (off + i * k) L[i])
variable {enc}
variable {k : Nat}
theorem Sl.on {W W' : World} {v : Value} {L : List α} (h : Sl enc k W v L) (q : Q W W') : Sl enc k W' v L := by
  obtain ⟨ao, cap, hv, h1, h2, h⟩ := h
  refine ⟨ao, cap, hv, h1, h2, fun hl => ?_⟩
  obtain ⟨b, off, ha, hc⟩ := h hl
  exact ⟨b, off, ha, fun i hi => (hc i hi).on q⟩
theorem Sl.len {W : World} {v : Value} {L : List α} (h : Sl enc k W v L) : ∃ (ao : Option Addr) (cap : Nat), v = .slice ao L.length cap ∧ L.length ≤ cap ∧ cap ≤ maxLen := by
  obtain ⟨ao, cap, hv, h1, h2, _⟩ := h
  exact ⟨ao, cap, hv, h1, h2⟩
theorem Sl.at {W : World} {v : Value} {L : List α} (h : Sl enc k W v L) {i : Nat} (hi : i < L.length) : ∃ b off cap, v = .slice (some ⟨b, off, none⟩) L.length cap ∧ L.length ≤ cap ∧ cap ≤ maxLen ∧ At enc W b (off + i * k) L[i] := by
  obtain ⟨ao, cap, hv, h1, h2, h⟩ := h
  obtain ⟨b, off, ha, hc⟩ := h (by omega)
  subst ha
  exact ⟨b, off, cap, hv, h1, h2, hc i hi⟩
theorem sl_nil (W : World) : Sl enc k W (.slice none 0 0) [] := ⟨none, 0, rfl, Nat.le_refl _, Nat.zero_le _, fun h => absurd h (by simp)⟩
def Own (enc : α → List Value) (e : TypeId) (k B : Nat) (W : World) (v : Value) (L : List α) : Prop := W.ownsRow B e k v L.length (flat enc L)
variable {e : TypeId} {B : Nat}
theorem own_nil (W : World) : Own enc e k B W (.slice none 0 0) [] := World.ownsRow_nil _ _ _ _
theorem Own.sl {W : World} {v : Value} {L : List α} (h : Own enc e k B W v L) (hk : ∀ x, (enc x).length = k) (hp : 0 < k) : Sl enc k W v L := by
  have h0 := h
  obtain ⟨hl, h⟩ := h
  rcases h with ⟨hv, hn⟩ | ⟨g, cap, cur, hv, hb, hg, h1, h2, h3, h4⟩
  · exact ⟨none, 0, by rw [hv, hn], by omega, Nat.zero_le _, fun h => by omega⟩
  · refine ⟨some ⟨g, 0, none⟩, cap, hv, h1, h2, fun _ => ⟨g, 0, rfl, fun i hi j u hu => ?_⟩⟩
    have hj : j < k := by rw [← hk L[i]]; exact (List.getElem?_eq_some_iff.1 hu).1
    unfold Own at h0
    rw [hv] at h0
    have : i * k + j < L.length * k := Nat.lt_of_lt_of_le (Nat.add_lt_add_left hj _) (by rw [← Nat.succ_mul]; exact Nat.mul_le_mul_right _ hi)
    rw [Nat.zero_add, h0.cellAt (i * k + j) this, flat_at enc hk L i hi j hj]
    exact hu
theorem Own.alloc {W : World} {v : Value} {L : List α} (h : Own enc e k B W v L) (o : Obj) : Own enc e k B (W.alloc o) v L := World.ownsRow.alloc h o
theorem Own.on {W W' : World} {v : Value} {L : List α} (h : Own enc e k B W v L) (q : Q W W') : Own enc e k B W' v L := by
  obtain ⟨hl, h⟩ := h
  refine ⟨hl, ?_⟩
  rcases h with h | ⟨g, cap, cur, hv, hb, hg, h1, h2, h3, h4⟩
  · exact .inl h
  · have hlt : g < W.heap.size := by
      rcases Nat.lt_or_ge g W.heap.size with h' | h'
      · exact h'
      · rw [Array.getElem?_eq_none h'] at hg; cases hg
    exact .inr ⟨g, cap, cur, hv, hb, by rw [Below.block q g hlt]; exact hg, h1, h2, h3, h4⟩
theorem Own.blk {W : World} {v : Value} {L : List α} (h : Own enc e k B W v L) : ∀ j, v.ownBlock = some j → B ≤ j := by
  intro j hj
  obtain ⟨_, h⟩ := h
  rcases h with ⟨hv, _⟩ | ⟨g, cap, cur, hv, hg, _⟩
  · rw [hv] at hj; cases hj
  · rw [hv] at hj
    cases hj
    exact hg
theorem Own.lt {W : World} {v : Value} {L : List α} (h : Own enc e k B W v L) : ∀ j, v.ownBlock = some j → j < W.heap.size := by
  intro j hj
  obtain ⟨_, h⟩ := h
  rcases h with ⟨hv, _⟩ | ⟨g, cap, cur, hv, _, hg, _⟩
  · rw [hv] at hj; cases hj
  · rw [hv] at hj
    cases hj
    rcases Nat.lt_or_ge g W.heap.size with h' | h'
    · exact h'
    · rw [Array.getElem?_eq_none h'] at hg; cases hg
theorem Own.mono {W : World} {v : Value} {L : List α} {B' : Nat} (h : Own enc e k B W v L) (hB : B' ≤ B) : Own enc e k B' W v L := by
  obtain ⟨hl, h⟩ := h
  refine ⟨hl, ?_⟩
  rcases h with h | ⟨g, cap, cur, hv, hb, hr⟩
  · exact .inl h
  · exact .inr ⟨g, cap, cur, hv, by omega, hr⟩
theorem Own.grown {W W' : World} {row : Option Nat} {v : Value} {L : List α} (h : Own enc e k B W v L) (g : W.grownBy W' row) (hr : v.ownBlock = none ∨ v.ownBlock ≠ row) : Own enc e k B W' v L := World.ownsRow.kept h g hr
theorem own_ne {β : Type} {enc' : β → List Value} {e' : TypeId} {k' B' : Nat} {W : World} {v v' : Value} {L : List α} {L' : List β} (h : Own enc e k B W v L) (h' : Own enc' e' k' B' W v' L') (hne : e ≠ e') : v.ownBlock = none ∨ v.ownBlock ≠ v'.ownBlock := by
  obtain ⟨_, h⟩ := h
  obtain ⟨_, h'⟩ := h'
  rcases h with ⟨hv, _⟩ | ⟨g, cap, cur, hv, hb, hg, _⟩
  · rw [hv]; exact .inl rfl
  · rcases h' with ⟨hv', _⟩ | ⟨g', cap', cur', hv', hb', hg', _⟩
    · rw [hv, hv']; exact .inr (fun h => by cases h)
    · rw [hv, hv']
      refine .inr (fun h => ?_)
      simp only [Value.ownBlock, Option.some.injEq] at h
      subst h
      rw [hg] at hg'
      simp only [Option.some.injEq, Obj.cells.injEq] at hg'
      exact hne hg'.2.1
theorem own_snoc {W : World} {v : Value} {L : List α} {x : α} (h : W.ownsRow B e k v (L.length + 1) (flat enc L ++ enc x)) : Own enc e k B W v (L ++ [x]) := by
  unfold Own
  rw [flat_snoc, List.length_append]
  exact h
theorem own_snoc' {W : World} {v : Value} {L : List α} {x : α} {n : Nat} (h : W.ownsRow B e k v n (flat enc L ++ enc x)) (hn : n = L.length + 1) : Own enc e k B W v (L ++ [x]) := own_snoc (hn ▸ h)
theorem news_new (W : World) (cs : List Value) (t : TypeId) : ∀ j u, cs[j]? = some u → (W.alloc (.cells cs.toArray t)).cell? ((⟨W.heap.size, 0, none⟩ : Addr).add j) = some u := by
  intro j u hu
  have hj : j < cs.length := (List.getElem?_eq_some_iff.1 hu).1
  have e : ((⟨W.heap.size, 0, none⟩ : Addr).add j) = ⟨W.heap.size, j, none⟩ := by
    unfold Addr.add
    by_cases h : j = 0
    · subst h; simp
    · simp [h]
  rw [e]
  rw [World.cell?_alloc_new]
  simpa using hu
theorem news_at (W : World) (cs : List Value) (t : TypeId) (b : Nat) (hb : b = W.heap.size) : ∀ j u, cs[j]? = some u → (W.alloc (.cells cs.toArray t)).cell? ((⟨b, 0, none⟩ : Addr).add j) = some u := by
  subst hb
  exact news_new W cs t
theorem own_eq {W : World} {v : Value} {L L' : List α} (h : Own enc e k B W v L) (e' : L = L') : Own enc e k B W v L' := e' ▸ h
theorem Own.shape {W : World} {v : Value} {L : List α} (h : Own enc e k B W v L) (hl : 0 < L.length) : ∃ g cap, v = .slice (some ⟨g, 0, none⟩) L.length cap ∧ B ≤ g ∧ g < W.heap.size ∧ L.length ≤ cap ∧ cap ≤ maxLen := by
  have hlt := h.lt
  obtain ⟨_, h⟩ := h
  rcases h with ⟨hv, hn⟩ | ⟨g, cap, cur, hv, hb, hg, h1, h2, _⟩
  · omega
  · exact ⟨g, cap, hv, hb, hlt g (by rw [hv]; rfl), h1, h2⟩
theorem Own.cell {W : World} {g cap i : Nat} {L : List α} (h : Own enc e k B W (.slice (some ⟨g, 0, none⟩) L.length cap) L) (hk : ∀ x, (enc x).length = k) (hi : i < L.length) : At enc W g (i * k) L[i] := by
  intro j u hu
  have hj : j < k := by rw [← hk L[i]]; exact (List.getElem?_eq_some_iff.1 hu).1
  have : i * k + j < L.length * k := Nat.lt_of_lt_of_le (Nat.add_lt_add_left hj _) (by rw [← Nat.succ_mul]; exact Nat.mul_le_mul_right _ hi)
  rw [World.ownsRow.cellAt h (i * k + j) this, flat_at enc hk L i hi j hj]
  exact hu
theorem flat_set {L : List α} (hk : ∀ x, (enc x).length = k) (i : Nat) (hi : i < L.length) (j : Nat) (hj : j < k) (u : Value) (x' : α) (hx : enc x' = (enc L[i]).set j u) : (flat enc L).set (i * k + j) u = flat enc (L.set i x') := by
  induction L generalizing i with
  | nil => simp at hi
  | cons x L ih =>
    rw [flat_cons]
    cases i with
    | zero =>
      simp only [List.set_cons_zero, List.getElem_cons_zero] at *
      rw [flat_cons, hx, Nat.zero_mul, Nat.zero_add, List.set_append_left _ _ (by rw [hk]; exact hj)]
    | succ i =>
      simp only [List.set_cons_succ, List.getElem_cons_succ] at *
      have e : (i + 1) * k + j = k + (i * k + j) := by rw [Nat.succ_mul]; omega
      rw [flat_cons, e, List.set_append_right _ _ (by rw [hk]; omega), hk, Nat.add_sub_cancel_left, ih i (by simpa using hi) hx]
theorem Own.set {W : World} {g cap i : Nat} {L : List α} (h : Own enc e k B W (.slice (some ⟨g, 0, none⟩) L.length cap) L) (hk : ∀ x, (enc x).length = k) (hi : i < L.length) (j : Nat) (hj : j < k) (u : Value) (x' : α) (hx : enc x' = (enc L[i]).set j u) :
    Own enc e k B (W.setCell ⟨g, i * k + j, none⟩ u) (.slice (some ⟨g, 0, none⟩) L.length cap) (L.set i x') := by
  have h1 := (World.ownsRow.stored h (i * k + j) u).1
  rw [flat_set hk i hi j hj u x' hx] at h1
  unfold Own
  rw [List.length_set]
  exact h1
end
theorem bx_new {α : Type} (enc : α → List Value) (W : World) (x : α) (t : TypeId) : At enc (W.alloc (.cells (enc x).toArray t)) W.heap.size 0 x := by
  intro j u hu
  rw [Nat.zero_add, World.cell?_alloc_new]
  simpa using hu
structure Bk {α : Type} (enc : α → List Value) (W : World) (b : Nat) (x : α) : Prop where
  c : At enc W b 0 x
  f : ∀ j, W.frozen? ⟨b, j, none⟩ = false
  lt : b < W.heap.size
theorem bk_new {α : Type} (enc : α → List Value) (W : World) (x : α) (t : TypeId) : Bk enc (W.alloc (.cells (enc x).toArray t)) W.heap.size x :=
  ⟨bx_new enc W x t, fun j => by simp, by simp⟩
theorem Bk.blk {α : Type} {enc : α → List Value} {W W' : World} {b : Nat} {x : α} (h : Bk enc W b x) (e : W'.heap[b]? = W.heap[b]?) (hl : b < W'.heap.size) : Bk enc W' b x :=
  ⟨h.c.blk e, fun j => (World.frozen?_of_block (w := W) (a := ⟨b, j, none⟩) e).trans (h.f j), hl⟩
theorem Bk.on {α : Type} {enc : α → List Value} {W W' : World} {b : Nat} {x : α} (h : Bk enc W b x) (q : Q W W') : Bk enc W' b x := h.blk (q.block h.lt) (q.lt h.lt)
theorem Bk.grown {α : Type} {enc : α → List Value} {W W' : World} {row : Option Nat} {b : Nat} {x : α} (h : Bk enc W b x) (g : W.grownBy W' row) (hr : row ≠ some b) : Bk enc W' b x :=
  h.blk (g.block b h.lt (fun e => hr e.symm)) (Nat.lt_of_lt_of_le h.lt g.size)
theorem Bk.set {α : Type} {enc : α → List Value} {W : World} {b : Nat} {x : α} (h : Bk enc W b x) (j : Nat) (u : Value) (x' : α) (hx : enc x' = (enc x).set j u) : Bk enc (W.setCell ⟨b, j, none⟩ u) b x' := by
  refine ⟨fun i v hv => ?_, fun i => by rw [World.frozen?_setCell]; exact h.f i, by simpa using h.lt⟩
  rw [hx, List.getElem?_set] at hv
  by_cases hij : j = i
  · subst hij
    rw [if_pos rfl] at hv
    split at hv
    · rename_i hlt
      obtain ⟨y, hy⟩ : ∃ y, (enc x)[j]? = some y := ⟨_, List.getElem?_eq_getElem hlt⟩
      cases hv
      have := h.c j y hy
      rw [Nat.zero_add] at this ⊢
      exact World.cell?_setCell_same _ _ _ this
    · cases hv
  · rw [if_neg hij] at hv
    have := h.c i v hv
    rw [World.cell?_setCell_other _ _ _ _ (by simp <;> omega)]
    exact this
def slen : Value → Nat
  | .slice _ n _ => n
  | _ => 0
theorem info28 : (Tryz.prog.info? 101).map (fun i => (i.zero, i.size, i.bytes)) = some (some (.agg #[.int .i64 0, .int .i64 0, .int .i64 0, .int .i64 0]), 4, 32) := by kernel_rfl
theorem info40 : (Tryz.prog.info? 160).map (fun i => (i.zero, i.size, i.bytes)) = some (some (.agg #[.int .i64 0, .int .i64 0]), 2, 16) := by kernel_rfl
theorem info2 : (Tryz.prog.info? 2).map (fun i => (i.zero, i.size, i.bytes)) = some (some (.int .i64 0), 1, 8) := by kernel_rfl
def Inf (e : TypeId) (z : Value) (k by' : Nat) (i : TypeInfo) : Prop := Tryz.prog.info? e = some i ∧ i.zero = some z ∧ i.size = k ∧ i.bytes = by'
theorem inf_of {e : TypeId} {z : Value} {k b : Nat} (h : (Tryz.prog.info? e).map (fun i => (i.zero, i.size, i.bytes)) = some (some z, k, b)) : ∃ i, Inf e z k b i := by
  obtain ⟨i, hi, hz⟩ := Option.map_eq_some_iff.1 h
  simp only [Prod.mk.injEq] at hz
  exact ⟨i, hi, hz.1, hz.2.1, hz.2.2⟩
end Go.Proofs.YtcgddnliiondoaaGreatDoor.R
namespace Go.Proofs.YtcgddnliiondoaaGreatDoor.R
open Go.RowKit
def mS (f t : Int) : Bool := decide (0 ≤ f ∧ f < t ∧ t ≤ 4398046511104)
theorem mayB_eq (x : Rg.Rc) : Rg.mayB x = (mS x.a x.c && mS x.b x.d) := by
  unfold Rg.mayB mS
  rw [Bool.eq_iff_iff, Bool.and_eq_true, decide_eq_true_eq, decide_eq_true_eq, decide_eq_true_eq]
  omega
set_option maxHeartbeats 400000 in
theorem maySpan_any (f t : Int) (w : World) : Calls Tryz.prog 140 #[.int .i64 f, .int .i64 t] w fun e w' => e = .returned (.bool (mS f t)) ∧ w' = w := by
  by_cases h0 : 0 ≤ f
  · by_cases h1 : f < t
    · by_cases h2 : t ≤ 4398046511104
      · have H : Hid (true = mS f t) := by show _ = _; simp [mS, h0, h1, h2]
        go_enter Tryz.func140, Tryz.ntmps140
        go_wp2
        go_ret
        exact ⟨ret_bool H.out, rfl⟩
      · have H : Hid (false = mS f t) := by show _ = _; simp [mS, h0, h1, h2]
        go_enter Tryz.func140, Tryz.ntmps140
        go_wp2
        go_ret
        exact ⟨ret_bool H.out, rfl⟩
    · have H : Hid (false = mS f t) := by show _ = _; simp [mS, h0, h1]
      go_enter Tryz.func140, Tryz.ntmps140
      go_wp2
      go_ret
      exact ⟨ret_bool H.out, rfl⟩
  · have H : Hid (false = mS f t) := by show _ = _; simp [mS, h0]
    go_enter Tryz.func140, Tryz.ntmps140
    go_wp2
    go_ret
    exact ⟨ret_bool H.out, rfl⟩
set_option maxHeartbeats 400000 in
theorem may_any (a b c d : Int) (w : World) : Calls Tryz.prog 127 #[.agg #[.int .i64 a, .int .i64 b, .int .i64 c, .int .i64 d]] w fun e w' => e = .returned (.bool (Rg.mayB ⟨a, b, c, d⟩)) ∧ w' = w.alloc (.cells #[.int .i64 a, .int .i64 b, .int .i64 c, .int .i64 d] 101) := by
  have H := hid (mayB_eq ⟨a, b, c, d⟩)
  cases hA : mS a c
  · have HR : Hid (false = Rg.mayB ⟨a, b, c, d⟩) := by show _ = _; rw [H.out]; simp only [hA]; rfl
    go_enter Tryz.func127, Tryz.ntmps127
    go_wp2_with (go_at_call 140; refine (maySpan_any _ _ _).mono ?_; rintro e w1 ⟨rfl, rfl⟩)
    go_ret
    exact ⟨ret_bool HR.out, rfl⟩
  · have HR : Hid (mS b d = Rg.mayB ⟨a, b, c, d⟩) := by show _ = _; rw [H.out]; simp only [hA]; rfl
    go_enter Tryz.func127, Tryz.ntmps127
    go_wp2_with (go_at_call 140; refine (maySpan_any _ _ _).mono ?_; rintro e w1 ⟨rfl, rfl⟩)
    go_ret
    exact ⟨ret_bool HR.out, rfl⟩
theorem take_filter_succ {L : List Rg.Rc} {n : Nat} (h : n < L.length) : ((L.take (n + 1)).filter Rg.mayB) = (L.take n).filter Rg.mayB ++ (if Rg.mayB L[n] then [L[n]] else []) := by
  rw [List.take_succ_eq_append_getElem h, List.filter_append]
  congr 1
  cases hm : Rg.mayB L[n] <;> simp [hm]
theorem filter_take_len (L : List Rg.Rc) (n : Nat) : ((L.take n).filter Rg.mayB).length ≤ n := Nat.le_trans (List.length_filter_le _ _) (by rw [List.length_take]; exact Nat.min_le_left _ _)
set_option maxHeartbeats 2000000 in
theorem counted_any (v : Value) (L : List Rg.Rc) (w : World) (h : Sl rc 4 w v L) : Calls Tryz.prog 114 #[v] w fun e w' => ∃ v', e = .returned v' ∧ Own rc 101 4 w.heap.size w' v' (Rg.cnted L) ∧ Q w w' := by
  obtain ⟨i0, HI⟩ := inf_of info28
  have HI := hid HI
  have HS := hid h
  obtain ⟨ao, cap, rfl, h1, h2⟩ := h.len
  clear h
  have h3 : L.length ≤ 9223372036854775807 := Nat.le_trans h1 (by unfold maxLen at h2; omega)
  go_enter Tryz.func114, Tryz.ntmps114
  go_wp2
  all_goals (
    go_loopw [3, 12] (fun o s W => ∃ (n : Nat), n ≤ min L.length 256 ∧ s = .int .i64 n ∧ Own rc 101 4 w.heap.size W o ((L.take n).filter Rg.mayB) ∧ Q w W) (fun _ s _ => min L.length 256 - (intOf s).toNat)
    case atStart => exact ⟨0, Nat.zero_le _, rfl, own_eq (own_nil _) (by simp), Q.refl _⟩
    case round =>
      obtain ⟨n, hn, rfl, hown, hq⟩ := hrel
      have HOW := hid hown
      have HQ := hid hq
      clear hown hq
      by_cases hlt : n < min L.length 256
      · have hl1 : n < L.length := by omega
        have hlt' : (n : Int) < (L.length : Int) := by omega
        have hlt2 : (n : Int) < 256 := by omega
        obtain ⟨g, off, cap', e, _, _, hc⟩ := (HS.out.on HQ.out).at hl1
        cases e
        have HF := hid (take_filter_succ hl1)
        have HL := hid (filter_take_len L n)
        generalize L[n] = x at *
        obtain ⟨xa, xb, xc, xd⟩ := x
        have c0 : wr.cell? ⟨g, off + n * 4, none⟩ = some (.int .i64 xa) := hc 0 _ rfl
        have c1 : wr.cell? ⟨g, off + n * 4 + 1, none⟩ = some (.int .i64 xb) := hc 1 _ rfl
        have c2 : wr.cell? ⟨g, off + n * 4 + 2, none⟩ = some (.int .i64 xc) := hc 2 _ rfl
        have c3 : wr.cell? ⟨g, off + n * 4 + 3, none⟩ = some (.int .i64 xd) := hc 3 _ rfl
        clear hc
        cases hm : Rg.mayB ⟨xa, xb, xc, xd⟩
        · rw [hm] at HF
          simp only [Bool.false_eq_true, if_false, List.append_nil] at HF
          go_wp2_with (go_at_call 127; refine (may_any _ _ _ _ _).mono ?_; rintro e w1 ⟨rfl, rfl⟩)
          go_roundw
          case rel => exact ⟨n + 1, by omega, by go_num, own_eq ((HOW.out.alloc _).alloc _) HF.out.symm, (HQ.out.alloc _).alloc _⟩
          case measure => simp [intOf]; omega
        · rw [hm] at HF
          simp only [if_true] at HF
          go_wp2_with (first
            | (go_at_call 127; refine (may_any _ _ _ _ _).mono ?_; rintro e w1 ⟨rfl, rfl⟩)
            | (at_builtin; refine wpList_append_own _ rfl _ _ 52 rfl w.heap.size 101 i0 (.agg #[.int .i64 0, .int .i64 0, .int .i64 0, .int .i64 0]) 4 32 Tryz.underlying52 HI.out.1 HI.out.2.1 HI.out.2.2.1 HI.out.2.2.2 rfl (by decide) _ _ _ rfl (((HOW.out.alloc _).alloc _).alloc _) _ 1 1 [.int .i64 xa, .int .i64 xb, .int .i64 xc, .int .i64 xd] rfl rfl ?c1 ?c2 ?c3 ?c4 ?c5 ?_))
          case c1 => exact news_at _ [.int .i64 xa, .int .i64 xb, .int .i64 xc, .int .i64 xd] 101 _ (by simp)
          case c2 => exact rc_one ⟨xa, xb, xc, xd⟩
          case c3 => unfold maxLen; have := HL.out; omega
          case c4 => have := HL.out; omega
          case c5 => have := HQ.out.size; simp; omega
          · intro v' w3 hown' hgrow _
            have HO2 : Hid (Own rc 101 4 w.heap.size w3 v' ((L.take (n + 1)).filter Rg.mayB)) := own_eq (own_snoc (enc := rc) (x := ⟨xa, xb, xc, xd⟩) hown') HF.out.symm
            have HQ2 : Hid (Q w w3) := Below.grown (((HQ.out.alloc _).alloc _).alloc _) hgrow (by have := HQ.out.size; simp; omega) (HOW.out.blk)
            clear hown' hgrow HOW HQ HF HL
            go_wp2
            go_roundw
            case rel => exact ⟨n + 1, by omega, by go_num, HO2.out, HQ2.out⟩
            case measure => simp [intOf]; omega
      · have HE : Hid ((L.take n).filter Rg.mayB = Rg.cnted L) := by
          show _ = _
          unfold Rg.cnted
          by_cases h : L.length ≤ 256
          · rw [List.take_of_length_le (show L.length ≤ n by omega), List.take_of_length_le h]
          · rw [show n = 256 by omega]
        have hlt' : ¬ (n : Int) < ((min L.length 256 : Nat) : Int) := by omega
        first
          | have hl3 : ¬ (n : Int) < (L.length : Int) := by omega
          | have hl3 : ¬ (n : Int) < 256 := by omega
        clear hlt'
        go_wp2
        go_ret
        exact ⟨_, rfl, own_eq HOW.out HE.out, HQ.out⟩)
end Go.Proofs.YtcgddnliiondoaaGreatDoor.R
