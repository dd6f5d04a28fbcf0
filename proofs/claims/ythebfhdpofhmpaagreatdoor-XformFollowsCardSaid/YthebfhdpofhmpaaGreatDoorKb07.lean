/- Words in slices; Trees, plainly, and as the world holds them. -/
import Derived.Test.YthebfhdpofhmpaaGreatDoorKb00
import Derived.Laws.AppendOwn
import Derived.Laws.AppendOwnNone
import Derived.Laws.OwnMore
import Derived.OneCell
import Derived.BigQuiet
import Derived.Deep.RegionHeld3
import Derived.Lib.ItoaMem
import Derived.Shelf.Strconv.Itoa4
import Derived.Test.YthebfhdpofhmpaaGreatDoorProg
import Derived.Deep.CutBlock
import Derived.Deep.CutRange
import Derived.Test.YthebfhdpofhmpaaGreatDoorKb06
import Derived.Test.YthebfhdpofhmpaaGreatDoorCards
import Derived.Test.YthebfhdpofhmpaaGreatDoorTie
import Derived.ProofKit
import Derived.OpenShut
import Derived.Deep.DeepHandedRow
import Derived.Lib.LaidTab
import Derived.Lib.LaidU8T
import Derived.Stop.LaidErr
import Derived.Laws.CopyRow
import Derived.OwnWalk
import Derived.Maps.AppendAt
import Derived.Laws.StructEq
import Derived.Maps.OwnSet
import Derived.LaidEql
import Derived.Deep.AppendLies
set_option linter.unusedVariables false
set_option linter.unusedSimpArgs false
set_option maxRecDepth 100000
set_option maxHeartbeats 8000000
namespace Go.Proofs.YthebfhdpofhmpaaGreatDoor
open Go.RowKit
set_option linter.unusedVariables false
set_option linter.unusedSimpArgs false
theorem Q.block {a w : World} (h : Q a w) {b : Nat} (hb : b < a.heap.size) : w.heap[b]? = a.heap[b]? := Below.block h b hb
section
variable {α : Type} (enc : α → List Value)
def flat (L : List α) : List Value := L.flatMap enc
theorem flat_nil : flat enc [] = [] := rfl
theorem flat_cons (x : α) (L : List α) : flat enc (x :: L) = enc x ++ flat enc L := by unfold flat; simp
theorem flat_append (L L' : List α) : flat enc (L ++ L') = flat enc L ++ flat enc L' := by unfold flat; simp
theorem flat_snoc (L : List α) (x : α) : flat enc (L ++ [x]) = flat enc L ++ enc x := by unfold flat; simp
theorem flat_len {k : Nat} (hk : ∀ x, (enc x).length = k) (L : List α) : (flat enc L).length = L.length * k := by
  induction L with
  | nil => simp [flat]
  | cons x L ih => rw [flat_cons, List.length_append, ih, hk, List.length_cons, Nat.succ_mul]; omega
theorem flat_at {k : Nat} (hk : ∀ x, (enc x).length = k) (L : List α) (i : Nat) (h : i < L.length) (j : Nat) (hj : j < k) : (flat enc L)[i * k + j]? = (enc L[i])[j]? := by
  induction L generalizing i with
  | nil => simp at h
  | cons x L ih =>
    rw [flat_cons]
    cases i with
    | zero =>
      rw [Nat.zero_mul, Nat.zero_add, List.getElem?_append_left (by rw [hk]; exact hj)]
      simp
    | succ i =>
      have e : (i + 1) * k + j = k + (i * k + j) := by rw [Nat.succ_mul]; omega
      rw [e, List.getElem?_append_right (by rw [hk]; omega), hk, Nat.add_sub_cancel_left, ih i (by simpa using h)]
      simp
def Ats (W : World) (b o : Nat) (x : α) : Prop := ∀ (j : Nat) (u : Value), (enc x)[j]? = some u → W.cell? ⟨b, o + j, none⟩ = some u
variable {enc}
theorem Ats.on {W W' : World} {b o : Nat} {x : α} (h : Ats enc W b o x) (q : Q W W') : Ats enc W' b o x := fun j u hu =>
  (q.cell (World.block_lt_of_cell? W ⟨b, o + j, none⟩ (h j u hu))).trans (h j u hu)
variable (enc)
def Sl (k : Nat) (W : World) (v : Value) (L : List α) : Prop :=
  ∃ (ao : Option Addr) (cap : Nat), v = .slice ao L.length cap ∧ L.length ≤ cap ∧ cap ≤ maxLen ∧ (0 < L.length → ∃ b off, ao = some ⟨b, off, none⟩ ∧ ∀ i (h : i < L.length), Ats enc W b (off + i * k) L[i])
variable {enc}
variable {k : Nat}
theorem Sl.on {W W' : World} {v : Value} {L : List α} (h : Sl enc k W v L) (q : Q W W') : Sl enc k W' v L := by
  obtain ⟨ao, cap, hv, h1, h2, h⟩ := h
  refine ⟨ao, cap, hv, h1, h2, fun hl => ?_⟩
  obtain ⟨b, off, ha, hc⟩ := h hl
  exact ⟨b, off, ha, fun i hi => (hc i hi).on q⟩
theorem Sl.len {W : World} {v : Value} {L : List α} (h : Sl enc k W v L) : ∃ (ao : Option Addr) (cap : Nat), v = .slice ao L.length cap ∧ L.length ≤ cap ∧ cap ≤ maxLen := by
  obtain ⟨ao, cap, hv, h1, h2, _⟩ := h
  exact ⟨ao, cap, hv, h1, h2⟩
theorem Sl.at {W : World} {v : Value} {L : List α} (h : Sl enc k W v L) {i : Nat} (hi : i < L.length) : ∃ b off cap, v = .slice (some ⟨b, off, none⟩) L.length cap ∧ L.length ≤ cap ∧ cap ≤ maxLen ∧ Ats enc W b (off + i * k) L[i] := by
  obtain ⟨ao, cap, hv, h1, h2, h⟩ := h
  obtain ⟨b, off, ha, hc⟩ := h (by omega)
  subst ha
  exact ⟨b, off, cap, hv, h1, h2, hc i hi⟩
theorem sl_nil (W : World) : Sl enc k W (.slice none 0 0) [] := ⟨none, 0, rfl, Nat.le_refl _, Nat.zero_le _, fun h => absurd h (by simp)⟩
def Own (enc : α → List Value) (e : TypeId) (k B : Nat) (W : World) (v : Value) (L : List α) : Prop := W.ownsRow B e k v L.length (flat enc L)
variable {e : TypeId} {B : Nat}
theorem own_nil (W : World) : Own enc e k B W (.slice none 0 0) [] := World.ownsRow_nil _ _ _ _
theorem Own.sl {W : World} {v : Value} {L : List α} (h : Own enc e k B W v L) (hk : ∀ x, (enc x).length = k) (hp : 0 < k) : Sl enc k W v L := by
  have h0 := h
  obtain ⟨hl, h⟩ := h
  rcases h with ⟨hv, hn⟩ | ⟨g, cap, cur, hv, hb, hg, h1, h2, h3, h4⟩
  · exact ⟨none, 0, by rw [hv, hn], by omega, Nat.zero_le _, fun h => by omega⟩
  · refine ⟨some ⟨g, 0, none⟩, cap, hv, h1, h2, fun _ => ⟨g, 0, rfl, fun i hi j u hu => ?_⟩⟩
    have hj : j < k := by rw [← hk L[i]]; exact (List.getElem?_eq_some_iff.1 hu).1
    unfold Own at h0
    rw [hv] at h0
    have : i * k + j < L.length * k := Nat.lt_of_lt_of_le (Nat.add_lt_add_left hj _) (by rw [← Nat.succ_mul]; exact Nat.mul_le_mul_right _ hi)
    rw [Nat.zero_add, h0.cellAt (i * k + j) this, flat_at enc hk L i hi j hj]
    exact hu
theorem Own.alloc {W : World} {v : Value} {L : List α} (h : Own enc e k B W v L) (o : Obj) : Own enc e k B (W.alloc o) v L := World.ownsRow.alloc h o
theorem Own.on {W W' : World} {v : Value} {L : List α} (h : Own enc e k B W v L) (q : Q W W') : Own enc e k B W' v L := by
  obtain ⟨hl, h⟩ := h
  refine ⟨hl, ?_⟩
  rcases h with h | ⟨g, cap, cur, hv, hb, hg, h1, h2, h3, h4⟩
  · exact .inl h
  · have hlt : g < W.heap.size := by
      rcases Nat.lt_or_ge g W.heap.size with h' | h'
      · exact h'
      · rw [Array.getElem?_eq_none h'] at hg; cases hg
    exact .inr ⟨g, cap, cur, hv, hb, by rw [Below.block q g hlt]; exact hg, h1, h2, h3, h4⟩
theorem Own.blk {W : World} {v : Value} {L : List α} (h : Own enc e k B W v L) : ∀ j, v.ownBlock = some j → B ≤ j := by
  intro j hj
  obtain ⟨_, h⟩ := h
  rcases h with ⟨hv, _⟩ | ⟨g, cap, cur, hv, hg, _⟩
  · rw [hv] at hj; cases hj
  · rw [hv] at hj
    cases hj
    exact hg
theorem Own.lt {W : World} {v : Value} {L : List α} (h : Own enc e k B W v L) : ∀ j, v.ownBlock = some j → j < W.heap.size := by
  intro j hj
  obtain ⟨_, h⟩ := h
  rcases h with ⟨hv, _⟩ | ⟨g, cap, cur, hv, _, hg, _⟩
  · rw [hv] at hj; cases hj
  · rw [hv] at hj
    cases hj
    rcases Nat.lt_or_ge g W.heap.size with h' | h'
    · exact h'
    · rw [Array.getElem?_eq_none h'] at hg; cases hg
theorem Own.grown {W W' : World} {row : Option Nat} {v : Value} {L : List α} (h : Own enc e k B W v L) (g : W.grownBy W' row) (hr : v.ownBlock = none ∨ v.ownBlock ≠ row) : Own enc e k B W' v L := World.ownsRow.kept h g hr
theorem own_snoc {W : World} {v : Value} {L : List α} {x : α} (h : W.ownsRow B e k v (L.length + 1) (flat enc L ++ enc x)) : Own enc e k B W v (L ++ [x]) := by
  unfold Own
  rw [flat_snoc, List.length_append]
  exact h
theorem own_snoc' {W : World} {v : Value} {L : List α} {x : α} {n : Nat} (h : W.ownsRow B e k v n (flat enc L ++ enc x)) (hn : n = L.length + 1) : Own enc e k B W v (L ++ [x]) := own_snoc (hn ▸ h)
theorem news_new (W : World) (cs : List Value) (t : TypeId) : ∀ j u, cs[j]? = some u → (W.alloc (.cells cs.toArray t)).cell? ((⟨W.heap.size, 0, none⟩ : Addr).add j) = some u := by
  intro j u hu
  have hj : j < cs.length := (List.getElem?_eq_some_iff.1 hu).1
  have e : ((⟨W.heap.size, 0, none⟩ : Addr).add j) = ⟨W.heap.size, j, none⟩ := by
    unfold Addr.add
    by_cases h : j = 0
    · subst h; simp
    · simp [h]
  rw [e]
  rw [World.cell?_alloc_new]
  simpa using hu
theorem news_at (W : World) (cs : List Value) (t : TypeId) (b : Nat) (hb : b = W.heap.size) : ∀ j u, cs[j]? = some u → (W.alloc (.cells cs.toArray t)).cell? ((⟨b, 0, none⟩ : Addr).add j) = some u := by
  subst hb
  exact news_new W cs t
theorem Own.shape {W : World} {v : Value} {L : List α} (h : Own enc e k B W v L) (hl : 0 < L.length) : ∃ g cap, v = .slice (some ⟨g, 0, none⟩) L.length cap ∧ B ≤ g ∧ g < W.heap.size ∧ L.length ≤ cap ∧ cap ≤ maxLen := by
  have hlt := h.lt
  obtain ⟨_, h⟩ := h
  rcases h with ⟨hv, hn⟩ | ⟨g, cap, cur, hv, hb, hg, h1, h2, _⟩
  · omega
  · exact ⟨g, cap, hv, hb, hlt g (by rw [hv]; rfl), h1, h2⟩
theorem Own.cell {W : World} {g cap i : Nat} {L : List α} (h : Own enc e k B W (.slice (some ⟨g, 0, none⟩) L.length cap) L) (hk : ∀ x, (enc x).length = k) (hi : i < L.length) : Ats enc W g (i * k) L[i] := by
  intro j u hu
  have hj : j < k := by rw [← hk L[i]]; exact (List.getElem?_eq_some_iff.1 hu).1
  have : i * k + j < L.length * k := Nat.lt_of_lt_of_le (Nat.add_lt_add_left hj _) (by rw [← Nat.succ_mul]; exact Nat.mul_le_mul_right _ hi)
  rw [World.ownsRow.cellAt h (i * k + j) this, flat_at enc hk L i hi j hj]
  exact hu
end
def Inf (e : TypeId) (z : Value) (k by' : Nat) (i : TypeInfo) : Prop := Tryz.prog.info? e = some i ∧ i.zero = some z ∧ i.size = k ∧ i.bytes = by'
theorem inf_of {e : TypeId} {z : Value} {k b : Nat} (h : (Tryz.prog.info? e).map (fun i => (i.zero, i.size, i.bytes)) = some (some z, k, b)) : ∃ i, Inf e z k b i := by
  obtain ⟨i, hi, hz⟩ := Option.map_eq_some_iff.1 h
  simp only [Prod.mk.injEq] at hz
  exact ⟨i, hi, hz.1, hz.2.1, hz.2.2⟩
end Go.Proofs.YthebfhdpofhmpaaGreatDoor
namespace Go.Proofs.YthebfhdpofhmpaaGreatDoor
open Go.RowKit
def rf (x : Rf) : List Value := [.string ⟨x.1.toArray⟩, .int .i64 x.2.1, .int .i64 x.2.2.1, .bool x.2.2.2.1, .bool x.2.2.2.2]
theorem rf_len (x : Rf) : (rf x).length = 5 := rfl
def Pl (W : World) (b : Nat) : Prop := ∃ c t, W.heap[b]? = some (.cells c t (0, 0))
theorem Pl.lt {W : World} {b : Nat} (h : Pl W b) : b < W.heap.size := by
  obtain ⟨c, t, h⟩ := h
  rcases Nat.lt_or_ge b W.heap.size with h' | h'
  · exact h'
  · rw [Array.getElem?_eq_none h'] at h; cases h
theorem Pl.on {W W' : World} {b : Nat} (h : Pl W b) (q : Q W W') : Pl W' b := by
  have hb := h.lt
  obtain ⟨c, t, h⟩ := h
  exact ⟨c, t, (Q.block q hb).trans h⟩
theorem pl_new (W : World) (c : Array Value) (t : TypeId) : Pl (W.alloc (.cells c t)) W.heap.size := ⟨c, t, by show (W.heap.push _)[W.heap.size]? = _; simp⟩
def Rd (W : World) : Ex → Value → Prop
  | .mk k n t b e rs ks, v => ∃ rv kv, v = .agg #[.int .i64 k, .int .i64 n, .string ⟨t.toArray⟩, .bool b, .int .i64 e, rv, kv] ∧ Sl rf 5 W rv rs ∧
      ∃ (ao : Option Addr) (cap : Nat), kv = .slice ao ks.length cap ∧ ks.length ≤ cap ∧ cap ≤ maxLen ∧ (ks ≠ [] → ∃ b' off, ao = some ⟨b', off, none⟩ ∧ Pl W b' ∧ RdL W ks b' off)
  where
  RdL (W : World) : List Ex → Nat → Nat → Prop
  | [], _, _ => True
  | x :: xs, b, off => (∃ c0 c1 c2 c3 c4 c5 c6, W.cell? ⟨b, off, none⟩ = some c0 ∧ W.cell? ⟨b, off + 1, none⟩ = some c1 ∧ W.cell? ⟨b, off + 2, none⟩ = some c2 ∧ W.cell? ⟨b, off + 3, none⟩ = some c3 ∧ W.cell? ⟨b, off + 4, none⟩ = some c4 ∧ W.cell? ⟨b, off + 5, none⟩ = some c5 ∧ W.cell? ⟨b, off + 6, none⟩ = some c6 ∧ Rd W x (.agg #[c0, c1, c2, c3, c4, c5, c6])) ∧ RdL W xs b (off + 7)
theorem Rd.on {W W' : World} (q : Q W W') : ∀ (x : Ex) (v : Value), Rd W x v → Rd W' x v
  | .mk k n t b e rs ks, v, h => by
    unfold Rd at h ⊢
    obtain ⟨rv, kv, hv, hr, ao, cap, hk, h1, h2, h3⟩ := h
    refine ⟨rv, kv, hv, hr.on q, ao, cap, hk, h1, h2, fun hn => ?_⟩
    obtain ⟨b', off, ha, hp, hl⟩ := h3 hn
    exact ⟨b', off, ha, hp.on q, go q ks b' off hl⟩
  where
  go {W W' : World} (q : Q W W') : ∀ (l : List Ex) (b off : Nat), Rd.RdL W l b off → Rd.RdL W' l b off
  | [], _, _, _ => by unfold Rd.RdL; trivial
  | x :: xs, b, off, h => by
    unfold Rd.RdL at h ⊢
    obtain ⟨⟨c0, c1, c2, c3, c4, c5, c6, g0, g1, g2, g3, g4, g5, g6, hx⟩, hr⟩ := h
    have ce : ∀ {o : Nat} {c : Value}, W.cell? ⟨b, o, none⟩ = some c → W'.cell? ⟨b, o, none⟩ = some c := fun h => (q.cell (World.block_lt_of_cell? W ⟨b, _, none⟩ h)).trans h
    exact ⟨⟨c0, c1, c2, c3, c4, c5, c6, ce g0, ce g1, ce g2, ce g3, ce g4, ce g5, ce g6, Rd.on q x _ hx⟩, go q xs b (off + 7) hr⟩
theorem Rd.RdL.on {W W' : World} (q : Q W W') : ∀ (l : List Ex) (b off : Nat), Rd.RdL W l b off → Rd.RdL W' l b off := Rd.on.go q
structure Kid (W : World) (x : Ex) (b off : Nat) (c0 c1 c2 c3 c4 c5 c6 : Value) : Prop where
  g0 : W.cell? ⟨b, off, none⟩ = some c0
  g1 : W.cell? ⟨b, off + 1, none⟩ = some c1
  g2 : W.cell? ⟨b, off + 2, none⟩ = some c2
  g3 : W.cell? ⟨b, off + 3, none⟩ = some c3
  g4 : W.cell? ⟨b, off + 4, none⟩ = some c4
  g5 : W.cell? ⟨b, off + 5, none⟩ = some c5
  g6 : W.cell? ⟨b, off + 6, none⟩ = some c6
  rd : Rd W x (.agg #[c0, c1, c2, c3, c4, c5, c6])
theorem Rd.RdL.kid {W : World} : ∀ {ks : List Ex} {b off : Nat}, Rd.RdL W ks b off → ∀ i (h : i < ks.length), ∃ c0 c1 c2 c3 c4 c5 c6, Kid W ks[i] b (off + i * 7) c0 c1 c2 c3 c4 c5 c6
  | [], _, _, _, i, h => absurd h (by simp)
  | x :: xs, b, off, hr, i, h => by
    unfold Rd.RdL at hr
    obtain ⟨⟨c0, c1, c2, c3, c4, c5, c6, g0, g1, g2, g3, g4, g5, g6, hx⟩, hr⟩ := hr
    cases i with
    | zero => exact ⟨c0, c1, c2, c3, c4, c5, c6, by simpa using g0, by simpa using g1, by simpa using g2, by simpa using g3, by simpa using g4, by simpa using g5, by simpa using g6, hx⟩
    | succ i =>
      obtain ⟨c0, c1, c2, c3, c4, c5, c6, hk⟩ := Rd.RdL.kid hr i (by simpa using h)
      rw [show off + 7 + i * 7 = off + (i + 1) * 7 by omega] at hk
      exact ⟨c0, c1, c2, c3, c4, c5, c6, hk⟩
structure Prt (W : World) (x : Ex) (k n : Int) (t : ByteArray) (b : Bool) (e : Int) (rs : List Rf) (ks : List Ex) (rv kv : Value) (ao : Option Addr) (cap : Nat) : Prop where
  ex : x = .mk k n t.data.toList b e rs ks
  rl : Sl rf 5 W rv rs
  kl : kv = .slice ao ks.length cap
  le : ks.length ≤ cap
  mx : cap ≤ maxLen
  kd : ks ≠ [] → ∃ b' off, ao = some ⟨b', off, none⟩ ∧ Rd.RdL W ks b' off
theorem Rd.prt {W : World} {x : Ex} {v : Value} (h : Rd W x v) : ∃ k n t b e rs ks rv kv ao cap, v = .agg #[.int .i64 k, .int .i64 n, .string t, .bool b, .int .i64 e, rv, kv] ∧ Prt W x k n t b e rs ks rv kv ao cap := by
  cases x with
  | mk k n t b e rs ks =>
    unfold Rd at h
    obtain ⟨rv, kv, hv, hr, ao, cap, hk, h1, h2, h3⟩ := h
    exact ⟨k, n, ⟨t.toArray⟩, b, e, rs, ks, rv, kv, ao, cap, hv, rfl, hr, hk, h1, h2, fun hn => by
      obtain ⟨b', off, ha, _, hl⟩ := h3 hn
      exact ⟨b', off, ha, hl⟩⟩
def Ans (p : Prop) (e : Ending) : Prop := ∃ r : Bool, e = .returned (.bool r) ∧ (r = true ↔ p)
theorem Ans.no {p : Prop} (h : ¬ p) : Ans p (.returned (.bool false)) := ⟨false, rfl, by simp [h]⟩
theorem Ans.yes {p : Prop} (h : p) : Ans p (.returned (.bool true)) := ⟨true, rfl, by simp [h]⟩
structure Rc (W : World) (b o : Nat) (sh : ByteArray) (row col : Int) (ra ca : Bool) : Prop where
  a0 : W.cell? ⟨b, o, none⟩ = some (.string sh)
  a1 : W.cell? ⟨b, o + 1, none⟩ = some (.int .i64 row)
  a2 : W.cell? ⟨b, o + 2, none⟩ = some (.int .i64 col)
  a3 : W.cell? ⟨b, o + 3, none⟩ = some (.bool ra)
  a4 : W.cell? ⟨b, o + 4, none⟩ = some (.bool ca)
def Slg (g : Nat → Prop) (W : World) (v : Value) (L : List Rf) : Prop :=
  ∃ (ao : Option Addr) (cap : Nat), v = .slice ao L.length cap ∧ L.length ≤ cap ∧ cap ≤ maxLen ∧ (0 < L.length → ∃ b off, ao = some ⟨b, off, none⟩ ∧ g b ∧ ∀ i (h : i < L.length), Ats rf W b (off + i * 5) L[i])
theorem Slg.sl {g : Nat → Prop} {W : World} {v : Value} {L : List Rf} (h : Slg g W v L) : Sl rf 5 W v L := by
  obtain ⟨ao, cap, hv, h1, h2, h3⟩ := h
  exact ⟨ao, cap, hv, h1, h2, fun hl => by obtain ⟨b, off, ha, _, hc⟩ := h3 hl; exact ⟨b, off, ha, hc⟩⟩
def Rdg (g : Nat → Prop) (W : World) : Ex → Value → Prop
  | .mk k n t b e rs ks, v => ∃ rv kv, v = .agg #[.int .i64 k, .int .i64 n, .string ⟨t.toArray⟩, .bool b, .int .i64 e, rv, kv] ∧ Slg g W rv rs ∧
      ∃ (ao : Option Addr) (cap : Nat), kv = .slice ao ks.length cap ∧ ks.length ≤ cap ∧ cap ≤ maxLen ∧ (ks ≠ [] → ∃ b' off, ao = some ⟨b', off, none⟩ ∧ g b' ∧ Pl W b' ∧ RdLg g W ks b' off)
  where
  RdLg (g : Nat → Prop) (W : World) : List Ex → Nat → Nat → Prop
  | [], _, _ => True
  | x :: xs, b, off => (∃ c0 c1 c2 c3 c4 c5 c6, W.cell? ⟨b, off, none⟩ = some c0 ∧ W.cell? ⟨b, off + 1, none⟩ = some c1 ∧ W.cell? ⟨b, off + 2, none⟩ = some c2 ∧ W.cell? ⟨b, off + 3, none⟩ = some c3 ∧ W.cell? ⟨b, off + 4, none⟩ = some c4 ∧ W.cell? ⟨b, off + 5, none⟩ = some c5 ∧ W.cell? ⟨b, off + 6, none⟩ = some c6 ∧ Rdg g W x (.agg #[c0, c1, c2, c3, c4, c5, c6])) ∧ RdLg g W xs b (off + 7)
theorem Rdg.rd {g : Nat → Prop} {W : World} : ∀ (x : Ex) (v : Value), Rdg g W x v → Rd W x v
  | .mk k n t b e rs ks, v, h => by
    unfold Rdg at h
    unfold Rd
    obtain ⟨rv, kv, hv, hr, ao, cap, hk, h1, h2, h3⟩ := h
    refine ⟨rv, kv, hv, hr.sl, ao, cap, hk, h1, h2, fun hn => ?_⟩
    obtain ⟨b', off, ha, hb, hpl, hl⟩ := h3 hn
    exact ⟨b', off, ha, hpl, go ks b' off hl⟩
  where
  go {g : Nat → Prop} {W : World} : ∀ (l : List Ex) (b off : Nat), Rdg.RdLg g W l b off → Rd.RdL W l b off
  | [], _, _, _ => by unfold Rd.RdL; trivial
  | x :: xs, b, off, h => by
    unfold Rdg.RdLg at h
    unfold Rd.RdL
    obtain ⟨⟨c0, c1, c2, c3, c4, c5, c6, g0, g1, g2, g3, g4, g5, g6, hx⟩, hr⟩ := h
    exact ⟨⟨c0, c1, c2, c3, c4, c5, c6, g0, g1, g2, g3, g4, g5, g6, Rdg.rd x _ hx⟩, go xs b (off + 7) hr⟩
def zeroV : Value := .agg #[.int .i64 0, .int .i64 0, .string ⟨#[]⟩, .bool false, .int .i64 0, .slice none 0 0, .slice none 0 0]
theorem rdg_zero (g : Nat → Prop) (W : World) : Rdg g W zeroE zeroV := by
  unfold zeroE Rdg
  exact ⟨_, _, rfl, ⟨none, 0, rfl, Nat.le_refl _, Nat.zero_le _, fun h => absurd h (by simp)⟩, none, 0, rfl, Nat.le_refl _, Nat.zero_le _, fun h => absurd rfl h⟩
theorem Rd.shape {W : World} {x : Ex} {v : Value} (h : Rd W x v) : ∃ k n t b e a1 l1 c1 a2 l2 c2, v = .agg #[.int .i64 k, .int .i64 n, .string t, .bool b, .int .i64 e, .slice a1 l1 c1, .slice a2 l2 c2] := by
  obtain ⟨k, n, t, b, e, rs, ks, rv, kv, ao, cap, rfl, hp⟩ := h.prt
  obtain ⟨ar, cr, hr, _⟩ := hp.rl
  obtain rfl := hp.kl
  subst hr
  exact ⟨_, _, _, _, _, _, _, _, _, _, _, rfl⟩
def Gd (W : World) : Prop := Std W ∧ ∀ W', Q W W' → Lib.TabIs Tryz.prog W' "internal/strconv.uint64pow10" .u64 Lib.pow10Tab
theorem Gd.on {W W' : World} (h : Gd W) (q : Q W W') : Gd W' := ⟨h.1.on q, fun W2 q2 => h.2 W2 (q.trans q2)⟩
end Go.Proofs.YthebfhdpofhmpaaGreatDoor
namespace Go.Proofs.YthebfhdpofhmpaaGreatDoor
open Go.ChangeShapes Go.WideShapes Go.ChangeAt Go.RowKit
set_option maxRecDepth 100000
set_option linter.unusedVariables false
theorem own : ownKnob Tryz.prog.godebug = none := by kernel_rfl
theorem cells9 : Tryz.prog.cellsOf 9 = 1 := by kernel_rfl
theorem namType : (Tryz.prog.globals[0]?).map (·.type) = some 154 := by kernel_rfl
theorem glob_nam : Tryz.prog.globalNamed "counterpane/value.names" = some 0 := by kernel_rfl
theorem laid_plain_xformAlone : (Rows.xformAloneRow.laid.all fun x => x.2.handleName?.isNone) = true := by kernel_rfl
theorem laid_first : Rows.laid_unicode_utf8_first = Lib.firstData := by kernel_rfl
theorem laid_pow : Rows.laid_internal_strconv_uint64pow10 = Lib.tabData (H := Unit) .u64 Lib.pow10Tab := by kernel_rfl
theorem glob_tab : Tryz.prog.globalNamed "internal/strconv.uint64pow10" = some 4 := by kernel_rfl
theorem tabType : (Tryz.prog.globals[4]?).map (·.type) = some 246 := by kernel_rfl
theorem cells156 : Tryz.prog.cellsOf 246 = 20 := by kernel_rfl
theorem cells110 : Tryz.prog.cellsOf 199 = 1 := by kernel_rfl
theorem laid_accept : Rows.laid_unicode_utf8_acceptRanges = Lib.acceptData := by kernel_rfl
theorem u8x : U8Extra Tryz.prog Tryz.lays196_ren := ⟨by kernel_rfl, by kernel_rfl, by kernel_rfl, by kernel_rfl, by kernel_rfl, by kernel_rfl, by kernel_rfl⟩
def namL : List (List UInt8) := [[], [35, 82, 69, 70, 33], [35, 67, 89, 67, 76, 69, 33], [35, 68, 73, 86, 47, 48, 33], [35, 78, 85, 77, 33], [35, 86, 65, 76, 85, 69, 33], [35, 78, 65, 77, 69, 63], [35, 78, 47, 65]]
theorem namL_at : ∀ i : Nat, i < 8 → namL[i]? = some (enL i) := by
  intro i hi
  rcases (by omega : i = 0 ∨ i = 1 ∨ i = 2 ∨ i = 3 ∨ i = 4 ∨ i = 5 ∨ i = 6 ∨ i = 7) with rfl | rfl | rfl | rfl | rfl | rfl | rfl | rfl <;> rfl
theorem laid_nam : Rows.laid_counterpane_value_names (H := Unit) = .agg (namL.map fun l => .lit (.string l)) := by kernel_rfl
theorem nam_cells {W : World} (h : Lib.VarReads Tryz.prog W "counterpane/value.names" (.agg (namL.map fun l => .lit (.string l)))) : ∀ i : Nat, i < 8 → W.cell? ⟨0, i, none⟩ = some (.string ⟨(enL i).toArray⟩) := by
  obtain ⟨g, t, cs, fuel, p, hg, hty, hvar, hd⟩ := h
  obtain rfl := Option.some.inj (glob_nam.symm.trans hg)
  obtain rfl := Option.some.inj (namType.symm.trans hty)
  intro i hi
  obtain ⟨fuel', d, q, hdi, he⟩ := Lib.array_elem Tryz.underlying154 hd i hi
  rw [List.getElem?_map, namL_at i hi] at hdi
  simp only [Option.map_some, Option.some.injEq] at hdi
  subst hdi
  rw [cells9] at he
  obtain ⟨s, hs, hx, _⟩ := DataW.trod_string Tryz.underlying9 he
  have e0 := congrArg (·[0]?) hs
  simp only [List.getElem?_take, List.getElem?_drop] at e0
  simp only [Prod.mk.injEq, DataW.lit.injEq, Lit.string.injEq] at hx
  have hs' : s = ⟨(enL i).toArray⟩ := by
    apply ByteArray.ext
    apply Array.ext'
    rw [← hx.1]
  rw [World.var?_cell hg hvar i, ← Array.getElem?_toList]
  rw [← hs']
  simpa using e0
theorem std_reads {W : World} (h1 : Lib.VarReads Tryz.prog W "counterpane/value.names" (.agg (namL.map fun l => .lit (.string l))))
    (h3 : Lib.VarReads Tryz.prog W "unicode/utf8.first" Lib.firstData) (h4 : Lib.VarReads Tryz.prog W "unicode/utf8.acceptRanges" Lib.acceptData) (h5 : Lib.VarReads Tryz.prog W "math/bits.deBruijn64tab" Rows.laid_math_bits_deBruijn64tab) (hsh : W.ShapedOpen Tryz.prog) : Std W := by
  have hc := nam_cells h1
  obtain ⟨m, hm⟩ := Go.Proofs.cell_of_shapedOpen_int (g := 3) (zero := #[.int .i64 0]) (t := 3) hsh (of_decide_eq_true (by kernel_rfl)) (by kernel_rfl) rfl (by kernel_rfl) (by kernel_rfl) Tryz.underlying3
  refine ⟨⟨World.block_lt_of_cell? W ⟨0, 0, none⟩ (hc 0 (by omega)), hc⟩, utf8Tabs_of_readsT (U8Types.of196 Tryz.lays196) u8x h3 h4, ⟨m, hm⟩, ?_⟩
  obtain ⟨g, t, cs, fuel, p, hg, hty, hvar, hd⟩ := h5
  obtain rfl := Option.some.inj ((show Tryz.prog.globalNamed "math/bits.deBruijn64tab" = some 6 by kernel_rfl).symm.trans hg)
  unfold World.var? at hvar
  rw [hg] at hvar
  simp only [Option.bind_some] at hvar
  rcases Nat.lt_or_ge 6 W.heap.size with h' | h'
  · omega
  · rw [Array.getElem?_eq_none h'] at hvar; simp at hvar
theorem tab_reads {W : World} (h : Lib.VarReads Tryz.prog W "internal/strconv.uint64pow10" (Lib.tabData .u64 Lib.pow10Tab)) : Lib.TabIs Tryz.prog W "internal/strconv.uint64pow10" .u64 Lib.pow10Tab := by
  obtain ⟨g, t, cs, fuel, p, hg, hty, hvar, hd⟩ := h
  obtain rfl := Option.some.inj (glob_tab.symm.trans hg)
  obtain rfl := Option.some.inj (tabType.symm.trans hty)
  unfold Lib.TabIs
  rw [hvar, ← Lib.cells_of_tab Tryz.underlying246 Tryz.underlying199 cells110 cells156 hd]
theorem tab_on {W W' : World} (h : Lib.TabIs Tryz.prog W "internal/strconv.uint64pow10" .u64 Lib.pow10Tab) (q : Q W W') : Lib.TabIs Tryz.prog W' "internal/strconv.uint64pow10" .u64 Lib.pow10Tab := by
  unfold Lib.TabIs World.var? at *
  rw [glob_tab] at *
  simp only [Option.bind_some] at h ⊢
  have hb : 4 < W.heap.size := by
    rcases Nat.lt_or_ge 4 W.heap.size with h' | h'
    · exact h'
    · rw [Array.getElem?_eq_none h'] at h; simp at h
  rw [Below.block q 4 hb]
  exact h
theorem gd_xformAlone {W : World} (hL : laidMetH Tryz.prog Rows.xformAloneRow.laid W) (hsh : W.ShapedOpen Tryz.prog) : Gd W := by
  rw [MakeChecks.laidMetH_plain _ _ _ laid_plain_xformAlone] at hL
  refine ⟨std_reads (Lib.laidMet.reads hL ?_) (Lib.laidMet.reads hL ?_) (Lib.laidMet.reads hL ?_) (Lib.laidMet.reads hL ?_) hsh, fun W' q => tab_on (tab_reads (Lib.laidMet.reads hL ?_)) q⟩
  · rw [← laid_nam]
    exact .tail _ (.tail _ (.tail _ (.tail _ (.head _))))
  · rw [← laid_first]
    exact .tail _ (.tail _ (.tail _ (.tail _ (.tail _ (.head _)))))
  · rw [← laid_accept]
    exact .tail _ (.tail _ (.tail _ (.head _)))
  · exact .tail _ (.head _)
  · rw [← laid_pow]
    exact .tail _ (.tail _ (.head _))
def lit1 : DataW Unit → List Value
  | .lit (.int k n) => [.int k n]
  | .lit (.string l) => [.string ⟨l.toArray⟩]
  | _ => []
def lit2 : DataW Unit → List Value
  | .agg l => l.flatMap lit1
  | d => lit1 d
def lit3 : DataW Unit → List Value
  | .agg l => l.flatMap lit2
  | d => lit2 d
def put (d : DataW Unit) : Obj → Obj
  | .cells _ t frozen => .cells (lit3 d).toArray t frozen
  | o => o
def lay (w : World) : World :=
  { w with heap := ((((((w.heap.modify 0 (put Rows.laid_counterpane_value_names)).modify 1 (put Rows.laid_unicode_utf8_first)).modify 2 (put Rows.laid_unicode_utf8_acceptRanges)).modify 4 (put Rows.laid_internal_strconv_uint64pow10)).modify 5 (put Rows.laid_math_bits_deBruijn32tab)).modify 6 (put Rows.laid_math_bits_deBruijn64tab)) }
theorem laid_met_xformAlone (os : Os) (args : Array Value) : laidMetH Tryz.prog Rows.xformAloneRow.laid ((lay (World.holding Tryz.prog os ⟨#[], #[], []⟩)).forCall (fun _ _ => 0) ⟨#[], args, []⟩).memory := by
  rw [MakeChecks.laidMetH_plain _ _ _ laid_plain_xformAlone]
  exact laidMet_of_run' 8 (by kernel_rfl) (by kernel_rfl)
end Go.Proofs.YthebfhdpofhmpaaGreatDoor
namespace Go.Proofs.YthebfhdpofhmpaaGreatDoor
open Go.RowKit
theorem Q.of_eq {a w : World} (h : w = a) : Q a w := h ▸ Q.refl _
structure Qp (P : Nat → Prop) (w w' : World) : Prop where
  os : w'.os = w.os
  tape : w'.tape = w.tape
  output : w'.output = w.output
  size : w.heap.size ≤ w'.heap.size
  block : ∀ i, i < w.heap.size → ¬ P i → w'.heap[i]? = w.heap[i]?
theorem Qp.refl (P : Nat → Prop) (w : World) : Qp P w w := ⟨rfl, rfl, rfl, Nat.le_refl _, fun _ _ _ => rfl⟩
theorem Qp.set {P : Nat → Prop} {a w : World} (h : Qp P a w) {b : Nat} (k : Nat) (v : Value) (hb : P b ∨ a.heap.size ≤ b) : Qp P a (w.setCell ⟨b, k, none⟩ v) :=
  ⟨h.os, h.tape, h.output, by simpa [World.setCell] using h.size, fun i hi hp => (Below.heap_setCell _ _ _ _ (fun e => by
    rcases hb with hb | hb
    · exact hp (by rw [e]; exact hb)
    · simp at e; omega)).trans (h.block i hi hp)⟩
theorem Qp.cell {P : Nat → Prop} {a w : World} (h : Qp P a w) {b o : Nat} (hb : b < a.heap.size) (hp : ¬ P b) : w.cell? ⟨b, o, none⟩ = a.cell? ⟨b, o, none⟩ :=
  World.cell?_of_block (h.block b hb hp)
set_option maxHeartbeats 2000000 in
theorem anew70_nil (n cap : Nat) (W : World) : Calls Tryz.prog 89 #[.slice none n cap] W fun e W' => e = .returned (.slice none 0 0) ∧ W' = W := by
  have hb : (binOp BinOp.eql 32 (.slice none n cap) (.slice none 0 0)).run Tryz.prog W = .ok (.bool true) W := by kernel_rfl
  go_enter Tryz.func89, Tryz.ntmps89
  go_wp2
  go_ret
  exact ⟨rfl, rfl⟩
set_option maxHeartbeats 2000000 in
theorem anew71_nil (n cap : Nat) (W : World) : Calls Tryz.prog 90 #[.slice none n cap] W fun e W' => e = .returned (.slice none 0 0) ∧ W' = W := by
  have hb : (binOp BinOp.eql 33 (.slice none n cap) (.slice none 0 0)).run Tryz.prog W = .ok (.bool true) W := by kernel_rfl
  go_enter Tryz.func90, Tryz.ntmps90
  go_wp2
  go_ret
  exact ⟨rfl, rfl⟩
set_option maxHeartbeats 400000 in
theorem copiedRefs_nil (cap : Nat) (W : World) : Calls Tryz.prog 63 #[.slice none 0 cap] W fun e W' => e = .returned (.slice none 0 0) ∧ Q W W' := by
  have HA := hid (anew70_nil 0 cap W)
  go_enter Tryz.func63, Tryz.ntmps63
  go_wp2_with (go_at_call 89; refine HA.out.mono ?_; rintro e w1 ⟨rfl, h9⟩; have Q1 := hid (Q.of_eq h9); clear h9)
  go_loopw [9, 4] (fun x _ W' => x = .int .i64 0 ∧ Hid (Q W W')) (fun x _ _ => 0)
  case atStart => exact ⟨rfl, Q1⟩
  case round =>
    obtain ⟨rfl, hQ⟩ := hrel
    go_wp2_with fail
    go_ret
    exact ⟨rfl, hQ.out⟩
abbrev Sc := Nat × Nat × Nat × Nat
def sv (x : Sc) : List Value := [.slice (some ⟨x.1, x.2.1, none⟩) x.2.2.1 x.2.2.2]
theorem sv_len (x : Sc) : (sv x).length = 1 := rfl
theorem info24r : (Tryz.prog.info? 33).map (fun i => (i.zero, i.size, i.bytes)) = some (some (.slice none 0 0), 1, 24) := by kernel_rfl
structure Wk (W : World) (wb : Nat) (X : Nat → Prop) (ov : Value) (L : List Sc) : Prop where
  c : W.cell? ⟨wb, 0, none⟩ = some ov
  f : W.frozen? ⟨wb, 0, none⟩ = false
  ow : Own sv 33 1 0 W ov L
  x : X wb
  xo : ∀ j, ov.ownBlock = some j → X j ∧ j ≠ wb
theorem Wk.lt {W : World} {wb : Nat} {X : Nat → Prop} {ov : Value} {L : List Sc} (h : Wk W wb X ov L) : wb < W.heap.size := World.block_lt_of_cell? W ⟨wb, 0, none⟩ h.c
theorem Own.qp {α : Type} {enc : α → List Value} {e : TypeId} {k B : Nat} {W W' : World} {P : Nat → Prop} {v : Value} {L : List α} (h : Own enc e k B W v L) (q : Qp P W W') (hp : ∀ j, v.ownBlock = some j → ¬ P j) : Own enc e k B W' v L := by
  have hl := h.lt
  obtain ⟨hn, h⟩ := h
  refine ⟨hn, ?_⟩
  rcases h with h | ⟨g, cap, cur, hv, hb, hg, hr⟩
  · exact .inl h
  · refine .inr ⟨g, cap, cur, hv, hb, ?_, hr⟩
    have hob : v.ownBlock = some g := by rw [hv]; rfl
    rw [q.block g (hl g hob) (hp g hob)]
    exact hg
theorem Wk.qp {W W' : World} {P : Nat → Prop} {wb : Nat} {X : Nat → Prop} {ov : Value} {L : List Sc} (h : Wk W wb X ov L) (q : Qp P W W') (hp : ∀ i, P i → ¬ X i) : Wk W' wb X ov L :=
  ⟨(q.cell h.lt (fun e => hp _ e h.x)).trans h.c, (World.frozen?_of_block (a := ⟨wb, 0, none⟩) (q.block wb h.lt (fun e => hp _ e h.x))).trans h.f, h.ow.qp q (fun j hj e => hp _ e (h.xo j hj).1), h.x, h.xo⟩
theorem own_cutg {α : Type} {enc : α → List Value} {e : TypeId} {k B : Nat} (hk : ∀ x, (enc x).length = k) {W : World} {g n cap : Nat} {L : List α} {x : α} (h : Own enc e k B W (.slice (some ⟨g, 0, none⟩) (n + 1) cap) (L ++ [x])) (hn : L.length = n) : Own enc e k B W (.slice (some ⟨g, 0, none⟩) n cap) L := by
  subst hn
  obtain ⟨hl, h⟩ := h
  refine ⟨flat_len enc hk L, .inr ?_⟩
  rcases h with ⟨hv, _⟩ | ⟨g', cap', cur, hv, hb, hg, h1, h2, h3, h4⟩
  · cases hv
  · simp only [Value.slice.injEq, Option.some.injEq, Addr.mk.injEq] at hv
    obtain ⟨⟨rfl, _⟩, _, rfl⟩ := hv
    refine ⟨g, cap, cur, rfl, hb, hg, by simp at h1; omega, h2, h3, ?_⟩
    have e : (flat enc (L ++ [x])).take (L.length * k) = flat enc L := by
      unfold flat
      rw [List.flatMap_append, List.take_append_of_le_length (by have := flat_len enc hk L; unfold flat at this; rw [this]; exact Nat.le_refl _), List.take_of_length_le (by have := flat_len enc hk L; unfold flat at this; rw [this]; exact Nat.le_refl _)]
    rw [← e, ← h4, List.take_take]
    congr 1
    simp
theorem row_shape {w : World} {base : Nat} {e : TypeId} {k n : Nat} {v : Value} {xs : List Value} (h : w.ownsRow base e k v n xs) (hn : 0 < n) : ∃ g cap, v = .slice (some ⟨g, 0, none⟩) n cap := by
  rcases h.2 with ⟨_, h⟩ | ⟨g, cap, _, hv, _⟩
  · omega
  · exact ⟨g, cap, hv⟩
theorem flat_sv (L : List Sc) (x : Sc) : flat sv L ++ [.slice (some ⟨x.1, x.2.1, none⟩) x.2.2.1 x.2.2.2] = flat sv (L ++ [x]) := by
  rw [flat_snoc]
  rfl
set_option maxHeartbeats 1000000 in
theorem enter_any (wb : Nat) (X : Nat → Prop) (ov : Value) (L : List Sc) (b o n cap : Nat) (W : World) (h : Wk W wb X ov L) (hn : 0 < n) (hm : n ≤ 9223372036854775807) (hl : L.length ≤ 100000) :
    Calls Tryz.prog 61 #[.pointer (some ⟨wb, 0, none⟩), .slice (some ⟨b, o, none⟩) n cap] W fun e W' => (∃ u, e = .returned u) ∧ ∃ ov', Wk W' wb (fun i => X i ∨ ov'.ownBlock = some i) ov' (L ++ [(b, o, n, cap)]) ∧ Qp X W W' ∧ ∀ j, ov'.ownBlock = some j → X j ∨ W.heap.size ≤ j := by
  obtain ⟨i0, hi, hz0, hz1, hz2⟩ := inf_of info24r
  have HW := hid h
  have c0 := h.c
  have f0 := h.f
  have ow := hid h.ow
  have hlt := h.lt
  have hn' : (0 : Int) < (n : Int) := by omega
  clear h
  go_enter Tryz.func61, Tryz.ntmps61
  go_wp2_with (at_builtin; refine wpList_append_own_at _ rfl _ _ 107 rfl 0 33 i0 (.slice none 0 0) 1 24 Tryz.underlying107 hi hz0 hz1 hz2 rfl (by decide) ov _ _ rfl (ow.out.alloc _) ⟨W.heap.size, 0, none⟩ 1 1 [.slice (some ⟨b, o, none⟩) n cap] rfl rfl (news_at _ [.slice (some ⟨b, o, none⟩) n cap] 33 _ rfl) (by intro u hu; simp at hu; subst hu; rfl) (by unfold maxLen; omega) (by omega) (Nat.zero_le _) ?_; intro v1 w1 o1 g1 n1 p1; obtain ⟨g2, k2, hv2⟩ := row_shape o1 (by omega); subst hv2; have O1 := hid o1; have G1 := hid g1; have P1 := hid p1; clear o1 g1 n1 p1; have c1 : w1.cell? ⟨wb, 0, none⟩ = some ov := G1.out.cell ((Q.cell ((Q.refl W).alloc _) hlt).trans c0) (fun e => (HW.out.xo _ e.symm).2 rfl); have f1 : w1.frozen? ⟨wb, 0, none⟩ = false := (World.frozen?_of_block (a := ⟨wb, 0, none⟩) (G1.out.block wb (by simp; omega) (fun e => (HW.out.xo _ e.symm).2 rfl))).trans ((World.frozen?_of_block (a := ⟨wb, 0, none⟩) (Q.block ((Q.refl W).alloc _) hlt)).trans f0))
  refine bodyPost_end (v := .tuple #[]) (by simp [results, Tryz.results61, go_sem]) rfl ?_
  have hsz : (W.alloc (.cells #[.slice (some ⟨b, o, none⟩) n cap] 33)).heap.size = W.heap.size + 1 := by simp
  have hne : g2 ≠ wb := by
    rcases P1.out with e | e
    · intro h; exact (HW.out.xo g2 (by rw [← e]; rfl)).2 h
    · intro h
      have := Option.some.inj e
      rw [hsz] at this
      simp only at this
      omega
  have qa : Qp X W w1 := ⟨G1.out.os, G1.out.tape, G1.out.output, by have := G1.out.size; rw [hsz] at this; omega, fun i hi hx => (G1.out.block i (by rw [hsz]; omega) (fun e => hx (HW.out.xo i e.symm).1)).trans (Q.block ((Q.refl W).alloc _) hi)⟩
  refine ⟨⟨_, rfl⟩, _, ⟨World.cell?_setCell_same _ _ _ c1, by rw [World.frozen?_setCell]; exact f1, ?_, .inl HW.out.x, fun j hj => ?_⟩, qa.set _ _ (.inl HW.out.x), fun j hj => ?_⟩
  · have ow1 : Own sv 33 1 0 w1 (.slice (some ⟨g2, 0, none⟩) (L.length + 1) k2) (L ++ [(b, o, n, cap)]) := by
      unfold Own
      rw [← flat_sv, List.length_append]
      exact O1.out
    exact ow1.qp (P := fun i => i = wb) ((Qp.refl _ _).set _ _ (.inl rfl)) (fun j hj e => hne (by rw [← e]; exact Option.some.inj hj))
  · obtain rfl : g2 = j := Option.some.inj hj
    exact ⟨.inr rfl, hne⟩
  · obtain rfl : g2 = j := Option.some.inj hj
    rcases P1.out with e | e
    · exact .inl (HW.out.xo g2 (by rw [← e]; rfl)).1
    · have := Option.some.inj e
      rw [hsz] at this
      simp only at this
      exact .inr (by omega)
set_option maxHeartbeats 1000000 in
theorem enter_nil (wb cap : Nat) (ao : Option Addr) (W : World) :
    Calls Tryz.prog 61 #[.pointer (some ⟨wb, 0, none⟩), .slice ao 0 cap] W fun e W' => (∃ u, e = .returned u) ∧ W' = W := by
  go_enter Tryz.func61, Tryz.ntmps61
  go_wp2
  refine bodyPost_end (v := .tuple #[]) (by simp [results, Tryz.results61, go_sem]) rfl ?_
  exact ⟨⟨_, rfl⟩, rfl⟩
set_option maxHeartbeats 1000000 in
theorem next_nil (wb : Nat) (X : Nat → Prop) (ov : Value) (W : World) (h : Wk W wb X ov []) :
    Calls Tryz.prog 62 #[.pointer (some ⟨wb, 0, none⟩)] W fun e W' => e = .returned (.pointer none) ∧ W' = W := by
  have c0 := h.c
  obtain ⟨ao, cap, hv, _⟩ := (h.ow.sl sv_len (by omega)).len
  simp only [List.length_nil] at hv
  subst hv
  clear h
  go_enter Tryz.func62, Tryz.ntmps62
  go_wp2_with fail
  go_ret
  exact ⟨rfl, rfl⟩
theorem Wk.last {W : World} {wb : Nat} {X : Nat → Prop} {ov : Value} {L : List Sc} {x : Sc} (h : Wk W wb X ov (L ++ [x])) : ∃ g capo, ov = .slice (some ⟨g, 0, none⟩) (L.length + 1) capo ∧ L.length + 1 ≤ capo ∧ capo ≤ maxLen ∧ g < W.heap.size ∧ W.cell? ⟨g, L.length, none⟩ = some (.slice (some ⟨x.1, x.2.1, none⟩) x.2.2.1 x.2.2.2) ∧ W.frozen? ⟨g, L.length, none⟩ = false := by
  have ow := h.ow
  obtain ⟨g, cap, hv, _, hg2, hc1, hc2⟩ := ow.shape (by simp)
  rw [List.length_append, List.length_singleton] at hv hc1
  subst hv
  have ow2 : Own sv 33 1 0 W (.slice (some ⟨g, 0, none⟩) (L ++ [x]).length cap) (L ++ [x]) := by rw [List.length_append, List.length_singleton]; exact ow
  have cl := ow2.cell sv_len (i := L.length) (by rw [List.length_append, List.length_singleton]; omega) 0 _ (by rw [List.getElem_append_right (Nat.le_refl _)]; simp; rfl)
  exact ⟨g, cap, rfl, hc1, hc2, hg2, by simpa using cl, World.ownsRow.frozenAt (w := W) (by unfold Own at ow2; exact ow2) _⟩
theorem Wk.pop {W : World} {wb g m capo : Nat} {X : Nat → Prop} {L : List Sc} {x : Sc} (h : Wk W wb X (.slice (some ⟨g, 0, none⟩) (m + 1) capo) (L ++ [x])) (hm : L.length = m) : Wk (W.setCell ⟨wb, 0, none⟩ (.slice (some ⟨g, 0, none⟩) m capo)) wb X (.slice (some ⟨g, 0, none⟩) m capo) L :=
  ⟨World.cell?_setCell_same _ _ _ h.c, by rw [World.frozen?_setCell]; exact h.f, (own_cutg sv_len h.ow hm).qp (P := fun i => i = wb) ((Qp.refl _ _).set _ _ (.inl rfl)) (fun j hj e => (h.xo j hj).2 e), h.x, h.xo⟩
set_option maxHeartbeats 1000000 in
theorem next_one (wb : Nat) (X : Nat → Prop) (ov : Value) (L : List Sc) (b o cap : Nat) (W : World) (h : Wk W wb X ov (L ++ [(b, o, 1, cap)])) (hc : 1 ≤ cap) (hm : cap ≤ maxLen) :
    Calls Tryz.prog 62 #[.pointer (some ⟨wb, 0, none⟩)] W fun e W' => e = .returned (.pointer (some ⟨b, o, none⟩)) ∧ (∃ ov', Wk W' wb X ov' L) ∧ Qp X W W' := by
  have HW := hid h
  obtain ⟨g, capo, rfl, h1, h2, h3, z0, zf⟩ := h.last
  obtain ⟨m, hmm⟩ : ∃ m, L.length = m := ⟨_, rfl⟩
  have HM := hid hmm
  rw [hmm] at h1 z0 zf HW
  simp only at z0
  have c0 := HW.out.c
  have f0 := HW.out.f
  have hcap : (1 : Int) ≤ (cap : Int) := by omega
  have hmx : cap ≤ 9223372036854775807 := by unfold maxLen at hm; omega
  have hm1 : m + 1 ≤ 9223372036854775807 := by unfold maxLen at h2; omega
  have i0 : (0 : Int) < ((m + 1 : Nat) : Int) := by omega
  have i1 : ((m + 1 : Nat) : Int) - 1 = (m : Int) := by omega
  clear h hmm
  go_enter Tryz.func62, Tryz.ntmps62
  go_wp2_with fail
  all_goals go_ret
  all_goals exact ⟨rfl, ⟨_, HW.out.pop HM.out⟩, (Qp.refl _ _).set _ _ (.inl HW.out.x)⟩
set_option maxHeartbeats 1000000 in
theorem of_nil (p n cap : Nat) (W : World) (hp : W.cell? ⟨p, 0, none⟩ = some (.bool true)) :
    Calls Tryz.prog 64 #[.pointer (some ⟨p, 0, none⟩), .slice none n cap] W fun e W' => e = .returned (.tuple #[.slice none 0 0, .bool false]) ∧ Q W W' := by
  have HA := hid (anew71_nil n cap W)
  go_enter Tryz.func64, Tryz.ntmps64
  go_wp2_with (go_at_call 90; refine HA.out.mono ?_; rintro e w1 ⟨rfl, h9⟩; have Q1 := hid (Q.of_eq h9); clear h9)
  go_ret2
  exact ⟨rfl, Q1.out⟩
def vx (k n : Int) (t : ByteArray) (b : Bool) (e : Int) : Value := .agg #[.int .i64 k, .int .i64 n, .string t, .bool b, .int .i64 e]
structure Cb (W : World) (q : Nat) (cs : List Value) : Prop where
  c : ∀ j u, cs[j]? = some u → W.cell? ⟨q, j, none⟩ = some u
  f : ∀ j, W.frozen? ⟨q, j, none⟩ = false
  l : q < W.heap.size
theorem Cb.on {W W' : World} {q : Nat} {cs : List Value} (h : Cb W q cs) (x : Q W W') : Cb W' q cs :=
  ⟨fun j u hu => (x.cell h.l).trans (h.c j u hu), fun j => (Below.frozen x h.l).trans (h.f j), x.lt h.l⟩
theorem cb_new (W : World) (cs : List Value) (t : TypeId) : Cb (W.alloc (.cells cs.toArray t)) W.heap.size cs :=
  ⟨fun j u hu => by rw [World.cell?_alloc_at _ _ _ _ rfl]; simpa using hu, fun j => by simp [World.frozen?_alloc_new], by simp⟩
theorem rd_zero (W : World) : Rd W zeroE (.agg #[.int .i64 0, .int .i64 0, .string ⟨#[]⟩, .bool false, .int .i64 0, .slice none 0 0, .slice none 0 0]) := Rdg.rd _ _ (rdg_zero (fun _ => True) W)
set_option maxHeartbeats 2000000 in
theorem veq_same (k n : Int) (t : ByteArray) (b : Bool) (e : Int) (w : World) : Calls Tryz.prog 45 #[vx k n t b e, vx k n t b e] w fun x w' => x = .returned (.bool true) ∧ Q w w' := by
  unfold vx
  have e0 : (k == k) = true := by simp
  have e1 : (n == n) = true := by simp
  have e2 : (t.toList == t.toList) = true := by simp
  have e3 : (b == b) = true := by simp
  have e4 : (e == e) = true := by simp
  go_enter Tryz.func45, Tryz.ntmps45
  go_wp2_with fail
  go_ret
  exact ⟨rfl, ((Q.refl _).alloc _).alloc _⟩
set_option maxHeartbeats 2000000 in
theorem veq_kind (k n : Int) (t : ByteArray) (b : Bool) (e : Int) (k' n' : Int) (t' : ByteArray) (b' : Bool) (e' : Int) (w : World) (h : k ≠ k') : Calls Tryz.prog 45 #[vx k n t b e, vx k' n' t' b' e'] w fun x w' => x = .returned (.bool false) ∧ Q w w' := by
  unfold vx
  have e0 : (k == k') = false := by simpa using h
  clear h
  go_enter Tryz.func45, Tryz.ntmps45
  go_wp2_with fail
  go_ret
  exact ⟨rfl, ((Q.refl _).alloc _).alloc _⟩
theorem toL' (s : ByteArray) : s.toList = s.data.toList := Lib.toList_data s
def eqRf : List Rf → List Rf → Bool
  | [], [] => true
  | x :: l, y :: l' => decide (x = y) && eqRf l l'
  | [], _ :: _ => false
  | _ :: _, [] => false
theorem eqRf_iff : ∀ {l l' : List Rf}, eqRf l l' = true ↔ l = l'
  | [], [] => by simp [eqRf]
  | [], _ :: _ => by simp [eqRf]
  | _ :: _, [] => by simp [eqRf]
  | x :: l, y :: l' => by
    simp only [eqRf, Bool.and_eq_true, decide_eq_true_eq, eqRf_iff, List.cons.injEq]
theorem eqRf_len {l l' : List Rf} (h : l.length ≠ l'.length) : eqRf l l' = false := by
  cases e : eqRf l l' with
  | false => rfl
  | true => exact absurd (congrArg List.length (eqRf_iff.1 e)) h
theorem eqRf_dec (l l' : List Rf) : eqRf l l' = decide (l = l') := by
  cases e : eqRf l l' with
  | false => exact (decide_eq_false (fun h => by rw [eqRf_iff.2 h] at e; cases e)).symm
  | true => exact (decide_eq_true (eqRf_iff.1 e)).symm
theorem neq59 (xs : List UInt8) (xr xc : Int) (xa xb : Bool) (ys : List UInt8) (yr yc : Int) (ya yb : Bool) (w : World) : Sem.run Tryz.prog (binOp .neq 46 (.agg #[.string ⟨xs.toArray⟩, .int .i64 xr, .int .i64 xc, .bool xa, .bool xb]) (.agg #[.string ⟨ys.toArray⟩, .int .i64 yr, .int .i64 yc, .bool ya, .bool yb])) w = .ok (.bool (!(decide (((xs, xr, xc, xa, xb) : Rf) = (ys, yr, yc, ya, yb))))) w := by
  have u2 := Tryz.underlying2
  have u4 := Tryz.underlying4
  have u9 := Tryz.underlying9
  have hS : Tryz.prog.underlying 46 = some (.struct (Tryz.prog.fieldsOf 46)) := by kernel_rfl
  have hp : Tryz.prog.stoodInHeld 46 = false := by kernel_rfl
  have hf : (Tryz.prog.fieldsOf 46).toList.map (fun f => (f.name == "_", f.type, f.offset)) = [(false, 9, 0), (false, 2, 1), (false, 2, 2), (false, 4, 3), (false, 4, 4)] := by kernel_rfl
  have q1 : ∀ a b c d e : Value, (part 9 #[a, b, c, d, e] 0).run Tryz.prog w = .ok a w := fun _ _ _ _ _ => by kernel_rfl
  have q2 : ∀ a b c d e : Value, (part 2 #[a, b, c, d, e] 1).run Tryz.prog w = .ok b w := fun _ _ _ _ _ => by kernel_rfl
  have q3 : ∀ a b c d e : Value, (part 2 #[a, b, c, d, e] 2).run Tryz.prog w = .ok c w := fun _ _ _ _ _ => by kernel_rfl
  have q4 : ∀ a b c d e : Value, (part 4 #[a, b, c, d, e] 3).run Tryz.prog w = .ok d w := fun _ _ _ _ _ => by kernel_rfl
  have q5 : ∀ a b c d e : Value, (part 4 #[a, b, c, d, e] 4).run Tryz.prog w = .ok e w := fun _ _ _ _ _ => by kernel_rfl
  have e1 : (Op.equalIn 9999 9 (.string ⟨xs.toArray⟩) (.string ⟨ys.toArray⟩)).run Tryz.prog w = .ok (xs == ys) w := by
    have := run_equalIn_string (P := Tryz.prog) w 9998 9 ⟨xs.toArray⟩ ⟨ys.toArray⟩ u9
    rw [toL', toL'] at this
    exact this
  have e2 : (Op.equalIn 9999 2 (.int .i64 xr) (.int .i64 yr)).run Tryz.prog w = .ok (xr == yr) w := run_equalIn_int (P := Tryz.prog) w 9998 2 .i64 .i64 xr yr u2
  have e3 : (Op.equalIn 9999 2 (.int .i64 xc) (.int .i64 yc)).run Tryz.prog w = .ok (xc == yc) w := run_equalIn_int (P := Tryz.prog) w 9998 2 .i64 .i64 xc yc u2
  have e4 : (Op.equalIn 9999 4 (.bool xa) (.bool ya)).run Tryz.prog w = .ok (xa == ya) w := run_equalIn_bool' (P := Tryz.prog) w 9998 4 xa ya u4
  have e5 : (Op.equalIn 9999 4 (.bool xb) (.bool yb)).run Tryz.prog w = .ok (xb == yb) w := run_equalIn_bool' (P := Tryz.prog) w 9998 4 xb yb u4
  rw [run_neq_struct, show (10000 : Nat) = 9999 + 1 from rfl, run_equalIn_struct w 9999 46 _ _ hS hp]
  generalize (Tryz.prog.fieldsOf 46).toList = fs at hf ⊢
  obtain ⟨f1, r1, rfl, h1, hf⟩ := List.map_eq_cons_iff.1 hf
  obtain ⟨f2, r2, rfl, h2, hf⟩ := List.map_eq_cons_iff.1 hf
  obtain ⟨f3, r3, rfl, h3, hf⟩ := List.map_eq_cons_iff.1 hf
  obtain ⟨f4, r4, rfl, h4, hf⟩ := List.map_eq_cons_iff.1 hf
  obtain ⟨f5, r5, rfl, h5, hf⟩ := List.map_eq_cons_iff.1 hf
  obtain rfl := List.map_eq_nil_iff.1 hf
  simp only [Prod.mk.injEq, beq_eq_false_iff_ne, ne_eq] at h1 h2 h3 h4 h5
  obtain ⟨n1, t1, p1⟩ := h1
  obtain ⟨n2, t2, p2⟩ := h2
  obtain ⟨n3, t3, p3⟩ := h3
  obtain ⟨n4, t4, p4⟩ := h4
  obtain ⟨n5, t5, p5⟩ := h5
  simp only [Op.eqFields, ne_eq, n1, n2, n3, n4, n5, not_false_eq_true, if_true, t1, t2, t3, t4, t5, p1, p2, p3, p4, p5, Sem.run_bind, Sem.run_ite, Sem.run_pure, q1, q2, q3, q4, q5, e1, e2, e3, e4, e5, Result.andThen_ok]
  by_cases h1 : xs = ys
  · by_cases h2 : xr = yr
    · by_cases h3 : xc = yc
      · by_cases h4 : xa = ya
        · by_cases h5 : xb = yb <;> simp [h1, h2, h3, h4, h5]
        · simp [h1, h2, h3, h4]
      · simp [h1, h2, h3]
    · simp [h1, h2]
  · simp [h1]
theorem guard59 (op : BinOp) (a b : Operand) (X Y : Array Value) (w : World) : Sem.run Tryz.prog (eqGuard op 46 a b (.agg X) (.agg Y)) w = .ok () w := run_eqGuard_agg w op 46 a b X Y (by kernel_rfl)
set_option maxHeartbeats 4000000 in
theorem eqrf_any_q (va vb : Value) (A B : List Rf) (w : World) (ha : Sl rf 5 w va A) (hb : Sl rf 5 w vb B) : Calls Tryz.prog 95 #[va, vb] w fun e w' => e = .returned (.bool (eqRf A B)) ∧ ∃ m, w' = w.drewN m := by
  have HA := hid ha
  have HB := hid hb
  obtain ⟨ao, cap, rfl, la, ma⟩ := ha.len
  obtain ⟨ao2, cap2, rfl, lb, mb⟩ := hb.len
  have hA : A.length ≤ 9223372036854775807 := by unfold maxLen at ma; omega
  clear ha hb la ma lb mb
  generalize hT : eqRf A B = T
  have HT := hid hT
  clear hT
  by_cases hl : A.length = B.length
  · have hl' : ((A.length : Int) != (B.length : Int)) = false := by simp [hl]
    go_enter Tryz.func95, Tryz.ntmps95
    go_wp2
    go_loopw [4, 13] (fun _ s W => ∃ (n : Nat), n ≤ A.length ∧ s = .int .i64 n ∧ Hid (∃ q, W = w.drewN q) ∧ Hid (eqRf (A.drop n) (B.drop n) = T)) (fun _ s _ => A.length - (intOf s).toNat)
    case atStart => exact ⟨0, Nat.zero_le _, rfl, ⟨0, rfl⟩, by rw [List.drop_zero, List.drop_zero]; exact HT.out⟩
    case round =>
      obtain ⟨n, hn, rfl, hq, HZ⟩ := hrel
      obtain ⟨q, hwq⟩ := hq.out
      have HW := hid hwq
      have HQ : Hid (Q w wr) := by rw [hwq]; exact (Q.refl _).drewN _
      clear hq hwq
      by_cases hlt : n < A.length
      · have hlt' : (n : Int) < (A.length : Int) := by omega
        have hlt2 : (n : Int) < (B.length : Int) := by omega
        obtain ⟨g, off, cap', e, _, _, hc⟩ := (HA.out.on HQ.out).at hlt
        cases e
        obtain ⟨g2, off2, cap3, e, _, _, hc2⟩ := (HB.out.on HQ.out).at (i := n) (by omega)
        cases e
        rw [List.drop_eq_getElem_cons hlt, List.drop_eq_getElem_cons (show n < B.length by omega), eqRf] at HZ
        generalize A[n] = x at *
        generalize B[n]'(by omega) = y at *
        obtain ⟨xs, xr, xc, xa, xb⟩ := x
        obtain ⟨ys, yr, yc, ya, yb⟩ := y
        have c0 : wr.cell? ⟨g, off + n * 5, none⟩ = some (.string ⟨xs.toArray⟩) := hc 0 _ rfl
        have c1 : wr.cell? ⟨g, off + n * 5 + 1, none⟩ = some (.int .i64 xr) := hc 1 _ rfl
        have c2 : wr.cell? ⟨g, off + n * 5 + 2, none⟩ = some (.int .i64 xc) := hc 2 _ rfl
        have c3 : wr.cell? ⟨g, off + n * 5 + 3, none⟩ = some (.bool xa) := hc 3 _ rfl
        have c4 : wr.cell? ⟨g, off + n * 5 + 4, none⟩ = some (.bool xb) := hc 4 _ rfl
        have d0 : wr.cell? ⟨g2, off2 + n * 5, none⟩ = some (.string ⟨ys.toArray⟩) := hc2 0 _ rfl
        have d1 : wr.cell? ⟨g2, off2 + n * 5 + 1, none⟩ = some (.int .i64 yr) := hc2 1 _ rfl
        have d2 : wr.cell? ⟨g2, off2 + n * 5 + 2, none⟩ = some (.int .i64 yc) := hc2 2 _ rfl
        have d3 : wr.cell? ⟨g2, off2 + n * 5 + 3, none⟩ = some (.bool ya) := hc2 3 _ rfl
        have d4 : wr.cell? ⟨g2, off2 + n * 5 + 4, none⟩ = some (.bool yb) := hc2 4 _ rfl
        clear hc hc2
        have hgd' : ∀ (op : BinOp) (a b : Operand) (w : World), Sem.run Tryz.prog (eqGuard op 46 a b (.agg #[.string ⟨xs.toArray⟩, .int .i64 xr, .int .i64 xc, .bool xa, .bool xb]) (.agg #[.string ⟨ys.toArray⟩, .int .i64 yr, .int .i64 yc, .bool ya, .bool yb])) w = .ok () w := fun op a b w => guard59 op a b _ _ w
        cases hd : decide (((xs, xr, xc, xa, xb) : Rf) = (ys, yr, yc, ya, yb))
        · have HR : Hid (false = T) := by
            have := HZ.out
            simp only [hd, Bool.false_and] at this
            exact this
          clear HZ
          have hne' : ∀ w, Sem.run Tryz.prog (binOp .neq 46 (.agg #[.string ⟨xs.toArray⟩, .int .i64 xr, .int .i64 xc, .bool xa, .bool xb]) (.agg #[.string ⟨ys.toArray⟩, .int .i64 yr, .int .i64 yc, .bool ya, .bool yb])) w = .ok (.bool true) w := fun w => by
            have := neq59 xs xr xc xa xb ys yr yc ya yb w
            rw [hd] at this
            exact this
          clear hd
          go_wp2_with fail
          go_quiet (fail)
          go_wp2_with fail
          go_ret
          exact ⟨ret_bool HR.out, _, by rw [HW.out, World.drewN_drewN]⟩
        · have HZ2 : Hid (eqRf (A.drop (n + 1)) (B.drop (n + 1)) = T) := by
            have := HZ.out
            simp only [hd, Bool.true_and] at this
            exact this
          clear HZ
          have hne' : ∀ w, Sem.run Tryz.prog (binOp .neq 46 (.agg #[.string ⟨xs.toArray⟩, .int .i64 xr, .int .i64 xc, .bool xa, .bool xb]) (.agg #[.string ⟨ys.toArray⟩, .int .i64 yr, .int .i64 yc, .bool ya, .bool yb])) w = .ok (.bool false) w := fun w => by
            have := neq59 xs xr xc xa xb ys yr yc ya yb w
            rw [hd] at this
            exact this
          clear hd
          go_wp2_with fail
          go_quiet (fail)
          go_wp2_with fail
          go_roundw
          case rel => exact ⟨n + 1, by omega, by go_num, ⟨_, by rw [HW.out, World.drewN_drewN]⟩, HZ2⟩
          case measure => simp [intOf]; omega
      · have hlt' : ¬ (n : Int) < (A.length : Int) := by omega
        have HR : Hid (true = T) := by
          have := HZ.out
          rw [List.drop_eq_nil_of_le (by omega), List.drop_eq_nil_of_le (by omega)] at this
          exact this
        clear HZ
        go_wp2_with fail
        go_ret
        exact ⟨ret_bool HR.out, q, HW.out⟩
  · have hl' : ((A.length : Int) != (B.length : Int)) = true := by simp; omega
    have HR : Hid (false = T) := by show _ = _; rw [← HT.out, eqRf_len hl]
    go_enter Tryz.func95, Tryz.ntmps95
    go_wp2
    go_ret
    exact ⟨ret_bool HR.out, 0, rfl⟩
abbrev Ky := Nat × Nat × Nat × Nat × Nat
def kyV (k : Ky) : Value := .agg #[.pointer (some ⟨k.1, k.2.1, none⟩), .pointer (some ⟨k.2.2.1, k.2.2.2.1, none⟩), .int .i64 (k.2.2.2.2 : Int)]
def KyP (W : World) (k : Ky) : Prop := Pl W k.1 ∧ Pl W k.2.2.1
theorem info28' : ∃ j, Tryz.prog.info? 35 = some j ∧ j.size ≠ 0 := by
  cases h : Tryz.prog.info? 35 with
  | none =>
    have : (Tryz.prog.info? 35).isSome = true := by kernel_rfl
    rw [h] at this
    cases this
  | some j =>
    refine ⟨j, rfl, ?_⟩
    have : ((Tryz.prog.info? 35).map (fun i => i.size)) = some 7 := by kernel_rfl
    rw [h] at this
    simp at this
    omega
theorem run_ptr (W : World) (d : Nat) (a b : Addr) (ha : Pl W a.block) (hb : Pl W b.block) : (Op.equalIn (d + 1) 84 (.pointer (some a)) (.pointer (some b))).run Tryz.prog W = .ok (decide (a = b)) W := by
  obtain ⟨j, hj, hs⟩ := info28'
  obtain ⟨ca, ta, ha⟩ := ha
  obtain ⟨cb, tb, hb⟩ := hb
  have hu : Tryz.prog.underlying 84 = some (.pointer 35) := Tryz.underlying84
  by_cases h : a = b
  · subst h
    simp [Op.equalIn, run_underlying hu, sizeOf, typeInfo, hj, hs, run_sameAddr_same]
  · simp [Op.equalIn, run_underlying hu, sizeOf, typeInfo, hj, hs, run_sameAddr_other W h ha hb, h]
theorem key_eq (W : World) (k k' : Ky) (h : KyP W k) (h' : KyP W k') : (Op.equal 125 (kyV k) (kyV k')).run Tryz.prog W = .ok (decide (k = k')) W := by
  obtain ⟨b1, o1, b2, o2, n⟩ := k
  obtain ⟨c1, p1, c2, p2, m⟩ := k'
  have e1 : (Op.equalIn 9999 84 (.pointer (some ⟨b1, o1, none⟩)) (.pointer (some ⟨c1, p1, none⟩))).run Tryz.prog W = .ok (decide (b1 = c1 ∧ o1 = p1)) W := by
    have := run_ptr W 9998 ⟨b1, o1, none⟩ ⟨c1, p1, none⟩ h.1 h'.1
    simpa using this
  have e2 : (Op.equalIn 9999 84 (.pointer (some ⟨b2, o2, none⟩)) (.pointer (some ⟨c2, p2, none⟩))).run Tryz.prog W = .ok (decide (b2 = c2 ∧ o2 = p2)) W := by
    have := run_ptr W 9998 ⟨b2, o2, none⟩ ⟨c2, p2, none⟩ h.2 h'.2
    simpa using this
  have e3 : (Op.equalIn 9999 3 (.int .i64 (n : Int)) (.int .i64 (m : Int))).run Tryz.prog W = .ok ((n : Int) == (m : Int)) W := run_equalIn_int (P := Tryz.prog) W 9998 3 .i64 .i64 (n : Int) (m : Int) Tryz.underlying3
  have hf : (Tryz.prog.fieldsOf 125).toList.map (fun f => (f.name == "_", f.type, f.offset)) = [(false, 84, 0), (false, 84, 1), (false, 3, 2)] := by kernel_rfl
  have hu : Tryz.prog.underlying 125 = some (.struct (Tryz.prog.fieldsOf 125)) := by kernel_rfl
  have hp : Tryz.prog.stoodInHeld 125 = false := by kernel_rfl
  unfold Op.equal Op.maxDepth kyV
  rw [run_equalIn_struct W 9999 125 _ _ hu hp]
  have q1 : ∀ x y z : Value, (part 84 #[x, y, z] 0).run Tryz.prog W = .ok x W := fun _ _ _ => by kernel_rfl
  have q2 : ∀ x y z : Value, (part 84 #[x, y, z] 1).run Tryz.prog W = .ok y W := fun _ _ _ => by kernel_rfl
  have q3 : ∀ x y z : Value, (part 3 #[x, y, z] 2).run Tryz.prog W = .ok z W := fun _ _ _ => by kernel_rfl
  generalize (Tryz.prog.fieldsOf 125).toList = fs at hf ⊢
  obtain ⟨f1, r1, rfl, h1, hf⟩ := List.map_eq_cons_iff.1 hf
  obtain ⟨f2, r2, rfl, h2, hf⟩ := List.map_eq_cons_iff.1 hf
  obtain ⟨f3, r3, rfl, h3, hf⟩ := List.map_eq_cons_iff.1 hf
  obtain rfl := List.map_eq_nil_iff.1 hf
  simp only [Prod.mk.injEq, beq_eq_false_iff_ne, ne_eq] at h1 h2 h3
  obtain ⟨n1, t1, o1'⟩ := h1
  obtain ⟨n2, t2, o2'⟩ := h2
  obtain ⟨n3, t3, o3'⟩ := h3
  simp only [Op.eqFields, ne_eq, n1, n2, n3, not_false_eq_true, if_true, t1, t2, t3, o1', o2', o3', Sem.run_bind, Sem.run_ite, Sem.run_pure, q1, q2, q3, e1, e2, e3, Result.andThen_ok]
  by_cases g1 : b1 = c1 ∧ o1 = p1
  · by_cases g2 : b2 = c2 ∧ o2 = p2
    · by_cases g3 : n = m
      · simp [g1, g2, g3]
      · have : ((n : Int) == (m : Int)) = false := by rw [beq_eq_false_iff_ne]; omega
        simp [g1, g2, g3, this]
    · have : ¬ (b2 = c2 ∧ o2 = p2 ∧ n = m) := fun h => g2 ⟨h.1, h.2.1⟩
      simp [g1, g2, this]
  · have : ¬ (b1 = c1 ∧ o1 = p1 ∧ b2 = c2 ∧ o2 = p2 ∧ n = m) := fun h => g1 ⟨h.1, h.2.1⟩
    simp [g1, this]
def MapK (W : World) (b : Nat) (ks : List Ky) : Prop := ∃ es clock, W.heap[b]? = some (.map es clock) ∧ es.toList.map (fun e => (e.key, e.val)) = ks.map (fun k => (kyV k, Value.agg #[]))
theorem find_keys (W : World) (k : Ky) (hk : KyP W k) : ∀ (ks : List Ky) (es : List MapEntry) (i : Nat), es.map (fun e => (e.key, e.val)) = ks.map (fun k => (kyV k, Value.agg #[])) → (∀ x ∈ ks, KyP W x) →
    ∃ r, (Instr.findAsking 125 (kyV k) es i).run Tryz.prog W = .ok r W ∧ (k ∈ ks → ∃ j, r = some (j, .agg #[])) ∧ (k ∉ ks → r = none)
  | [], es, i, he, _ => by
    have : es = [] := by simpa using he
    subst this
    exact ⟨none, by simp [Instr.findAsking], fun h => absurd h (by simp), fun _ => rfl⟩
  | x :: xs, es, i, he, hp => by
    cases es with
    | nil => simp at he
    | cons e es =>
      simp only [List.map_cons, List.cons.injEq, Prod.mk.injEq] at he
      obtain ⟨⟨h1, h2⟩, h3⟩ := he
      have hx := key_eq W k x hk (hp x (by simp))
      by_cases h : k = x
      · refine ⟨some (i, e.val), ?_, fun _ => ⟨i, by rw [h2]⟩, fun hn => absurd (by simp [h]) hn⟩
        simp only [Instr.findAsking, Sem.run_bind, h1, hx, Result.andThen_ok]
        simp [h]
      · obtain ⟨r, hr, hy, hn⟩ := find_keys W k hk xs es (i + 1) h3 (fun y hy => hp y (by simp [hy]))
        refine ⟨r, ?_, fun hm => hy (by simpa [h] using hm), fun hm => hn (fun h' => hm (by simp [h']))⟩
        simp only [Instr.findAsking, Sem.run_bind, h1, hx, Result.andThen_ok]
        simp [h, hr]
theorem find_key (W : World) (k : Ky) (hk : KyP W k) (ks : List Ky) (es : List MapEntry) (he : es.map (fun e => (e.key, e.val)) = ks.map (fun k => (kyV k, Value.agg #[]))) (hp : ∀ x ∈ ks, KyP W x) :
    ∃ r, (Instr.findKey 125 (kyV k) es).run Tryz.prog W = .ok r W ∧ (k ∈ ks → ∃ j, r = some (j, .agg #[])) ∧ (k ∉ ks → r = none) := by
  have hu : Tryz.prog.underlying 125 = some (.struct (Tryz.prog.fieldsOf 125)) := by kernel_rfl
  cases ks with
  | nil =>
    have : es = [] := by simpa using he
    subst this
    refine ⟨none, ?_, fun h => absurd h (by simp), fun _ => rfl⟩
    simp [Instr.findKey, run_underlying hu, Instr.findNow]
  | cons x xs =>
    obtain ⟨r, hr, hy, hn⟩ := find_keys W k hk (x :: xs) es 0 he hp
    refine ⟨r, ?_, hy, hn⟩
    cases es with
    | nil => simp at he
    | cons e es =>
      have hnow : Instr.findNow (.struct (Tryz.prog.fieldsOf 125)) (kyV k) (e :: es) 0 = none := by
        unfold Instr.findNow kyV
        simp [Instr.sameNow]
      simp only [Instr.findKey, Sem.run_bind, run_underlying hu, Result.andThen_ok, hnow]
      exact hr
theorem check_key (W : World) (k : Ky) (b : Bool) : (Instr.checkKey b 10000 125 (kyV k)).run Tryz.prog W = .ok () W := by
  unfold kyV
  cases b <;> kernel_rfl
theorem MapK.lookup {W : World} {b : Nat} {ks : List Ky} (h : MapK W b ks) (k : Ky) (hk : KyP W k) (hp : ∀ x ∈ ks, KyP W x) :
    (Instr.lookup 120 (.map (some b)) (kyV k) true).run Tryz.prog W = .ok (.tuple #[.agg #[], .bool (decide (k ∈ ks))]) W := by
  obtain ⟨es, clock, hb, he⟩ := h
  obtain ⟨r, hr, hy, hn⟩ := find_key W k hk ks es.toList he hp
  have hu : Tryz.prog.underlying 120 = some (.map 125 122) := Tryz.underlying120
  have hz : (zeroValue 122).run Tryz.prog W = .ok (.agg #[]) W := by kernel_rfl
  have hc := check_key W k es.isEmpty
  by_cases hm : k ∈ ks
  · obtain ⟨j, rfl⟩ := hy hm
    simp [Instr.lookup, run_underlying hu, MapKept.run_getObj_map hb, hc, hr, hm]
  · rw [hn hm] at hr
    simp [Instr.lookup, run_underlying hu, MapKept.run_getObj_map hb, hc, hr, hm, hz]
theorem MapK.update {W : World} {b : Nat} {ks : List Ky} (h : MapK W b ks) (k : Ky) (hk : KyP W k) (hp : ∀ x ∈ ks, KyP W x) (hn : k ∉ ks) :
    ∃ W', (Instr.mapUpdate 120 (.map (some b)) (kyV k) (.agg #[])).run Tryz.prog W = .ok () W' ∧ MapK W' b (ks ++ [k]) ∧ W.grownBy W' (some b) := by
  obtain ⟨es, clock, hb, he⟩ := h
  obtain ⟨r, hr, _, hnn⟩ := find_key W k hk ks es.toList he hp
  have hu : Tryz.prog.underlying 120 = some (.map 125 122) := Tryz.underlying120
  have hc := check_key W k false
  rw [hnn hn] at hr
  refine ⟨ChangeMaps.setBlock W b (.map (es.push { key := kyV k, val := .agg #[], born := clock }) (clock + 1)), ?_, ⟨_, _, ChangeMaps.heap_setBlock_same hb _, by simp [he]⟩, ⟨rfl, rfl, rfl, by simp [ChangeMaps.setBlock], fun i _ hi => ChangeMaps.heap_setBlock_other hb _ (fun e => hi (by rw [e]))⟩⟩
  simp [Instr.mapUpdate, run_underlying hu, MapKept.run_getObj_map hb, hc, hr, MapKept.run_setObj_map _ hb, ChangeMaps.setBlock]
set_option maxHeartbeats 4000000 in
theorem key_any (b1 o1 b2 o2 n c1 c2 : Nat) (hn : 0 < n) (W : World) : Calls Tryz.prog 71 #[.agg #[.slice (some ⟨b1, o1, none⟩) n c1, .slice (some ⟨b2, o2, none⟩) n c2]] W fun e W' => e = .returned (kyV (b1, o1, b2, o2, n)) ∧ Q W W' := by
  have hn' : (0 : Int) < (n : Int) := by omega
  go_enter Tryz.func71, Tryz.ntmps71
  go_wp2_with fail
  go_region
  go_wp2_with fail
  refine bodyPost_ret (v := kyV (b1, o1, b2, o2, n)) (by simp [results, Tryz.results71, go_sem, kyV]) rfl ⟨rfl, ?_⟩
  repeat (first | with_reducible exact Q.refl _ | with_reducible refine Q.drewN ?_ _ | with_reducible refine Q.drew ?_ | with_reducible refine Q.alloc ?_ _ | with_reducible refine Q.setCell ?_ (by simp) _)
theorem bytes_of (s : ByteArray) : (⟨s.data.toList.toArray⟩ : ByteArray) = s := by
  apply ByteArray.ext
  simp
theorem setRow_self (w : World) (g : Nat) (cur : Array Value) (t : TypeId) (fr : Nat × Nat) (hg : w.heap[g]? = some (.cells cur t fr)) : w.setRow g cur = w := by
  have hlt : g < w.heap.size := (Array.getElem?_eq_some_iff.1 hg).1
  have hv : w.heap[g] = .cells cur t fr := (Array.getElem?_eq_some_iff.1 hg).2
  unfold World.setRow
  have k : ∀ h : Array Obj, h = w.heap → ({ w with heap := h } : World) = w := by rintro _ rfl; rfl
  apply k
  apply Array.ext
  · simp
  · intro i h1 h2
    rw [Array.getElem_modify]
    split
    · rename_i h
      subst h
      simp [hv]
    · rfl
theorem splice_self (l news : List Value) (p : Nat) (h : ∀ j, j < news.length → l[p + j]? = news[j]?) (hp : p + news.length ≤ l.length) : l.take p ++ news ++ l.drop (p + news.length) = l := by
  apply List.ext_getElem?
  intro j
  by_cases h1 : j < p
  · rw [List.getElem?_append_left (by simp; omega), List.getElem?_append_left (by simp; omega), List.getElem?_take_of_lt h1]
  · by_cases h2 : j < p + news.length
    · rw [List.getElem?_append_left (by simp; omega), List.getElem?_append_right (by simp; omega)]
      rw [List.length_take, Nat.min_eq_left (by omega), ← h (j - p) (by omega), show p + (j - p) = j by omega]
    · rw [List.getElem?_append_right (by simp; omega), List.getElem?_drop]
      congr 1
      simp
      omega
theorem run_append_same {P : Program} (w : World) (t ty e : TypeId) (i : TypeInfo) (ht : P.underlying t = some (.slice e)) (hi : P.info? e = some i) (size : Nat) (hsize : i.size = size)
    (g s cap : Nat) (cur : Array Value) (hg : w.heap[g]? = some (.cells cur e (0, 0)))
    (ad : Addr) (m c : Nat) (news : List Value) (hl : news.length = m * size) (hnews : ∀ j u, news[j]? = some u → w.cell? (ad.add j) = some u) (h1 : ∀ u ∈ news, u.oneCell' = true)
    (hroom : s + m ≤ cap) (hfit : s * size + news.length ≤ cur.size) (hsame : ∀ j, j < news.length → cur.toList[s * size + j]? = news[j]?) :
    (Builtin.append_ #[t, t] ty #[.slice (some ⟨g, 0, none⟩) s cap, .slice (some ad) m c]).run P w = .ok (.slice (some ⟨g, 0, none⟩) (s + m) cap) w := by
  subst hsize
  rw [run_append_room w t ty e i ht hi g s cap cur hg ad m c news hl hnews h1 hroom hfit, splice_self _ _ _ hsame (by simpa using hfit), Array.toArray_toList, setRow_self w g cur e (0, 0) hg]
theorem wpl_append_same {P : Program} (w : World) {ops : Array Oper} {rest : List Oper} {o : Oper} {a : Act} {Q : Exit → Act → World → Prop} (hgd : o.guard = none) (x y : Operand) (t : TypeId)
    (ho : o.op = .call { callee := .builtin .append, args := #[x, y], argTypes := #[t, t] })
    (e : TypeId) (i : TypeInfo) (size : Nat) (ht : P.underlying t = some (.slice e)) (hi : P.info? e = some i) (hsize : i.size = size)
    (g s cap : Nat) (cur : Array Value) (hx : a.eval x = .slice (some ⟨g, 0, none⟩) s cap) (hg : w.heap[g]? = some (.cells cur e (0, 0)))
    (ad : Addr) (m c : Nat) (news : List Value) (hy : a.eval y = .slice (some ad) m c) (hl : news.length = m * size) (hnews : ∀ j u, news[j]? = some u → w.cell? (ad.add j) = some u) (h1 : ∀ u ∈ news, u.oneCell' = true)
    (hroom : s + m ≤ cap) (hfit : s * size + news.length ≤ cur.size) (hsame : ∀ j, j < news.length → cur.toList[s * size + j]? = news[j]?)
    (h : wpList P ops Q rest (a.put o.dst (.slice (some ⟨g, 0, none⟩) (s + m) cap)) w) : wpList P ops Q (o :: rest) a w :=
  wpList_plain hgd fun _ hK => by
    unfold Oper.wp execOp
    simp only [ho, resolve, invoke, builtin, Sem.run_bind, Sem.run_pure, Result.andThen_ok, List.map_toArray, List.map_cons, List.map_nil, hx, hy, run_append_same w t o.type e i ht hi size hsize g s cap cur hg ad m c news hl hnews h1 hroom hfit hsame]
    exact hK _ _ h
theorem own_block {α : Type} {enc : α → List Value} {e : TypeId} {k B : Nat} {W : World} {g n cap : Nat} {L : List α} (h : Own enc e k B W (.slice (some ⟨g, 0, none⟩) n cap) L) :
    n = L.length ∧ ∃ cur, W.heap[g]? = some (.cells cur e (0, 0)) ∧ L.length ≤ cap ∧ cap ≤ maxLen ∧ cur.size = cap * k ∧ cur.toList.take (L.length * k) = flat enc L := by
  unfold Own at h
  obtain ⟨h1, h2⟩ := h
  rcases h2 with ⟨h3, _⟩ | ⟨g', cap', cur, hv, hb, hg, hn, hc, hs, ht⟩
  · cases h3
  · cases hv
    exact ⟨rfl, cur, hg, hn, hc, hs, by first | exact ht | exact ht.1⟩
theorem own_same {α : Type} {enc : α → List Value} {e : TypeId} {k B : Nat} (hk : ∀ x, (enc x).length = k) {W : World} {g n cap : Nat} {L : List α} (h : Own enc e k B W (.slice (some ⟨g, 0, none⟩) n cap) L) :
    ∃ cur, W.heap[g]? = some (.cells cur e (0, 0)) ∧ cur.size = cap * k ∧ L.length ≤ cap ∧ ∀ s m, s + m ≤ L.length → s * k + (flat enc ((L.drop s).take m)).length ≤ cur.size ∧ ∀ j, j < (flat enc ((L.drop s).take m)).length → cur.toList[s * k + j]? = (flat enc ((L.drop s).take m))[j]? := by
  obtain ⟨hn, cur, hg, h1, h2, h3, h4⟩ := own_block h
  refine ⟨cur, hg, h3, h1, fun s m hsm => ?_⟩
  have hl : (flat enc ((L.drop s).take m)).length = m * k := by
    rw [flat_len enc hk, List.length_take, List.length_drop, Nat.min_eq_left (by omega)]
  have hle : s * k + m * k ≤ L.length * k := by rw [← Nat.add_mul]; exact Nat.mul_le_mul_right k hsm
  have hle2 : L.length * k ≤ cap * k := Nat.mul_le_mul_right k h1
  refine ⟨by omega, fun j hj => ?_⟩
  rw [hl] at hj
  have e1 : cur.toList[s * k + j]? = (cur.toList.take (L.length * k))[s * k + j]? := by rw [List.getElem?_take_of_lt (by omega)]
  rw [e1, h4]
  have hL : flat enc L = flat enc (L.take s) ++ (flat enc ((L.drop s).take m) ++ flat enc (L.drop (s + m))) := by
    rw [← flat_append, ← flat_append, ← List.drop_drop, List.take_append_drop, List.take_append_drop]
  have hls : (flat enc (L.take s)).length = s * k := by rw [flat_len enc hk, List.length_take, Nat.min_eq_left (by omega)]
  rw [hL, List.getElem?_append_right (by omega), hls, Nat.add_sub_cancel_left, List.getElem?_append_left (by omega)]
end Go.Proofs.YthebfhdpofhmpaaGreatDoor
