/- Slices of operations on lines: what they hold. -/
import Derived.Test.YtkdapaebcjgckaaAy
import Derived.Test.YtkdapaebcjgckaaM
import Derived.Laws.AppendOwn
import Derived.Laws.OwnMore
namespace Go.Proofs.Ytkdapaebcjgckaa
open Go.RowKit
set_option linter.unusedVariables false
set_option linter.unusedSimpArgs false

def lc (x : Ax.Ln) : List Value := [.int .i64 x.k, .int .i64 x.a, .int .i64 x.t]
def flat (L : List Ax.Ln) : List Value := L.flatMap lc
theorem flat_snoc (L : List Ax.Ln) (x : Ax.Ln) : flat (L ++ [x]) = flat L ++ lc x := by unfold flat; simp
theorem flat_len (L : List Ax.Ln) : (flat L).length = L.length * 3 := by
  induction L with
  | nil => rfl
  | cons x L ih => unfold flat at *; simp only [List.flatMap_cons, List.length_append, ih, List.length_cons]; unfold lc; simp; omega
theorem flat_at (L : List Ax.Ln) (i : Nat) (h : i < L.length) (j : Nat) (hj : j < 3) : (flat L)[i * 3 + j]? = (lc L[i])[j]? := by
  induction L generalizing i with
  | nil => simp at h
  | cons x L ih =>
    have e : flat (x :: L) = lc x ++ flat L := by unfold flat; simp
    have el : (lc x).length = 3 := rfl
    rw [e]
    cases i with
    | zero =>
      rw [List.getElem?_append_left (by rw [el]; omega)]
      simp
    | succ i =>
      rw [List.getElem?_append_right (by rw [el]; omega), el]
      have := ih i (by simpa using h)
      rw [show (i + 1) * 3 + j - 3 = i * 3 + j by omega, this]
      simp
theorem info23 : (Try.prog.info? 23).map (fun i => (i.zero, i.size, i.bytes)) = some (some (.agg #[.int .i64 0, .int .i64 0, .int .i64 0]), 3, 24) := by kernel_rfl

/-- three cells that read as an operation -/
structure At3 (w : World) (b o : Nat) (x : Ax.Ln) : Prop where
  c0 : w.cell? ⟨b, o, none⟩ = some (.int .i64 x.k)
  c1 : w.cell? ⟨b, o + 1, none⟩ = some (.int .i64 x.a)
  c2 : w.cell? ⟨b, o + 2, none⟩ = some (.int .i64 x.t)
theorem At3.lt {w : World} {b o : Nat} {x : Ax.Ln} (h : At3 w b o x) : b < w.heap.size := World.block_lt_of_cell? w ⟨b, o, none⟩ h.c0
theorem At3.on {w w' : World} {b o : Nat} {x : Ax.Ln} (h : At3 w b o x) (q : Q w w') : At3 w' b o x :=
  ⟨(q.cell h.lt).trans h.c0, (q.cell h.lt).trans h.c1, (q.cell h.lt).trans h.c2⟩

/-- a slice that reads as these -/
def Sl (W : World) (v : Value) (L : List Ax.Ln) : Prop :=
  ∃ (ao : Option Addr) (cap : Nat), v = .slice ao L.length cap ∧ (0 < L.length → ∃ b off, ao = some ⟨b, off, none⟩ ∧ ∀ i (h : i < L.length), At3 W b (off + i * 3) L[i])
theorem Sl.on {W W' : World} {v : Value} {L : List Ax.Ln} (h : Sl W v L) (q : Q W W') : Sl W' v L := by
  obtain ⟨ao, cap, hv, h⟩ := h
  refine ⟨ao, cap, hv, fun hl => ?_⟩
  obtain ⟨b, off, ha, hc⟩ := h hl
  exact ⟨b, off, ha, fun i hi => (hc i hi).on q⟩
theorem Sl.len {W : World} {v : Value} {L : List Ax.Ln} (h : Sl W v L) : ∃ (ao : Option Addr) (cap : Nat), v = .slice ao L.length cap := by
  obtain ⟨ao, cap, hv, _⟩ := h
  exact ⟨ao, cap, hv⟩
theorem Sl.at {W : World} {v : Value} {L : List Ax.Ln} (h : Sl W v L) {i : Nat} (hi : i < L.length) : ∃ b off cap, v = .slice (some ⟨b, off, none⟩) L.length cap ∧ At3 W b (off + i * 3) L[i] := by
  obtain ⟨ao, cap, hv, h⟩ := h
  obtain ⟨b, off, ha, hc⟩ := h (by omega)
  subst ha
  exact ⟨b, off, cap, hv, hc i hi⟩
theorem sl_own {W : World} {B : Nat} {v : Value} {L : List Ax.Ln} (h : W.ownsRow B 23 3 v L.length (flat L)) : Sl W v L := by
  have h0 := h
  obtain ⟨hl, h⟩ := h
  rcases h with ⟨hv, hn⟩ | ⟨g, cap, cur, hv, hb, hg, h1, h2, h3, h4⟩
  · exact ⟨none, 0, by rw [hv, hn], fun h => by omega⟩
  · refine ⟨some ⟨g, 0, none⟩, cap, hv, fun _ => ⟨g, 0, rfl, fun i hi => ?_⟩⟩
    rw [hv] at h0
    have c : ∀ j, j < 3 → W.cell? ⟨g, i * 3 + j, none⟩ = (lc L[i])[j]? := fun j hj => by
      rw [h0.cellAt (i * 3 + j) (by omega), flat_at L i hi j hj]
    rw [Nat.zero_add]
    exact ⟨c 0 (by omega), c 1 (by omega), c 2 (by omega)⟩
theorem own_on {W W' : World} {B n : Nat} {v : Value} {xs : List Value} (h : W.ownsRow B 23 3 v n xs) (q : Q W W') : W'.ownsRow B 23 3 v n xs := by
  obtain ⟨hl, h⟩ := h
  refine ⟨hl, ?_⟩
  rcases h with h | ⟨g, cap, cur, hv, hb, hg, h1, h2, h3, h4⟩
  · exact .inl h
  · have hlt : g < W.heap.size := by
      rcases Nat.lt_or_ge g W.heap.size with h' | h'
      · exact h'
      · rw [Array.getElem?_eq_none h'] at hg; cases hg
    exact .inr ⟨g, cap, cur, hv, hb, by rw [Below.block q g hlt]; exact hg, h1, h2, h3, h4⟩
theorem own_blk {W : World} {B n : Nat} {v : Value} {xs : List Value} (h : W.ownsRow B 23 3 v n xs) : ∀ k, v.ownBlock = some k → B ≤ k := by
  intro k hk
  obtain ⟨_, h⟩ := h
  rcases h with ⟨hv, _⟩ | ⟨g, cap, cur, hv, hg, _⟩
  · rw [hv] at hk; cases hk
  · rw [hv] at hk
    cases hk
    exact hg
/-- the elements of a slice, where they lie -/
def SA (W : World) (g off : Nat) (L : List Ax.Ln) : Prop := ∀ i (h : i < L.length), At3 W g (off + i * 3) L[i]
theorem SA.on {W W' : World} {g off : Nat} {L : List Ax.Ln} (h : SA W g off L) (q : Q W W') : SA W' g off L := fun i hi => (h i hi).on q
theorem Sl.sa {W : World} {v : Value} {L : List Ax.Ln} (h : Sl W v L) (hl : 0 < L.length) : ∃ g off cap, v = .slice (some ⟨g, off, none⟩) L.length cap ∧ SA W g off L := by
  obtain ⟨ao, cap, hv, h⟩ := h
  obtain ⟨b, off, ha, hc⟩ := h hl
  subst ha
  exact ⟨b, off, cap, hv, hc⟩
theorem SA.sl {W : World} {g off cap : Nat} {L : List Ax.Ln} (h : SA W g off L) : Sl W (.slice (some ⟨g, off, none⟩) L.length cap) L := ⟨_, _, rfl, fun _ => ⟨g, off, rfl, h⟩⟩
end Go.Proofs.Ytkdapaebcjgckaa
