/- Lists of operations, as the law's own functions reckon them. -/
import Derived.Test.YtkdapaebcjgckaaU0
import Derived.Test.YtkdapaebcjgckaaS2
namespace Go.Proofs.Ytkdapaebcjgckaa
open Go.RowKit
set_option linter.unusedVariables false
set_option linter.unusedSimpArgs false

/-- where a line goes by some operations -/
def alongX (L : List Ax.Ln) (i : Int) : Int := L.foldl (fun i x => if i < 0 then i else ix x.k x.a x.t i) i
theorem alongX_neg (L : List Ax.Ln) {i : Int} (h : i < 0) : alongX L i = i := by
  induction L with
  | nil => rfl
  | cons x L ih => unfold alongX at *; rw [List.foldl_cons, if_pos h]; exact ih
theorem alongX_cons (x : Ax.Ln) (L : List Ax.Ln) {i : Int} (h : 0 ≤ i) : alongX (x :: L) i = alongX L (ix x.k x.a x.t i) := by
  unfold alongX; rw [List.foldl_cons, if_neg (by omega)]
/-- one operation behind another one -/
def trL (x y : Ax.Ln) (pr : Bool) : Ax.Ln := ⟨trK x.k x.a x.t y.k y.a y.t pr, trA x.k x.a x.t y.k y.a y.t pr, trT x.k x.a x.t y.k y.a y.t pr⟩
def trb (x y : Ax.Ln) (pr : Bool) : Bool := trB x.k x.a x.t y.k y.a y.t pr
/-- one round: an operation, whether it stands, those that come out -/
def stp (s : Ax.Ln × Bool × List Ax.Ln) (y : Ax.Ln) : Ax.Ln × Bool × List Ax.Ln :=
  if s.2.1 = true then (trL s.1 y true, trb s.1 y true, if trb y s.1 false = true then s.2.2 ++ [trL y s.1 false] else s.2.2) else (s.1, false, s.2.2 ++ [y])
def stO (s : List Ax.Ln × List Ax.Ln) (x : Ax.Ln) : List Ax.Ln × List Ax.Ln :=
  (if (s.2.foldl stp (x, true, [])).2.1 = true then s.1 ++ [(s.2.foldl stp (x, true, [])).1] else s.1, (s.2.foldl stp (x, true, [])).2.2)
def listsX (A B : List Ax.Ln) : List Ax.Ln × List Ax.Ln := A.foldl stO ([], B)
theorem fold_succ {α β : Type} (f : β → α → β) (b : β) (L : List α) (j : Nat) (h : j < L.length) : (L.take (j + 1)).foldl f b = f ((L.take j).foldl f b) L[j] := by
  rw [List.take_succ_eq_append_getElem h, List.foldl_append]; rfl
theorem stp_no {x : Ax.Ln} {nx : List Ax.Ln} (y : Ax.Ln) : stp (x, false, nx) y = (x, false, nx ++ [y]) := by unfold stp; simp
theorem stp_yes {x : Ax.Ln} {nx : List Ax.Ln} {y : Ax.Ln} (h : trb y x false = true) : stp (x, true, nx) y = (trL x y true, trb x y true, nx ++ [trL y x false]) := by unfold stp; simp [h]
theorem stp_gone {x : Ax.Ln} {nx : List Ax.Ln} {y : Ax.Ln} (h : trb y x false = false) : stp (x, true, nx) y = (trL x y true, trb x y true, nx) := by unfold stp; simp [h]

/-- an operation in a block of its own that may be written -/
structure Bw (W : World) (b : Nat) (x : Ax.Ln) : Prop where
  l : Lb W b x.k x.a x.t
  f0 : W.frozen? ⟨b, 0, none⟩ = false
  f1 : W.frozen? ⟨b, 1, none⟩ = false
  f2 : W.frozen? ⟨b, 2, none⟩ = false
theorem Bw.on {W W' : World} {b : Nat} {x : Ax.Ln} (h : Bw W b x) (g : Below (b + 1) W W') : Bw W' b x := by
  refine ⟨⟨(Below.cell g (p := ⟨b, 0, none⟩) ?_).trans h.l.c0, (Below.cell g (p := ⟨b, 1, none⟩) ?_).trans h.l.c1, (Below.cell g (p := ⟨b, 2, none⟩) ?_).trans h.l.c2⟩, (Below.frozen g (p := ⟨b, 0, none⟩) ?_).trans h.f0, (Below.frozen g (p := ⟨b, 1, none⟩) ?_).trans h.f1, (Below.frozen g (p := ⟨b, 2, none⟩) ?_).trans h.f2⟩
  all_goals (show b < b + 1; omega)
theorem Bw.onQ {W W' : World} {b : Nat} {x : Ax.Ln} (h : Bw W b x) (g : Q W W') : Bw W' b x := h.on (Below.mono g h.l.lt)
theorem bw_new (W : World) (k a t : Int) : Bw (W.alloc (.cells #[.int .i64 k, .int .i64 a, .int .i64 t] 23)) W.heap.size ⟨k, a, t⟩ :=
  ⟨lb_new W k a t, by simp [World.frozen?_alloc_new], by simp [World.frozen?_alloc_new], by simp [World.frozen?_alloc_new]⟩
theorem Bw.set {W : World} {b : Nat} {x : Ax.Ln} (h : Bw W b x) (k a t : Int) : Bw (((W.setCell ⟨b, 0, none⟩ (.int .i64 k)).setCell ⟨b, 1, none⟩ (.int .i64 a)).setCell ⟨b, 2, none⟩ (.int .i64 t)) b ⟨k, a, t⟩ := by
  refine ⟨⟨?_, ?_, ?_⟩, ?_, ?_, ?_⟩
  · rw [World.cell?_setCell_other _ _ _ _ (by simp), World.cell?_setCell_other _ _ _ _ (by simp)]
    exact World.cell?_setCell_same _ _ _ h.l.c0
  · rw [World.cell?_setCell_other _ _ _ _ (by simp)]
    exact World.cell?_setCell_same _ _ _ ((World.cell?_setCell_other _ _ _ _ (by simp)).trans h.l.c1)
  · exact World.cell?_setCell_same _ _ _ (((World.cell?_setCell_other _ _ _ _ (by simp)).trans (World.cell?_setCell_other _ _ _ _ (by simp))).trans h.l.c2)
  · rw [World.frozen?_setCell, World.frozen?_setCell, World.frozen?_setCell]; exact h.f0
  · rw [World.frozen?_setCell, World.frozen?_setCell, World.frozen?_setCell]; exact h.f1
  · rw [World.frozen?_setCell, World.frozen?_setCell, World.frozen?_setCell]; exact h.f2
theorem Lb.grown {W W' : World} {row : Option Nat} {b : Nat} {k a t : Int} (h : Lb W b k a t) (g : W.grownBy W' row) (hr : ∀ r, row = some r → r ≠ b) : Lb W' b k a t := by
  have hb : W'.heap[b]? = W.heap[b]? := g.block b h.lt (fun e => hr b e.symm rfl)
  exact ⟨(World.cell?_of_block (w := W) hb).trans h.c0, (World.cell?_of_block (w := W) hb).trans h.c1, (World.cell?_of_block (w := W) hb).trans h.c2⟩
theorem own_lt {W : World} {B n : Nat} {v : Value} {xs : List Value} (h : W.ownsRow B 23 3 v n xs) : ∀ k, v.ownBlock = some k → k < W.heap.size := by
  intro k hk
  obtain ⟨_, h⟩ := h
  rcases h with ⟨hv, _⟩ | ⟨g, cap, cur, hv, _, hg, _⟩
  · rw [hv] at hk; cases hk
  · rw [hv] at hk
    cases hk
    rcases Nat.lt_or_ge g W.heap.size with h' | h'
    · exact h'
    · rw [Array.getElem?_eq_none h'] at hg; cases hg
theorem own_grown {W W' : World} {row : Option Nat} {B n : Nat} {v : Value} {xs : List Value} (h : W.ownsRow B 23 3 v n xs) (g : W.grownBy W' row) (hr : ∀ r, row = some r → r < B) : W'.ownsRow B 23 3 v n xs := by
  have hlt := own_lt h
  obtain ⟨hl, h⟩ := h
  refine ⟨hl, ?_⟩
  rcases h with h | ⟨b, cap, cur, hv, hb, hg, h1, h2, h3, h4⟩
  · exact .inl h
  · have hb' : W'.heap[b]? = W.heap[b]? := g.block b (hlt b (by rw [hv]; rfl)) (fun e => by have := hr b e.symm; omega)
    exact .inr ⟨b, cap, cur, hv, hb, hb'.trans hg, h1, h2, h3, h4⟩
/-- three cells of a block set -/
def set3 (W : World) (b : Nat) (k a t : Int) : World := ((W.setCell ⟨b, 0, none⟩ (.int .i64 k)).setCell ⟨b, 1, none⟩ (.int .i64 a)).setCell ⟨b, 2, none⟩ (.int .i64 t)
theorem bw_set3 {W : World} {b : Nat} {x : Ax.Ln} (h : Bw W b x) (k a t : Int) : Bw (set3 W b k a t) b ⟨k, a, t⟩ := h.set k a t
theorem below_set3 {B : Nat} {V W : World} {b : Nat} (h : Below B V W) (hb : B ≤ b) (k a t : Int) : Below B V (set3 W b k a t) := ((Below.setCell h hb _).setCell hb _).setCell hb _
theorem own_set3 {W : World} {B n : Nat} {v : Value} {xs : List Value} (h : W.ownsRow B 23 3 v n xs) {b : Nat} (hb : b < B) (k a t : Int) : (set3 W b k a t).ownsRow B 23 3 v n xs :=
  ownsRow_setCell_below (ownsRow_setCell_below (ownsRow_setCell_below h hb _) hb _) hb _
end Go.Proofs.Ytkdapaebcjgckaa
