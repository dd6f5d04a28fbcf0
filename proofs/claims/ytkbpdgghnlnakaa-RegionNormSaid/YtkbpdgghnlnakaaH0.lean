/- Bands in memory. -/
import Derived.Test.YtkbpdgghnlnakaaT1
namespace Go.Proofs.Ytkbpdgghnlnakaa
open Go.RowKit
set_option linter.unusedVariables false
set_option linter.unusedSimpArgs false

structure Bv where
  f : Int
  t : Int
  v : Value
def bv (x : Bv) : List Value := [.int .i64 x.f, .int .i64 x.t, x.v]
theorem bv_len (x : Bv) : (bv x).length = 3 := rfl
theorem info43 : (Try.prog.info? 43).map (fun i => (i.zero, i.size, i.bytes)) = some (some (.agg #[.int .i64 0, .int .i64 0, .slice none 0 0]), 3, 40) := by kernel_rfl
def Hold (B : Nat) (W : World) : List Bv → List Rg.Bd → Prop
  | [], [] => True
  | x :: O, b :: D => (x.f = b.f ∧ x.t = b.t ∧ Own sp 40 2 B W x.v b.cs) ∧ Hold B W O D
  | [], _ :: _ => False
  | _ :: _, [] => False
theorem Hold.len {B : Nat} {W : World} : ∀ {O : List Bv} {D : List Rg.Bd}, Hold B W O D → O.length = D.length
  | [], [], _ => rfl
  | _ :: O, _ :: D, h => by rw [List.length_cons, List.length_cons, h.2.len]
theorem Hold.imp {B : Nat} {W W' : World} (h : ∀ v cs, Own sp 40 2 B W v cs → Own sp 40 2 B W' v cs) : ∀ {O : List Bv} {D : List Rg.Bd}, Hold B W O D → Hold B W' O D
  | [], [], _ => trivial
  | _ :: _, _ :: _, ⟨⟨h1, h2, h3⟩, h4⟩ => ⟨⟨h1, h2, h _ _ h3⟩, h4.imp h⟩
theorem Hold.mono {B B' : Nat} {W : World} (hB : B' ≤ B) : ∀ {O : List Bv} {D : List Rg.Bd}, Hold B W O D → Hold B' W O D
  | [], [], _ => trivial
  | _ :: _, _ :: _, ⟨⟨h1, h2, h3⟩, h4⟩ => ⟨⟨h1, h2, h3.mono hB⟩, h4.mono hB⟩
theorem Hold.on {B : Nat} {W W' : World} {O : List Bv} {D : List Rg.Bd} (h : Hold B W O D) (q : Q W W') : Hold B W' O D := h.imp fun _ _ h => h.on q
theorem Hold.snoc {B : Nat} {W : World} {f t : Int} {v : Value} {cs : List Rg.Sp} (hv : Own sp 40 2 B W v cs) : ∀ {O : List Bv} {D : List Rg.Bd}, Hold B W O D → Hold B W (O ++ [⟨f, t, v⟩]) (D ++ [⟨f, t, cs⟩])
  | [], [], _ => ⟨⟨rfl, rfl, hv⟩, trivial⟩
  | _ :: _, _ :: _, ⟨h1, h4⟩ => ⟨h1, Hold.snoc hv h4⟩
theorem Hold.last {B : Nat} {W : World} {cur : Rg.Bd} : ∀ {D : List Rg.Bd} {O : List Bv}, Hold B W O (D ++ [cur]) → ∃ O0 x, O = O0 ++ [x] ∧ Hold B W O0 D ∧ x.f = cur.f ∧ x.t = cur.t ∧ Own sp 40 2 B W x.v cur.cs
  | [], x :: O, ⟨⟨h1, h2, h3⟩, h4⟩ => by
    cases O with
    | nil => exact ⟨[], x, rfl, trivial, h1, h2, h3⟩
    | cons _ _ => exact h4.elim
  | b :: D, x :: O, ⟨h1, h4⟩ => by
    obtain ⟨O0, y, rfl, h5, h6⟩ := Hold.last h4
    exact ⟨x :: O0, y, rfl, ⟨h1, h5⟩, h6⟩
theorem Hold.get {B : Nat} {W : World} : ∀ {O : List Bv} {D : List Rg.Bd} (h : Hold B W O D) (i : Nat) (hi : i < O.length) (hj : i < D.length), O[i].f = D[i].f ∧ O[i].t = D[i].t ∧ Own sp 40 2 B W O[i].v D[i].cs
  | x :: O, b :: D, h, 0, _, _ => h.1
  | x :: O, b :: D, h, i + 1, hi, hj => Hold.get h.2 i (by simpa using hi) (by simpa using hj)
/-- a row of bands, and one of ranges -/
theorem ne43 {B B' : Nat} {W : World} {o v : Value} {O : List Bv} {cs : List Rg.Sp} (h : Own bv 43 3 B' W o O) (hv : Own sp 40 2 B W v cs) : v.ownBlock = none ∨ v.ownBlock ≠ o.ownBlock := own_ne hv h (by decide)
theorem Hold.grown {B B' : Nat} {W W' : World} {o : Value} {O : List Bv} {P : List Bv} {D : List Rg.Bd} (h : Hold B W O D) (ho : Own bv 43 3 B' W o P) (g : W.grownBy W' o.ownBlock) : Hold B W' O D := h.imp fun _ _ hv => hv.grown g (ne43 ho hv)
theorem Hold.set {B B' : Nat} {W : World} {g cap n j : Nat} {u : Value} {O : List Bv} {P : List Bv} {D : List Rg.Bd} (h : Hold B W O D) (ho : Own bv 43 3 B' W (.slice (some ⟨g, 0, none⟩) n cap) P) : Hold B (W.setCell ⟨g, j, none⟩ u) O D := h.imp fun v _ hv => by
  refine ownsRow_setCell_other hv (a := ⟨g, j, none⟩) ?_ u
  rcases ne43 ho hv with h | h
  · rw [h]; exact fun e => by cases e
  · exact h
/-- the bands that are made, and what is still to come -/
def BI (cs : Int → List Rg.Sp) (G : List Int) (n : Nat) (D T : List Rg.Bd) : Prop :=
  (n = 1 ∧ D = [] ∧ Rg.bandsP cs G = T) ∨ ∃ D0 cur, D = D0 ++ [cur] ∧ 2 ≤ n ∧ G[n - 1]? = some cur.t ∧ D0 ++ Rg.grp true cs cur (G.drop n) = T
theorem bi_first {cs : Int → List Rg.Sp} {G : List Int} {T : List Rg.Bd} (h : 1 < G.length) (hT : Rg.bandsP cs G = T) : BI cs G 2 ([] ++ [⟨G[0], G[1], cs G[0]⟩]) T := by
  match G, h with
  | g :: h :: l, _ =>
    rw [Rg.bandsP] at hT
    exact .inr ⟨[], _, rfl, Nat.le_refl _, rfl, hT⟩
theorem bi_on {cs : Int → List Rg.Sp} {G : List Int} {n : Nat} {D0 : List Rg.Bd} {cur : Rg.Bd} {T : List Rg.Bd} (hn : n < G.length) (h2 : 2 ≤ n) (hT : D0 ++ Rg.grp true cs cur (G.drop n) = T) (he : Rg.eqL cur.cs (cs cur.t) = true) : BI cs G (n + 1) (D0 ++ [⟨cur.f, G[n], cur.cs⟩]) T := by
  rw [List.drop_eq_getElem_cons hn, Rg.grp, Rg.same, he] at hT
  exact .inr ⟨D0, _, rfl, by omega, by simp [hn], by simpa using hT⟩
theorem bi_new {cs : Int → List Rg.Sp} {G : List Int} {n : Nat} {D0 : List Rg.Bd} {cur : Rg.Bd} {T : List Rg.Bd} (hn : n < G.length) (h2 : 2 ≤ n) (hT : D0 ++ Rg.grp true cs cur (G.drop n) = T) (he : Rg.eqL cur.cs (cs cur.t) = false) : BI cs G (n + 1) ((D0 ++ [cur]) ++ [⟨cur.t, G[n], cs cur.t⟩]) T := by
  rw [List.drop_eq_getElem_cons hn, Rg.grp, Rg.same, he] at hT
  exact .inr ⟨D0 ++ [cur], _, rfl, by omega, by simp [hn], by simpa using hT⟩
theorem bi_end {cs : Int → List Rg.Sp} {G : List Int} {n : Nat} {D T : List Rg.Bd} (h : BI cs G n D T) (hn : G.length ≤ n) : D = T := by
  rcases h with ⟨rfl, rfl, h⟩ | ⟨D0, cur, rfl, _, _, h⟩
  · rw [← h]
    match G, hn with
    | [], _ => rfl
    | [g], _ => rfl
  · rw [List.drop_eq_nil_of_le hn] at h
    exact h
end Go.Proofs.Ytkbpdgghnlnakaa
