/- Where parse.Eq stands; parse.Eq, walked; value.Eq of any two. -/
import Derived.Test.YthebfhdpofhmpaaGreatDoorKc09
import Derived.Test.YthebfhdpofhmpaaGreatDoorKc05
import Derived.Maps.AppendAt
import Derived.Carry
import Derived.Test.YthebfhdpofhmpaaGreatDoorKc00
import Derived.Shelf.Strconv.Itoa4
import Derived.Test.YthebfhdpofhmpaaGreatDoorProg
import Derived.Deep.RegionHeld3
import Derived.Test.YthebfhdpofhmpaaGreatDoorKc07
import Derived.BigQuiet
import Derived.Deep.CutBlock
import Derived.Deep.CutRange
import Derived.Lib.AppendStr
import Derived.Shelf.Small.Utf8
import Derived.Shelf.Small.Strs
import Derived.Shelf.Small.Wraps
import Derived.Shelf.Strconv.Itoa0
import Derived.Shelf.Strconv.Itoa1
import Derived.Shelf.LaysM
import Derived.Shelf.Strconv.Itoa2
import Derived.Shelf.Strconv.Itoa3
import Derived.Shelf.Strings.Search1
import Derived.Shelf.Strings.Search2
import Derived.Shelf.Strings.Search3
import Derived.Shelf.Strings.Cut
import Derived.Shelf.Strings.Count
import Derived.Shelf.Strings.Shaped
import Derived.Shelf.Strings.Prefix
import Derived.Shelf.Strings.Runes
import Derived.Shelf.Unicode.DecodeSlow
import Derived.Lib.Walk
import Derived.Lib.ItoaMem
import Derived.BigCall
import Derived.BigGuard
import Derived.Test.YthebfhdpofhmpaaGreatDoorKc08
import Derived.Deep.RegionWith
set_option linter.unusedVariables false
set_option linter.unusedSimpArgs false
set_option maxRecDepth 100000
set_option maxHeartbeats 8000000
namespace Go.Proofs.YthebfhdpofhmpaaGreatDoor
open Go.RowKit
theorem rf_inj {x y : Rf} (h : rf x = rf y) : x = y := by
  obtain ⟨s, r, c, a, b⟩ := x
  obtain ⟨s', r', c', a', b'⟩ := y
  simp only [rf, List.cons.injEq, Value.string.injEq, ByteArray.mk.injEq, Value.int.injEq, Value.bool.injEq, true_and, and_true] at h
  obtain ⟨h1, h2, h3, h4, h5⟩ := h
  have : s = s' := by simpa using h1
  subst this h2 h3 h4 h5
  rfl
theorem ats_det {W : World} {b o : Nat} {x y : Rf} (h : Ats rf W b o x) (h' : Ats rf W b o y) : x = y := by
  refine rf_inj (List.ext_getElem? fun i => ?_)
  by_cases hi : i < 5
  · have h1 := h i _ (List.getElem?_eq_getElem (l := rf x) (by rw [rf_len]; exact hi))
    have h2 := h' i _ (List.getElem?_eq_getElem (l := rf y) (by rw [rf_len]; exact hi))
    rw [h1] at h2
    rw [List.getElem?_eq_getElem (l := rf x) (by rw [rf_len]; exact hi), List.getElem?_eq_getElem (l := rf y) (by rw [rf_len]; exact hi)]
    exact h2
  · rw [List.getElem?_eq_none (by rw [rf_len]; omega), List.getElem?_eq_none (by rw [rf_len]; omega)]
theorem sl_det {W : World} {v : Value} {L L' : List Rf} (h : Sl rf 5 W v L) (h' : Sl rf 5 W v L') : L = L' := by
  obtain ⟨ao, cap, hv, _, _, h⟩ := h
  obtain ⟨ao', cap', hv', _, _, h'⟩ := h'
  rw [hv] at hv'
  simp only [Value.slice.injEq] at hv'
  obtain ⟨ha, hl, _⟩ := hv'
  subst ha
  refine List.ext_getElem hl fun i h1 h2 => ?_
  obtain ⟨b, off, e, hc⟩ := h (by omega)
  obtain ⟨b', off', e', hc'⟩ := h' (by omega)
  rw [e] at e'
  simp only [Option.some.injEq, Addr.mk.injEq] at e'
  obtain ⟨rfl, rfl, _⟩ := e'
  exact ats_det (hc i h1) (hc' i h2)
theorem Rd.det {W : World} : ∀ (x y : Ex) (v : Value), Rd W x v → Rd W y v → x = y
  | .mk k n t b e rs ks, .mk k' n' t' b' e' rs' ks', v, h, h' => by
    unfold Rd at h h'
    obtain ⟨rv, kv, hv, hr, ao, cap, hk, _, _, h3⟩ := h
    obtain ⟨rv', kv', hv', hr', ao', cap', hk', _, _, h3'⟩ := h'
    rw [hv] at hv'
    simp only [Value.agg.injEq, Array.mk.injEq, List.cons.injEq, Value.int.injEq, Value.string.injEq, ByteArray.mk.injEq, Value.bool.injEq, true_and, and_true] at hv'
    obtain ⟨rfl, rfl, ht, rfl, rfl, rfl, rfl⟩ := hv'
    have et : t = t' := by simpa using ht
    subst et
    have er := sl_det hr hr'
    subst er
    rw [hk] at hk'
    simp only [Value.slice.injEq] at hk'
    obtain ⟨rfl, hl, _⟩ := hk'
    have ek : ks = ks' := by
      by_cases hn : ks = []
      · subst hn
        exact (List.eq_nil_of_length_eq_zero hl.symm).symm
      · obtain ⟨q, off, ea, _, hd⟩ := h3 hn
        obtain ⟨q', off', ea', _, hd'⟩ := h3' (fun e => hn (by rw [e] at hl; exact List.eq_nil_of_length_eq_zero hl))
        rw [ea] at ea'
        simp only [Option.some.injEq, Addr.mk.injEq] at ea'
        obtain ⟨rfl, rfl, _⟩ := ea'
        exact go ks ks' q off hl hd hd'
    subst ek
    rfl
  where
  go {W : World} : ∀ (l l' : List Ex) (b off : Nat), l.length = l'.length → Rd.RdL W l b off → Rd.RdL W l' b off → l = l'
  | [], [], _, _, _, _, _ => rfl
  | [], _ :: _, _, _, hl, _, _ => by simp at hl
  | _ :: _, [], _, _, hl, _, _ => by simp at hl
  | x :: xs, y :: ys, b, off, hl, h, h' => by
    unfold Rd.RdL at h h'
    obtain ⟨⟨c0, c1, c2, c3, c4, c5, c6, g0, g1, g2, g3, g4, g5, g6, hx⟩, hr⟩ := h
    obtain ⟨⟨d0, d1, d2, d3, d4, d5, d6, i0, i1, i2, i3, i4, i5, i6, hy⟩, hs⟩ := h'
    rw [g0] at i0
    rw [g1] at i1
    rw [g2] at i2
    rw [g3] at i3
    rw [g4] at i4
    rw [g5] at i5
    rw [g6] at i6
    cases i0
    cases i1
    cases i2
    cases i3
    cases i4
    cases i5
    cases i6
    rw [Rd.det x y _ hx hy, go xs ys b (off + 7) (by simpa using hl) hr hs]
theorem rdl_det {W : World} {l l' : List Ex} {b off : Nat} (hl : l.length = l'.length) (h : Rd.RdL W l b off) (h' : Rd.RdL W l' b off) : l = l' := Rd.det.go l l' b off hl h h'
def TL (W : World) (v : Value) (ks : List Ex) : Prop := ∃ (ao : Option Addr) (cap : Nat), v = .slice ao ks.length cap ∧ ks.length ≤ cap ∧ cap ≤ maxLen ∧ (ks ≠ [] → ∃ b off, ao = some ⟨b, off, none⟩ ∧ Pl W b ∧ Rd.RdL W ks b off)
theorem TL.on {W W' : World} {v : Value} {ks : List Ex} (h : TL W v ks) (q : Q W W') : TL W' v ks := by
  obtain ⟨ao, cap, h1, h2, h3, h4⟩ := h
  refine ⟨ao, cap, h1, h2, h3, fun hn => ?_⟩
  obtain ⟨b, off, ha, hp, hr⟩ := h4 hn
  exact ⟨b, off, ha, hp.on q, hr.on q⟩
theorem Kid.tl {W : World} {x : Ex} {b off : Nat} {c0 c1 c2 c3 c4 c5 c6 : Value} (h : Kid W x b off c0 c1 c2 c3 c4 c5 c6) : TL W c6 (kd x) := by
  have hr := h.rd
  cases x with
  | mk k n t bb e rs ks =>
    unfold Rd at hr
    obtain ⟨rv, kv, hv, _, ao, cap, hk, h1, h2, h3⟩ := hr
    simp only [Value.agg.injEq, Array.mk.injEq, List.cons.injEq, and_true] at hv
    rw [hv.2.2.2.2.2.2]
    exact ⟨ao, cap, hk, h1, h2, h3⟩
theorem TL.at {W : World} {v : Value} {ks : List Ex} (h : TL W v ks) {i : Nat} (hi : i < ks.length) : ∃ b off cap, v = .slice (some ⟨b, off, none⟩) ks.length cap ∧ Pl W b ∧ Rd.RdL W ks b off ∧ ∃ c0 c1 c2 c3 c4 c5 c6, Kid W ks[i] b (off + i * 7) c0 c1 c2 c3 c4 c5 c6 := by
  obtain ⟨ao, cap, h1, _, _, h4⟩ := h
  obtain ⟨b, off, rfl, hp, hr⟩ := h4 (fun e => by rw [e] at hi; simp at hi)
  exact ⟨b, off, cap, h1, hp, hr, Rd.RdL.kid hr i hi⟩
theorem tl_one {W : World} {x : Ex} {c0 c1 c2 c3 c4 c5 c6 : Value} (h : Rd W x (.agg #[c0, c1, c2, c3, c4, c5, c6])) (t : TypeId) : TL (W.alloc (.cells #[c0, c1, c2, c3, c4, c5, c6] t)) (.slice (some ⟨W.heap.size, 0, none⟩) 1 1) [x] := by
  refine ⟨_, 1, rfl, by simp, by unfold maxLen; omega, fun _ => ⟨_, 0, rfl, pl_new _ _ _, ?_⟩⟩
  unfold Rd.RdL
  refine ⟨⟨c0, c1, c2, c3, c4, c5, c6, ?_, ?_, ?_, ?_, ?_, ?_, ?_, Rd.on ((Q.refl _).alloc _) _ _ h⟩, by unfold Rd.RdL; trivial⟩
  all_goals simp [World.cell?_alloc_new]
def encP (p : Value × Value) : List Value := [p.1, p.2]
theorem encP_len (p : Value × Value) : (encP p).length = 2 := rfl
def All2 {α β : Type} (R : α → β → Prop) : List α → List β → Prop
  | [], [] => True
  | x :: xs, y :: ys => R x y ∧ All2 R xs ys
  | [], _ :: _ => False
  | _ :: _, [] => False
theorem All2.snoc {α β : Type} {R : α → β → Prop} : ∀ {xs : List α} {ys : List β} {x : α} {y : β}, All2 R xs ys → R x y → All2 R (xs ++ [x]) (ys ++ [y])
  | [], [], x, y, _, h => ⟨h, trivial⟩
  | [], _ :: _, _, _, h, _ => by cases h
  | _ :: _, [], _, _, h, _ => by cases h
  | a :: xs, b :: ys, x, y, h, h' => ⟨h.1, All2.snoc h.2 h'⟩
theorem All2.mem {α β : Type} {R : α → β → Prop} : ∀ {xs : List α} {ys : List β} {x : α}, All2 R xs ys → x ∈ xs → ∃ y, y ∈ ys ∧ R x y
  | [], [], x, _, h => absurd h (by simp)
  | [], _ :: _, _, h, _ => by cases h
  | _ :: _, [], _, h, _ => by cases h
  | a :: xs, b :: ys, x, h, h' => by
    simp at h'
    rcases h' with rfl | h'
    · exact ⟨b, by simp, h.1⟩
    · obtain ⟨y, hy, hr⟩ := All2.mem h.2 h'
      exact ⟨y, by simp [hy], hr⟩
structure RdP (W : World) (p : Value × Value) (l : Pr) : Prop where
  a : TL W p.1 l.1
  b : TL W p.2 l.2
  ln : l.1.length = l.2.length
  ne : l.1 ≠ []
structure KyR (W : World) (k : Ky) (l : Pr) : Prop where
  p : KyP W k
  a : Rd.RdL W l.1 k.1 k.2.1
  b : Rd.RdL W l.2 k.2.2.1 k.2.2.2.1
  la : l.1.length = k.2.2.2.2
  lb : l.2.length = k.2.2.2.2
theorem KyP.on {W W' : World} {k : Ky} (h : KyP W k) (q : Q W W') : KyP W' k := ⟨h.1.on q, h.2.on q⟩
theorem KyR.det {W : World} {k : Ky} {l l' : Pr} (h : KyR W k l) (h' : KyR W k l') : l = l' := by
  obtain ⟨a, b⟩ := l
  obtain ⟨a', b'⟩ := l'
  have e1 := rdl_det (h.la.trans h'.la.symm) h.a h'.a
  have e2 := rdl_det (h.lb.trans h'.lb.symm) h.b h'.b
  simp only at e1 e2
  rw [e1, e2]
structure EM (W2 W : World) (m : Nat) (v : Value) (ps : List (Value × Value)) (L : List Pr) (ks : List Ky) (K : List Pr) : Prop where
  q : Q W2 W
  ow : Own encP 118 2 W2.heap.size W v ps.reverse
  mp : MapK W m ks
  hm : W2.heap.size ≤ m
  ob : v.ownBlock ≠ some m
  rp : All2 (RdP W2) ps L
  rk : All2 (KyR W2) ks K
theorem MapK.lt {W : World} {m : Nat} {ks : List Ky} (h : MapK W m ks) : m < W.heap.size := by
  obtain ⟨es, c, hb, _⟩ := h
  exact (Array.getElem?_eq_some_iff.1 hb).1
theorem MapK.kept {W W' : World} {m : Nat} {ks : List Ky} {r : Option Nat} (h : MapK W m ks) (g : W.grownBy W' r) (hr : some m ≠ r) : MapK W' m ks := by
  have hl := h.lt
  obtain ⟨es, c, hb, he⟩ := h
  exact ⟨es, c, (g.block m hl hr).trans hb, he⟩
theorem q_grown {A W W' : World} {r : Option Nat} (q : Q A W) (g : W.grownBy W' r) (hr : ∀ j, r = some j → A.heap.size ≤ j) : Q A W' := by
  refine ⟨g.os.trans q.os, g.tape.trans q.tape, g.output.trans q.output, Nat.le_trans q.size g.size, fun i hi => ?_⟩
  exact (g.block i (Nat.lt_of_lt_of_le hi q.size) (fun e => by have := hr i e.symm; omega)).trans (Q.block q hi)
theorem EM.on {W2 W W' : World} {m : Nat} {v : Value} {ps : List (Value × Value)} {L : List Pr} {ks : List Ky} {K : List Pr} (h : EM W2 W m v ps L ks K) (q : Q W W') : EM W2 W' m v ps L ks K := by
  refine ⟨h.q.trans q, h.ow.on q, ?_, h.hm, h.ob, h.rp, h.rk⟩
  have hl := h.mp.lt
  obtain ⟨es, c, hb, he⟩ := h.mp
  exact ⟨es, c, (Q.block q hl).trans hb, he⟩
theorem EM.keys {W2 W : World} {m : Nat} {v : Value} {ps : List (Value × Value)} {L : List Pr} {ks : List Ky} {K : List Pr} (h : EM W2 W m v ps L ks K) : ∀ x ∈ ks, KyP W x := by
  intro x hx
  obtain ⟨l, _, hr⟩ := h.rk.mem hx
  exact hr.p.on h.q
theorem EM.upd {W2 W W' : World} {m : Nat} {v : Value} {ps : List (Value × Value)} {L : List Pr} {ks : List Ky} {K : List Pr} (h : EM W2 W m v ps L ks K) {k : Ky} {p : Pr} (hg : W.grownBy W' (some m)) (mp : MapK W' m (ks ++ [k])) (hk : KyR W2 k p) : EM W2 W' m v ps L (ks ++ [k]) (K ++ [p]) := by
  refine ⟨q_grown h.q hg (fun j e => by cases e; exact h.hm), ?_, mp, h.hm, h.ob, h.rp, h.rk.snoc hk⟩
  exact h.ow.grown hg (.inr h.ob)
theorem EM.app {W2 W W' : World} {m : Nat} {v v' : Value} {ps : List (Value × Value)} {L : List Pr} {ks : List Ky} {K : List Pr} (h : EM W2 W m v ps L ks K) {p : Value × Value} {l : Pr} (hg : W.grownBy W' v.ownBlock) (ow : Own encP 118 2 W2.heap.size W' v' (ps.reverse ++ [p])) (hat : v'.ownBlock = v.ownBlock ∨ v'.ownBlock = some W.heap.size) (hp : RdP W2 p l) : EM W2 W' m v' (p :: ps) (l :: L) ks K := by
  refine ⟨q_grown h.q hg (fun j e => h.ow.blk j e), by rw [List.reverse_cons]; exact ow, h.mp.kept hg (fun e => h.ob e.symm), h.hm, ?_, ⟨hp, h.rp⟩, h.rk⟩
  rcases hat with e | e
  · rw [e]; exact h.ob
  · rw [e]
    intro e'
    have := h.mp.lt
    have := Option.some.inj e'
    omega
theorem own_cut {W : World} {B g n cap : Nat} {L : List (Value × Value)} {x : Value × Value} (h : Own encP 118 2 B W (.slice (some ⟨g, 0, none⟩) (n + 1) cap) (L ++ [x])) (hn : L.length = n) : Own encP 118 2 B W (.slice (some ⟨g, 0, none⟩) n cap) L := by
  subst hn
  obtain ⟨hl, h⟩ := h
  refine ⟨flat_len encP encP_len L, .inr ?_⟩
  rcases h with ⟨hv, _⟩ | ⟨g', cap', cur, hv, hb, hg, h1, h2, h3, h4⟩
  · cases hv
  · simp only [Value.slice.injEq, Option.some.injEq, Addr.mk.injEq] at hv
    obtain ⟨⟨rfl, _⟩, _, rfl⟩ := hv
    refine ⟨g, cap, cur, rfl, hb, hg, by simp at h1; omega, h2, h3, ?_⟩
    have e : (flat encP (L ++ [x])).take (L.length * 2) = flat encP L := by
      rw [flat_append, List.take_append_of_le_length (by rw [flat_len encP encP_len]; exact Nat.le_refl _), List.take_of_length_le (by rw [flat_len encP encP_len]; exact Nat.le_refl _)]
    rw [← e, ← h4, List.take_take]
    congr 1
    simp
theorem tl_det {W : World} {v : Value} {l l' : List Ex} (h : TL W v l) (h' : TL W v l') : l = l' := by
  obtain ⟨ao, cap, hv, _, _, h⟩ := h
  obtain ⟨ao', cap', hv', _, _, h'⟩ := h'
  rw [hv] at hv'
  simp only [Value.slice.injEq] at hv'
  obtain ⟨rfl, hl, _⟩ := hv'
  by_cases hn : l = []
  · subst hn
    exact (List.eq_nil_of_length_eq_zero hl.symm).symm
  · obtain ⟨b, off, e, _, hr⟩ := h hn
    obtain ⟨b', off', e', _, hr'⟩ := h' (fun e => hn (by rw [e] at hl; exact List.eq_nil_of_length_eq_zero hl))
    rw [e] at e'
    simp only [Option.some.injEq, Addr.mk.injEq] at e'
    obtain ⟨rfl, rfl, _⟩ := e'
    exact rdl_det hl hr hr'
theorem rdp_det {W : World} : ∀ {ps : List (Value × Value)} {L L' : List Pr}, All2 (RdP W) ps L → All2 (RdP W) ps L' → L = L'
  | [], [], [], _, _ => rfl
  | [], [], _ :: _, _, h => by cases h
  | [], _ :: _, _, h, _ => by cases h
  | _ :: _, [], _, h, _ => by cases h
  | _ :: _, _ :: _, [], _, h => by cases h
  | p :: ps, (a, b) :: L, (a', b') :: L', h, h' => by
    have e1 : a = a' := tl_det h.1.a h'.1.a
    have e2 : b = b' := tl_det h.1.b h'.1.b
    rw [e1, e2, rdp_det h.2 h'.2]
theorem flat_inj : ∀ {l l' : List (Value × Value)}, flat encP l = flat encP l' → l = l'
  | [], [], _ => rfl
  | [], (a, b) :: l, h => by simp [flat_cons, flat_nil, encP] at h
  | (a, b) :: l, [], h => by simp [flat_cons, flat_nil, encP] at h
  | (a, b) :: l, (a', b') :: l', h => by
    simp only [flat_cons, encP, List.cons_append, List.nil_append, List.cons.injEq] at h
    obtain ⟨h1, h2, h3⟩ := h
    rw [h1, h2, flat_inj h3]
theorem own_det {W : World} {B : Nat} {v : Value} {l l' : List (Value × Value)} (h : Own encP 118 2 B W v l) (h' : Own encP 118 2 B W v l') : l = l' := by
  obtain ⟨_, h⟩ := h
  obtain ⟨_, h'⟩ := h'
  rcases h with ⟨hv, hn⟩ | ⟨g, cap, cur, hv, _, hg, _, _, _, ht⟩
  · rcases h' with ⟨_, hn'⟩ | ⟨g', cap', cur', hv', _⟩
    · rw [List.eq_nil_of_length_eq_zero hn, List.eq_nil_of_length_eq_zero hn']
    · rw [hv] at hv'; cases hv'
  · rcases h' with ⟨hv', hn'⟩ | ⟨g', cap', cur', hv', _, hg', _, _, _, ht'⟩
    · rw [hv] at hv'; cases hv'
    · rw [hv] at hv'
      simp only [Value.slice.injEq, Option.some.injEq, Addr.mk.injEq] at hv'
      obtain ⟨⟨rfl, _⟩, hl, _⟩ := hv'
      rw [hg] at hg'
      simp only [Option.some.injEq, Obj.cells.injEq, and_true] at hg'
      obtain ⟨rfl⟩ := hg'
      refine flat_inj ?_
      rw [← ht, ← ht', hl]
def WgtAt (W2 W : World) (v : Value) (n : Nat) : Prop := ∃ ps L, Own encP 118 2 W2.heap.size W v (List.reverse ps) ∧ All2 (RdP W2) ps L ∧ wgt L = n
theorem wgt_det {W2 W : World} {v : Value} {n m : Nat} (h : WgtAt W2 W v n) (h' : WgtAt W2 W v m) : n = m := by
  obtain ⟨ps, L, h1, h2, h3⟩ := h
  obtain ⟨ps', L', h1', h2', h3'⟩ := h'
  have e : ps = ps' := by simpa using own_det h1 h1'
  subst e
  have e := rdp_det h2 h2'
  subst e
  rw [← h3, ← h3']
theorem wgt_at {W2 W : World} {v : Value} {n : Nat} (h : WgtAt W2 W v n) : Classical.epsilon (WgtAt W2 W v) = n := wgt_det (Classical.epsilon_spec ⟨n, h⟩) h
theorem EM.wgt {W2 W : World} {m : Nat} {v : Value} {ps : List (Value × Value)} {L : List Pr} {ks : List Ky} {K : List Pr} (h : EM W2 W m v ps L ks K) : Classical.epsilon (WgtAt W2 W v) = wgt L := wgt_at ⟨ps, L, h.ow, h.rp, rfl⟩
theorem info64 : (Tryz.prog.info? 118).map (fun i => (i.zero, i.size, i.bytes)) = some (some (.agg #[.slice none 0 0, .slice none 0 0]), 2, 48) := by kernel_rfl
theorem em0 {W : World} {x y : Ex} {c0 c1 c2 c3 c4 c5 c6 d0 d1 d2 d3 d4 d5 d6 : Value} (hx : Rd W x (.agg #[c0, c1, c2, c3, c4, c5, c6])) (hy : Rd W y (.agg #[d0, d1, d2, d3, d4, d5, d6])) :
    EM ((W.alloc (.cells #[c0, c1, c2, c3, c4, c5, c6] 35)).alloc (.cells #[d0, d1, d2, d3, d4, d5, d6] 35))
      ((((W.alloc (.cells #[c0, c1, c2, c3, c4, c5, c6] 35)).alloc (.cells #[d0, d1, d2, d3, d4, d5, d6] 35)).alloc (.cells #[.slice (some ⟨W.heap.size, 0, none⟩) 1 1, .slice (some ⟨W.heap.size + 1, 0, none⟩) 1 1] 118)).alloc (.map #[] 0)) (W.heap.size + 1 + 1 + 1)
      (.slice (some ⟨W.heap.size + 1 + 1, 0, none⟩) 1 1) [(.slice (some ⟨W.heap.size, 0, none⟩) 1 1, .slice (some ⟨W.heap.size + 1, 0, none⟩) 1 1)] [([x], [y])] [] [] := by
  have e1 : (W.alloc (.cells #[c0, c1, c2, c3, c4, c5, c6] 35)).heap.size = W.heap.size + 1 := by simp
  have tx := (tl_one hx 35).on ((Q.refl _).alloc (.cells #[d0, d1, d2, d3, d4, d5, d6] 35))
  have ty := tl_one (Rd.on ((Q.refl W).alloc (.cells #[c0, c1, c2, c3, c4, c5, c6] 35)) _ _ hy) 35
  rw [e1] at ty
  refine ⟨((Q.refl _).alloc _).alloc _, ?_, ?_, by simp, fun h => absurd (Option.some.inj h) (by simp), And.intro ⟨tx, ty, rfl, by simp⟩ trivial, trivial⟩
  · refine Own.alloc ?_ _
    refine ⟨rfl, .inr ⟨W.heap.size + 1 + 1, 1, #[.slice (some ⟨W.heap.size, 0, none⟩) 1 1, .slice (some ⟨W.heap.size + 1, 0, none⟩) 1 1], rfl, by simp, ?_, by simp, by unfold maxLen; omega, rfl, rfl⟩⟩
    have := (MapKept.heap_alloc ((W.alloc (.cells #[c0, c1, c2, c3, c4, c5, c6] 35)).alloc (.cells #[d0, d1, d2, d3, d4, d5, d6] 35)) (.cells #[.slice (some ⟨W.heap.size, 0, none⟩) 1 1, .slice (some ⟨W.heap.size + 1, 0, none⟩) 1 1] 118)).1
    simpa using this
  · refine ⟨#[], 0, ?_, rfl⟩
    have := (MapKept.heap_alloc (((W.alloc (.cells #[c0, c1, c2, c3, c4, c5, c6] 35)).alloc (.cells #[d0, d1, d2, d3, d4, d5, d6] 35)).alloc (.cells #[.slice (some ⟨W.heap.size, 0, none⟩) 1 1, .slice (some ⟨W.heap.size + 1, 0, none⟩) 1 1] 118)) (.map #[] 0)).1
    simpa using this
structure LC (W : World) (q : Nat) (va vb : Value) : Prop where
  a : W.cell? ⟨q, 0, none⟩ = some va
  b : W.cell? ⟨q, 1, none⟩ = some vb
theorem LC.lt {W : World} {q : Nat} {va vb : Value} (h : LC W q va vb) : q < W.heap.size := World.block_lt_of_cell? W ⟨q, 0, none⟩ h.a
theorem LC.on {W W' : World} {q : Nat} {va vb : Value} (h : LC W q va vb) (x : Q W W') : LC W' q va vb := ⟨(x.cell h.lt).trans h.a, (x.cell h.lt).trans h.b⟩
theorem LC.kept {W W' : World} {q : Nat} {va vb : Value} {r : Option Nat} (h : LC W q va vb) (g : W.grownBy W' r) (hr : some q ≠ r) : LC W' q va vb := by
  have hl := h.lt
  exact ⟨(World.cell?_of_block (w := W) (w' := W') (a := ⟨q, 0, none⟩) (g.block q hl hr)).trans h.a, (World.cell?_of_block (w := W) (w' := W') (a := ⟨q, 1, none⟩) (g.block q hl hr)).trans h.b⟩
theorem Kid.on {W W' : World} {x : Ex} {b off : Nat} {c0 c1 c2 c3 c4 c5 c6 : Value} (h : Kid W x b off c0 c1 c2 c3 c4 c5 c6) (q : Q W W') : Kid W' x b off c0 c1 c2 c3 c4 c5 c6 := by
  have ce : ∀ {o : Nat} {c : Value}, W.cell? ⟨b, o, none⟩ = some c → W'.cell? ⟨b, o, none⟩ = some c := fun h => (q.cell (World.block_lt_of_cell? W ⟨b, _, none⟩ h)).trans h
  exact ⟨ce h.g0, ce h.g1, ce h.g2, ce h.g3, ce h.g4, ce h.g5, ce h.g6, Rd.on q _ _ h.rd⟩
theorem Eqv.memK {R : Prop} {L K K' : List Pr} (h : Eqv R L K) (hk : ∀ k ∈ K', k ∈ K) : Eqv R L K' := ⟨h.all, fun k h' => h.bgn k (hk k h')⟩
theorem one2 (a1 : Option Addr) (l1 c1 : Nat) (a2 : Option Addr) (l2 c2 : Nat) : ∀ u ∈ ([.slice a1 l1 c1, .slice a2 l2 c2] : List Value), u.oneCell' = true := by
  intro u hu
  simp at hu
  rcases hu with rfl | rfl <;> rfl
theorem wgt_len {W : World} : ∀ {ps : List (Value × Value)} {L : List Pr}, All2 (RdP W) ps L → ps.length ≤ wgt L
  | [], [], _ => by simp
  | [], _ :: _, h => by cases h
  | _ :: _, [], h => by cases h
  | p :: ps, (a, b) :: L, h => by
    rw [wgt_cons, List.length_cons]
    have := wgt_len h.2
    have h1 := h.1.ne
    cases a with
    | nil => exact absurd rfl h1
    | cons z zs =>
      show _ ≤ nodes.nodesL (z :: zs) + _
      rw [nodesL_cons']
      omega
theorem wpList_mapUpdate_keys (w : World) {ops : Array Oper} {rest : List Oper} {o : Oper} {a : Act} {Q : Exit → Act → World → Prop} (hg : o.guard = none) (m x v : Operand) (hop : o.op = Op.mapUpdate 120 m x v) (b : Nat) (ks : List Ky) (k : Ky)
    (hm : a.eval m = .map (some b)) (hx : a.eval x = kyV k) (hv : a.eval v = .agg #[]) (h : MapK w b ks) (hk : KyP w k) (hp : ∀ x ∈ ks, KyP w x) (hn : k ∉ ks)
    (hK : ∀ w', MapK w' b (ks ++ [k]) → w.grownBy w' (some b) → wpList Tryz.prog ops Q rest (a.put o.dst undef) w') : wpList Tryz.prog ops Q (o :: rest) a w := by
  refine wpList_plain hg fun K' hK' => ?_
  obtain ⟨w', hrun, r1, r2⟩ := h.update k hk hp hn
  unfold Oper.wp
  simp [execOp, hop, hm, hx, hv, hrun, Result.andThen]
  exact hK' _ _ (hK w' r1 r2)
theorem lc_new (W : World) (va vb : Value) (t : TypeId) : LC (W.alloc (.cells #[va, vb] t)) W.heap.size va vb := by
  refine ⟨?_, ?_⟩ <;> simp [World.cell?_alloc_new]
set_option maxHeartbeats 8000000 in
theorem eq_any (x y : Ex) (v v' : Value) (W : World) (hx : Rd W x v) (hy : Rd W y v') (hb : nodes x ≤ 1000) : Calls Tryz.prog 47 #[v, v'] W fun e W' => Ans (x = y) e ∧ Q W W' := by
  obtain ⟨k, n, t, b, e, a1, l1, c1, a2, l2, c2, rfl⟩ := hx.shape
  obtain ⟨k', n', t', b', e', a1', l1', c1', a2', l2', c2', rfl⟩ := hy.shape
  obtain ⟨W2, q2, hE⟩ : ∃ W2, Q W W2 ∧ EM W2 ((((((W.alloc (.cells #[.int .i64 k, .int .i64 n, .string t, .bool b, .int .i64 e, .slice a1 l1 c1, .slice a2 l2 c2] 35)).alloc (.cells #[.int .i64 k', .int .i64 n', .string t', .bool b', .int .i64 e', .slice a1' l1' c1', .slice a2' l2' c2'] 35)).alloc (.cells #[.int .i64 k, .int .i64 n, .string t, .bool b, .int .i64 e, .slice a1 l1 c1, .slice a2 l2 c2] 35)).alloc (.cells #[.int .i64 k', .int .i64 n', .string t', .bool b', .int .i64 e', .slice a1' l1' c1', .slice a2' l2' c2'] 35)).alloc (.cells #[.slice (some ⟨W.heap.size + 1 + 1, 0, none⟩) 1 1, .slice (some ⟨W.heap.size + 1 + 1 + 1, 0, none⟩) 1 1] 118)).alloc (.map #[] 0)) (W.heap.size + 1 + 1 + 1 + 1 + 1) (.slice (some ⟨W.heap.size + 1 + 1 + 1 + 1, 0, none⟩) 1 1) [(.slice (some ⟨W.heap.size + 1 + 1, 0, none⟩) 1 1, .slice (some ⟨W.heap.size + 1 + 1 + 1, 0, none⟩) 1 1)] [([x], [y])] [] [] := by
    have q0 : Q W ((W.alloc (.cells #[.int .i64 k, .int .i64 n, .string t, .bool b, .int .i64 e, .slice a1 l1 c1, .slice a2 l2 c2] 35)).alloc (.cells #[.int .i64 k', .int .i64 n', .string t', .bool b', .int .i64 e', .slice a1' l1' c1', .slice a2' l2' c2'] 35)) := ((Q.refl _).alloc _).alloc _
    have h := em0 (Rd.on q0 _ _ hx) (Rd.on q0 _ _ hy)
    rw [show ((W.alloc (.cells #[.int .i64 k, .int .i64 n, .string t, .bool b, .int .i64 e, .slice a1 l1 c1, .slice a2 l2 c2] 35)).alloc (.cells #[.int .i64 k', .int .i64 n', .string t', .bool b', .int .i64 e', .slice a1' l1' c1', .slice a2' l2' c2'] 35)).heap.size = W.heap.size + 1 + 1 by simp] at h
    exact ⟨_, (((((Q.refl _).alloc _).alloc _).alloc _).alloc _), h⟩
  have HE := hid hE
  have HQ2 := hid q2
  have HS : Hid (Eqv (x = y) [([x], [y])] [] ∧ wgt [([x], [y])] ≤ 1000) := hid ⟨eqv_start x y, by rw [wgt_cons]; simp [wgt, nodes.nodesL]; exact hb⟩
  obtain ⟨M, hM⟩ : ∃ M, M = W.heap.size + 1 + 1 + 1 + 1 + 1 := ⟨_, rfl⟩
  have HM := hid hM
  clear hx hy hE q2 hM hb
  have hmm := @run_makeMap Tryz.prog
  go_enter Tryz.func47, Tryz.ntmps47
  go_wp2_with fail
  go_loopw [4, 5] (fun _ u wr => ∃ (ps : List (Value × Value)) (L K : List Pr) (ks : List Ky), EM W2 wr (W.heap.size + 1 + 1 + 1 + 1 + 1) u ps L ks K ∧ Hid (Eqv (x = y) L K ∧ wgt L ≤ 1000)) (fun _ u wr => Classical.epsilon (WgtAt W2 wr u))
  case atStart => exact ⟨_, _, [], [], HE.out, HS⟩
  case round =>
    obtain ⟨ps, L, K, ks, hE, HV⟩ := hrel
    obtain ⟨w0, hw0⟩ : ∃ w0, w0 = wr := ⟨wr, rfl⟩
    subst hw0
    have HEr := hid hE
    have HEr0 := hid hE
    clear HE HS
    cases ps with
    | nil =>
      cases L with
      | cons l L => exact absurd hE.rp (by simp [All2])
      | nil =>
        have HF := hid HV.out.1.done
        obtain ⟨ao, cap, hv, _⟩ := (hE.ow.sl encP_len (by omega)).len
        simp only [List.reverse_nil, List.length_nil] at hv
        subst hv
        clear hE
        go_wp2_with fail
        go_ret
        exact ⟨Ans.yes HF.out, HQ2.out.trans HEr.out.q⟩
    | cons p ps =>
      cases L with
      | nil => exact absurd hE.rp (by simp [All2])
      | cons l L =>
        obtain ⟨va, vb⟩ := p
        obtain ⟨xs, ys⟩ := l
        obtain ⟨hp, hr⟩ := hE.rp
        have HP := hid hp
        have ow := hE.ow
        rw [List.reverse_cons] at ow
        obtain ⟨g, cap, hv, hg1, hg2, hc1, hc2⟩ := ow.shape (by simp)
        rw [List.length_append, List.length_singleton, List.length_reverse] at hv hc1
        subst hv
        obtain ⟨n0, hn0⟩ : ∃ n0, ps.length = n0 := ⟨_, rfl⟩
        rw [hn0] at HEr HEr0 hE ow hc1 ⊢
        have hlen : (ps.reverse ++ [(va, vb)]).length = n0 + 1 := by rw [List.length_append, List.length_reverse, hn0]; rfl
        have ow2 : Own encP 118 2 W2.heap.size w0 (.slice (some ⟨g, 0, none⟩) (ps.reverse ++ [(va, vb)]).length cap) (ps.reverse ++ [(va, vb)]) := by rw [hlen]; exact ow
        have cl := ow2.cell encP_len (i := n0) (by rw [hlen]; omega)
        rw [List.getElem_append_right (by simp; omega)] at cl
        simp only [List.length_reverse, hn0, Nat.sub_self, List.getElem_cons_zero] at cl
        have z0 : w0.cell? ⟨g, n0 * 2, none⟩ = some va := cl 0 _ rfl
        have z1 : w0.cell? ⟨g, n0 * 2 + 1, none⟩ = some vb := cl 1 _ rfl
        have hln : xs.length = ys.length := hp.ln
        have hpos : 0 < xs.length := List.length_pos_iff.2 hp.ne
        obtain ⟨b1, o1, cap1, e1⟩ : ∃ b1 o1 cap1, va = .slice (some ⟨b1, o1, none⟩) xs.length cap1 := by
          obtain ⟨b1, o1, cap1, e1, _⟩ := hp.a.at (i := 0) hpos
          exact ⟨_, _, _, e1⟩
        obtain ⟨b2, o2, cap2, e2⟩ : ∃ b2 o2 cap2, vb = .slice (some ⟨b2, o2, none⟩) xs.length cap2 := by
          obtain ⟨b2, o2, cap2, e2, _⟩ := hp.b.at (i := 0) (by show 0 < ys.length; rw [← hln]; exact hpos)
          simp only at e2
          rw [← hln] at e2
          exact ⟨_, _, _, e2⟩
        have HC : Hid (EM W2 w0 (W.heap.size + 1 + 1 + 1 + 1 + 1) (.slice (some ⟨g, 0, none⟩) n0 cap) ps L ks K) := hid ⟨hE.q, own_cut ow (by simp; exact hn0), hE.mp, hE.hm, hE.ob, hr, hE.rk⟩
        have hmax : xs.length ≤ 9223372036854775807 := by
          obtain ⟨_, cc, _, h1, h2, _⟩ := hp.a
          simp only at h1
          unfold maxLen at h2
          omega
        obtain ⟨N1, hN1⟩ : ∃ N1, xs.length = N1 := ⟨_, rfl⟩
        rw [hN1] at e1 e2 hpos hmax
        have HN1 := hid hN1
        have HLN := hid hln
        subst e1 e2
        clear hE ow ow2 hlen cl hp hr hN1 hln
        have hn1 : n0 + 1 ≤ 9223372036854775807 := by unfold maxLen at hc2; omega
        have i0 : (0 : Int) < ((n0 + 1 : Nat) : Int) := by omega
        have i1 : ((n0 + 1 : Nat) : Int) - 1 = (n0 : Int) := by omega
        go_wp2_with fail
        have hM0 := HC.out.mp.lt
        have HL0 : Hid (EM W2 (w0.alloc (.cells #[.slice (some ⟨b1, o1, none⟩) N1 cap1, .slice (some ⟨b2, o2, none⟩) N1 cap2] 118)) (W.heap.size + 1 + 1 + 1 + 1 + 1) (.slice (some ⟨g, 0, none⟩) n0 cap) ps L ks K) := hid (HC.out.on ((Q.refl _).alloc _))
        go_loopw [4, 5, 36] (fun _ u s wi => ∃ (i : Nat) (ps' : List (Value × Value)) (L' K' : List Pr) (ks' : List Ky), i ≤ N1 ∧ s = .int .i64 (i : Int) ∧ EM W2 wi (W.heap.size + 1 + 1 + 1 + 1 + 1) u ps' L' ks' K' ∧ LC wi w0.heap.size (.slice (some ⟨b1, o1, none⟩) N1 cap1) (.slice (some ⟨b2, o2, none⟩) N1 cap2) ∧ Hid (u.ownBlock ≠ some w0.heap.size) ∧ Hid (Eqv (x = y) ((xs.drop i, ys.drop i) :: L') K' ∧ wgt ((xs.drop i, ys.drop i) :: L') + i ≤ wgt ((xs, ys) :: L))) (fun _ _ s _ => N1 - (intOf s).toNat)
        case atStart => exact ⟨0, ps, L, K, ks, Nat.zero_le _, rfl, HL0.out, lc_new _ _ _ _, hid (fun e => by have := Option.some.inj e; simp only at this; omega), hid ⟨by rw [List.drop_zero, List.drop_zero]; exact HV.out.1, by rw [List.drop_zero, List.drop_zero]; exact Nat.le_refl _⟩⟩
        case round =>
          obtain ⟨i, ps', L', K', ks', hi, rfl, hE', hLC, HOB, HV'⟩ := hrel
          have HE' := hid hE'
          have HLC := hid hLC
          clear HL0 HC HEr
          by_cases hlt : i < N1
          · have hlt' : (i : Int) < (N1 : Int) := by omega
            have hix : i < xs.length := by rw [HN1.out]; exact hlt
            have hiy : i < ys.length := by rw [← HLN.out]; exact hix
            have dx : xs.drop i = xs[i] :: xs.drop (i + 1) := List.drop_eq_getElem_cons hix
            have dy : ys.drop i = ys[i] :: ys.drop (i + 1) := List.drop_eq_getElem_cons hiy
            have HD : Hid (Eqv (x = y) ((xs[i] :: xs.drop (i + 1), ys[i] :: ys.drop (i + 1)) :: L') K' ∧ wgt ((xs[i] :: xs.drop (i + 1), ys[i] :: ys.drop (i + 1)) :: L') + i ≤ wgt ((xs, ys) :: L)) := by
              have := HV'.out
              rw [dx, dy] at this
              exact this
            obtain ⟨c0, c1, c2, c3, c4, c5, c6, hka⟩ : ∃ c0 c1 c2 c3 c4 c5 c6, Kid W2 xs[i] b1 (o1 + i * 7) c0 c1 c2 c3 c4 c5 c6 := by
              obtain ⟨bb, oo, cc, e1, _, _, c0, c1, c2, c3, c4, c5, c6, hk⟩ := HP.out.a.at hix
              simp only [Value.slice.injEq, Option.some.injEq, Addr.mk.injEq] at e1
              obtain ⟨⟨rfl, rfl, _⟩, _⟩ := e1
              exact ⟨_, _, _, _, _, _, _, hk⟩
            obtain ⟨d0, d1, d2, d3, d4, d5, d6, hkb⟩ : ∃ d0 d1 d2 d3 d4 d5 d6, Kid W2 ys[i] b2 (o2 + i * 7) d0 d1 d2 d3 d4 d5 d6 := by
              obtain ⟨bb, oo, cc, e1, _, _, c0, c1, c2, c3, c4, c5, c6, hk⟩ := HP.out.b.at hiy
              simp only [Value.slice.injEq, Option.some.injEq, Addr.mk.injEq] at e1
              obtain ⟨⟨rfl, rfl, _⟩, _⟩ := e1
              exact ⟨_, _, _, _, _, _, _, hk⟩
            have HTA := hid hka.tl
            have HTB := hid hkb.tl
            have kA := hka.on hE'.q
            have kB := hkb.on hE'.q
            generalize xs[i] = X at *
            generalize ys[i] = Y at *
            have HSM := hid (fun m => same_q X Y b1 (o1 + i * 7) b2 (o2 + i * 7) c0 c1 c2 c3 c4 c5 c6 d0 d1 d2 d3 d4 d5 d6 (wr.drewN m) (kA.on ((Q.refl _).drewN m)) (kB.on ((Q.refl _).drewN m)))
            have HKA := hid kA.g6
            have HKB := hid kB.g6
            have l0 := hLC.a
            have l1' := hLC.b
            clear hka hkb kA kB dx dy HV' hix hiy hE' hLC
            cases hs : sameB X Y
            · have HNO : Hid (¬ (x = y)) := hid (HD.out.1.no (fun h => by rw [(sameB_iff X Y).2 h] at hs; cases hs))
              rw [hs] at HSM
              clear hs HD
              go_wp2_with fail
              go_quiet (first | (go_at_call 70; refine Calls.quiet_of (HSM.out _)) | (refine Calls.quiet_of (HSM.out _)))
              go_wp2_with fail
              go_ret
              exact ⟨Ans.no HNO.out, (HQ2.out.trans HE'.out.q).drewN _⟩
            · have HYE := hid ((sameB_iff X Y).1 hs)
              rw [hs] at HSM
              clear hs
              go_wp2_with fail
              go_quiet (first | (go_at_call 70; refine Calls.quiet_of (HSM.out _)) | (refine Calls.quiet_of (HSM.out _)))
              rename_i nq
              obtain ⟨w3, hw3⟩ : ∃ w3, w3 = wr.drewN nq := ⟨_, rfl⟩
              have HQ3 : Hid (Q wr w3) := by rw [hw3]; exact (Q.refl _).drewN _
              rw [← hw3]
              clear hw3 l0 l1' HSM
              have HE3 := hid (HE'.out.on HQ3.out)
              have HL3 := hid (HLC.out.on HQ3.out)
              have l0 := HL3.out.a
              have l1' := HL3.out.b
              have k6 := (HQ3.out.cell (World.block_lt_of_cell? wr ⟨b1, o1 + i * 7 + 6, none⟩ HKA.out)).trans HKA.out
              have k6' := (HQ3.out.cell (World.block_lt_of_cell? wr ⟨b2, o2 + i * 7 + 6, none⟩ HKB.out)).trans HKB.out
              have hb1 : b1 < w3.heap.size := World.block_lt_of_cell? w3 ⟨b1, o1 + i * 7 + 6, none⟩ k6
              have hb2 : b2 < w3.heap.size := World.block_lt_of_cell? w3 ⟨b2, o2 + i * 7 + 6, none⟩ k6'
              have hnb : w0.heap.size < w3.heap.size := HL3.out.lt
              have HYL : Hid ((kd X).length = (kd Y).length) := hid HYE.out.2
              obtain ⟨ac, cc, ec⟩ : ∃ ac cc, c6 = .slice ac (kd X).length cc := by
                obtain ⟨ac, cc, ec, _⟩ := HTA.out
                exact ⟨_, _, ec⟩
              obtain ⟨ad, cd, ed⟩ : ∃ ad cd, d6 = .slice ad (kd X).length cd := by
                obtain ⟨ad, cd, ed, _⟩ := HTB.out
                rw [← HYL.out] at ed
                exact ⟨_, _, ed⟩
              clear HKA HKB
              obtain ⟨N2, hN2⟩ : ∃ N2, (kd X).length = N2 := ⟨_, rfl⟩
              have HN2 := hid hN2
              rw [hN2] at ec ed
              clear hN2
              subst ec ed
              by_cases h0 : N2 = 0
              · have z2 : ((N2 : Int) == 0) = true := by rw [h0]; rfl
                have HD2 : Hid (Eqv (x = y) ((xs.drop (i + 1), ys.drop (i + 1)) :: L') K' ∧ wgt ((xs.drop (i + 1), ys.drop (i + 1)) :: L') + (i + 1) ≤ wgt ((xs, ys) :: L)) := by
                  have hx0 : kd X = [] := List.eq_nil_of_length_eq_zero (by rw [HN2.out, h0])
                  refine ⟨HD.out.1.leaf HYE.out.1 hx0 HYE.out.2, ?_⟩
                  have := HD.out.2
                  rw [wgt_cons] at this ⊢
                  simp only [nodesL_cons'] at this
                  simp only
                  omega
                clear HD
                go_wp2_with fail
                go_region
                go_wp2_with fail
                go_roundw
                case rel => exact ⟨i + 1, ps', L', K', ks', by omega, by go_num, HE3.out.on (by repeat (first | with_reducible exact Q.refl _ | with_reducible refine Q.drewN ?_ _ | with_reducible refine Q.drew ?_ | with_reducible refine Q.alloc ?_ _ | with_reducible refine Q.setCell ?_ (by simp) _)), HL3.out.on (by repeat (first | with_reducible exact Q.refl _ | with_reducible refine Q.drewN ?_ _ | with_reducible refine Q.drew ?_ | with_reducible refine Q.alloc ?_ _ | with_reducible refine Q.setCell ?_ (by simp) _)), HOB, HD2⟩
                case measure => simp [intOf]; omega
              · have z2 : ((N2 : Int) == 0) = false := by rw [beq_eq_false_iff_ne]; omega
                have hN2 : 0 < N2 := by omega
                obtain ⟨p1, q1, r1, pl1, rd1⟩ : ∃ p1 q1, ac = some ⟨p1, q1, none⟩ ∧ Pl W2 p1 ∧ Rd.RdL W2 (kd X) p1 q1 := by
                  obtain ⟨ao, cp, ev, _, _, h⟩ := HTA.out
                  simp only [Value.slice.injEq] at ev
                  obtain ⟨rfl, _⟩ := ev
                  exact h (fun e => by have := HN2.out; rw [e] at this; simp at this; omega)
                obtain ⟨p2, q2, r2, pl2, rd2⟩ : ∃ p2 q2, ad = some ⟨p2, q2, none⟩ ∧ Pl W2 p2 ∧ Rd.RdL W2 (kd Y) p2 q2 := by
                  obtain ⟨ao, cp, ev, _, _, h⟩ := HTB.out
                  simp only [Value.slice.injEq] at ev
                  obtain ⟨rfl, _⟩ := ev
                  exact h (fun e => by have := HN2.out; have h2 := HYL.out; rw [e] at h2; rw [h2] at this; simp at this; omega)
                have HKR : Hid (KyR W2 (p1, q1, p2, q2, N2) (kd X, kd Y)) := hid ⟨⟨pl1, pl2⟩, rd1, rd2, HN2.out, HYL.out ▸ HN2.out⟩
                have HRP : Hid (RdP W2 (.slice ac N2 cc, .slice ad N2 cd) (kd X, kd Y)) := hid ⟨HTA.out, HTB.out, HYL.out, fun e => by have := HN2.out; simp only at e; rw [e] at this; simp at this; omega⟩
                subst r1 r2
                clear pl1 pl2 rd1 rd2
                have HKEY := hid (fun W' => key_any p1 q1 p2 q2 N2 cc cd hN2 W')
                go_wp2_with fail
                go_region
                obtain ⟨w4, hw4⟩ : ∃ w4, w4 = (w3.alloc (.cells #[.slice (some ⟨p1, q1, none⟩) N2 cc, .slice (some ⟨p2, q2, none⟩) N2 cd] 118)).drew := ⟨_, rfl⟩
                have HQ4 : Hid (Q w3 w4) := by rw [hw4]; exact ((Q.refl _).alloc _).drew
                have HL4 : Hid (LC w4 w3.heap.size (.slice (some ⟨p1, q1, none⟩) N2 cc) (.slice (some ⟨p2, q2, none⟩) N2 cd)) := by rw [hw4]; exact (lc_new w3 _ _ _).on (Q.refl _).drew
                rw [← hw4]
                clear hw4 l0 l1' k6 k6'
                have HE4 := hid (HE3.out.on HQ4.out)
                have HN4 := hid (HL3.out.on HQ4.out)
                have j0 := HL4.out.a
                have j1 := HL4.out.b
                have hM4 := HE4.out.mp.lt
                obtain ⟨NB, hNB⟩ : ∃ NB, NB = w3.heap.size := ⟨_, rfl⟩
                by_cases hk : (p1, q1, p2, q2, N2) ∈ ks'
                · have hdec : decide ((p1, q1, p2, q2, N2) ∈ ks') = true := decide_eq_true hk
                  have HD2 : Hid (Eqv (x = y) ((xs.drop (i + 1), ys.drop (i + 1)) :: L') K' ∧ wgt ((xs.drop (i + 1), ys.drop (i + 1)) :: L') + (i + 1) ≤ wgt ((xs, ys) :: L)) := by
                    obtain ⟨l, hl, hr⟩ := HE'.out.rk.mem hk
                    have el := hr.det HKR.out
                    subst el
                    refine ⟨HD.out.1.old HYE.out.1 hl, ?_⟩
                    have := HD.out.2
                    rw [wgt_cons] at this ⊢
                    simp only [nodesL_cons'] at this
                    simp only
                    omega
                  clear HD hk
                  go_wp2_with (go_at_call 71; refine (HKEY.out w4).mono ?_; rintro e w5 ⟨rfl, q5⟩; have Q5 := hid q5; clear q5; have hlk := (HE4.out.on Q5.out).mp.lookup (p1, q1, p2, q2, N2) ((HKR.out.p.on HE4.out.q).on Q5.out) (HE4.out.on Q5.out).keys; rw [hdec] at hlk)
                  go_roundw
                  case rel => exact ⟨i + 1, ps', L', K', ks', by omega, by go_num, HE4.out.on (Q5.out.trans (by repeat (first | with_reducible exact Q.refl _ | with_reducible refine Q.drewN ?_ _ | with_reducible refine Q.drew ?_ | with_reducible refine Q.alloc ?_ _ | with_reducible refine Q.setCell ?_ (by simp) _))), HN4.out.on (Q5.out.trans (by repeat (first | with_reducible exact Q.refl _ | with_reducible refine Q.drewN ?_ _ | with_reducible refine Q.drew ?_ | with_reducible refine Q.alloc ?_ _ | with_reducible refine Q.setCell ?_ (by simp) _))), HOB, HD2⟩
                  case measure => simp [intOf]; omega
                · have hdec : decide ((p1, q1, p2, q2, N2) ∈ ks') = false := decide_eq_false hk
                  have HD2 : Hid (Eqv (x = y) ((xs.drop (i + 1), ys.drop (i + 1)) :: (kd X, kd Y) :: L') (K' ++ [(kd X, kd Y)]) ∧ wgt ((xs.drop (i + 1), ys.drop (i + 1)) :: (kd X, kd Y) :: L') + (i + 1) ≤ wgt ((xs, ys) :: L)) := by
                    refine ⟨(HD.out.1.new HYE.out.1).memK (fun k hk' => ?_), ?_⟩
                    · simp only [List.mem_append, List.mem_singleton] at hk'
                      rcases hk' with h | h
                      · exact List.mem_cons_of_mem _ h
                      · rw [h]; exact List.mem_cons_self
                    · have := HD.out.2
                      rw [wgt_cons] at this ⊢
                      rw [wgt_cons]
                      simp only [nodesL_cons'] at this
                      simp only
                      omega
                  have hlp : ps'.reverse.length ≤ 1000 := by
                    rw [List.length_reverse]
                    have h1 := wgt_len HE'.out.rp
                    have h2 := HD.out.2
                    have h3 := HV.out.2
                    rw [wgt_cons] at h2
                    omega
                  have HKN := hid hk
                  have hM3 := HE3.out.mp.lt
                  obtain ⟨ti, hti⟩ := inf_of info64
                  obtain ⟨hi0, hz0, hz1, hz2⟩ := hti
                  clear HD hk
                  go_upto_region 15 with (go_at_call 71; refine (HKEY.out w4).mono ?_; rintro e w5 ⟨rfl, q5⟩; have Q5 := hid q5; clear q5; have hlk := (HE4.out.on Q5.out).mp.lookup (p1, q1, p2, q2, N2) ((HKR.out.p.on HE4.out.q).on Q5.out) (HE4.out.on Q5.out).keys; rw [hdec] at hlk)
                  obtain ⟨w6, hw6⟩ : ∃ w6, w6 = w5.alloc (.cells #[] 122) := ⟨_, rfl⟩
                  have HQ6 : Hid (Q w4 w6) := by rw [hw6]; exact Q5.out.alloc _
                  rw [← hw6]
                  clear hw6 hlk j0 j1 Q5
                  have HL6 := hid (HL4.out.on HQ6.out)
                  have HE6 := hid (HE4.out.on HQ6.out)
                  have HN6 := hid (HN4.out.on HQ6.out)
                  have j0 := HL6.out.a
                  have j1 := HL6.out.b
                  go_wp2_with (first | (go_at_call 71; refine (HKEY.out w6).mono ?_; rintro e w7 ⟨rfl, q7⟩; have Q7 := hid q7; clear q7; have HE7 := hid (HE6.out.on Q7.out); have HL7 := hid (HL6.out.on Q7.out); have HN7 := hid (HN6.out.on Q7.out)) | (at_mapUpdate; refine wpList_mapUpdate_keys _ rfl _ _ _ rfl (W.heap.size + 1 + 1 + 1 + 1 + 1) ks' (p1, q1, p2, q2, N2) rfl rfl rfl HE7.out.mp (HKR.out.p.on HE7.out.q) HE7.out.keys HKN.out ?_; intro w8 mp8 g8; have HE8 := hid (HE7.out.upd g8 mp8 HKR.out); have HL8 := hid (HL7.out.kept g8 (fun e => by have := Option.some.inj e; omega)); have HN8 := hid (HN7.out.kept g8 (fun e => by have := Option.some.inj e; omega)); clear mp8 g8; have j08 := HL8.out.a; have j18 := HL8.out.b; have hs8 := HE8.out.q.size) | (at_builtin; refine wpList_append_own_at _ rfl _ _ 119 rfl W2.heap.size 118 ti (.agg #[.slice none 0 0, .slice none 0 0]) 2 48 Tryz.underlying119 hi0 hz0 hz1 hz2 rfl (by decide) _ _ _ rfl (HE8.out.ow.alloc _) ⟨w8.heap.size, 0, none⟩ 1 1 [.slice (some ⟨p1, q1, none⟩) N2 cc, .slice (some ⟨p2, q2, none⟩) N2 cd] rfl rfl (news_at _ [.slice (some ⟨p1, q1, none⟩) N2 cc, .slice (some ⟨p2, q2, none⟩) N2 cd] 118 _ rfl) (one2 _ _ _ _ _ _) (by unfold maxLen; omega) (by omega) (by simp; omega) ?_; intro v9 w9 hown9 hgrow9 _ hat9; have ow9 := own_snoc' (x := ((.slice (some ⟨p1, q1, none⟩) N2 cc, .slice (some ⟨p2, q2, none⟩) N2 cd) : Value × Value)) hown9 rfl; have HE9 := hid ((HE8.out.on ((Q.refl _).alloc _)).app hgrow9 ow9 hat9 HRP.out); have HN9 := hid ((HN8.out.on ((Q.refl _).alloc _)).kept hgrow9 (fun e => HOB.out e.symm)); have HA9 := hid hat9; clear hown9 hgrow9 hat9 ow9))
                  go_roundw
                  case rel =>
                    refine ⟨i + 1, (.slice (some ⟨p1, q1, none⟩) N2 cc, .slice (some ⟨p2, q2, none⟩) N2 cd) :: ps', (kd X, kd Y) :: L', K' ++ [(kd X, kd Y)], ks' ++ [(p1, q1, p2, q2, N2)], by omega, by go_num, HE9.out, HN9.out, hid ?_, HD2⟩
                    rcases HA9.out with h | h
                    · rw [h]; exact HOB.out
                    · rw [h]
                      intro e
                      have := Option.some.inj e
                      have := HN8.out.lt
                      simp at *
                      omega
                  case measure => simp [intOf]; omega
          · have hlt' : ¬ (i : Int) < (N1 : Int) := by omega
            have hie : i = N1 := by omega
            have HD : Hid (Eqv (x = y) L' K' ∧ wgt L' + i ≤ wgt ((xs, ys) :: L)) := by
              have := HV'.out
              rw [List.drop_eq_nil_of_le (by rw [HN1.out]; omega), List.drop_eq_nil_of_le (by rw [← HLN.out, HN1.out]; omega)] at this
              refine ⟨this.1.pop, ?_⟩
              have h2 := this.2
              rw [wgt_cons] at h2
              simp only [nodes.nodesL] at h2
              omega
            clear HV' hE' hLC
            go_wp2_with fail
            go_roundw
            case rel => exact ⟨ps', L', K', ks', HE'.out, hid ⟨HD.out.1, by have := HD.out.2; have := HV.out.2; omega⟩⟩
            case measure =>
              rw [HE'.out.wgt, HEr0.out.wgt]
              have := HD.out.2
              omega
set_option maxHeartbeats 4000000 in
theorem veq_any (k n : Int) (t : ByteArray) (b : Bool) (e : Int) (k' n' : Int) (t' : ByteArray) (b' : Bool) (e' : Int) (w : World) : Calls Tryz.prog 45 #[vx k n t b e, vx k' n' t' b' e'] w fun x w' => x = .returned (.bool (decide (k = k' ∧ n = n' ∧ t.data.toList = t'.data.toList ∧ b = b' ∧ e = e'))) ∧ Q w w' := by
  by_cases h0 : k = k'
  · by_cases h1 : n = n'
    · by_cases h2 : t.data.toList = t'.data.toList
      · by_cases h3 : b = b'
        · by_cases h4 : e = e'
          · have ht : t = t' := by rw [← bytes_of t, h2, bytes_of]
            subst h0 h1 ht h3 h4
            rw [decide_eq_true ⟨rfl, rfl, rfl, rfl, rfl⟩]
            exact veq_same k n t b e w
          · rw [decide_eq_false (fun x => h4 x.2.2.2.2)]
            have e0 : (k == k') = true := by simpa using h0
            have e1 : (n == n') = true := by simpa using h1
            have e2 : (t.toList == t'.toList) = true := by rw [Lib.toList_data, Lib.toList_data]; simpa using h2
            have e3 : (b == b') = true := by simpa using h3
            have e4 : (e == e') = false := by simpa using h4
            clear h0 h1 h2 h3 h4
            unfold vx
            go_enter Tryz.func45, Tryz.ntmps45
            go_wp2_with fail
            go_ret
            exact ⟨rfl, ((Q.refl _).alloc _).alloc _⟩
        · rw [decide_eq_false (fun x => h3 x.2.2.2.1)]
          have e0 : (k == k') = true := by simpa using h0
          have e1 : (n == n') = true := by simpa using h1
          have e2 : (t.toList == t'.toList) = true := by rw [Lib.toList_data, Lib.toList_data]; simpa using h2
          have e3 : (b == b') = false := by simpa using h3
          clear h0 h1 h2 h3
          unfold vx
          go_enter Tryz.func45, Tryz.ntmps45
          go_wp2_with fail
          go_ret
          exact ⟨rfl, ((Q.refl _).alloc _).alloc _⟩
      · rw [decide_eq_false (fun x => h2 x.2.2.1)]
        have e0 : (k == k') = true := by simpa using h0
        have e1 : (n == n') = true := by simpa using h1
        have e2 : (t.toList == t'.toList) = false := by rw [Lib.toList_data, Lib.toList_data]; simpa using h2
        clear h0 h1 h2
        unfold vx
        go_enter Tryz.func45, Tryz.ntmps45
        go_wp2_with fail
        go_ret
        exact ⟨rfl, ((Q.refl _).alloc _).alloc _⟩
    · rw [decide_eq_false (fun x => h1 x.2.1)]
      have e0 : (k == k') = true := by simpa using h0
      have e1 : (n == n') = false := by simpa using h1
      clear h0 h1
      unfold vx
      go_enter Tryz.func45, Tryz.ntmps45
      go_wp2_with fail
      go_ret
      exact ⟨rfl, ((Q.refl _).alloc _).alloc _⟩
  · rw [decide_eq_false (fun x => h0 x.1)]
    exact veq_kind k n t b e k' n' t' b' e' w h0
def isZ : Ex → Bool
  | .mk k n t b e rs ks => decide (k = 0 ∧ n = 0 ∧ t = [] ∧ b = false ∧ e = 0 ∧ rs = [] ∧ ks.length = 0)
theorem isZ_iff (x : Ex) : isZ x = true ↔ x = zeroE := by
  obtain ⟨k, n, t, b, e, rs, ks⟩ := x
  unfold isZ zeroE
  constructor
  · intro h
    simp only [decide_eq_true_eq] at h
    obtain ⟨rfl, rfl, rfl, rfl, rfl, rfl, h7⟩ := h
    rw [List.eq_nil_of_length_eq_zero h7]
  · intro h
    cases h
    decide
theorem ans_isZ {x : Ex} {e : Ending} (h : Ans (x = zeroE) e) : e = .returned (.bool (isZ x)) := by
  obtain ⟨r, he, hr⟩ := h
  rw [he]
  have : r = isZ x := by
    cases hz : isZ x
    · cases r
      · rfl
      · have := (isZ_iff x).2 (hr.1 rfl)
        rw [hz] at this
        cases this
    · exact hr.2 ((isZ_iff x).1 hz)
  rw [this]
set_option maxHeartbeats 4000000 in
theorem smay_val (vk vn : Int) (vt : ByteArray) (vb : Bool) (ve : Int) (k m : Int) (t : ByteArray) (bb : Bool) (er : Int) (a1 : Option Addr) (l1 c1 : Nat) (a2 : Option Addr) (l2 c2 : Nat) (X : Ex) (w : World) (hg : Gd w) (hv : vt.size ≤ 1000000) (hn : nodes X ≤ 1000) (hr : Rd w X (.agg #[.int .i64 k, .int .i64 m, .string t, .bool bb, .int .i64 er, .slice a1 l1 c1, .slice a2 l2 c2])) : Calls Tryz.prog 29 #[.agg #[.bool false, .int .i64 vk, .int .i64 vn, .string vt, .bool vb, .int .i64 ve, .int .i64 k, .int .i64 m, .string t, .bool bb, .int .i64 er, .slice a1 l1 c1, .slice a2 l2 c2]] w fun e W' => e = .returned (.bool (V.mayB vk vn vt.data.toList vb ve && isZ X)) ∧ Q w W' := by
  have HM := hid (fun W' (q : Q w W') => V.may_any vk vn vt vb ve W' (hg.1.on q) (by omega))
  unfold V.vv at HM
  rw [Lib.toList_data] at HM
  have HV := hid (fun W' (q : Q w W') => eq_any X zeroE _ _ W' (Rd.on q _ _ hr) (rd_zero W') hn)
  clear hr hg hv hn
  cases h1 : V.mayB vk vn vt.data.toList vb ve
  · rw [h1] at HM
    go_enter Tryz.func29, Tryz.ntmps29
    go_wp2_with (go_at_call 46; refine (HM.out _ ((Q.refl _).alloc _)).mono ?_; rintro e9 w1 ⟨rfl, q1⟩; have Q1 : Hid (Q w w1) := hid (((Q.refl _).alloc _).trans q1); clear q1)
    go_ret
    exact ⟨by simp, Q1.out⟩
  · rw [h1] at HM
    go_enter Tryz.func29, Tryz.ntmps29
    go_wp2_with (first | (go_at_call 46; refine (HM.out _ ((Q.refl _).alloc _)).mono ?_; rintro e9 w1 ⟨rfl, q1⟩; have Q1 : Hid (Q w w1) := hid (((Q.refl _).alloc _).trans q1); have Z1 := hid ((cb_new w [.bool false, .int .i64 vk, .int .i64 vn, .string vt, .bool vb, .int .i64 ve, .int .i64 k, .int .i64 m, .string t, .bool bb, .int .i64 er, .slice a1 l1 c1, .slice a2 l2 c2] 37).on q1); clear q1; have d0 := Z1.out.c 0 _ rfl; have d1 := Z1.out.c 1 _ rfl; have d2 := Z1.out.c 2 _ rfl; have d3 := Z1.out.c 3 _ rfl; have d4 := Z1.out.c 4 _ rfl; have d5 := Z1.out.c 5 _ rfl; have d6 := Z1.out.c 6 _ rfl; have d7 := Z1.out.c 7 _ rfl; have d8 := Z1.out.c 8 _ rfl; have d9 := Z1.out.c 9 _ rfl; have d10 := Z1.out.c 10 _ rfl; have d11 := Z1.out.c 11 _ rfl; have d12 := Z1.out.c 12 _ rfl) | (go_at_call 47; refine (HV.out _ Q1.out).mono ?_; rintro e9 w2 ⟨ha, q2⟩; have he := ans_isZ ha; subst he; have Q2 := hid (Q1.out.trans q2); clear q2 ha))
    go_ret
    exact ⟨by simp, Q2.out⟩
set_option maxHeartbeats 1000000 in
theorem fits_apart (x : Ex) (r : Nat) (c0 c1 c2 c3 c4 c5 c6 : Value) (W : World) (hk : Kid W x r 0 c0 c1 c2 c3 c4 c5 c6) (hn : nodes x ≤ 200) :
    Calls Tryz.prog 60 #[.slice (some ⟨r, 0, none⟩) 1 1] W fun e W' => e = .returned (.bool true) ∧ Q W W' := by
  have HC := hid (pCount_any x _ W hk.rd)
  have HN := hid hn
  obtain ⟨c, hc⟩ : ∃ c, min (nodes x) 201 = c := ⟨_, rfl⟩
  rw [hc] at HC
  have hle : (c : Int) ≤ 200 := by omega
  obtain ⟨g0, g1, g2, g3, g4, g5, g6, _⟩ := hk
  clear hc hn
  go_enter Tryz.func60, Tryz.ntmps60
  go_wp2_with (go_at_call 86; refine HC.out.mono ?_; rintro e w1 ⟨rfl, q1⟩; have Q1 := hid q1; clear q1)
  go_ret
  exact ⟨rfl, Q1.out⟩
set_option maxHeartbeats 1000000 in
theorem of_any (p : Nat) (a : Addr) (n cap : Nat) (cs : List Value) (W : World) (hp : W.cell? ⟨p, 0, none⟩ = some (.bool true)) (hn : n ≤ 1000) (hl : cs.length = n * 7) (hsrc : ∀ j v, cs[j]? = some v → W.cell? (a.add j) = some v) (h1 : ∀ v ∈ cs, v.oneCell' = true) :
    Calls Tryz.prog 64 #[.pointer (some ⟨p, 0, none⟩), .slice (some a) n cap] W fun e W' => e = .returned (.tuple #[.slice (some ⟨W.heap.size, 0, none⟩) n n, .bool false]) ∧ Anw W W' 35 n cs := by
  have HA := hid (anew71_any a n cap cs W hn hl hsrc h1)
  clear hl hsrc h1
  go_enter Tryz.func64, Tryz.ntmps64
  go_wp2_with (go_at_call 90; refine HA.out.mono ?_; rintro e w1 ⟨rfl, a1⟩; have A1 := hid a1; clear a1)
  go_ret2
  exact ⟨rfl, A1.out⟩
theorem bmk (s : ByteArray) : (⟨s.data.toList.toArray⟩ : ByteArray) = s := (bytes_eq rfl).symm
def orT (s t : List UInt8) : List UInt8 := if s = [] then t else s
set_option maxHeartbeats 1000000 in
theorem or_any (b : Nat) (s t : ByteArray) (W : World) (h0 : W.cell? ⟨b, 0, none⟩ = some (.string s)) (h1 : W.cell? ⟨b, 1, none⟩ = some (.string t)) :
    Calls Tryz.prog 67 #[.slice (some ⟨b, 0, none⟩) 2 2] W fun e W' => e = .returned (.string ⟨(orT s.data.toList t.data.toList).toArray⟩) ∧ W' = W := by
  have es := hid (toL s)
  have et := hid (toL t)
  go_enter Tryz.func67, Tryz.ntmps67
  go_wp2
  go_loopw [8, 5] (fun x _ W' => ∃ i : Nat, i ≤ 2 ∧ x = .int .i64 (i : Int) ∧ W' = W ∧ Hid (1 ≤ i → s.data.toList = []) ∧ Hid (2 ≤ i → t.data.toList = [])) (fun x _ _ => 2 - (intOf x).toNat)
  case atStart => exact ⟨0, by omega, rfl, rfl, hid (fun h => by omega), hid (fun h => by omega)⟩
  case round =>
    obtain ⟨i, hi, rfl, rfl, h2, h3⟩ := hrel
    obtain rfl | rfl | rfl : i = 0 ∨ i = 1 ∨ i = 2 := by omega
    · by_cases hs : s.data.toList = []
      · have f0 : (s.toList == []) = true := by rw [es.out, hs]; rfl
        have HS := hid hs
        clear hs es
        go_wp2_with fail
        go_roundw
        case rel => exact ⟨1, by omega, by go_num, by first | rfl | trivial, hid (fun _ => HS.out), hid (fun h => by omega)⟩
        case measure => simp [intOf]
      · have f0 : (s.toList == []) = false := by rw [es.out, beq_eq_false_iff_ne]; exact hs
        have HR : Hid (orT s.data.toList t.data.toList = s.data.toList) := hid (by unfold orT; rw [if_neg hs])
        clear hs es et
        go_wp2_with fail
        go_ret
        exact ⟨ret_str (by rw [HR.out, bmk]), rfl⟩
    · have HR : Hid (orT s.data.toList t.data.toList = t.data.toList) := hid (by unfold orT; rw [if_pos (h2.out (by omega))])
      by_cases ht : t.data.toList = []
      · have f1 : (t.toList == []) = true := by rw [et.out, ht]; rfl
        have HT := hid ht
        clear ht es et
        go_wp2_with fail
        go_roundw
        case rel => exact ⟨2, by omega, by go_num, by first | rfl | trivial, hid (fun _ => h2.out (by omega)), hid (fun h => HT.out)⟩
        case measure => simp [intOf]
      · have f1 : (t.toList == []) = false := by rw [et.out, beq_eq_false_iff_ne]; exact ht
        clear ht es et
        go_wp2_with fail
        go_ret
        exact ⟨ret_str (by rw [HR.out, bmk]), rfl⟩
    · have HR : Hid (orT s.data.toList t.data.toList = []) := hid (by unfold orT; rw [if_pos (h2.out (by omega))]; exact h3.out (by omega))
      clear es et
      go_wp2_with fail
      go_ret
      exact ⟨ret_str (by rw [HR.out]), rfl⟩
def PdL (W0 W : World) : List Ex → Nat → Nat → Prop
  | [], _, _ => True
  | x :: xs, b, off => (∃ c0 c1 c2 c3 c4 c5 c6, W.cell? ⟨b, off, none⟩ = some c0 ∧ W.cell? ⟨b, off + 1, none⟩ = some c1 ∧ W.cell? ⟨b, off + 2, none⟩ = some c2 ∧ W.cell? ⟨b, off + 3, none⟩ = some c3 ∧ W.cell? ⟨b, off + 4, none⟩ = some c4 ∧ W.cell? ⟨b, off + 5, none⟩ = some c5 ∧ W.cell? ⟨b, off + 6, none⟩ = some c6 ∧ Rd W0 x (.agg #[c0, c1, c2, c3, c4, c5, c6])) ∧ PdL W0 W xs b (off + 7)
theorem PdL.on {W0 W W' : World} : ∀ {l : List Ex} {b off : Nat}, PdL W0 W l b off → (∀ j, off ≤ j → j < off + 7 * l.length → W'.cell? ⟨b, j, none⟩ = W.cell? ⟨b, j, none⟩) → PdL W0 W' l b off
  | [], _, _, _, _ => by unfold PdL; trivial
  | x :: xs, b, off, h, c => by
    unfold PdL at h ⊢
    obtain ⟨⟨c0, c1, c2, c3, c4, c5, c6, g0, g1, g2, g3, g4, g5, g6, hx⟩, hr⟩ := h
    have hln : (x :: xs).length = xs.length + 1 := rfl
    rw [hln] at c
    exact ⟨⟨c0, c1, c2, c3, c4, c5, c6, (c _ (by omega) (by omega)).trans g0, (c _ (by omega) (by omega)).trans g1, (c _ (by omega) (by omega)).trans g2, (c _ (by omega) (by omega)).trans g3, (c _ (by omega) (by omega)).trans g4, (c _ (by omega) (by omega)).trans g5, (c _ (by omega) (by omega)).trans g6, hx⟩, hr.on (fun j p1 p2 => c j (by omega) (by omega))⟩
abbrev Pd := Nat × Nat × Nat × List Ex
def Pd.sc (p : Pd) : Sc := (p.1, p.2.1, p.2.2.2.length, p.2.2.1)
def Pd.at_ (p : Pd) (i j : Nat) : Prop := p.1 = i ∧ p.2.1 ≤ j ∧ j < p.2.1 + 7 * p.2.2.2.length
def DnS (W : World) : List Pd → Nat → Nat → Prop
  | [], lo, hi => lo ≤ hi
  | p :: S, lo, hi => ∃ m, Ow.OwL W p.2.2.2 p.1 p.2.1 lo m ∧ DnS W S m hi
theorem DnS.mono {W : World} : ∀ {S : List Pd} {lo lo' hi : Nat}, DnS W S lo hi → lo' ≤ lo → DnS W S lo' hi
  | [], lo, lo', hi, h, h1 => by unfold DnS at h ⊢; omega
  | p :: S, lo, lo', hi, h, h1 => by
    unfold DnS at h ⊢
    obtain ⟨m, h2, h3⟩ := h
    exact ⟨m, h2.mono h1 (Nat.le_refl _), h3⟩
def Fx (W W' : World) (X : Nat → Prop) (S : List Pd) : Prop :=
  ∀ i, i < W.heap.size → ¬ X i → (Pl W i → Pl W' i) ∧ ∀ j, (∀ p ∈ S, ¬ p.at_ i j) → W'.cell? ⟨i, j, none⟩ = W.cell? ⟨i, j, none⟩
def Prm (x : Ex) (r n1 : Nat) (W : World) (X : Nat → Prop) (S : List Pd) : Prop :=
  ∀ W' hi, Fx W W' X S → DnS W' S W.heap.size hi → Ow.OwL W' [x] r 0 n1 hi
theorem Prm.start (x : Ex) (r n1 c : Nat) (W : World) (X : Nat → Prop) (h : n1 ≤ W.heap.size) : Prm x r n1 W X [(r, 0, c, [x])] := by
  intro W' hi hF hD
  unfold DnS at hD
  obtain ⟨m, h1, h2⟩ := hD
  unfold DnS at h2
  exact h1.mono h h2
theorem Prm.done {x : Ex} {r n1 : Nat} {W : World} {X : Nat → Prop} (h : Prm x r n1 W X []) : Ow.OwL W [x] r 0 n1 W.heap.size :=
  h W W.heap.size (fun i _ _ => ⟨fun h => h, fun j _ => rfl⟩) (by unfold DnS; exact Nat.le_refl _)
theorem Prm.same {x : Ex} {r n1 : Nat} {W W' : World} {X X' : Nat → Prop} {S : List Pd} (h : Prm x r n1 W X S) (q : Qp X W W') (h1 : ∀ i, i < W.heap.size → X' i → X i) : Prm x r n1 W' X' S := by
  intro W'' hi hF hD
  refine h W'' hi (fun i hi' hx => ?_) (hD.mono q.size)
  obtain ⟨f1, f2⟩ := hF i (Nat.lt_of_lt_of_le hi' q.size) (fun e => hx (h1 i hi' e))
  have hb := q.block i hi' hx
  exact ⟨fun p => f1 (p.blk hb), fun j hj => (f2 j hj).trans (World.cell?_of_block hb)⟩
theorem Prm.split {x : Ex} {r n1 : Nat} {W : World} {X : Nat → Prop} {S : List Pd} {b o c c1 c2 : Nat} {y : Ex} {ys : List Ex} (h : Prm x r n1 W X ((b, o, c, y :: ys) :: S)) : Prm x r n1 W X ((b, o, c1, [y]) :: (b, o + 7, c2, ys) :: S) := by
  intro W' hi hF hD
  refine h W' hi (fun i hi' hx => ?_) ?_
  · obtain ⟨f1, f2⟩ := hF i hi' hx
    refine ⟨f1, fun j hj => f2 j (fun p hp => ?_)⟩
    simp only [List.mem_cons] at hp
    have h0 := hj (b, o, c, y :: ys) (List.mem_cons_self ..)
    have hln : (y :: ys).length = ys.length + 1 := rfl
    unfold Pd.at_ at h0
    simp only [hln] at h0
    rcases hp with rfl | rfl | hp
    · unfold Pd.at_
      intro ⟨e1, e2, e3⟩
      simp only [List.length_singleton] at e1 e2 e3
      exact h0 ⟨e1, by omega, by omega⟩
    · unfold Pd.at_
      intro ⟨e1, e2, e3⟩
      simp only at e1 e2 e3
      exact h0 ⟨e1, by omega, by omega⟩
    · exact hj p (List.mem_cons_of_mem _ hp)
  · unfold DnS at hD
    obtain ⟨m, h1, h2⟩ := hD
    unfold DnS at h2
    obtain ⟨m2, h2, h3⟩ := h2
    unfold DnS
    refine ⟨m2, ?_, h3⟩
    simp only at h1 h2 ⊢
    unfold Ow.OwL at h1 ⊢
    obtain ⟨m3, h4, h5⟩ := h1
    unfold Ow.OwL at h5
    exact ⟨m3, h4, h2.mono h5 (Nat.le_refl _)⟩
structure Nd (W : World) (b o : Nat) (c0 c1 c2 c3 c4 c5 c6 : Value) : Prop where
  g0 : W.cell? ⟨b, o, none⟩ = some c0
  g1 : W.cell? ⟨b, o + 1, none⟩ = some c1
  g2 : W.cell? ⟨b, o + 2, none⟩ = some c2
  g3 : W.cell? ⟨b, o + 3, none⟩ = some c3
  g4 : W.cell? ⟨b, o + 4, none⟩ = some c4
  g5 : W.cell? ⟨b, o + 5, none⟩ = some c5
  g6 : W.cell? ⟨b, o + 6, none⟩ = some c6
  pl : Pl W b
theorem Nd.blk {W W' : World} {b o : Nat} {c0 c1 c2 c3 c4 c5 c6 : Value} (h : Nd W b o c0 c1 c2 c3 c4 c5 c6) (q : W'.heap[b]? = W.heap[b]?) : Nd W' b o c0 c1 c2 c3 c4 c5 c6 := by
  have ce : ∀ j, W'.cell? ⟨b, j, none⟩ = W.cell? ⟨b, j, none⟩ := fun j => World.cell?_of_block q
  exact ⟨(ce _).trans h.g0, (ce _).trans h.g1, (ce _).trans h.g2, (ce _).trans h.g3, (ce _).trans h.g4, (ce _).trans h.g5, (ce _).trans h.g6, h.pl.blk q⟩
theorem Nd.on {W W' : World} {b o : Nat} {c0 c1 c2 c3 c4 c5 c6 : Value} (h : Nd W b o c0 c1 c2 c3 c4 c5 c6) (q : Q W W') : Nd W' b o c0 c1 c2 c3 c4 c5 c6 := h.blk (Q.block q h.pl.lt)
theorem off_ne {b o o' : Nat} (h : o ≠ o') : (⟨b, o, none⟩ : Addr) ≠ ⟨b, o', none⟩ := by intro e; injection e with _ e; exact h e
theorem Nd.set2 {W : World} {b o : Nat} {c0 c1 c2 c3 c4 c5 c6 : Value} (h : Nd W b o c0 c1 c2 c3 c4 c5 c6) (d : Value) : Nd (W.setCell ⟨b, o + 2, none⟩ d) b o c0 c1 d c3 c4 c5 c6 := by
  have ce : ∀ j, j ≠ o + 2 → (W.setCell ⟨b, o + 2, none⟩ d).cell? ⟨b, j, none⟩ = W.cell? ⟨b, j, none⟩ := fun j hj => World.cell?_setCell_other _ _ _ _ (off_ne (by omega))
  exact ⟨(ce _ (by omega)).trans h.g0, (ce _ (by omega)).trans h.g1, World.cell?_setCell_same _ _ _ h.g2, (ce _ (by omega)).trans h.g3, (ce _ (by omega)).trans h.g4, (ce _ (by omega)).trans h.g5, (ce _ (by omega)).trans h.g6, h.pl.set _ _ _⟩
theorem Nd.set5 {W : World} {b o : Nat} {c0 c1 c2 c3 c4 c5 c6 : Value} (h : Nd W b o c0 c1 c2 c3 c4 c5 c6) (d : Value) : Nd (W.setCell ⟨b, o + 5, none⟩ d) b o c0 c1 c2 c3 c4 d c6 := by
  have ce : ∀ j, j ≠ o + 5 → (W.setCell ⟨b, o + 5, none⟩ d).cell? ⟨b, j, none⟩ = W.cell? ⟨b, j, none⟩ := fun j hj => World.cell?_setCell_other _ _ _ _ (off_ne (by omega))
  exact ⟨(ce _ (by omega)).trans h.g0, (ce _ (by omega)).trans h.g1, (ce _ (by omega)).trans h.g2, (ce _ (by omega)).trans h.g3, (ce _ (by omega)).trans h.g4, World.cell?_setCell_same _ _ _ h.g5, (ce _ (by omega)).trans h.g6, h.pl.set _ _ _⟩
theorem Nd.set6 {W : World} {b o : Nat} {c0 c1 c2 c3 c4 c5 c6 : Value} (h : Nd W b o c0 c1 c2 c3 c4 c5 c6) (d : Value) : Nd (W.setCell ⟨b, o + 6, none⟩ d) b o c0 c1 c2 c3 c4 c5 d := by
  have ce : ∀ j, j ≠ o + 6 → (W.setCell ⟨b, o + 6, none⟩ d).cell? ⟨b, j, none⟩ = W.cell? ⟨b, j, none⟩ := fun j hj => World.cell?_setCell_other _ _ _ _ (off_ne (by omega))
  exact ⟨(ce _ (by omega)).trans h.g0, (ce _ (by omega)).trans h.g1, (ce _ (by omega)).trans h.g2, (ce _ (by omega)).trans h.g3, (ce _ (by omega)).trans h.g4, (ce _ (by omega)).trans h.g5, World.cell?_setCell_same _ _ _ h.g6, h.pl.set _ _ _⟩
structure Ch7 (W W' : World) (b o : Nat) : Prop where
  q : Qp (fun i => i = b) W W'
  c : ∀ j, j < o ∨ o + 7 ≤ j → W'.cell? ⟨b, j, none⟩ = W.cell? ⟨b, j, none⟩
theorem Ch7.refl (W : World) (b o : Nat) : Ch7 W W b o := ⟨Qp.refl _ _, fun _ _ => rfl⟩
theorem Ch7.q' {W W' W'' : World} {b o : Nat} (h : Ch7 W W' b o) (hb : b < W.heap.size) (q : Q W' W'') : Ch7 W W'' b o :=
  ⟨h.q.trans (Qp.of q), fun j hj => (q.cell (Nat.lt_of_lt_of_le hb h.q.size)).trans (h.c j hj)⟩
theorem Ch7.set {W W' : World} {b o : Nat} (h : Ch7 W W' b o) (k : Nat) (hk : k < 7) (v : Value) : Ch7 W (W'.setCell ⟨b, o + k, none⟩ v) b o :=
  ⟨h.q.set _ _ (.inl rfl), fun j hj => (World.cell?_setCell_other _ _ _ _ (off_ne (by omega))).trans (h.c j hj)⟩
theorem Prm.step {x : Ex} {r n1 : Nat} {W W3 : World} {X : Nat → Prop} {S T3 : List Pd} {b o c m : Nat} {k n : Int} {t : List UInt8} {bb : Bool} {e : Int} {rs : List Rf} {ks : List Ex} {rv : Value} {ao : Option Addr} {cap : Nat}
    (h : Prm x r n1 W X ((b, o, c, [.mk k n t bb e rs ks]) :: S)) (hX : ∀ i, X i → i < W.heap.size) (hb : b < W.heap.size) (hbx : ¬ X b)
    (hc : Ch7 W W3 b o) (hn : Nd W3 b o (.int .i64 k) (.int .i64 n) (.string ⟨t.toArray⟩) (.bool bb) (.int .i64 e) rv (.slice ao ks.length cap))
    (hr : OwR W3 rv rs W.heap.size m) (hm : m ≤ W3.heap.size) (hcap : ks.length ≤ cap) (hmx : cap ≤ maxLen)
    (hk : (ks = [] ∧ T3 = S) ∨ ∃ kb, ao = some ⟨kb, 0, none⟩ ∧ m ≤ kb ∧ kb < W3.heap.size ∧ Pl W3 kb ∧ T3 = (kb, 0, cap, ks) :: S)
    (hS : ∀ p ∈ S, p.1 < W.heap.size ∧ (p.1 = b → o + 7 ≤ p.2.1 ∨ p.2.1 + 7 * p.2.2.2.length ≤ o)) : Prm x r n1 W3 X T3 := by
  intro W' hi hF hD
  have hsz := hc.q.size
  have hm0 := hr.1
  have hT : ∀ p ∈ T3, p ∈ S ∨ (m ≤ p.1) := by
    intro p hp
    rcases hk with ⟨_, e⟩ | ⟨kb, _, h1, _, _, e⟩
    · rw [e] at hp; exact .inl hp
    · rw [e] at hp
      rcases List.mem_cons.1 hp with rfl | hp
      · exact .inr h1
      · exact .inl hp
  have hold : ∀ i j, i < W.heap.size → ¬ X i → (i = b → j < o ∨ o + 7 ≤ j) → (∀ p ∈ S, ¬ p.at_ i j) → W'.cell? ⟨i, j, none⟩ = W.cell? ⟨i, j, none⟩ := by
    intro i j hi' hx hbo hp
    have f2 := (hF i (by omega) hx).2 j (fun p hp' => by
      rcases hT p hp' with h' | h'
      · exact hp p h'
      · intro ⟨e1, _⟩
        omega)
    refine f2.trans ?_
    by_cases e : i = b
    · subst e; exact hc.c j (hbo rfl)
    · exact hc.q.cell hi' e
  have hnew : ∀ i, W.heap.size ≤ i → i < m → Bs W3 W' i := by
    intro i h1 h2
    obtain ⟨f1, f2⟩ := hF i (by omega) (fun e => by have := hX i e; omega)
    refine ⟨f1, fun j => f2 j (fun p hp ⟨e1, _⟩ => ?_)⟩
    rcases hT p hp with h' | h'
    · have := (hS p h').1; omega
    · omega
  have hbo : ∀ j, o ≤ j → j < o + 7 → W'.cell? ⟨b, j, none⟩ = W3.cell? ⟨b, j, none⟩ := by
    intro j h1 h2
    refine (hF b (by omega) hbx).2 j (fun p hp ⟨e1, e2, e3⟩ => ?_)
    rcases hT p hp with h' | h'
    · rcases (hS p h').2 e1 with h'' | h'' <;> omega
    · omega
  refine h W' hi (fun i hi' hx => ⟨fun p => ?_, fun j hj => ?_⟩) ?_
  · refine (hF i (by omega) hx).1 ?_
    by_cases e : i = b
    · rw [e]; exact hn.pl
    · exact p.blk (hc.q.block i hi' e)
  · refine hold i j hi' hx (fun e => ?_) (fun p hp => hj p (List.mem_cons_of_mem _ hp))
    have := hj _ (List.mem_cons_self ..)
    unfold Pd.at_ at this
    simp only [List.length_singleton] at this
    rcases Nat.lt_or_ge j o with h1 | h1
    · exact .inl h1
    · rcases Nat.lt_or_ge j (o + 7) with h2 | h2
      · exact absurd ⟨e.symm, h1, by omega⟩ this
      · exact .inr h2
  · have hy : ∀ m0, W3.heap.size ≤ m0 → (ks ≠ [] → ∃ kb, ao = some ⟨kb, 0, none⟩ ∧ m ≤ kb ∧ kb < W3.heap.size ∧ Pl W' kb ∧ Ow.OwL W' ks kb 0 W3.heap.size m0) → Ow.OwL W' [.mk k n t bb e rs ks] b o W.heap.size m0 := by
      intro m0 h0 hkk
      unfold Ow.OwL
      refine ⟨m0, ⟨_, _, _, _, _, _, _, (hbo _ (by omega) (by omega)).trans hn.g0, (hbo _ (by omega) (by omega)).trans hn.g1, (hbo _ (by omega) (by omega)).trans hn.g2, (hbo _ (by omega) (by omega)).trans hn.g3, (hbo _ (by omega) (by omega)).trans hn.g4, (hbo _ (by omega) (by omega)).trans hn.g5, (hbo _ (by omega) (by omega)).trans hn.g6, ?_⟩, by unfold Ow.OwL; exact Nat.le_refl _⟩
      unfold Ow
      refine ⟨_, _, m, rfl, hr.on hnew, by omega, ao, cap, rfl, hcap, hmx, fun hne => ?_⟩
      obtain ⟨kb, e1, e2, e3, e4, e5⟩ := hkk hne
      exact ⟨kb, _, e1, e2, e3, e4, e5⟩
    rcases hk with ⟨e0, e1⟩ | ⟨kb, k1, k2, k3, k4, k5⟩
    · rw [e1] at hD
      unfold DnS
      exact ⟨W3.heap.size, hy _ (Nat.le_refl _) (fun h => absurd e0 h), hD⟩
    · rw [k5] at hD
      unfold DnS at hD
      obtain ⟨m', h1, h2⟩ := hD
      have hle := Ow.OwL.le _ _ _ _ _ h1
      unfold DnS
      exact ⟨m', hy _ hle (fun _ => ⟨kb, k1, k2, k3, (hF kb k3 (fun e => by have := hX kb e; omega)).1 k4, h1⟩), h2⟩
def Sn : Ex → Prop
  | .mk _ _ t _ _ rs ks => t.length ≤ 1000000 ∧ rs.length ≤ 1000 ∧ (∀ r ∈ rs, r.1.length ≤ 2000000) ∧ ks.length ≤ 1000 ∧ SnL ks
  where
  SnL : List Ex → Prop
  | [] => True
  | x :: xs => Sn x ∧ SnL xs
theorem sn_kid : ∀ {ks : List Ex}, Sn.SnL ks → ∀ y ∈ ks, Sn y
  | [], _, y, hy => absurd hy (by simp)
  | x :: xs, h, y, hy => by
    unfold Sn.SnL at h
    rcases List.mem_cons.1 hy with rfl | hy
    · exact h.1
    · exact sn_kid h.2 y hy
def wgtP : List Pd → Nat
  | [] => 0
  | p :: S => nodes.nodesL p.2.2.2 + wgtP S
theorem nodes_pos (y : Ex) : 1 ≤ nodes y := by
  cases y with
  | mk k n t b e rs ks => rw [nodes]; omega
structure Pg (W0 W : World) (r n1 : Nat) (X : Nat → Prop) (p : Pd) : Prop where
  pd : PdL W0 W p.2.2.2 p.1 p.2.1
  pl : Pl W p.1
  nx : ¬ X p.1
  at_ : p.1 = r ∨ n1 ≤ p.1
  ne : p.2.2.2 ≠ []
  le : p.2.2.2.length ≤ p.2.2.1
  mx : p.2.2.1 ≤ maxLen
  sn : ∀ y ∈ p.2.2.2, Sn y
def Ap (p p' : Pd) : Prop := p.1 = p'.1 → p.2.1 + 7 * p.2.2.2.length ≤ p'.2.1 ∨ p'.2.1 + 7 * p'.2.2.2.length ≤ p.2.1
structure CI (W0 Ws : World) (x : Ex) (r n1 wb pm : Nat) (W : World) (X : Nat → Prop) (ov : Value) (S T : List Pd) : Prop where
  q : Q W0 W
  wk : Wk W wb X ov (S.reverse.map Pd.sc)
  md : W.cell? ⟨pm, 0, none⟩ = some (.bool true)
  lo : n1 ≤ W.heap.size ∧ W0.heap.size ≤ r ∧ r < n1 ∧ W0.heap.size ≤ pm ∧ pm < n1 ∧ pm ≠ r
  xl : ∀ i, X i → i < W.heap.size ∧ W0.heap.size ≤ i ∧ i ≠ pm ∧ (i = wb ∨ n1 ≤ i)
  kp : ∀ i, i < n1 → i ≠ r → i ≠ wb → W.heap[i]? = Ws.heap[i]?
  pd : ∀ p ∈ T, Pg W0 W r n1 X p
  nd : T.Pairwise Ap
  prm : Prm x r n1 W X T
  wg : wgtP T ≤ 1000
theorem Pg.qp {W0 W W' : World} {r n1 : Nat} {X X' : Nat → Prop} {p : Pd} (h : Pg W0 W r n1 X p) (q : Qp X W W') (hx : ∀ i, i < W.heap.size → X' i → X i) : Pg W0 W' r n1 X' p := by
  have hb := q.block p.1 h.pl.lt h.nx
  exact ⟨h.pd.on (fun j _ _ => World.cell?_of_block hb), h.pl.blk hb, fun e => h.nx (hx _ h.pl.lt e), h.at_, h.ne, h.le, h.mx, h.sn⟩
theorem CI.qp {W0 Ws : World} {x : Ex} {r n1 wb pm : Nat} {W W' : World} {X X' : Nat → Prop} {ov ov' : Value} {S S' T : List Pd} (h : CI W0 Ws x r n1 wb pm W X ov S T) (q : Qp X W W') (hx : ∀ i, i < W.heap.size → X' i → X i) (hx' : ∀ i, X' i → X i ∨ W.heap.size ≤ i ∧ i < W'.heap.size) (wk : Wk W' wb X' ov' (S'.reverse.map Pd.sc)) : CI W0 Ws x r n1 wb pm W' X' ov' S' T := by
  have hl := h.lo
  have hs := q.size
  have hpm : ¬ X pm := fun e => (h.xl pm e).2.2.1 rfl
  refine ⟨⟨q.os.trans h.q.os, q.tape.trans h.q.tape, q.output.trans h.q.output, Nat.le_trans h.q.size q.size, fun i hi => (q.block i (Nat.lt_of_lt_of_le hi h.q.size) (fun e => by have := (h.xl i e).2.1; omega)).trans (Q.block h.q hi)⟩, wk, (q.cell (by omega) hpm).trans h.md, ⟨by omega, hl.2⟩, fun i hi => ?_, fun i h1 h2 h3 => (q.block i (by omega) (fun e => by have := (h.xl i e).2.2.2; omega)).trans (h.kp i h1 h2 h3), fun p hp => (h.pd p hp).qp q hx, h.nd, h.prm.same q hx, h.wg⟩
  rcases hx' i hi with e | e
  · have := h.xl i e
    exact ⟨by omega, this.2.1, this.2.2⟩
  · have := h.q.size
    exact ⟨e.2, by omega, by omega, .inr (by omega)⟩
theorem Prm.cap {x : Ex} {r n1 : Nat} {W : World} {X : Nat → Prop} {S : List Pd} {b o c c' : Nat} {f : List Ex} (h : Prm x r n1 W X ((b, o, c, f) :: S)) : Prm x r n1 W X ((b, o, c', f) :: S) := by
  intro W' hi hF hD
  refine h W' hi (fun i hi' hx => ⟨(hF i hi' hx).1, fun j hj => (hF i hi' hx).2 j (fun p hp => ?_)⟩) (by unfold DnS at hD ⊢; exact hD)
  rcases List.mem_cons.1 hp with rfl | hp
  · exact hj (b, o, c, f) (List.mem_cons_self ..)
  · exact hj p (List.mem_cons_of_mem _ hp)
def CR (W0 Ws : World) (x : Ex) (r n1 wb pm : Nat) (k : Nat) (v : Value) (W : World) : Prop :=
  ∃ X ov S, (v = .pointer none ∧ k = 0 ∧ CI W0 Ws x r n1 wb pm W X ov [] []) ∨ ∃ b o y, v = .pointer (some ⟨b, o, none⟩) ∧ k = wgtP ((b, o, 1, [y]) :: S) ∧ CI W0 Ws x r n1 wb pm W X ov S ((b, o, 1, [y]) :: S)
theorem next_ci {W0 Ws : World} {x : Ex} {r n1 wb pm : Nat} {W : World} {X : Nat → Prop} {ov : Value} {S : List Pd} (h : CI W0 Ws x r n1 wb pm W X ov S S) :
    Calls Tryz.prog 62 #[.pointer (some ⟨wb, 0, none⟩)] W fun e W' => ∃ v, e = .returned v ∧ CR W0 Ws x r n1 wb pm (wgtP S) v W' := by
  cases S with
  | nil =>
    refine (next_nil wb X ov W h.wk).mono ?_
    rintro e W' ⟨rfl, rfl⟩
    exact ⟨_, rfl, X, ov, [], .inl ⟨rfl, rfl, h⟩⟩
  | cons p S =>
    obtain ⟨b, o, c, f⟩ := p
    have hp := h.pd _ (List.mem_cons_self ..)
    have hw := h.wk
    rw [List.reverse_cons, List.map_append, List.map_cons, List.map_nil] at hw
    have hnd := List.pairwise_cons.1 h.nd
    cases f with
    | nil => exact absurd rfl hp.ne
    | cons y ys =>
      have hpd := hp.pd
      unfold PdL at hpd
      have hy1 : Pg W0 W r n1 X (b, o, 1, [y]) := ⟨by unfold PdL; exact ⟨hpd.1, by unfold PdL; trivial⟩, hp.pl, hp.nx, hp.at_, by simp, Nat.le_refl _, by show 1 ≤ maxLen; unfold maxLen; omega, fun z hz => hp.sn z (by simp at hz; subst hz; exact List.mem_cons_self ..)⟩
      cases ys with
      | nil =>
        refine (next_one wb X ov _ b o c W hw hp.le hp.mx).mono ?_
        rintro e W' ⟨rfl, ⟨ov', hw'⟩, q⟩
        refine ⟨_, rfl, X, ov', S, .inr ⟨b, o, y, rfl, rfl, ?_⟩⟩
        have h1 : CI W0 Ws x r n1 wb pm W X ov ((b, o, c, [y]) :: S) ((b, o, 1, [y]) :: S) :=
          ⟨h.q, h.wk, h.md, h.lo, h.xl, h.kp, fun p hp' => by
            rcases List.mem_cons.1 hp' with rfl | hp'
            · exact hy1
            · exact h.pd p (List.mem_cons_of_mem _ hp'), List.pairwise_cons.2 ⟨fun p hp' => hnd.1 p hp', hnd.2⟩, h.prm.cap, h.wg⟩
        exact h1.qp q (fun _ _ e => e) (fun _ e => .inl e) hw'
      | cons z zs =>
        have hln : (y :: z :: zs).length = zs.length + 2 := rfl
        have hw2 : Wk W wb X ov (S.reverse.map Pd.sc ++ [(b, o, zs.length + 2, c)]) := hw
        refine (next_more wb X ov _ b o zs.length c W hw2 hp.le hp.mx).mono ?_
        rintro e W' ⟨rfl, hw', q⟩
        refine ⟨_, rfl, X, ov, (b, o + 7, c - 1, z :: zs) :: S, .inr ⟨b, o, y, rfl, by simp [wgtP, nodes.nodesL]; omega, ?_⟩⟩
        have hle := hp.le
        have hmx := hp.mx
        simp only [hln] at hle
        have hz : Pg W0 W r n1 X (b, o + 7, c - 1, z :: zs) := ⟨hpd.2, hp.pl, hp.nx, hp.at_, by simp, by simp only [List.length_cons]; omega, by simp only at hmx ⊢; omega, fun y' hy' => hp.sn y' (List.mem_cons_of_mem _ hy')⟩
        have h1 : CI W0 Ws x r n1 wb pm W X ov ((b, o, c, y :: z :: zs) :: S) ((b, o, 1, [y]) :: (b, o + 7, c - 1, z :: zs) :: S) :=
          ⟨h.q, h.wk, h.md, h.lo, h.xl, h.kp, fun p hp' => by
            rcases List.mem_cons.1 hp' with rfl | hp'
            · exact hy1
            · rcases List.mem_cons.1 hp' with rfl | hp'
              · exact hz
              · exact h.pd p (List.mem_cons_of_mem _ hp'), by
            refine List.pairwise_cons.2 ⟨fun p hp' => ?_, List.pairwise_cons.2 ⟨fun p hp' => ?_, hnd.2⟩⟩
            · rcases List.mem_cons.1 hp' with rfl | hp'
              · intro _; simp
              · intro e
                have := hnd.1 p hp' e
                simp only [hln, List.length_singleton] at this ⊢
                omega
            · intro e
              have := hnd.1 p hp' e
              simp only [hln, List.length_cons] at this ⊢
              omega, h.prm.split, by have := h.wg; simp only [wgtP, nodes.nodesL] at this ⊢; omega⟩
        refine h1.qp q (fun _ _ e => e) (fun _ e => .inl e) ?_
        rw [List.reverse_cons, List.map_append, List.map_cons, List.map_nil]
        exact hw'
theorem wgt_lenP {W0 W : World} {r n1 : Nat} {X : Nat → Prop} : ∀ {S : List Pd}, (∀ p ∈ S, Pg W0 W r n1 X p) → S.length ≤ wgtP S
  | [], _ => by simp [wgtP]
  | p :: S, h => by
    have h1 := wgt_lenP (fun q hq => h q (List.mem_cons_of_mem _ hq))
    have h2 := (h p (List.mem_cons_self ..)).ne
    rw [wgtP]
    cases hp : p.2.2.2 with
    | nil => exact absurd hp h2
    | cons y ys =>
      rw [nodes.nodesL, List.length_cons]
      have := nodes_pos y
      omega
theorem enter_ci {W0 Ws : World} {x : Ex} {r n1 wb pm : Nat} {W : World} {X : Nat → Prop} {ov : Value} {S T : List Pd} {ao : Option Addr} {n cap : Nat} (h : CI W0 Ws x r n1 wb pm W X ov S T) (hn : n ≤ 1000) (hk : (n = 0 ∧ T = S) ∨ ∃ kb ks, 0 < n ∧ ao = some ⟨kb, 0, none⟩ ∧ n = ks.length ∧ T = (kb, 0, cap, ks) :: S) :
    Calls Tryz.prog 61 #[.pointer (some ⟨wb, 0, none⟩), .slice ao n cap] W fun e W' => (∃ u, e = .returned u) ∧ ∃ X' ov', CI W0 Ws x r n1 wb pm W' X' ov' T T := by
  rcases hk with ⟨rfl, rfl⟩ | ⟨kb, ks, h0, rfl, hl, rfl⟩
  · refine (enter_nil wb cap ao W).mono ?_
    rintro e W' ⟨hu, rfl⟩
    exact ⟨hu, X, ov, h⟩
  · have hlen := wgt_lenP h.pd
    have hwg := h.wg
    refine (enter_any wb X ov _ kb 0 n cap W h.wk h0 (by omega) (by simp only [List.length_map, List.length_reverse, List.length_cons] at hlen ⊢; omega)).mono ?_
    rintro e W' ⟨hu, ov', hw', q, hj⟩
    refine ⟨hu, (fun i => X i ∨ ov'.ownBlock = some i), ov', h.qp q (fun i hi e => ?_) (fun i e => ?_) ?_⟩
    · rcases e with e | e
      · exact e
      · rcases hj i e with e' | e'
        · exact e'
        · omega
    · rcases e with e | e
      · exact .inl e
      · rcases hj i e with e' | e'
        · exact .inl e'
        · exact .inr ⟨e', hw'.ow.lt i e⟩
    · rw [List.reverse_cons, List.map_append, List.map_cons, List.map_nil]
      have : Pd.sc (kb, 0, cap, ks) = (kb, 0, n, cap) := by unfold Pd.sc; rw [hl]
      rw [this]
      exact hw'
theorem mu_ex {P : Nat → Prop} (h : ∃ k, P k) : P (Classical.epsilon (fun k => P k ∧ ∀ j, P j → k ≤ j)) ∧ ∀ j, P j → Classical.epsilon (fun k => P k ∧ ∀ j, P j → k ≤ j) ≤ j := by
  have hm : ∃ k, P k ∧ ∀ j, P j → k ≤ j := by
    obtain ⟨k, hk⟩ := h
    induction k using Nat.strongRecOn with
    | _ k ih =>
      by_cases hj : ∃ j, j < k ∧ P j
      · obtain ⟨j, h1, h2⟩ := hj
        exact ih j h1 h2
      · exact ⟨k, hk, fun j h2 => Nat.le_of_not_lt (fun h1 => hj ⟨j, h1, h2⟩)⟩
  exact Classical.epsilon_spec hm
theorem kids_cells {W0 : World} : ∀ (ks : List Ex) (b off : Nat), Rd.RdL W0 ks b off → ∃ cs : List Value, cs.length = ks.length * 7 ∧ (∀ j v, cs[j]? = some v → W0.cell? ⟨b, off + j, none⟩ = some v) ∧ (∀ v ∈ cs, v.oneCell' = true) ∧ ∀ (W : World) (kb o : Nat), (∀ j v, cs[j]? = some v → W.cell? ⟨kb, o + j, none⟩ = some v) → PdL W0 W ks kb o
  | [], _, _, _ => ⟨[], by simp, by simp, by simp, fun _ _ _ _ => by unfold PdL; trivial⟩
  | x :: xs, b, off, h => by
    unfold Rd.RdL at h
    obtain ⟨⟨c0, c1, c2, c3, c4, c5, c6, g0, g1, g2, g3, g4, g5, g6, hx⟩, hr⟩ := h
    obtain ⟨cs, e1, e2, e3, e4⟩ := kids_cells xs b (off + 7) hr
    refine ⟨c0 :: c1 :: c2 :: c3 :: c4 :: c5 :: c6 :: cs, by simp only [List.length_cons, e1]; omega, ?_, ?_, ?_⟩
    · intro j v hj
      match j, hj with
      | 0, hj => simp at hj; subst hj; exact g0
      | 1, hj => simp at hj; subst hj; exact g1
      | 2, hj => simp at hj; subst hj; exact g2
      | 3, hj => simp at hj; subst hj; exact g3
      | 4, hj => simp at hj; subst hj; exact g4
      | 5, hj => simp at hj; subst hj; exact g5
      | 6, hj => simp at hj; subst hj; exact g6
      | j + 7, hj =>
        have := e2 j v (by simpa using hj)
        rw [show off + (j + 7) = off + 7 + j by omega]
        exact this
    · obtain ⟨k', n', t', b1', e', a1', l1', c1', a2', l2', c2', hsh⟩ := hx.shape
      simp only [Value.agg.injEq, Array.mk.injEq, List.cons.injEq, and_true] at hsh
      obtain ⟨rfl, rfl, rfl, rfl, rfl, rfl, rfl⟩ := hsh
      intro v hv
      simp only [List.mem_cons] at hv
      rcases hv with rfl | rfl | rfl | rfl | rfl | rfl | rfl | hv
      all_goals first | rfl | exact e3 v hv
    · intro W kb o hc
      unfold PdL
      refine ⟨⟨c0, c1, c2, c3, c4, c5, c6, hc 0 _ rfl, hc 1 _ rfl, hc 2 _ rfl, hc 3 _ rfl, hc 4 _ rfl, hc 5 _ rfl, hc 6 _ rfl, hx⟩, e4 W kb (o + 7) (fun j v hj => ?_)⟩
      have := hc (j + 7) v (by simpa using hj)
      rw [show o + 7 + j = o + (j + 7) by omega]
      exact this
theorem of_ci (pm : Nat) (ao : Option Addr) (ks : List Ex) (cap : Nat) (W0 W : World) (q : Q W0 W) (hp : W.cell? ⟨pm, 0, none⟩ = some (.bool true)) (hn : ks.length ≤ 1000) (hk : ks ≠ [] → ∃ b' off, ao = some ⟨b', off, none⟩ ∧ Pl W0 b' ∧ Rd.RdL W0 ks b' off) :
    Calls Tryz.prog 64 #[.pointer (some ⟨pm, 0, none⟩), .slice ao ks.length cap] W fun e W' => ∃ ao' cap', e = .returned (.tuple #[.slice ao' ks.length cap', .bool false]) ∧ Q W W' ∧ ks.length ≤ cap' ∧ cap' ≤ maxLen ∧ (ks ≠ [] → ∃ kb, ao' = some ⟨kb, 0, none⟩ ∧ W.heap.size ≤ kb ∧ kb < W'.heap.size ∧ Pl W' kb ∧ PdL W0 W' ks kb 0) := by
  cases ao with
  | none =>
    have e0 : ks = [] := by
      cases ks with
      | nil => rfl
      | cons y ys =>
        obtain ⟨b', off, ha, _⟩ := hk (by simp)
        cases ha
    subst e0
    refine (of_nil pm 0 cap W hp).mono ?_
    rintro e W' ⟨rfl, q'⟩
    exact ⟨none, 0, rfl, q', Nat.le_refl _, Nat.zero_le _, fun h => absurd rfl h⟩
  | some a =>
    by_cases hne : ks = []
    · subst hne
      refine (of_any pm a 0 cap [] W hp (by omega) rfl (by simp) (by simp)).mono ?_
      rintro e W' ⟨rfl, h⟩
      exact ⟨_, 0, rfl, h.q, Nat.le_refl _, Nat.zero_le _, fun h => absurd rfl h⟩
    · obtain ⟨b', off, ha, _, hl⟩ := hk hne
      cases ha
      obtain ⟨cs, e1, e2, e3, e4⟩ := kids_cells ks b' off hl
      refine (of_any pm ⟨b', off, none⟩ ks.length cap cs W hp hn e1 (fun j v hj => ?_) e3).mono ?_
      · rw [add_lit]
        have := e2 j v hj
        exact (q.cell (World.block_lt_of_cell? W0 ⟨b', off + j, none⟩ this)).trans this
      · rintro e W' ⟨rfl, h⟩
        refine ⟨_, _, rfl, h.q, Nat.le_refl _, by unfold maxLen; omega, fun _ => ⟨_, rfl, Nat.le_refl _, h.lt, ⟨_, _, h.hp⟩, e4 W' _ 0 (fun j v hj => ?_)⟩⟩
        rw [cell_of_row W' _ _ _ _ (0, 0) h.hp]
        simpa using hj
theorem Pg.ch7 {W0 W W' : World} {r n1 : Nat} {X : Nat → Prop} {p : Pd} {b o : Nat} (h : Pg W0 W r n1 X p) (c : Ch7 W W' b o) (hb : Pl W' b) (ha : p.1 = b → o + 7 ≤ p.2.1 ∨ p.2.1 + 7 * p.2.2.2.length ≤ o) : Pg W0 W' r n1 X p := by
  by_cases e : p.1 = b
  · refine ⟨h.pd.on (fun j h1 h2 => ?_), by rw [e]; exact hb, h.nx, h.at_, h.ne, h.le, h.mx, h.sn⟩
    rw [e]
    rcases ha e with h' | h'
    · exact c.c j (by omega)
    · exact c.c j (by omega)
  · have hq := c.q.block p.1 h.pl.lt e
    exact ⟨h.pd.on (fun j _ _ => World.cell?_of_block hq), h.pl.blk hq, h.nx, h.at_, h.ne, h.le, h.mx, h.sn⟩
theorem CI.node {W0 Ws : World} {x : Ex} {r n1 wb pm : Nat} {W W3 : World} {X : Nat → Prop} {ov : Value} {S : List Pd} {b o m : Nat} {k n : Int} {t : List UInt8} {bb : Bool} {e : Int} {rs : List Rf} {ks : List Ex} {rv : Value} {ao : Option Addr} {cap : Nat}
    (h : CI W0 Ws x r n1 wb pm W X ov S ((b, o, 1, [.mk k n t bb e rs ks]) :: S))
    (hc : Ch7 W W3 b o) (hn : Nd W3 b o (.int .i64 k) (.int .i64 n) (.string ⟨t.toArray⟩) (.bool bb) (.int .i64 e) rv (.slice ao ks.length cap))
    (hr : OwR W3 rv rs W.heap.size m) (hm : m ≤ W3.heap.size) (hcap : ks.length ≤ cap) (hmx : cap ≤ maxLen)
    (hk : ks ≠ [] → ∃ kb, ao = some ⟨kb, 0, none⟩ ∧ m ≤ kb ∧ kb < W3.heap.size ∧ Pl W3 kb ∧ PdL W0 W3 ks kb 0) :
    ∃ T3, CI W0 Ws x r n1 wb pm W3 X ov S T3 ∧ wgtP T3 < wgtP ((b, o, 1, [.mk k n t bb e rs ks]) :: S) ∧ ((ks.length = 0 ∧ T3 = S) ∨ ∃ kb ks', 0 < ks.length ∧ ao = some ⟨kb, 0, none⟩ ∧ ks.length = ks'.length ∧ T3 = (kb, 0, cap, ks') :: S) := by
  have hp := h.pd _ (List.mem_cons_self ..)
  have hb : b < W.heap.size := hp.pl.lt
  have hbx : ¬ X b := hp.nx
  have hat : b = r ∨ n1 ≤ b := hp.at_
  have hlo := h.lo
  have hsz := hc.q.size
  have hm0 := hr.1
  have hnd := List.pairwise_cons.1 h.nd
  have hsn := hp.sn _ (List.mem_cons_self ..)
  unfold Sn at hsn
  have hS : ∀ p ∈ S, p.1 < W.heap.size ∧ (p.1 = b → o + 7 ≤ p.2.1 ∨ p.2.1 + 7 * p.2.2.2.length ≤ o) := fun p hp' => ⟨(h.pd p (List.mem_cons_of_mem _ hp')).pl.lt, fun e => by
    have := hnd.1 p hp' e.symm
    simpa using this⟩
  have hq0 : Q W0 W3 := ⟨hc.q.os.trans h.q.os, hc.q.tape.trans h.q.tape, hc.q.output.trans h.q.output, Nat.le_trans h.q.size hsz, fun i hi => (hc.q.block i (Nat.lt_of_lt_of_le hi h.q.size) (fun e => by have := h.q.size; omega)).trans (Q.block h.q hi)⟩
  have hwk : Wk W3 wb X ov (S.reverse.map Pd.sc) := h.wk.qp hc.q (fun i e hx => by subst e; exact hbx hx)
  have hmd : W3.cell? ⟨pm, 0, none⟩ = some (.bool true) := (hc.q.cell (by omega) (fun e => by omega)).trans h.md
  have hkp : ∀ i, i < n1 → i ≠ r → i ≠ wb → W3.heap[i]? = Ws.heap[i]? := fun i h1 h2 h3 => (hc.q.block i (by omega) (fun e => by omega)).trans (h.kp i h1 h2 h3)
  have hxl : ∀ i, X i → i < W3.heap.size ∧ W0.heap.size ≤ i ∧ i ≠ pm ∧ (i = wb ∨ n1 ≤ i) := fun i hi => by have := h.xl i hi; exact ⟨by omega, this.2⟩
  have hpd : ∀ p ∈ S, Pg W0 W3 r n1 X p := fun p hp' => (h.pd p (List.mem_cons_of_mem _ hp')).ch7 hc hn.pl (hS p hp').2
  have hwg := h.wg
  have hw1 : wgtP ((b, o, 1, [.mk k n t bb e rs ks]) :: S) = 1 + nodes.nodesL ks + wgtP S := by simp only [wgtP, nodes.nodesL, nodes]; omega
  by_cases hne : ks = []
  · refine ⟨S, ⟨hq0, hwk, hmd, ⟨by omega, hlo.2⟩, hxl, hkp, hpd, hnd.2, ?_, by omega⟩, by omega, .inl ⟨by rw [hne]; rfl, rfl⟩⟩
    exact h.prm.step (fun i hi => (h.xl i hi).1) hb hbx hc hn hr hm hcap hmx (.inl ⟨hne, rfl⟩) hS
  · obtain ⟨kb, k1, k2, k3, k4, k5⟩ := hk hne
    refine ⟨(kb, 0, cap, ks) :: S, ⟨hq0, hwk, hmd, ⟨by omega, hlo.2⟩, hxl, hkp, fun p hp' => ?_, List.pairwise_cons.2 ⟨fun p hp' e => ?_, hnd.2⟩, ?_, by simp only [wgtP]; omega⟩, by rw [hw1]; simp only [wgtP]; omega, .inr ⟨kb, ks, List.length_pos_iff.2 hne, k1, rfl, rfl⟩⟩
    · rcases List.mem_cons.1 hp' with rfl | hp'
      · exact ⟨k5, k4, fun hx => by have := (h.xl _ hx).1; simp only at this; omega, .inr (by simp only; omega), hne, hcap, hmx, sn_kid hsn.2.2.2.2⟩
      · exact hpd p hp'
    · have := (hS p hp').1
      simp only at e
      omega
    · exact h.prm.step (fun i hi => (h.xl i hi).1) hb hbx hc hn hr hm hcap hmx (.inr ⟨kb, k1, k2, k3, k4, rfl⟩) hS
theorem OwR.shape {W : World} {v : Value} {L : List Rf} {lo hi : Nat} (h : OwR W v L lo hi) : ∃ a l c, v = .slice a l c := by
  obtain ⟨_, ao, cap, hv, _⟩ := h
  exact ⟨_, _, _, hv⟩
theorem CI.start {W0 W : World} {x : Ex} {v : Value} {r pm wb : Nat} {c0 c1 c2 c3 c4 c5 c6 : Value} (q : Q W0 W) (hr : W0.heap.size ≤ r) (h1 : r < pm) (h2 : pm < wb) (h3 : wb < W.heap.size)
    (hn : Nd W r 0 c0 c1 c2 c3 c4 c5 c6) (hx : Rd W0 x (.agg #[c0, c1, c2, c3, c4, c5, c6])) (hm : W.cell? ⟨pm, 0, none⟩ = some (.bool true)) (hw : W.cell? ⟨wb, 0, none⟩ = some (.slice none 0 0)) (hf : W.frozen? ⟨wb, 0, none⟩ = false)
    (hs : Sn x) (hk : nodes x ≤ 1000) : CI W0 W x r W.heap.size wb pm W (fun i => i = wb) (.slice none 0 0) [] [(r, 0, 1, [x])] := by
  refine ⟨q, ⟨hw, hf, own_nil _, rfl, fun j hj => by cases hj⟩, hm, ⟨Nat.le_refl _, hr, by omega, by omega, by omega, by omega⟩, fun i hi => by subst hi; exact ⟨h3, by omega, by omega, .inl rfl⟩, fun _ _ _ _ => rfl, fun p hp => ?_, List.pairwise_singleton _ _, Prm.start x r _ 1 W _ (Nat.le_refl _), by simp only [wgtP, nodes.nodesL]; omega⟩
  simp only [List.mem_singleton] at hp
  subst hp
  refine ⟨?_, hn.pl, by simp only; omega, .inl rfl, by simp, by simp, by show 1 ≤ maxLen; unfold maxLen; omega, fun y hy => by simp at hy; subst hy; exact hs⟩
  unfold PdL
  exact ⟨⟨c0, c1, c2, c3, c4, c5, c6, hn.g0, by simpa using hn.g1, by simpa using hn.g2, by simpa using hn.g3, by simpa using hn.g4, by simpa using hn.g5, by simpa using hn.g6, hx⟩, by unfold PdL; trivial⟩
theorem nd_new (W : World) (c0 c1 c2 c3 c4 c5 c6 : Value) (t : TypeId) : Nd (W.alloc (.cells #[c0, c1, c2, c3, c4, c5, c6] t)) W.heap.size 0 c0 c1 c2 c3 c4 c5 c6 := by
  refine ⟨?_, ?_, ?_, ?_, ?_, ?_, ?_, pl_new _ _ _⟩
  all_goals simp [World.cell?_alloc_new]
theorem Tb.blk {W W' : World} {q : Nat} {c0 c1 c2 c3 c4 c5 c6 : Value} (h : Tb W q c0 c1 c2 c3 c4 c5 c6) (e : W'.heap[q]? = W.heap[q]?) : Tb W' q c0 c1 c2 c3 c4 c5 c6 := by
  have ce : ∀ j, W'.cell? ⟨q, j, none⟩ = W.cell? ⟨q, j, none⟩ := fun j => World.cell?_of_block e
  exact ⟨(ce _).trans h.g0, (ce _).trans h.g1, (ce _).trans h.g2, (ce _).trans h.g3, (ce _).trans h.g4, (ce _).trans h.g5, (ce _).trans h.g6, fun j => (World.frozen?_of_block (a := ⟨q, j, none⟩) e).trans (h.f j)⟩
theorem copied_start (x : Ex) (v0 v1 v2 v3 v4 v5 v6 : Value) (W w2 : World) (hx : Rd W x (.agg #[v0, v1, v2, v3, v4, v5, v6])) (hs : Sn x) (hk : nodes x ≤ 1000)
    (q2 : Q (((W.alloc (.cells #[v0, v1, v2, v3, v4, v5, v6] 35)).alloc (.cells #[.int .i64 0, .int .i64 0, .string ⟨#[]⟩, .bool false, .int .i64 0, .slice none 0 0, .slice none 0 0] 35)).alloc (.cells #[v0, v1, v2, v3, v4, v5, v6] 35)) w2) :
    ∃ Ws M, Hid (Tb Ws (W.heap.size + 1) (.int .i64 0) (.int .i64 0) (.string ⟨#[]⟩) (.bool false) (.int .i64 0) (.slice none 0 0) (.slice none 0 0)) ∧ W.heap.size + 1 + 1 < M ∧ W.heap.size + 1 < w2.heap.size ∧ Calls Tryz.prog 61 #[.pointer (some ⟨w2.heap.size + 1, 0, none⟩), .slice (some ⟨W.heap.size + 1 + 1, 0, none⟩) 1 1] ((w2.alloc (.cells #[.bool true, .map none] 106)).alloc (.cells #[.slice none 0 0] 109)) fun e W' => (∃ u, e = .returned u) ∧ ∃ X' ov', CI W Ws x (W.heap.size + 1 + 1) M (w2.heap.size + 1) w2.heap.size W' X' ov' [(W.heap.size + 1 + 1, 0, 1, [x])] [(W.heap.size + 1 + 1, 0, 1, [x])] := by
  obtain ⟨wa, hwa⟩ : ∃ wa, wa = (W.alloc (.cells #[v0, v1, v2, v3, v4, v5, v6] 35)).alloc (.cells #[.int .i64 0, .int .i64 0, .string ⟨#[]⟩, .bool false, .int .i64 0, .slice none 0 0, .slice none 0 0] 35) := ⟨_, rfl⟩
  have sza : wa.heap.size = W.heap.size + 1 + 1 := by rw [hwa]; simp
  have qa : Q W wa := by rw [hwa]; exact ((Q.refl _).alloc _).alloc _
  have ta : Tb wa (W.heap.size + 1) (.int .i64 0) (.int .i64 0) (.string ⟨#[]⟩) (.bool false) (.int .i64 0) (.slice none 0 0) (.slice none 0 0) := by
    have := tb_new (W.alloc (.cells #[v0, v1, v2, v3, v4, v5, v6] 35)) (.int .i64 0) (.int .i64 0) (.string ⟨#[]⟩) (.bool false) (.int .i64 0) (.slice none 0 0) (.slice none 0 0) 35
    rw [hwa]
    simpa using this
  rw [← hwa] at q2
  have nb := nd_new wa v0 v1 v2 v3 v4 v5 v6 35
  rw [sza] at nb
  have sz2 := q2.size
  rw [World.size_alloc, sza] at sz2
  obtain ⟨w3, hw3⟩ : ∃ w3, w3 = (w2.alloc (.cells #[.bool true, .map none] 106)).alloc (.cells #[.slice none 0 0] 109) := ⟨_, rfl⟩
  have q3 : Q w2 w3 := by rw [hw3]; exact ((Q.refl _).alloc _).alloc _
  have sz3 : w3.heap.size = w2.heap.size + 1 + 1 := by rw [hw3]; simp
  have q13 : Q wa w3 := (((Q.refl _).alloc _).trans q2).trans q3
  have hci : CI W w3 x (W.heap.size + 1 + 1) w3.heap.size (w2.heap.size + 1) w2.heap.size w3 (fun i => i = w2.heap.size + 1) (.slice none 0 0) [] [(W.heap.size + 1 + 1, 0, 1, [x])] := by
    refine CI.start (v := .agg #[v0, v1, v2, v3, v4, v5, v6]) (qa.trans q13) (by omega) (by omega) (by omega) (by omega) ((nb.on q2).on q3) hx ?_ ?_ ?_ hs hk
    · rw [hw3]; simp [go_sem]
    · rw [hw3]; simp
    · rw [hw3]; simp
  refine ⟨w3, w3.heap.size, hid (ta.blk (Q.block q13 (by omega))), by omega, by omega, ?_⟩
  have he := enter_ci (n := 1) (cap := 1) (ao := some ⟨W.heap.size + 1 + 1, 0, none⟩) hci (by omega) (.inr ⟨_, [x], by omega, rfl, rfl, rfl⟩)
  rw [← hw3]
  exact he
set_option maxHeartbeats 1000000 in
theorem place_of (b o n cap : Nat) (W : World) (hn : 0 < n) (hm : n ≤ 1000) :
    Calls Tryz.prog 91 #[.slice (some ⟨b, o, none⟩) n cap] W fun e W' => e = .returned (pkV (b, o, n)) ∧ Q W W' := by
  have hn' : (0 : Int) < (n : Int) := by omega
  unfold pkV
  go_enter Tryz.func91, Tryz.ntmps91
  go_wp2
  refine bodyPost_ret (v := .agg #[.pointer (some ⟨b, o, none⟩), .int .i64 (n : Int)]) (by simp [results, Tryz.results91, go_sem]) rfl ?_
  exact ⟨rfl, by repeat (first | with_reducible exact Q.refl _ | with_reducible refine Q.alloc ?_ _ | with_reducible refine Q.setCell ?_ (by simp) _)⟩
set_option maxHeartbeats 1000000 in
theorem refs_weight (b o : Nat) (c0 c1 c2 c3 c4 c6 : Value) (ar : Option Addr) (n cr : Nat) (W : World) (h : W.cell? ⟨b, o + 5, none⟩ = some (.slice ar n cr)) (hn : n ≤ 100000000) :
    Calls Tryz.prog 106 #[.pointer (some ⟨b, o, none⟩)] W fun e W' => e = .returned (.int .i64 (40 * (n : Int))) ∧ W' = W := by
  have hn' : (n : Int) ≤ 100000000 := by omega
  go_enter Tryz.func106, Tryz.ntmps106
  go_wp2
  go_ret
  exact ⟨rfl, rfl⟩
set_option maxHeartbeats 1000000 in
theorem whole_weight (b o : Nat) (t : ByteArray) (ar : Option Addr) (n cr : Nat) (W : World) (h2 : W.cell? ⟨b, o + 2, none⟩ = some (.string t)) (h : W.cell? ⟨b, o + 5, none⟩ = some (.slice ar n cr)) (hn : n ≤ 100000000) (ht : t.size ≤ 3000000000) :
    Calls Tryz.prog 88 #[.pointer (some ⟨b, o, none⟩)] W fun e W' => e = .returned (.int .i64 (96 + (t.size : Int) + 40 * (n : Int))) ∧ ∃ m, W' = W.drewN m := by
  have HR := hid (fun m => refs_weight b o (.bool true) (.bool true) (.bool true) (.bool true) (.bool true) (.bool true) ar n cr (W.drewN m) h hn)
  have hn' : (n : Int) ≤ 100000000 := by omega
  have ht' : (t.size : Int) ≤ 3000000000 := by omega
  go_enter Tryz.func88, Tryz.ntmps88
  go_wp2_with fail
  go_quiet (first | (go_at_call 106; exact Calls.quiet_of_same (HR.out _)) | (exact Calls.quiet_of_same (HR.out _)))
  all_goals go_wp2_with fail
  all_goals go_ret
  all_goals first | exact ⟨rfl, _, rfl⟩ | exact ⟨rfl, 1, rfl⟩
set_option maxHeartbeats 1000000 in
theorem add_any (g o : Nat) (x n : Int) (W : World) (h : W.cell? ⟨g, o + 3, none⟩ = some (.int .i64 x)) (hf : W.frozen? ⟨g, o + 3, none⟩ = false) (h0 : 0 ≤ x) (h1 : 0 ≤ n) (h2 : x + n ≤ 2147483648) :
    Calls Tryz.prog 127 #[.pointer (some ⟨g, o, none⟩), .int .i64 n] W fun e W' => e = .returned (.tuple #[]) ∧ W' = W.setCell ⟨g, o + 3, none⟩ (.int .i64 (x + n)) := by
  have hmin : min (x + n) 2147483648 = x + n := by omega
  go_enter Tryz.func127, Tryz.ntmps127
  go_wp2
  refine bodyPost_end (v := .tuple #[]) (by simp [results, Tryz.results127, go_sem]) rfl ?_
  exact ⟨rfl, by simp only [hmin]⟩
end Go.Proofs.YthebfhdpofhmpaaGreatDoor
