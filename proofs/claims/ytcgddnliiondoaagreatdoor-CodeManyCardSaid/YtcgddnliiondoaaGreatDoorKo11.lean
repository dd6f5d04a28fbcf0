/- Where parse.Eq stands. -/
import Derived.Test.YtcgddnliiondoaaGreatDoorKo10
import Derived.Test.YtcgddnliiondoaaGreatDoorKo05
set_option linter.unusedVariables false
set_option linter.unusedSimpArgs false
set_option maxRecDepth 100000
set_option maxHeartbeats 8000000
namespace Go.Proofs.YtcgddnliiondoaaGreatDoor
open Go.RowKit
theorem rf_inj {x y : Rf} (h : rf x = rf y) : x = y := by
  obtain ⟨s, r, c, a, b⟩ := x
  obtain ⟨s', r', c', a', b'⟩ := y
  simp only [rf, List.cons.injEq, Value.string.injEq, ByteArray.mk.injEq, Value.int.injEq, Value.bool.injEq, true_and, and_true] at h
  obtain ⟨h1, h2, h3, h4, h5⟩ := h
  have : s = s' := by simpa using h1
  subst this h2 h3 h4 h5
  rfl
theorem ats_det {W : World} {b o : Nat} {x y : Rf} (h : Ats rf W b o x) (h' : Ats rf W b o y) : x = y := by
  refine rf_inj (List.ext_getElem? fun i => ?_)
  by_cases hi : i < 5
  · have h1 := h i _ (List.getElem?_eq_getElem (l := rf x) (by rw [rf_len]; exact hi))
    have h2 := h' i _ (List.getElem?_eq_getElem (l := rf y) (by rw [rf_len]; exact hi))
    rw [h1] at h2
    rw [List.getElem?_eq_getElem (l := rf x) (by rw [rf_len]; exact hi), List.getElem?_eq_getElem (l := rf y) (by rw [rf_len]; exact hi)]
    exact h2
  · rw [List.getElem?_eq_none (by rw [rf_len]; omega), List.getElem?_eq_none (by rw [rf_len]; omega)]
theorem sl_det {W : World} {v : Value} {L L' : List Rf} (h : Sl rf 5 W v L) (h' : Sl rf 5 W v L') : L = L' := by
  obtain ⟨ao, cap, hv, _, _, h⟩ := h
  obtain ⟨ao', cap', hv', _, _, h'⟩ := h'
  rw [hv] at hv'
  simp only [Value.slice.injEq] at hv'
  obtain ⟨ha, hl, _⟩ := hv'
  subst ha
  refine List.ext_getElem hl fun i h1 h2 => ?_
  obtain ⟨b, off, e, hc⟩ := h (by omega)
  obtain ⟨b', off', e', hc'⟩ := h' (by omega)
  rw [e] at e'
  simp only [Option.some.injEq, Addr.mk.injEq] at e'
  obtain ⟨rfl, rfl, _⟩ := e'
  exact ats_det (hc i h1) (hc' i h2)
theorem Rd.det {W : World} : ∀ (x y : Ex) (v : Value), Rd W x v → Rd W y v → x = y
  | .mk k n t b e rs ks, .mk k' n' t' b' e' rs' ks', v, h, h' => by
    unfold Rd at h h'
    obtain ⟨rv, kv, hv, hr, ao, cap, hk, _, _, h3⟩ := h
    obtain ⟨rv', kv', hv', hr', ao', cap', hk', _, _, h3'⟩ := h'
    rw [hv] at hv'
    simp only [Value.agg.injEq, Array.mk.injEq, List.cons.injEq, Value.int.injEq, Value.string.injEq, ByteArray.mk.injEq, Value.bool.injEq, true_and, and_true] at hv'
    obtain ⟨rfl, rfl, ht, rfl, rfl, rfl, rfl⟩ := hv'
    have et : t = t' := by simpa using ht
    subst et
    have er := sl_det hr hr'
    subst er
    rw [hk] at hk'
    simp only [Value.slice.injEq] at hk'
    obtain ⟨rfl, hl, _⟩ := hk'
    have ek : ks = ks' := by
      by_cases hn : ks = []
      · subst hn
        exact (List.eq_nil_of_length_eq_zero hl.symm).symm
      · obtain ⟨q, off, ea, _, hd⟩ := h3 hn
        obtain ⟨q', off', ea', _, hd'⟩ := h3' (fun e => hn (by rw [e] at hl; exact List.eq_nil_of_length_eq_zero hl))
        rw [ea] at ea'
        simp only [Option.some.injEq, Addr.mk.injEq] at ea'
        obtain ⟨rfl, rfl, _⟩ := ea'
        exact go ks ks' q off hl hd hd'
    subst ek
    rfl
  where
  go {W : World} : ∀ (l l' : List Ex) (b off : Nat), l.length = l'.length → Rd.RdL W l b off → Rd.RdL W l' b off → l = l'
  | [], [], _, _, _, _, _ => rfl
  | [], _ :: _, _, _, hl, _, _ => by simp at hl
  | _ :: _, [], _, _, hl, _, _ => by simp at hl
  | x :: xs, y :: ys, b, off, hl, h, h' => by
    unfold Rd.RdL at h h'
    obtain ⟨⟨c0, c1, c2, c3, c4, c5, c6, g0, g1, g2, g3, g4, g5, g6, hx⟩, hr⟩ := h
    obtain ⟨⟨d0, d1, d2, d3, d4, d5, d6, i0, i1, i2, i3, i4, i5, i6, hy⟩, hs⟩ := h'
    rw [g0] at i0
    rw [g1] at i1
    rw [g2] at i2
    rw [g3] at i3
    rw [g4] at i4
    rw [g5] at i5
    rw [g6] at i6
    cases i0
    cases i1
    cases i2
    cases i3
    cases i4
    cases i5
    cases i6
    rw [Rd.det x y _ hx hy, go xs ys b (off + 7) (by simpa using hl) hr hs]
theorem rdl_det {W : World} {l l' : List Ex} {b off : Nat} (hl : l.length = l'.length) (h : Rd.RdL W l b off) (h' : Rd.RdL W l' b off) : l = l' := Rd.det.go l l' b off hl h h'
def TL (W : World) (v : Value) (ks : List Ex) : Prop := ∃ (ao : Option Addr) (cap : Nat), v = .slice ao ks.length cap ∧ ks.length ≤ cap ∧ cap ≤ maxLen ∧ (ks ≠ [] → ∃ b off, ao = some ⟨b, off, none⟩ ∧ Pl W b ∧ Rd.RdL W ks b off)
theorem TL.on {W W' : World} {v : Value} {ks : List Ex} (h : TL W v ks) (q : Q W W') : TL W' v ks := by
  obtain ⟨ao, cap, h1, h2, h3, h4⟩ := h
  refine ⟨ao, cap, h1, h2, h3, fun hn => ?_⟩
  obtain ⟨b, off, ha, hp, hr⟩ := h4 hn
  exact ⟨b, off, ha, hp.on q, hr.on q⟩
theorem Kid.tl {W : World} {x : Ex} {b off : Nat} {c0 c1 c2 c3 c4 c5 c6 : Value} (h : Kid W x b off c0 c1 c2 c3 c4 c5 c6) : TL W c6 (kd x) := by
  have hr := h.rd
  cases x with
  | mk k n t bb e rs ks =>
    unfold Rd at hr
    obtain ⟨rv, kv, hv, _, ao, cap, hk, h1, h2, h3⟩ := hr
    simp only [Value.agg.injEq, Array.mk.injEq, List.cons.injEq, and_true] at hv
    rw [hv.2.2.2.2.2.2]
    exact ⟨ao, cap, hk, h1, h2, h3⟩
theorem TL.at {W : World} {v : Value} {ks : List Ex} (h : TL W v ks) {i : Nat} (hi : i < ks.length) : ∃ b off cap, v = .slice (some ⟨b, off, none⟩) ks.length cap ∧ Pl W b ∧ Rd.RdL W ks b off ∧ ∃ c0 c1 c2 c3 c4 c5 c6, Kid W ks[i] b (off + i * 7) c0 c1 c2 c3 c4 c5 c6 := by
  obtain ⟨ao, cap, h1, _, _, h4⟩ := h
  obtain ⟨b, off, rfl, hp, hr⟩ := h4 (fun e => by rw [e] at hi; simp at hi)
  exact ⟨b, off, cap, h1, hp, hr, Rd.RdL.kid hr i hi⟩
theorem tl_one {W : World} {x : Ex} {c0 c1 c2 c3 c4 c5 c6 : Value} (h : Rd W x (.agg #[c0, c1, c2, c3, c4, c5, c6])) (t : TypeId) : TL (W.alloc (.cells #[c0, c1, c2, c3, c4, c5, c6] t)) (.slice (some ⟨W.heap.size, 0, none⟩) 1 1) [x] := by
  refine ⟨_, 1, rfl, by simp, by unfold maxLen; omega, fun _ => ⟨_, 0, rfl, pl_new _ _ _, ?_⟩⟩
  unfold Rd.RdL
  refine ⟨⟨c0, c1, c2, c3, c4, c5, c6, ?_, ?_, ?_, ?_, ?_, ?_, ?_, Rd.on ((Q.refl _).alloc _) _ _ h⟩, by unfold Rd.RdL; trivial⟩
  all_goals simp [World.cell?_alloc_new]
def encP (p : Value × Value) : List Value := [p.1, p.2]
theorem encP_len (p : Value × Value) : (encP p).length = 2 := rfl
def All2 {α β : Type} (R : α → β → Prop) : List α → List β → Prop
  | [], [] => True
  | x :: xs, y :: ys => R x y ∧ All2 R xs ys
  | [], _ :: _ => False
  | _ :: _, [] => False
theorem All2.snoc {α β : Type} {R : α → β → Prop} : ∀ {xs : List α} {ys : List β} {x : α} {y : β}, All2 R xs ys → R x y → All2 R (xs ++ [x]) (ys ++ [y])
  | [], [], x, y, _, h => ⟨h, trivial⟩
  | [], _ :: _, _, _, h, _ => by cases h
  | _ :: _, [], _, _, h, _ => by cases h
  | a :: xs, b :: ys, x, y, h, h' => ⟨h.1, All2.snoc h.2 h'⟩
theorem All2.mem {α β : Type} {R : α → β → Prop} : ∀ {xs : List α} {ys : List β} {x : α}, All2 R xs ys → x ∈ xs → ∃ y, y ∈ ys ∧ R x y
  | [], [], x, _, h => absurd h (by simp)
  | [], _ :: _, _, h, _ => by cases h
  | _ :: _, [], _, h, _ => by cases h
  | a :: xs, b :: ys, x, h, h' => by
    simp at h'
    rcases h' with rfl | h'
    · exact ⟨b, by simp, h.1⟩
    · obtain ⟨y, hy, hr⟩ := All2.mem h.2 h'
      exact ⟨y, by simp [hy], hr⟩
structure RdP (W : World) (p : Value × Value) (l : Pr) : Prop where
  a : TL W p.1 l.1
  b : TL W p.2 l.2
  ln : l.1.length = l.2.length
  ne : l.1 ≠ []
structure KyR (W : World) (k : Ky) (l : Pr) : Prop where
  p : KyP W k
  a : Rd.RdL W l.1 k.1 k.2.1
  b : Rd.RdL W l.2 k.2.2.1 k.2.2.2.1
  la : l.1.length = k.2.2.2.2
  lb : l.2.length = k.2.2.2.2
theorem KyP.on {W W' : World} {k : Ky} (h : KyP W k) (q : Q W W') : KyP W' k := ⟨h.1.on q, h.2.on q⟩
theorem KyR.det {W : World} {k : Ky} {l l' : Pr} (h : KyR W k l) (h' : KyR W k l') : l = l' := by
  obtain ⟨a, b⟩ := l
  obtain ⟨a', b'⟩ := l'
  have e1 := rdl_det (h.la.trans h'.la.symm) h.a h'.a
  have e2 := rdl_det (h.lb.trans h'.lb.symm) h.b h'.b
  simp only at e1 e2
  rw [e1, e2]
structure EM (W2 W : World) (m : Nat) (v : Value) (ps : List (Value × Value)) (L : List Pr) (ks : List Ky) (K : List Pr) : Prop where
  q : Q W2 W
  ow : Own encP 116 2 W2.heap.size W v ps.reverse
  mp : MapK W m ks
  hm : W2.heap.size ≤ m
  ob : v.ownBlock ≠ some m
  rp : All2 (RdP W2) ps L
  rk : All2 (KyR W2) ks K
theorem MapK.lt {W : World} {m : Nat} {ks : List Ky} (h : MapK W m ks) : m < W.heap.size := by
  obtain ⟨es, c, hb, _⟩ := h
  exact (Array.getElem?_eq_some_iff.1 hb).1
theorem MapK.kept {W W' : World} {m : Nat} {ks : List Ky} {r : Option Nat} (h : MapK W m ks) (g : W.grownBy W' r) (hr : some m ≠ r) : MapK W' m ks := by
  have hl := h.lt
  obtain ⟨es, c, hb, he⟩ := h
  exact ⟨es, c, (g.block m hl hr).trans hb, he⟩
theorem q_grown {A W W' : World} {r : Option Nat} (q : Q A W) (g : W.grownBy W' r) (hr : ∀ j, r = some j → A.heap.size ≤ j) : Q A W' := by
  refine ⟨g.os.trans q.os, g.tape.trans q.tape, g.output.trans q.output, Nat.le_trans q.size g.size, fun i hi => ?_⟩
  exact (g.block i (Nat.lt_of_lt_of_le hi q.size) (fun e => by have := hr i e.symm; omega)).trans (Q.block q hi)
theorem EM.on {W2 W W' : World} {m : Nat} {v : Value} {ps : List (Value × Value)} {L : List Pr} {ks : List Ky} {K : List Pr} (h : EM W2 W m v ps L ks K) (q : Q W W') : EM W2 W' m v ps L ks K := by
  refine ⟨h.q.trans q, h.ow.on q, ?_, h.hm, h.ob, h.rp, h.rk⟩
  have hl := h.mp.lt
  obtain ⟨es, c, hb, he⟩ := h.mp
  exact ⟨es, c, (Q.block q hl).trans hb, he⟩
theorem EM.keys {W2 W : World} {m : Nat} {v : Value} {ps : List (Value × Value)} {L : List Pr} {ks : List Ky} {K : List Pr} (h : EM W2 W m v ps L ks K) : ∀ x ∈ ks, KyP W x := by
  intro x hx
  obtain ⟨l, _, hr⟩ := h.rk.mem hx
  exact hr.p.on h.q
theorem EM.upd {W2 W W' : World} {m : Nat} {v : Value} {ps : List (Value × Value)} {L : List Pr} {ks : List Ky} {K : List Pr} (h : EM W2 W m v ps L ks K) {k : Ky} {p : Pr} (hg : W.grownBy W' (some m)) (mp : MapK W' m (ks ++ [k])) (hk : KyR W2 k p) : EM W2 W' m v ps L (ks ++ [k]) (K ++ [p]) := by
  refine ⟨q_grown h.q hg (fun j e => by cases e; exact h.hm), ?_, mp, h.hm, h.ob, h.rp, h.rk.snoc hk⟩
  exact h.ow.grown hg (.inr h.ob)
theorem EM.app {W2 W W' : World} {m : Nat} {v v' : Value} {ps : List (Value × Value)} {L : List Pr} {ks : List Ky} {K : List Pr} (h : EM W2 W m v ps L ks K) {p : Value × Value} {l : Pr} (hg : W.grownBy W' v.ownBlock) (ow : Own encP 116 2 W2.heap.size W' v' (ps.reverse ++ [p])) (hat : v'.ownBlock = v.ownBlock ∨ v'.ownBlock = some W.heap.size) (hp : RdP W2 p l) : EM W2 W' m v' (p :: ps) (l :: L) ks K := by
  refine ⟨q_grown h.q hg (fun j e => h.ow.blk j e), by rw [List.reverse_cons]; exact ow, h.mp.kept hg (fun e => h.ob e.symm), h.hm, ?_, ⟨hp, h.rp⟩, h.rk⟩
  rcases hat with e | e
  · rw [e]; exact h.ob
  · rw [e]
    intro e'
    have := h.mp.lt
    have := Option.some.inj e'
    omega
theorem own_cut {W : World} {B g n cap : Nat} {L : List (Value × Value)} {x : Value × Value} (h : Own encP 116 2 B W (.slice (some ⟨g, 0, none⟩) (n + 1) cap) (L ++ [x])) (hn : L.length = n) : Own encP 116 2 B W (.slice (some ⟨g, 0, none⟩) n cap) L := by
  subst hn
  obtain ⟨hl, h⟩ := h
  refine ⟨flat_len encP encP_len L, .inr ?_⟩
  rcases h with ⟨hv, _⟩ | ⟨g', cap', cur, hv, hb, hg, h1, h2, h3, h4⟩
  · cases hv
  · simp only [Value.slice.injEq, Option.some.injEq, Addr.mk.injEq] at hv
    obtain ⟨⟨rfl, _⟩, _, rfl⟩ := hv
    refine ⟨g, cap, cur, rfl, hb, hg, by simp at h1; omega, h2, h3, ?_⟩
    have e : (flat encP (L ++ [x])).take (L.length * 2) = flat encP L := by
      rw [flat_append, List.take_append_of_le_length (by rw [flat_len encP encP_len]; exact Nat.le_refl _), List.take_of_length_le (by rw [flat_len encP encP_len]; exact Nat.le_refl _)]
    rw [← e, ← h4, List.take_take]
    congr 1
    simp
theorem tl_det {W : World} {v : Value} {l l' : List Ex} (h : TL W v l) (h' : TL W v l') : l = l' := by
  obtain ⟨ao, cap, hv, _, _, h⟩ := h
  obtain ⟨ao', cap', hv', _, _, h'⟩ := h'
  rw [hv] at hv'
  simp only [Value.slice.injEq] at hv'
  obtain ⟨rfl, hl, _⟩ := hv'
  by_cases hn : l = []
  · subst hn
    exact (List.eq_nil_of_length_eq_zero hl.symm).symm
  · obtain ⟨b, off, e, _, hr⟩ := h hn
    obtain ⟨b', off', e', _, hr'⟩ := h' (fun e => hn (by rw [e] at hl; exact List.eq_nil_of_length_eq_zero hl))
    rw [e] at e'
    simp only [Option.some.injEq, Addr.mk.injEq] at e'
    obtain ⟨rfl, rfl, _⟩ := e'
    exact rdl_det hl hr hr'
theorem rdp_det {W : World} : ∀ {ps : List (Value × Value)} {L L' : List Pr}, All2 (RdP W) ps L → All2 (RdP W) ps L' → L = L'
  | [], [], [], _, _ => rfl
  | [], [], _ :: _, _, h => by cases h
  | [], _ :: _, _, h, _ => by cases h
  | _ :: _, [], _, h, _ => by cases h
  | _ :: _, _ :: _, [], _, h => by cases h
  | p :: ps, (a, b) :: L, (a', b') :: L', h, h' => by
    have e1 : a = a' := tl_det h.1.a h'.1.a
    have e2 : b = b' := tl_det h.1.b h'.1.b
    rw [e1, e2, rdp_det h.2 h'.2]
theorem flat_inj : ∀ {l l' : List (Value × Value)}, flat encP l = flat encP l' → l = l'
  | [], [], _ => rfl
  | [], (a, b) :: l, h => by simp [flat_cons, flat_nil, encP] at h
  | (a, b) :: l, [], h => by simp [flat_cons, flat_nil, encP] at h
  | (a, b) :: l, (a', b') :: l', h => by
    simp only [flat_cons, encP, List.cons_append, List.nil_append, List.cons.injEq] at h
    obtain ⟨h1, h2, h3⟩ := h
    rw [h1, h2, flat_inj h3]
theorem own_det {W : World} {B : Nat} {v : Value} {l l' : List (Value × Value)} (h : Own encP 116 2 B W v l) (h' : Own encP 116 2 B W v l') : l = l' := by
  obtain ⟨_, h⟩ := h
  obtain ⟨_, h'⟩ := h'
  rcases h with ⟨hv, hn⟩ | ⟨g, cap, cur, hv, _, hg, _, _, _, ht⟩
  · rcases h' with ⟨_, hn'⟩ | ⟨g', cap', cur', hv', _⟩
    · rw [List.eq_nil_of_length_eq_zero hn, List.eq_nil_of_length_eq_zero hn']
    · rw [hv] at hv'; cases hv'
  · rcases h' with ⟨hv', hn'⟩ | ⟨g', cap', cur', hv', _, hg', _, _, _, ht'⟩
    · rw [hv] at hv'; cases hv'
    · rw [hv] at hv'
      simp only [Value.slice.injEq, Option.some.injEq, Addr.mk.injEq] at hv'
      obtain ⟨⟨rfl, _⟩, hl, _⟩ := hv'
      rw [hg] at hg'
      simp only [Option.some.injEq, Obj.cells.injEq, and_true] at hg'
      obtain ⟨rfl⟩ := hg'
      refine flat_inj ?_
      rw [← ht, ← ht', hl]
def WgtAt (W2 W : World) (v : Value) (n : Nat) : Prop := ∃ ps L, Own encP 116 2 W2.heap.size W v (List.reverse ps) ∧ All2 (RdP W2) ps L ∧ wgt L = n
theorem wgt_det {W2 W : World} {v : Value} {n m : Nat} (h : WgtAt W2 W v n) (h' : WgtAt W2 W v m) : n = m := by
  obtain ⟨ps, L, h1, h2, h3⟩ := h
  obtain ⟨ps', L', h1', h2', h3'⟩ := h'
  have e : ps = ps' := by simpa using own_det h1 h1'
  subst e
  have e := rdp_det h2 h2'
  subst e
  rw [← h3, ← h3']
theorem wgt_at {W2 W : World} {v : Value} {n : Nat} (h : WgtAt W2 W v n) : Classical.epsilon (WgtAt W2 W v) = n := wgt_det (Classical.epsilon_spec ⟨n, h⟩) h
theorem EM.wgt {W2 W : World} {m : Nat} {v : Value} {ps : List (Value × Value)} {L : List Pr} {ks : List Ky} {K : List Pr} (h : EM W2 W m v ps L ks K) : Classical.epsilon (WgtAt W2 W v) = wgt L := wgt_at ⟨ps, L, h.ow, h.rp, rfl⟩
end Go.Proofs.YtcgddnliiondoaaGreatDoor
