/- Trees that lie in blocks of their own; worlds in which some . -/
import Derived.Test.YthebfhdpofhmpaaGreatDoorKc05
import Derived.Laws.CopyRow
import Derived.OwnWalk
import Derived.Test.YthebfhdpofhmpaaGreatDoorKc00
import Derived.Maps.AppendAt
import Derived.Maps.OwnSet
import Derived.LaidEql
set_option linter.unusedVariables false
set_option linter.unusedSimpArgs false
set_option maxRecDepth 100000
set_option maxHeartbeats 8000000
namespace Go.Proofs.YthebfhdpofhmpaaGreatDoor
open Go.RowKit
theorem Q.of_eq {a w : World} (h : w = a) : Q a w := h ▸ Q.refl _
structure Qp (P : Nat → Prop) (w w' : World) : Prop where
  os : w'.os = w.os
  tape : w'.tape = w.tape
  output : w'.output = w.output
  size : w.heap.size ≤ w'.heap.size
  block : ∀ i, i < w.heap.size → ¬ P i → w'.heap[i]? = w.heap[i]?
theorem Qp.refl (P : Nat → Prop) (w : World) : Qp P w w := ⟨rfl, rfl, rfl, Nat.le_refl _, fun _ _ _ => rfl⟩
theorem Qp.trans {P : Nat → Prop} {a b c : World} (h : Qp P a b) (k : Qp P b c) : Qp P a c :=
  ⟨k.os.trans h.os, k.tape.trans h.tape, k.output.trans h.output, Nat.le_trans h.size k.size, fun i hi hp => (k.block i (Nat.lt_of_lt_of_le hi h.size) hp).trans (h.block i hi hp)⟩
theorem Qp.mono {P P' : Nat → Prop} {a b : World} (h : Qp P a b) (hp : ∀ i, i < a.heap.size → P i → P' i) : Qp P' a b :=
  ⟨h.os, h.tape, h.output, h.size, fun i hi hn => h.block i hi (fun k => hn (hp i hi k))⟩
theorem Qp.set {P : Nat → Prop} {a w : World} (h : Qp P a w) {b : Nat} (k : Nat) (v : Value) (hb : P b ∨ a.heap.size ≤ b) : Qp P a (w.setCell ⟨b, k, none⟩ v) :=
  ⟨h.os, h.tape, h.output, by simpa [World.setCell] using h.size, fun i hi hp => (Below.heap_setCell _ _ _ _ (fun e => by
    rcases hb with hb | hb
    · exact hp (by rw [e]; exact hb)
    · simp at e; omega)).trans (h.block i hi hp)⟩
theorem Qp.cell {P : Nat → Prop} {a w : World} (h : Qp P a w) {b o : Nat} (hb : b < a.heap.size) (hp : ¬ P b) : w.cell? ⟨b, o, none⟩ = a.cell? ⟨b, o, none⟩ :=
  World.cell?_of_block (h.block b hb hp)
theorem Pl.frozen {W : World} {b : Nat} (h : Pl W b) (j : Nat) : W.frozen? ⟨b, j, none⟩ = false := by
  obtain ⟨c, t, h⟩ := h
  simp [World.frozen?, h]
theorem Pl.blk {W W' : World} {b : Nat} (h : Pl W b) (q : W'.heap[b]? = W.heap[b]?) : Pl W' b := by
  obtain ⟨c, t, h⟩ := h
  exact ⟨c, t, q.trans h⟩
theorem Pl.set {W : World} {b : Nat} (h : Pl W b) (p k : Nat) (v : Value) : Pl (W.setCell ⟨p, k, none⟩ v) b := by
  by_cases e : b = p
  · subst e
    obtain ⟨c, t, h⟩ := h
    exact ⟨c.set! k v, t, by
      have hl : b < W.heap.size := by
        rcases Nat.lt_or_ge b W.heap.size with h' | h'
        · exact h'
        · rw [Array.getElem?_eq_none h'] at h; cases h
      simp only [World.setCell, Array.getElem?_modify, if_true, h]
      rfl⟩
  · exact h.blk (Below.heap_setCell _ _ _ _ (fun e' => e e'))
def OwR (W : World) (v : Value) (L : List Rf) (lo hi : Nat) : Prop :=
  lo ≤ hi ∧ ∃ (ao : Option Addr) (cap : Nat), v = .slice ao L.length cap ∧ L.length ≤ cap ∧ cap ≤ maxLen ∧ (0 < L.length → ∃ g, ao = some ⟨g, 0, none⟩ ∧ lo ≤ g ∧ g < hi ∧ Pl W g ∧ ∀ i (h : i < L.length), Ats rf W g (0 + i * 5) L[i])
def Ow (W : World) : Ex → Value → Nat → Nat → Prop
  | .mk k n t b e rs ks, v, lo, hi => ∃ rv kv m, v = .agg #[.int .i64 k, .int .i64 n, .string ⟨t.toArray⟩, .bool b, .int .i64 e, rv, kv] ∧ OwR W rv rs lo m ∧ m ≤ hi ∧
      ∃ (ao : Option Addr) (cap : Nat), kv = .slice ao ks.length cap ∧ ks.length ≤ cap ∧ cap ≤ maxLen ∧ (ks ≠ [] → ∃ g m', ao = some ⟨g, 0, none⟩ ∧ m ≤ g ∧ g < m' ∧ Pl W g ∧ OwL W ks g 0 m' hi)
  where
  OwL (W : World) : List Ex → Nat → Nat → Nat → Nat → Prop
  | [], _, _, lo, hi => lo ≤ hi
  | x :: xs, b, off, lo, hi => ∃ m, (∃ c0 c1 c2 c3 c4 c5 c6, W.cell? ⟨b, off, none⟩ = some c0 ∧ W.cell? ⟨b, off + 1, none⟩ = some c1 ∧ W.cell? ⟨b, off + 2, none⟩ = some c2 ∧ W.cell? ⟨b, off + 3, none⟩ = some c3 ∧ W.cell? ⟨b, off + 4, none⟩ = some c4 ∧ W.cell? ⟨b, off + 5, none⟩ = some c5 ∧ W.cell? ⟨b, off + 6, none⟩ = some c6 ∧ Ow W x (.agg #[c0, c1, c2, c3, c4, c5, c6]) lo m) ∧ OwL W xs b (off + 7) m hi
theorem OwR.mono {W : World} {v : Value} {L : List Rf} {lo hi lo' hi' : Nat} (h : OwR W v L lo hi) (h1 : lo' ≤ lo) (h2 : hi ≤ hi') : OwR W v L lo' hi' := by
  obtain ⟨hl, ao, cap, hv, a1, a2, a3⟩ := h
  exact ⟨by omega, ao, cap, hv, a1, a2, fun hn => by obtain ⟨g, ha, b1, b2, b3⟩ := a3 hn; exact ⟨g, ha, by omega, by omega, b3⟩⟩
theorem Ow.mono {W : World} : ∀ (x : Ex) (v : Value) (lo hi lo' hi' : Nat), Ow W x v lo hi → lo' ≤ lo → hi ≤ hi' → Ow W x v lo' hi'
  | .mk k n t b e rs ks, v, lo, hi, lo', hi', h, h1, h2 => by
    unfold Ow at h ⊢
    obtain ⟨rv, kv, m, hv, hr, hm, ao, cap, hk, a1, a2, a3⟩ := h
    refine ⟨rv, kv, m, hv, hr.mono h1 (Nat.le_refl _), by omega, ao, cap, hk, a1, a2, fun hn => ?_⟩
    obtain ⟨g, m', ha, b1, b2, b3, b4⟩ := a3 hn
    exact ⟨g, m', ha, b1, b2, b3, go ks g 0 m' hi m' hi' b4 (Nat.le_refl _) h2⟩
  where
  go {W : World} : ∀ (l : List Ex) (b off lo hi lo' hi' : Nat), Ow.OwL W l b off lo hi → lo' ≤ lo → hi ≤ hi' → Ow.OwL W l b off lo' hi'
  | [], _, _, _, _, _, _, h, h1, h2 => by unfold Ow.OwL at h ⊢; omega
  | x :: xs, b, off, lo, hi, lo', hi', h, h1, h2 => by
    unfold Ow.OwL at h ⊢
    obtain ⟨m, ⟨c0, c1, c2, c3, c4, c5, c6, g0, g1, g2, g3, g4, g5, g6, hx⟩, hr⟩ := h
    exact ⟨m, ⟨c0, c1, c2, c3, c4, c5, c6, g0, g1, g2, g3, g4, g5, g6, Ow.mono x _ lo m lo' m hx h1 (Nat.le_refl _)⟩, go xs b (off + 7) m hi m hi' hr (Nat.le_refl _) h2⟩
theorem Ow.OwL.mono {W : World} {l : List Ex} {b off lo hi lo' hi' : Nat} (h : Ow.OwL W l b off lo hi) (h1 : lo' ≤ lo) (h2 : hi ≤ hi') : Ow.OwL W l b off lo' hi' := Ow.mono.go 0 0 0 0 l b off lo hi lo' hi' h h1 h2
set_option maxHeartbeats 2000000 in
theorem anew70_nil (n cap : Nat) (W : World) : Calls Tryz.prog 89 #[.slice none n cap] W fun e W' => e = .returned (.slice none 0 0) ∧ W' = W := by
  have hb : (binOp BinOp.eql 32 (.slice none n cap) (.slice none 0 0)).run Tryz.prog W = .ok (.bool true) W := by kernel_rfl
  go_enter Tryz.func89, Tryz.ntmps89
  go_wp2
  go_ret
  exact ⟨rfl, rfl⟩
set_option maxHeartbeats 2000000 in
theorem anew71_nil (n cap : Nat) (W : World) : Calls Tryz.prog 90 #[.slice none n cap] W fun e W' => e = .returned (.slice none 0 0) ∧ W' = W := by
  have hb : (binOp BinOp.eql 33 (.slice none n cap) (.slice none 0 0)).run Tryz.prog W = .ok (.bool true) W := by kernel_rfl
  go_enter Tryz.func90, Tryz.ntmps90
  go_wp2
  go_ret
  exact ⟨rfl, rfl⟩
set_option maxHeartbeats 400000 in
theorem copiedRefs_nil (cap : Nat) (W : World) : Calls Tryz.prog 63 #[.slice none 0 cap] W fun e W' => e = .returned (.slice none 0 0) ∧ Q W W' := by
  have HA := hid (anew70_nil 0 cap W)
  go_enter Tryz.func63, Tryz.ntmps63
  go_wp2_with (go_at_call 89; refine HA.out.mono ?_; rintro e w1 ⟨rfl, h9⟩; have Q1 := hid (Q.of_eq h9); clear h9)
  go_loopw [9, 4] (fun x _ W' => x = .int .i64 0 ∧ Hid (Q W W')) (fun x _ _ => 0)
  case atStart => exact ⟨rfl, Q1⟩
  case round =>
    obtain ⟨rfl, hQ⟩ := hrel
    go_wp2_with fail
    go_ret
    exact ⟨rfl, hQ.out⟩
abbrev Sc := Nat × Nat × Nat × Nat
def sv (x : Sc) : List Value := [.slice (some ⟨x.1, x.2.1, none⟩) x.2.2.1 x.2.2.2]
theorem sv_len (x : Sc) : (sv x).length = 1 := rfl
theorem info24r : (Tryz.prog.info? 33).map (fun i => (i.zero, i.size, i.bytes)) = some (some (.slice none 0 0), 1, 24) := by kernel_rfl
structure Wk (W : World) (wb : Nat) (X : Nat → Prop) (ov : Value) (L : List Sc) : Prop where
  c : W.cell? ⟨wb, 0, none⟩ = some ov
  f : W.frozen? ⟨wb, 0, none⟩ = false
  ow : Own sv 33 1 0 W ov L
  x : X wb
  xo : ∀ j, ov.ownBlock = some j → X j ∧ j ≠ wb
theorem Wk.lt {W : World} {wb : Nat} {X : Nat → Prop} {ov : Value} {L : List Sc} (h : Wk W wb X ov L) : wb < W.heap.size := World.block_lt_of_cell? W ⟨wb, 0, none⟩ h.c
theorem Own.qp {α : Type} {enc : α → List Value} {e : TypeId} {k B : Nat} {W W' : World} {P : Nat → Prop} {v : Value} {L : List α} (h : Own enc e k B W v L) (q : Qp P W W') (hp : ∀ j, v.ownBlock = some j → ¬ P j) : Own enc e k B W' v L := by
  have hl := h.lt
  obtain ⟨hn, h⟩ := h
  refine ⟨hn, ?_⟩
  rcases h with h | ⟨g, cap, cur, hv, hb, hg, hr⟩
  · exact .inl h
  · refine .inr ⟨g, cap, cur, hv, hb, ?_, hr⟩
    have hob : v.ownBlock = some g := by rw [hv]; rfl
    rw [q.block g (hl g hob) (hp g hob)]
    exact hg
theorem Wk.qp {W W' : World} {P : Nat → Prop} {wb : Nat} {X : Nat → Prop} {ov : Value} {L : List Sc} (h : Wk W wb X ov L) (q : Qp P W W') (hp : ∀ i, P i → ¬ X i) : Wk W' wb X ov L :=
  ⟨(q.cell h.lt (fun e => hp _ e h.x)).trans h.c, (World.frozen?_of_block (a := ⟨wb, 0, none⟩) (q.block wb h.lt (fun e => hp _ e h.x))).trans h.f, h.ow.qp q (fun j hj e => hp _ e (h.xo j hj).1), h.x, h.xo⟩
theorem own_cutg {α : Type} {enc : α → List Value} {e : TypeId} {k B : Nat} (hk : ∀ x, (enc x).length = k) {W : World} {g n cap : Nat} {L : List α} {x : α} (h : Own enc e k B W (.slice (some ⟨g, 0, none⟩) (n + 1) cap) (L ++ [x])) (hn : L.length = n) : Own enc e k B W (.slice (some ⟨g, 0, none⟩) n cap) L := by
  subst hn
  obtain ⟨hl, h⟩ := h
  refine ⟨flat_len enc hk L, .inr ?_⟩
  rcases h with ⟨hv, _⟩ | ⟨g', cap', cur, hv, hb, hg, h1, h2, h3, h4⟩
  · cases hv
  · simp only [Value.slice.injEq, Option.some.injEq, Addr.mk.injEq] at hv
    obtain ⟨⟨rfl, _⟩, _, rfl⟩ := hv
    refine ⟨g, cap, cur, rfl, hb, hg, by simp at h1; omega, h2, h3, ?_⟩
    have e : (flat enc (L ++ [x])).take (L.length * k) = flat enc L := by
      unfold flat
      rw [List.flatMap_append, List.take_append_of_le_length (by have := flat_len enc hk L; unfold flat at this; rw [this]; exact Nat.le_refl _), List.take_of_length_le (by have := flat_len enc hk L; unfold flat at this; rw [this]; exact Nat.le_refl _)]
    rw [← e, ← h4, List.take_take]
    congr 1
    simp
theorem row_shape {w : World} {base : Nat} {e : TypeId} {k n : Nat} {v : Value} {xs : List Value} (h : w.ownsRow base e k v n xs) (hn : 0 < n) : ∃ g cap, v = .slice (some ⟨g, 0, none⟩) n cap := by
  rcases h.2 with ⟨_, h⟩ | ⟨g, cap, _, hv, _⟩
  · omega
  · exact ⟨g, cap, hv⟩
theorem flat_sv (L : List Sc) (x : Sc) : flat sv L ++ [.slice (some ⟨x.1, x.2.1, none⟩) x.2.2.1 x.2.2.2] = flat sv (L ++ [x]) := by
  rw [flat_snoc]
  rfl
set_option maxHeartbeats 1000000 in
theorem enter_any (wb : Nat) (X : Nat → Prop) (ov : Value) (L : List Sc) (b o n cap : Nat) (W : World) (h : Wk W wb X ov L) (hn : 0 < n) (hm : n ≤ 9223372036854775807) (hl : L.length ≤ 100000) :
    Calls Tryz.prog 61 #[.pointer (some ⟨wb, 0, none⟩), .slice (some ⟨b, o, none⟩) n cap] W fun e W' => (∃ u, e = .returned u) ∧ ∃ ov', Wk W' wb (fun i => X i ∨ ov'.ownBlock = some i) ov' (L ++ [(b, o, n, cap)]) ∧ Qp X W W' ∧ ∀ j, ov'.ownBlock = some j → X j ∨ W.heap.size ≤ j := by
  obtain ⟨i0, hi, hz0, hz1, hz2⟩ := inf_of info24r
  have HW := hid h
  have c0 := h.c
  have f0 := h.f
  have ow := hid h.ow
  have hlt := h.lt
  have hn' : (0 : Int) < (n : Int) := by omega
  clear h
  go_enter Tryz.func61, Tryz.ntmps61
  go_wp2_with (at_builtin; refine wpList_append_own_at _ rfl _ _ 107 rfl 0 33 i0 (.slice none 0 0) 1 24 Tryz.underlying107 hi hz0 hz1 hz2 rfl (by decide) ov _ _ rfl (ow.out.alloc _) ⟨W.heap.size, 0, none⟩ 1 1 [.slice (some ⟨b, o, none⟩) n cap] rfl rfl (news_at _ [.slice (some ⟨b, o, none⟩) n cap] 33 _ rfl) (by intro u hu; simp at hu; subst hu; rfl) (by unfold maxLen; omega) (by omega) (Nat.zero_le _) ?_; intro v1 w1 o1 g1 n1 p1; obtain ⟨g2, k2, hv2⟩ := row_shape o1 (by omega); subst hv2; have O1 := hid o1; have G1 := hid g1; have P1 := hid p1; clear o1 g1 n1 p1; have c1 : w1.cell? ⟨wb, 0, none⟩ = some ov := G1.out.cell ((Q.cell ((Q.refl W).alloc _) hlt).trans c0) (fun e => (HW.out.xo _ e.symm).2 rfl); have f1 : w1.frozen? ⟨wb, 0, none⟩ = false := (World.frozen?_of_block (a := ⟨wb, 0, none⟩) (G1.out.block wb (by simp; omega) (fun e => (HW.out.xo _ e.symm).2 rfl))).trans ((World.frozen?_of_block (a := ⟨wb, 0, none⟩) (Q.block ((Q.refl W).alloc _) hlt)).trans f0))
  refine bodyPost_end (v := .tuple #[]) (by simp [results, Tryz.results61, go_sem]) rfl ?_
  have hsz : (W.alloc (.cells #[.slice (some ⟨b, o, none⟩) n cap] 33)).heap.size = W.heap.size + 1 := by simp
  have hne : g2 ≠ wb := by
    rcases P1.out with e | e
    · intro h; exact (HW.out.xo g2 (by rw [← e]; rfl)).2 h
    · intro h
      have := Option.some.inj e
      rw [hsz] at this
      simp only at this
      omega
  have qa : Qp X W w1 := ⟨G1.out.os, G1.out.tape, G1.out.output, by have := G1.out.size; rw [hsz] at this; omega, fun i hi hx => (G1.out.block i (by rw [hsz]; omega) (fun e => hx (HW.out.xo i e.symm).1)).trans (Q.block ((Q.refl W).alloc _) hi)⟩
  refine ⟨⟨_, rfl⟩, _, ⟨World.cell?_setCell_same _ _ _ c1, by rw [World.frozen?_setCell]; exact f1, ?_, .inl HW.out.x, fun j hj => ?_⟩, qa.set _ _ (.inl HW.out.x), fun j hj => ?_⟩
  · have ow1 : Own sv 33 1 0 w1 (.slice (some ⟨g2, 0, none⟩) (L.length + 1) k2) (L ++ [(b, o, n, cap)]) := by
      unfold Own
      rw [← flat_sv, List.length_append]
      exact O1.out
    exact ow1.qp (P := fun i => i = wb) ((Qp.refl _ _).set _ _ (.inl rfl)) (fun j hj e => hne (by rw [← e]; exact Option.some.inj hj))
  · obtain rfl : g2 = j := Option.some.inj hj
    exact ⟨.inr rfl, hne⟩
  · obtain rfl : g2 = j := Option.some.inj hj
    rcases P1.out with e | e
    · exact .inl (HW.out.xo g2 (by rw [← e]; rfl)).1
    · have := Option.some.inj e
      rw [hsz] at this
      simp only at this
      exact .inr (by omega)
set_option maxHeartbeats 1000000 in
theorem enter_nil (wb cap : Nat) (ao : Option Addr) (W : World) :
    Calls Tryz.prog 61 #[.pointer (some ⟨wb, 0, none⟩), .slice ao 0 cap] W fun e W' => (∃ u, e = .returned u) ∧ W' = W := by
  go_enter Tryz.func61, Tryz.ntmps61
  go_wp2
  refine bodyPost_end (v := .tuple #[]) (by simp [results, Tryz.results61, go_sem]) rfl ?_
  exact ⟨⟨_, rfl⟩, rfl⟩
set_option maxHeartbeats 1000000 in
theorem next_nil (wb : Nat) (X : Nat → Prop) (ov : Value) (W : World) (h : Wk W wb X ov []) :
    Calls Tryz.prog 62 #[.pointer (some ⟨wb, 0, none⟩)] W fun e W' => e = .returned (.pointer none) ∧ W' = W := by
  have c0 := h.c
  obtain ⟨ao, cap, hv, _⟩ := (h.ow.sl sv_len (by omega)).len
  simp only [List.length_nil] at hv
  subst hv
  clear h
  go_enter Tryz.func62, Tryz.ntmps62
  go_wp2_with fail
  go_ret
  exact ⟨rfl, rfl⟩
theorem Wk.last {W : World} {wb : Nat} {X : Nat → Prop} {ov : Value} {L : List Sc} {x : Sc} (h : Wk W wb X ov (L ++ [x])) : ∃ g capo, ov = .slice (some ⟨g, 0, none⟩) (L.length + 1) capo ∧ L.length + 1 ≤ capo ∧ capo ≤ maxLen ∧ g < W.heap.size ∧ W.cell? ⟨g, L.length, none⟩ = some (.slice (some ⟨x.1, x.2.1, none⟩) x.2.2.1 x.2.2.2) ∧ W.frozen? ⟨g, L.length, none⟩ = false := by
  have ow := h.ow
  obtain ⟨g, cap, hv, _, hg2, hc1, hc2⟩ := ow.shape (by simp)
  rw [List.length_append, List.length_singleton] at hv hc1
  subst hv
  have ow2 : Own sv 33 1 0 W (.slice (some ⟨g, 0, none⟩) (L ++ [x]).length cap) (L ++ [x]) := by rw [List.length_append, List.length_singleton]; exact ow
  have cl := ow2.cell sv_len (i := L.length) (by rw [List.length_append, List.length_singleton]; omega) 0 _ (by rw [List.getElem_append_right (Nat.le_refl _)]; simp; rfl)
  exact ⟨g, cap, rfl, hc1, hc2, hg2, by simpa using cl, World.ownsRow.frozenAt (w := W) (by unfold Own at ow2; exact ow2) _⟩
theorem Wk.pop {W : World} {wb g m capo : Nat} {X : Nat → Prop} {L : List Sc} {x : Sc} (h : Wk W wb X (.slice (some ⟨g, 0, none⟩) (m + 1) capo) (L ++ [x])) (hm : L.length = m) : Wk (W.setCell ⟨wb, 0, none⟩ (.slice (some ⟨g, 0, none⟩) m capo)) wb X (.slice (some ⟨g, 0, none⟩) m capo) L :=
  ⟨World.cell?_setCell_same _ _ _ h.c, by rw [World.frozen?_setCell]; exact h.f, (own_cutg sv_len h.ow hm).qp (P := fun i => i = wb) ((Qp.refl _ _).set _ _ (.inl rfl)) (fun j hj e => (h.xo j hj).2 e), h.x, h.xo⟩
set_option maxHeartbeats 1000000 in
theorem next_one (wb : Nat) (X : Nat → Prop) (ov : Value) (L : List Sc) (b o cap : Nat) (W : World) (h : Wk W wb X ov (L ++ [(b, o, 1, cap)])) (hc : 1 ≤ cap) (hm : cap ≤ maxLen) :
    Calls Tryz.prog 62 #[.pointer (some ⟨wb, 0, none⟩)] W fun e W' => e = .returned (.pointer (some ⟨b, o, none⟩)) ∧ (∃ ov', Wk W' wb X ov' L) ∧ Qp X W W' := by
  have HW := hid h
  obtain ⟨g, capo, rfl, h1, h2, h3, z0, zf⟩ := h.last
  obtain ⟨m, hmm⟩ : ∃ m, L.length = m := ⟨_, rfl⟩
  have HM := hid hmm
  rw [hmm] at h1 z0 zf HW
  simp only at z0
  have c0 := HW.out.c
  have f0 := HW.out.f
  have hcap : (1 : Int) ≤ (cap : Int) := by omega
  have hmx : cap ≤ 9223372036854775807 := by unfold maxLen at hm; omega
  have hm1 : m + 1 ≤ 9223372036854775807 := by unfold maxLen at h2; omega
  have i0 : (0 : Int) < ((m + 1 : Nat) : Int) := by omega
  have i1 : ((m + 1 : Nat) : Int) - 1 = (m : Int) := by omega
  clear h hmm
  go_enter Tryz.func62, Tryz.ntmps62
  go_wp2_with fail
  all_goals go_ret
  all_goals exact ⟨rfl, ⟨_, HW.out.pop HM.out⟩, (Qp.refl _ _).set _ _ (.inl HW.out.x)⟩
set_option maxHeartbeats 1000000 in
theorem of_nil (p n cap : Nat) (W : World) (hp : W.cell? ⟨p, 0, none⟩ = some (.bool true)) :
    Calls Tryz.prog 64 #[.pointer (some ⟨p, 0, none⟩), .slice none n cap] W fun e W' => e = .returned (.tuple #[.slice none 0 0, .bool false]) ∧ Q W W' := by
  have HA := hid (anew71_nil n cap W)
  go_enter Tryz.func64, Tryz.ntmps64
  go_wp2_with (go_at_call 90; refine HA.out.mono ?_; rintro e w1 ⟨rfl, h9⟩; have Q1 := hid (Q.of_eq h9); clear h9)
  go_ret2
  exact ⟨rfl, Q1.out⟩
theorem Qp.of {P : Nat → Prop} {a b : World} (h : Q a b) : Qp P a b := ⟨h.os, h.tape, h.output, h.size, fun i hi _ => Q.block h hi⟩
theorem Qp.after {P P' : Nat → Prop} {a b c : World} (h : Qp P a b) (k : Qp P' b c) (hp : ∀ i, i < a.heap.size → P' i → P i) : Qp P a c :=
  ⟨k.os.trans h.os, k.tape.trans h.tape, k.output.trans h.output, Nat.le_trans h.size k.size, fun i hi hn => (k.block i (Nat.lt_of_lt_of_le hi h.size) (fun e => hn (hp i hi e))).trans (h.block i hi hn)⟩
theorem Qp.q {P : Nat → Prop} {a b : World} (h : Qp P a b) (hp : ∀ i, i < a.heap.size → ¬ P i) : Q a b := ⟨h.os, h.tape, h.output, h.size, fun i hi => h.block i hi (hp i hi)⟩
theorem Ow.le {W : World} : ∀ (x : Ex) (v : Value) (lo hi : Nat), Ow W x v lo hi → lo ≤ hi
  | .mk k n t b e rs ks, v, lo, hi, h => by
    unfold Ow at h
    obtain ⟨rv, kv, m, hv, hr, hm, _⟩ := h
    exact Nat.le_trans hr.1 hm
theorem Ow.OwL.le {W : World} : ∀ (l : List Ex) (b off lo hi : Nat), Ow.OwL W l b off lo hi → lo ≤ hi
  | [], _, _, _, _, h => by unfold Ow.OwL at h; exact h
  | x :: xs, b, off, lo, hi, h => by
    unfold Ow.OwL at h
    obtain ⟨m, ⟨c0, c1, c2, c3, c4, c5, c6, g0, g1, g2, g3, g4, g5, g6, hx⟩, hr⟩ := h
    exact Nat.le_trans (Ow.le x _ lo m hx) (Ow.OwL.le xs b (off + 7) m hi hr)
structure Bs (W W' : World) (i : Nat) : Prop where
  pl : Pl W i → Pl W' i
  cl : ∀ j, W'.cell? ⟨i, j, none⟩ = W.cell? ⟨i, j, none⟩
theorem Bs.of {W W' : World} {i : Nat} (h : W'.heap[i]? = W.heap[i]?) : Bs W W' i := ⟨fun p => p.blk h, fun j => World.cell?_of_block h⟩
theorem OwR.on {W W' : World} {v : Value} {L : List Rf} {lo hi : Nat} (h : OwR W v L lo hi) (q : ∀ i, lo ≤ i → i < hi → Bs W W' i) : OwR W' v L lo hi := by
  obtain ⟨hl, ao, cap, hv, a1, a2, a3⟩ := h
  refine ⟨hl, ao, cap, hv, a1, a2, fun hn => ?_⟩
  obtain ⟨g, ha, b1, b2, b3, b4⟩ := a3 hn
  exact ⟨g, ha, b1, b2, (q g b1 b2).pl b3, fun i hi j u hu => ((q g b1 b2).cl _).trans (b4 i hi j u hu)⟩
theorem Ow.on {W W' : World} : ∀ (x : Ex) (v : Value) (lo hi : Nat), (∀ i, lo ≤ i → i < hi → Bs W W' i) → Ow W x v lo hi → Ow W' x v lo hi
  | .mk k n t b e rs ks, v, lo, hi, q, h => by
    unfold Ow at h ⊢
    obtain ⟨rv, kv, m, hv, hr, hm, ao, cap, hk, a1, a2, a3⟩ := h
    refine ⟨rv, kv, m, hv, hr.on (fun i p1 p2 => q i p1 (by omega)), hm, ao, cap, hk, a1, a2, fun hn => ?_⟩
    obtain ⟨g, m', ha, b1, b2, b3, b4⟩ := a3 hn
    have hl := Ow.OwL.le _ _ _ _ _ b4
    have h0 := hr.1
    exact ⟨g, m', ha, b1, b2, (q g (by omega) (by omega)).pl b3, go ks g 0 m' hi (fun i p1 p2 => q i (by omega) p2) (fun j _ _ => (q g (by omega) (by omega)).cl j) b4⟩
  where
  go {W W' : World} : ∀ (l : List Ex) (b off lo hi : Nat), (∀ i, lo ≤ i → i < hi → Bs W W' i) → (∀ j, off ≤ j → j < off + 7 * l.length → W'.cell? ⟨b, j, none⟩ = W.cell? ⟨b, j, none⟩) → Ow.OwL W l b off lo hi → Ow.OwL W' l b off lo hi
  | [], _, _, _, _, _, _, h => by unfold Ow.OwL at h ⊢; exact h
  | x :: xs, b, off, lo, hi, q, c, h => by
    unfold Ow.OwL at h ⊢
    obtain ⟨m, ⟨c0, c1, c2, c3, c4, c5, c6, g0, g1, g2, g3, g4, g5, g6, hx⟩, hr⟩ := h
    have h1 := Ow.le _ _ _ _ hx
    have h2 := Ow.OwL.le _ _ _ _ _ hr
    have hln : (x :: xs).length = xs.length + 1 := rfl
    rw [hln] at c
    exact ⟨m, ⟨c0, c1, c2, c3, c4, c5, c6, (c _ (by omega) (by omega)).trans g0, (c _ (by omega) (by omega)).trans g1, (c _ (by omega) (by omega)).trans g2, (c _ (by omega) (by omega)).trans g3, (c _ (by omega) (by omega)).trans g4, (c _ (by omega) (by omega)).trans g5, (c _ (by omega) (by omega)).trans g6, Ow.on x _ lo m (fun i p1 p2 => q i p1 (by omega)) hx⟩, go xs b (off + 7) m hi (fun i p1 p2 => q i (by omega) p2) (fun j p1 p2 => c j (by omega) (by omega)) hr⟩
theorem Ow.OwL.on {W W' : World} {l : List Ex} {b off lo hi : Nat} (h : Ow.OwL W l b off lo hi) (q : ∀ i, lo ≤ i → i < hi → Bs W W' i) (c : ∀ j, off ≤ j → j < off + 7 * l.length → W'.cell? ⟨b, j, none⟩ = W.cell? ⟨b, j, none⟩) : Ow.OwL W' l b off lo hi := Ow.on.go l b off lo hi q c h
theorem OwR.slg {W : World} {v : Value} {L : List Rf} {lo hi : Nat} {g : Nat → Prop} (h : OwR W v L lo hi) (hg : ∀ i, lo ≤ i → i < hi → g i) : Slg g W v L := by
  obtain ⟨hl, ao, cap, hv, a1, a2, a3⟩ := h
  exact ⟨ao, cap, hv, a1, a2, fun hn => by obtain ⟨b, ha, b1, b2, b3, b4⟩ := a3 hn; exact ⟨b, 0, ha, hg b b1 b2, b4⟩⟩
theorem Ow.rdg {W : World} {g : Nat → Prop} : ∀ (x : Ex) (v : Value) (lo hi : Nat), (∀ i, lo ≤ i → i < hi → g i) → Ow W x v lo hi → Rdg g W x v
  | .mk k n t b e rs ks, v, lo, hi, hg, h => by
    unfold Ow at h
    unfold Rdg
    obtain ⟨rv, kv, m, hv, hr, hm, ao, cap, hk, a1, a2, a3⟩ := h
    refine ⟨rv, kv, hv, hr.slg (fun i p1 p2 => hg i p1 (by omega)), ao, cap, hk, a1, a2, fun hn => ?_⟩
    obtain ⟨b', m', ha, b1, b2, b3, b4⟩ := a3 hn
    have hl := Ow.OwL.le _ _ _ _ _ b4
    have h0 := hr.1
    exact ⟨b', 0, ha, hg b' (by omega) (by omega), b3, go ks b' 0 m' hi (fun i p1 p2 => hg i (by omega) p2) b4⟩
  where
  go {W : World} {g : Nat → Prop} : ∀ (l : List Ex) (b off lo hi : Nat), (∀ i, lo ≤ i → i < hi → g i) → Ow.OwL W l b off lo hi → Rdg.RdLg g W l b off
  | [], _, _, _, _, _, _ => by unfold Rdg.RdLg; trivial
  | x :: xs, b, off, lo, hi, hg, h => by
    unfold Ow.OwL at h
    unfold Rdg.RdLg
    obtain ⟨m, ⟨c0, c1, c2, c3, c4, c5, c6, g0, g1, g2, g3, g4, g5, g6, hx⟩, hr⟩ := h
    have h1 := Ow.le _ _ _ _ hx
    have h2 := Ow.OwL.le _ _ _ _ _ hr
    exact ⟨⟨c0, c1, c2, c3, c4, c5, c6, g0, g1, g2, g3, g4, g5, g6, Ow.rdg x _ lo m (fun i p1 p2 => hg i p1 (by omega)) hx⟩, go xs b (off + 7) m hi (fun i p1 p2 => hg i (by omega) p2) hr⟩
theorem info23r : (Tryz.prog.info? 46).map (fun i => (i.zero, i.size, i.bytes)) = some (some (.agg #[.string ⟨#[]⟩, .int .i64 0, .int .i64 0, .bool false, .bool false]), 5, 40) := by kernel_rfl
theorem info26r : (Tryz.prog.info? 35).map (fun i => (i.zero, i.size, i.bytes)) = some (some (.agg #[.int .i64 0, .int .i64 0, .string ⟨#[]⟩, .bool false, .int .i64 0, .slice none 0 0, .slice none 0 0]), 7, 96) := by kernel_rfl
theorem run_copy_k {P : Program} (w : World) (dT sT ty elem : TypeId) (g n dCap : Nat) (a : Addr) (sCap k : Nat) (i : TypeInfo) (cur : Array Value) (t : TypeId) (cs : List Value)
    (hu : P.underlying dT = some (.slice elem)) (hi : P.info? elem = some i) (hs : i.size = k)
    (hg : w.heap[g]? = some (.cells cur t (0, 0))) (hn : cs.length = n * k)
    (hsrc : ∀ j v, cs[j]? = some v → w.cell? (a.add j) = some v) (hfit : cs.length = cur.size) (h1 : ∀ v ∈ cs, v.oneCell' = true) :
    (Builtin.copy_ #[dT, sT] ty #[.slice (some ⟨g, 0, none⟩) n dCap, .slice (some a) n sCap]).run P w =
      .ok (goInt n) (w.setRow g cs.toArray) := by
  have hf := run_firstCells_some (P := P) w k n a n sCap cs hn hsrc
  have hst := run_storeCells_at P g 0 t cs 0 cur w hg (by simp; omega) h1
  have e : (cur.toList.take (0 + 0) ++ cs ++ cur.toList.drop (0 + 0 + cs.length)).toArray = cs.toArray := by
    rw [List.drop_of_length_le (by simp; omega)]
    simp
  rw [e] at hst
  simp [Builtin.copy_, run_underlying hu, Builtin.lenOf, sizeOf, typeInfo, hi, hs, hf, hst]
theorem wpList_copy_r {P : Program} (w : World) {ops : Array Oper} {rest : List Oper} {o : Oper} {a : Act} {Q : Exit → Act → World → Prop} (hgd : o.guard = none) (d s : Operand) (t t' : TypeId)
    (ho : o.op = .call { callee := .builtin .copy, args := #[d, s], argTypes := #[t, t'] }) (v u : Value) (hd : a.eval d = v) (hs : a.eval s = u) {v' : Value} {w' : World}
    (hr : (Builtin.copy_ #[t, t'] o.type #[v, u]).run P w = .ok v' w') (h : wpList P ops Q rest (a.put o.dst v') w') : wpList P ops Q (o :: rest) a w :=
  wpList_plain hgd fun _ hK => by
    unfold Oper.wp execOp
    simp only [ho, resolve, invoke, builtin, Sem.run_bind, Sem.run_pure, Result.andThen_ok, List.map_toArray, List.map_cons, List.map_nil, hd, hs, hr]
    exact hK _ _ h
theorem own_cur {w : World} {base : Nat} {e : TypeId} {k g n cap : Nat} {xs : List Value} (h : w.ownsRow base e k (.slice (some ⟨g, 0, none⟩) n cap) n xs) : ∃ cur, w.heap[g]? = some (.cells cur e (0, 0)) ∧ cur.size = cap * k := by
  rcases h.2 with ⟨h, _⟩ | ⟨g', cap', cur, hv, _, hg, _, _, hs, _⟩
  · cases h
  · cases hv
    exact ⟨cur, hg, hs⟩
structure Anw (W W' : World) (e : TypeId) (n : Nat) (cs : List Value) : Prop where
  q : Q W W'
  lt : W.heap.size < W'.heap.size
  hp : W'.heap[W.heap.size]? = some (.cells cs.toArray e (0, 0))
set_option maxHeartbeats 2000000 in
theorem anew70_any (a : Addr) (n cap : Nat) (cs : List Value) (W : World) (hn : n ≤ 1000) (hl : cs.length = n * 5) (hsrc : ∀ j v, cs[j]? = some v → W.cell? (a.add j) = some v) (h1 : ∀ v ∈ cs, v.oneCell' = true) :
    Calls Tryz.prog 89 #[.slice (some a) n cap] W fun e W' => e = .returned (.slice (some ⟨W.heap.size, 0, none⟩) n n) ∧ Anw W W' 46 n cs := by
  obtain ⟨i0, hi, hz0, hz1, hz2⟩ := inf_of info23r
  have hb : (binOp BinOp.eql 32 (.slice (some a) n cap) (.slice none 0 0)).run Tryz.prog W = .ok (.bool false) W := by kernel_rfl
  have HC := hid hsrc
  have H1 := hid h1
  clear hsrc h1
  go_enter Tryz.func89, Tryz.ntmps89
  go_wp2_with (first
    | (at_make; refine wpList_make_full _ rfl _ _ 32 rfl W.heap.size 46 i0 (.agg #[.string ⟨#[]⟩, .int .i64 0, .int .i64 0, .bool false, .bool false]) 5 Tryz.underlying32 hi hz0 hz1 .i64 .i64 _ _ n rfl rfl (by first | rfl | omega) (by first | rfl | omega) (by rw [hz2]; omega) (by unfold maxLen; omega) (Nat.le_refl _) ?_; intro w1 o1 g1; obtain ⟨cur, hg, hcs⟩ := own_cur o1; have hr := run_copy_k (P := Tryz.prog) w1 32 32 3 46 W.heap.size n n a cap 5 i0 cur 46 cs Tryz.underlying32 hi hz1 hg hl (fun j v h => g1.cell (HC.out j v h) (by simp)) (by omega) H1.out; have G1 := hid g1; have HG := hid hg; clear g1 o1 hg)
    | (at_builtin; refine wpList_copy_r _ rfl _ _ 32 32 rfl _ _ rfl rfl hr ?_))
  go_ret
  refine ⟨rfl, ?_, ?_, ?_⟩
  · exact ⟨G1.out.os, G1.out.tape, G1.out.output, by simpa [World.setRow] using G1.out.size, fun i hi => (setRow_other w1 _ i _ (by omega)).trans (G1.out.block i hi (by simp))⟩
  · have := (Array.getElem?_eq_some_iff.1 HG.out).1
    simpa [World.setRow] using this
  · exact setRow_heap w1 _ _ _ _ _ HG.out
set_option maxHeartbeats 2000000 in
theorem anew71_any (a : Addr) (n cap : Nat) (cs : List Value) (W : World) (hn : n ≤ 1000) (hl : cs.length = n * 7) (hsrc : ∀ j v, cs[j]? = some v → W.cell? (a.add j) = some v) (h1 : ∀ v ∈ cs, v.oneCell' = true) :
    Calls Tryz.prog 90 #[.slice (some a) n cap] W fun e W' => e = .returned (.slice (some ⟨W.heap.size, 0, none⟩) n n) ∧ Anw W W' 35 n cs := by
  obtain ⟨i0, hi, hz0, hz1, hz2⟩ := inf_of info26r
  have hb : (binOp BinOp.eql 33 (.slice (some a) n cap) (.slice none 0 0)).run Tryz.prog W = .ok (.bool false) W := by kernel_rfl
  have HC := hid hsrc
  have H1 := hid h1
  clear hsrc h1
  go_enter Tryz.func90, Tryz.ntmps90
  go_wp2_with (first
    | (at_make; refine wpList_make_full _ rfl _ _ 33 rfl W.heap.size 35 i0 (.agg #[.int .i64 0, .int .i64 0, .string ⟨#[]⟩, .bool false, .int .i64 0, .slice none 0 0, .slice none 0 0]) 7 Tryz.underlying33 hi hz0 hz1 .i64 .i64 _ _ n rfl rfl (by first | rfl | omega) (by first | rfl | omega) (by rw [hz2]; omega) (by unfold maxLen; omega) (Nat.le_refl _) ?_; intro w1 o1 g1; obtain ⟨cur, hg, hcs⟩ := own_cur o1; have hr := run_copy_k (P := Tryz.prog) w1 33 33 3 35 W.heap.size n n a cap 7 i0 cur 35 cs Tryz.underlying33 hi hz1 hg hl (fun j v h => g1.cell (HC.out j v h) (by simp)) (by omega) H1.out; have G1 := hid g1; have HG := hid hg; clear g1 o1 hg)
    | (at_builtin; refine wpList_copy_r _ rfl _ _ 33 33 rfl _ _ rfl rfl hr ?_))
  go_ret
  refine ⟨rfl, ?_, ?_, ?_⟩
  · exact ⟨G1.out.os, G1.out.tape, G1.out.output, by simpa [World.setRow] using G1.out.size, fun i hi => (setRow_other w1 _ i _ (by omega)).trans (G1.out.block i hi (by simp))⟩
  · have := (Array.getElem?_eq_some_iff.1 HG.out).1
    simpa [World.setRow] using this
  · exact setRow_heap w1 _ _ _ _ _ HG.out
theorem flat_one' {α : Type} {enc : α → List Value} {L : List α} (h : ∀ x, ∀ u ∈ enc x, u.oneCell' = true) : ∀ u ∈ flat enc L, u.oneCell' = true := by
  intro u hu
  unfold flat at hu
  rw [List.mem_flatMap] at hu
  obtain ⟨x, _, hx⟩ := hu
  exact h x u hx
theorem rf_one (x : Rf) : ∀ u ∈ rf x, u.oneCell' = true := by
  intro u hu
  simp [rf] at hu
  rcases hu with rfl | rfl | rfl | rfl | rfl <;> rfl
theorem add_lit (b o j : Nat) : (⟨b, o, none⟩ : Addr).add j = ⟨b, o + j, none⟩ := by unfold Addr.add; split <;> simp_all
structure Rl (W : World) (g : Nat) (L : List Rf) : Prop where
  pl : Pl W g
  at_ : ∀ i (h : i < L.length), Ats rf W g (0 + i * 5) L[i]
theorem Rl.blk {W W' : World} {g : Nat} {L : List Rf} (h : Rl W g L) (q : W'.heap[g]? = W.heap[g]?) : Rl W' g L := ⟨h.pl.blk q, fun i hi => (h.at_ i hi).blk q⟩
theorem Rl.on {W W' : World} {g : Nat} {L : List Rf} (h : Rl W g L) (q : Q W W') : Rl W' g L := h.blk (Q.block q h.pl.lt)
theorem flat_cell {α : Type} {enc : α → List Value} {k : Nat} (hk : ∀ x, (enc x).length = k) {W : World} {b off : Nat} {L : List α} (hp : 0 < k) (h : ∀ i (hi : i < L.length), Ats enc W b (off + i * k) L[i]) : ∀ j v, (flat enc L)[j]? = some v → W.cell? ((⟨b, off, none⟩ : Addr).add j) = some v := by
  intro j v hj
  have hl : j < (flat enc L).length := (List.getElem?_eq_some_iff.1 hj).1
  rw [flat_len enc hk] at hl
  have hi : j / k < L.length := Nat.div_lt_of_lt_mul (by rw [Nat.mul_comm]; exact hl)
  have hm : j % k < k := Nat.mod_lt _ hp
  have e : j / k * k + j % k = j := by rw [Nat.mul_comm]; exact Nat.div_add_mod j k
  rw [← e, flat_at enc hk L (j / k) hi (j % k) hm] at hj
  rw [add_lit, ← e, ← Nat.add_assoc]
  exact h _ hi _ _ hj
theorem Rl.made {W : World} {g : Nat} {L : List Rf} {t : TypeId} (h : W.heap[g]? = some (.cells (flat rf L).toArray t (0, 0))) : Rl W g L := by
  refine ⟨⟨_, _, h⟩, fun i hi j u hu => ?_⟩
  have hj : j < 5 := by rw [← rf_len L[i]]; exact (List.getElem?_eq_some_iff.1 hu).1
  rw [cell_of_row W g _ _ t (0, 0) h]
  have := flat_at rf (k := 5) rf_len L i hi j hj
  rw [Nat.zero_add]
  simpa [hu] using this
theorem Rl.set0 {W : World} {g : Nat} {L : List Rf} (h : Rl W g L) (i : Nat) (hi : i < L.length) : Rl (W.setCell ⟨g, i * 5, none⟩ (.string ⟨L[i].1.toArray⟩)) g L := by
  refine ⟨h.pl.set _ _ _, fun k hk j u hu => ?_⟩
  by_cases e : 0 + k * 5 + j = i * 5
  · have hj : j < 5 := by rw [← rf_len L[k]]; exact (List.getElem?_eq_some_iff.1 hu).1
    obtain rfl : j = 0 := by omega
    obtain rfl : k = i := by omega
    have := h.at_ k hk 0 u hu
    rw [e] at this ⊢
    rw [World.cell?_setCell_same _ _ _ this]
    exact hu
  · rw [World.cell?_setCell_other _ _ _ _ (by intro h; injection h with _ h; omega)]
    exact h.at_ k hk j u hu
theorem Rl.owr {W : World} {g lo hi n : Nat} {L : List Rf} (h : Rl W g L) (h1 : lo ≤ g) (h2 : g < hi) (hm : L.length ≤ maxLen) (e : n = L.length) : OwR W (.slice (some ⟨g, 0, none⟩) n n) L lo hi := by
  subst e
  exact ⟨by omega, _, _, rfl, Nat.le_refl _, hm, fun _ => ⟨g, rfl, h1, h2, h.pl, h.at_⟩⟩
set_option maxHeartbeats 1000000 in
theorem copiedRefs_any (rs : List Rf) (v : Value) (W : World) (h : Sl rf 5 W v rs) (hn : rs.length ≤ 1000) (hs : ∀ r ∈ rs, r.1.length ≤ 2000000) :
    Calls Tryz.prog 63 #[v] W fun e W' => ∃ v', e = .returned v' ∧ OwR W' v' rs W.heap.size W'.heap.size ∧ Q W W' := by
  obtain ⟨ao, cap, rfl, h1, h2, h3⟩ := h
  cases ao with
  | none =>
    have e0 : rs.length = 0 := by
      rcases Nat.eq_zero_or_pos rs.length with e | e
      · exact e
      · obtain ⟨b, off, ha, _⟩ := h3 e
        cases ha
    rw [e0]
    refine (copiedRefs_nil cap W).mono ?_
    rintro e W' ⟨rfl, q⟩
    exact ⟨_, rfl, ⟨q.size, none, 0, by rw [e0], by rw [e0]; exact Nat.le_refl _, Nat.zero_le _, fun h => absurd h (by rw [e0]; simp)⟩, q⟩
  | some a =>
    have HA := hid (anew70_any a rs.length cap (flat rf rs) W hn (flat_len rf rf_len rs) (fun j v hj => by
      have hl : 0 < rs.length := by
        rcases Nat.eq_zero_or_pos rs.length with e | e
        · rw [List.eq_nil_of_length_eq_zero e] at hj
          simp [flat] at hj
        · exact e
      obtain ⟨b, off, ha, hc⟩ := h3 hl
      cases ha
      exact flat_cell (enc := rf) rf_len (by omega) hc j v hj) (flat_one' rf_one))
    have HS := hid hs
    have hroom : rs.length ≤ 9223372036854775807 := by omega
    clear h3 hs
    go_enter Tryz.func63, Tryz.ntmps63
    go_wp2_with (go_at_call 89; refine HA.out.mono ?_; rintro e w1 ⟨rfl, q1, l1, p1⟩; have Q1 := hid q1; have L1 := hid l1; have R1 := hid (Rl.made p1); clear q1 l1 p1)
    go_loopw [9, 4] (fun x _ W' => ∃ (i : Nat), i ≤ rs.length ∧ x = .int .i64 (i : Int) ∧ Hid (Q W W') ∧ Hid (Rl W' W.heap.size rs)) (fun x _ _ => rs.length - (intOf x).toNat)
    case atStart => exact ⟨0, Nat.zero_le _, rfl, Q1, R1⟩
    case round =>
      obtain ⟨i, hi, rfl, hQ, hR⟩ := hrel
      by_cases hlt : i < rs.length
      · have g0 : wr.cell? ⟨W.heap.size, i * 5, none⟩ = some (.string ⟨rs[i].1.toArray⟩) := by have := hR.out.at_ i hlt 0 _ rfl; simpa using this
        have HC := hid (clone_any ⟨rs[i].1.toArray⟩ wr (by have := HS.out _ (List.getElem_mem hlt); rw [size_mk]; omega))
        go_wp2_with (go_at_call 25; refine HC.out.mono ?_; rintro e9 w9 ⟨rfl, q9⟩; have R9 := hid (hR.out.on q9); have Q9 := hid (hQ.out.trans q9); clear q9; have f9 := R9.out.pl.frozen (i * 5); have g9 : w9.cell? ⟨W.heap.size, i * 5, none⟩ = some (.string ⟨rs[i].1.toArray⟩) := by (have := R9.out.at_ i hlt 0 _ rfl; simpa using this))
        go_roundw
        case rel => exact ⟨i + 1, by omega, by go_num, hid (Q9.out.setCell (Nat.le_refl _) _), hid (R9.out.set0 i hlt)⟩
        case measure => simp [intOf]; omega
      · go_wp2_with fail
        go_ret
        exact ⟨_, rfl, hR.out.owr (Nat.le_refl _) hR.out.pl.lt (by unfold maxLen; omega) rfl, hQ.out⟩
theorem Wk.put {W : World} {wb g m capo : Nat} {X : Nat → Prop} {L : List Sc} {x : Sc} (h : Wk W wb X (.slice (some ⟨g, 0, none⟩) (m + 1) capo) (L ++ [x])) (hm : L.length = m) (y : Sc) : Wk (W.setCell ⟨g, m, none⟩ (.slice (some ⟨y.1, y.2.1, none⟩) y.2.2.1 y.2.2.2)) wb X (.slice (some ⟨g, 0, none⟩) (m + 1) capo) (L ++ [y]) := by
  have hne : g ≠ wb := (h.xo g rfl).2
  refine ⟨?_, by rw [World.frozen?_setCell]; exact h.f, ?_, h.x, h.xo⟩
  · rw [World.cell?_setCell_other _ _ _ _ (by intro e; injection e with e; exact hne e)]
    exact h.c
  · have ow := h.ow
    unfold Own at ow ⊢
    rw [List.length_append, List.length_singleton, hm] at ow ⊢
    have := (World.ownsRow.stored ow m (.slice (some ⟨y.1, y.2.1, none⟩) y.2.2.1 y.2.2.2)).1
    rw [← flat_sv] at this ⊢
    have e : (flat sv L).length = m := by rw [flat_len sv sv_len, hm]; omega
    rw [List.set_append_right _ _ (by omega), e, Nat.sub_self] at this
    exact this
set_option maxHeartbeats 1000000 in
theorem next_more (wb : Nat) (X : Nat → Prop) (ov : Value) (L : List Sc) (b o n cap : Nat) (W : World) (h : Wk W wb X ov (L ++ [(b, o, n + 2, cap)])) (hc : n + 2 ≤ cap) (hm : cap ≤ maxLen) :
    Calls Tryz.prog 62 #[.pointer (some ⟨wb, 0, none⟩)] W fun e W' => e = .returned (.pointer (some ⟨b, o, none⟩)) ∧ Wk W' wb X ov (L ++ [(b, o + 7, n + 1, cap - 1)]) ∧ Qp X W W' := by
  have HW := hid h
  obtain ⟨g, capo, rfl, h1, h2, h3, z0, zf⟩ := h.last
  obtain ⟨m, hmm⟩ : ∃ m, L.length = m := ⟨_, rfl⟩
  have HM := hid hmm
  rw [hmm] at h1 z0 zf HW ⊢
  simp only at z0
  have c0 := HW.out.c
  have f0 := HW.out.f
  have hcap : (1 : Int) ≤ (cap : Int) := by omega
  have hmx : cap ≤ 9223372036854775807 := by unfold maxLen at hm; omega
  have hm1 : m + 1 ≤ 9223372036854775807 := by unfold maxLen at h2; omega
  have i0 : (0 : Int) < ((m + 1 : Nat) : Int) := by omega
  have i1 : ((m + 1 : Nat) : Int) - 1 = (m : Int) := by omega
  clear h hmm
  go_enter Tryz.func62, Tryz.ntmps62
  go_wp2_with fail
  go_ret
  exact ⟨rfl, HW.out.put HM.out (b, o + 7, n + 1, cap - 1), (Qp.refl _ _).set _ _ (.inl (HW.out.xo g rfl).1)⟩
abbrev Pk := Nat × Nat × Nat
abbrev S3 := Int × Bool × Bool
def pkV (k : Pk) : Value := .agg #[.pointer (some ⟨k.1, k.2.1, none⟩), .int .i64 (k.2.2 : Int)]
def s3V (s : S3) : Value := .agg #[.int .i64 s.1, .bool s.2.1, .bool s.2.2]
theorem pk_eq (W : World) (k k' : Pk) (h : Pl W k.1) (h' : Pl W k'.1) : (Op.equal 150 (pkV k) (pkV k')).run Tryz.prog W = .ok (decide (k = k')) W := by
  obtain ⟨b1, o1, n⟩ := k
  obtain ⟨c1, p1, m⟩ := k'
  have e1 : (Op.equalIn 9999 84 (.pointer (some ⟨b1, o1, none⟩)) (.pointer (some ⟨c1, p1, none⟩))).run Tryz.prog W = .ok (decide (b1 = c1 ∧ o1 = p1)) W := by
    have := run_ptr W 9998 ⟨b1, o1, none⟩ ⟨c1, p1, none⟩ h h'
    simpa using this
  have e3 : (Op.equalIn 9999 3 (.int .i64 (n : Int)) (.int .i64 (m : Int))).run Tryz.prog W = .ok ((n : Int) == (m : Int)) W := run_equalIn_int (P := Tryz.prog) W 9998 3 .i64 .i64 (n : Int) (m : Int) Tryz.underlying3
  have hf : (Tryz.prog.fieldsOf 150).toList.map (fun f => (f.name == "_", f.type, f.offset)) = [(false, 84, 0), (false, 3, 1)] := by kernel_rfl
  have hu : Tryz.prog.underlying 150 = some (.struct (Tryz.prog.fieldsOf 150)) := by kernel_rfl
  have hp : Tryz.prog.stoodInHeld 150 = false := by kernel_rfl
  unfold Op.equal Op.maxDepth pkV
  rw [run_equalIn_struct W 9999 150 _ _ hu hp]
  have q1 : ∀ x y : Value, (part 84 #[x, y] 0).run Tryz.prog W = .ok x W := fun _ _ => by kernel_rfl
  have q3 : ∀ x y : Value, (part 3 #[x, y] 1).run Tryz.prog W = .ok y W := fun _ _ => by kernel_rfl
  generalize (Tryz.prog.fieldsOf 150).toList = fs at hf ⊢
  obtain ⟨f1, r1, rfl, h1, hf⟩ := List.map_eq_cons_iff.1 hf
  obtain ⟨f3, r3, rfl, h3, hf⟩ := List.map_eq_cons_iff.1 hf
  obtain rfl := List.map_eq_nil_iff.1 hf
  simp only [Prod.mk.injEq, beq_eq_false_iff_ne, ne_eq] at h1 h3
  obtain ⟨n1, t1, o1'⟩ := h1
  obtain ⟨n3, t3, o3'⟩ := h3
  simp only [Op.eqFields, ne_eq, n1, n3, not_false_eq_true, if_true, t1, t3, o1', o3', Sem.run_bind, Sem.run_ite, Sem.run_pure, q1, q3, e1, e3, Result.andThen_ok]
  by_cases g1 : b1 = c1 ∧ o1 = p1
  · by_cases g3 : n = m
    · simp [g1, g3]
    · have : ((n : Int) == (m : Int)) = false := by rw [beq_eq_false_iff_ne]; omega
      simp [g1, g3, this]
  · have : ¬ (b1 = c1 ∧ o1 = p1 ∧ n = m) := fun h => g1 ⟨h.1, h.2.1⟩
    simp [g1, this]
def getS : List (Pk × S3) → Pk → Option S3
  | [], _ => none
  | (k', s) :: es, k => if k = k' then some s else getS es k
def putS : List (Pk × S3) → Pk → S3 → List (Pk × S3)
  | [], k, s => [(k, s)]
  | (k', s') :: es, k, s => if k = k' then (k', s) :: es else (k', s') :: putS es k s
theorem get_put (es : List (Pk × S3)) (k k' : Pk) (s : S3) : getS (putS es k s) k' = if k' = k then some s else getS es k' := by
  induction es with
  | nil =>
    rw [putS, getS, getS]
    rfl
  | cons e es ih =>
    obtain ⟨k0, s0⟩ := e
    rw [putS]
    split
    · rename_i h
      subst h
      rw [getS, getS]
      split <;> rfl
    · rename_i h
      rw [getS, getS, ih]
      by_cases h1 : k' = k0
      · rw [if_pos h1, if_pos h1, if_neg (fun e => h (by rw [← e, h1]))]
      · rw [if_neg h1, if_neg h1]
theorem put_keys {es : List (Pk × S3)} {k : Pk} {s : S3} {P : Pk → Prop} (h : ∀ e ∈ es, P e.1) (hk : P k) : ∀ e ∈ putS es k s, P e.1 := by
  induction es with
  | nil => intro e he; rw [putS] at he; simp at he; subst he; exact hk
  | cons x es ih =>
    obtain ⟨k0, s0⟩ := x
    intro e he
    rw [putS] at he
    split at he
    · rcases List.mem_cons.1 he with rfl | he
      · exact h (k0, s0) (List.mem_cons_self ..)
      · exact h e (List.mem_cons_of_mem _ he)
    · rcases List.mem_cons.1 he with rfl | he
      · exact h (k0, s0) (List.mem_cons_self ..)
      · exact ih (fun e he => h e (List.mem_cons_of_mem _ he)) e he
def MapS (W : World) (b : Nat) (es : List (Pk × S3)) : Prop := ∃ ms clock, W.heap[b]? = some (.map ms clock) ∧ ms.toList.map (fun e => (e.key, e.val)) = es.map (fun e => (pkV e.1, s3V e.2))
theorem find_pk (W : World) (k : Pk) (hk : Pl W k.1) : ∀ (es : List (Pk × S3)) (ms : List MapEntry) (i : Nat), ms.map (fun e => (e.key, e.val)) = es.map (fun e => (pkV e.1, s3V e.2)) → (∀ e ∈ es, Pl W e.1.1) →
    ((getS es k = none ∧ (Instr.findAsking 150 (pkV k) ms i).run Tryz.prog W = .ok none W ∧ ∀ s, putS es k s = es ++ [(k, s)]) ∨
     ∃ s j e, getS es k = some s ∧ (Instr.findAsking 150 (pkV k) ms i).run Tryz.prog W = .ok (some (i + j, s3V s)) W ∧ ms[j]? = some e ∧ e.key = pkV k ∧ ∀ s' (f : MapEntry → MapEntry), (∀ x, (f x).key = pkV k ∧ (f x).val = s3V s') → (ms.modify j f).map (fun e => (e.key, e.val)) = (putS es k s').map (fun e => (pkV e.1, s3V e.2)))
  | [], ms, i, he, _ => by
    have : ms = [] := by simpa using he
    subst this
    exact .inl ⟨rfl, by simp [Instr.findAsking], fun s => rfl⟩
  | (x, sx) :: xs, ms, i, he, hp => by
    cases ms with
    | nil => simp at he
    | cons e ms =>
      simp only [List.map_cons, List.cons.injEq, Prod.mk.injEq] at he
      obtain ⟨⟨h1, h2⟩, h3⟩ := he
      have hx := pk_eq W k x hk (hp (x, sx) (by simp))
      by_cases h : k = x
      · refine .inr ⟨sx, 0, e, by rw [getS, if_pos h], ?_, rfl, by rw [h1, h], fun s' f hf => ?_⟩
        · simp only [Instr.findAsking, Sem.run_bind, h1, hx, Result.andThen_ok]
          simp [h, h2]
        · rw [putS, if_pos h]
          simp only [List.modify_zero_cons, List.map_cons, List.cons.injEq, Prod.mk.injEq]
          exact ⟨⟨by rw [(hf e).1, h], (hf e).2⟩, h3⟩
      · have hrun : ∀ r, (Instr.findAsking 150 (pkV k) ms (i + 1)).run Tryz.prog W = .ok r W → (Instr.findAsking 150 (pkV k) (e :: ms) i).run Tryz.prog W = .ok r W := fun r hr => by
          simp only [Instr.findAsking, Sem.run_bind, h1, hx, Result.andThen_ok]
          simp [h, hr]
        rcases find_pk W k hk xs ms (i + 1) h3 (fun y hy => hp y (by simp [hy])) with ⟨g1, g2, g3⟩ | ⟨s, j, e', g1, g2, g3, g4, g5⟩
        · exact .inl ⟨by rw [getS, if_neg h]; exact g1, hrun _ g2, fun s => by rw [putS, if_neg h, g3 s]; rfl⟩
        · refine .inr ⟨s, j + 1, e', by rw [getS, if_neg h]; exact g1, ?_, by simpa using g3, g4, fun s' f hf => ?_⟩
          · rw [hrun _ g2, show i + 1 + j = i + (j + 1) by omega]
          · rw [putS, if_neg h, List.modify_succ_cons]
            simp only [List.map_cons, List.cons.injEq, Prod.mk.injEq]
            exact ⟨⟨h1, h2⟩, g5 s' f hf⟩
theorem findkey_pk (W : World) (k : Pk) (es : List (Pk × S3)) (ms : List MapEntry) (he : ms.map (fun e => (e.key, e.val)) = es.map (fun e => (pkV e.1, s3V e.2))) : (Instr.findKey 150 (pkV k) ms).run Tryz.prog W = (Instr.findAsking 150 (pkV k) ms 0).run Tryz.prog W := by
  have hu : Tryz.prog.underlying 150 = some (.struct (Tryz.prog.fieldsOf 150)) := by kernel_rfl
  cases ms with
  | nil => simp [Instr.findKey, run_underlying hu, Instr.findNow, Instr.findAsking]
  | cons e ms =>
    have hnow : Instr.findNow (.struct (Tryz.prog.fieldsOf 150)) (pkV k) (e :: ms) 0 = none := by
      unfold Instr.findNow pkV
      simp [Instr.sameNow]
    simp only [Instr.findKey, Sem.run_bind, run_underlying hu, Result.andThen_ok, hnow]
theorem check_pk (W : World) (k : Pk) (b : Bool) : (Instr.checkKey b 10000 150 (pkV k)).run Tryz.prog W = .ok () W := by
  unfold pkV
  cases b <;> kernel_rfl
theorem MapS.lookup {W : World} {b : Nat} {es : List (Pk × S3)} (h : MapS W b es) (k : Pk) (c : Bool) (hk : Pl W k.1) (hp : ∀ e ∈ es, Pl W e.1.1) :
    (Instr.lookup 142 (.map (some b)) (pkV k) c).run Tryz.prog W = .ok (if c = true then .tuple #[s3V ((getS es k).getD (0, false, false)), .bool (getS es k).isSome] else s3V ((getS es k).getD (0, false, false))) W := by
  obtain ⟨ms, clock, hb, he⟩ := h
  have hu : Tryz.prog.underlying 142 = some (.map 150 169) := Tryz.underlying142
  have hz : (zeroValue 169).run Tryz.prog W = .ok (s3V (0, false, false)) W := by kernel_rfl
  have hc := check_pk W k ms.isEmpty
  have hf := findkey_pk W k es ms.toList he
  rcases find_pk W k hk es ms.toList 0 he hp with ⟨g1, g2, _⟩ | ⟨s, j, e, g1, g2, _⟩
  · rw [g2] at hf
    cases c <;> simp [Instr.lookup, run_underlying hu, MapKept.run_getObj_map hb, hc, hf, hz, g1]
  · rw [g2] at hf
    cases c <;> simp [Instr.lookup, run_underlying hu, MapKept.run_getObj_map hb, hc, hf, g1]
theorem same_pk (k : Pk) : Instr.sameBits 10000 (pkV k) (pkV k) = true := by
  unfold pkV
  simp [Instr.sameBits]
theorem MapS.update {W : World} {b : Nat} {es : List (Pk × S3)} (h : MapS W b es) (k : Pk) (s : S3) (hk : Pl W k.1) (hp : ∀ e ∈ es, Pl W e.1.1) :
    ∃ W', (Instr.mapUpdate 142 (.map (some b)) (pkV k) (s3V s)).run Tryz.prog W = .ok () W' ∧ MapS W' b (putS es k s) ∧ W.grownBy W' (some b) := by
  obtain ⟨ms, clock, hb, he⟩ := h
  have hu : Tryz.prog.underlying 142 = some (.map 150 169) := Tryz.underlying142
  have hc := check_pk W k false
  have hf := findkey_pk W k es ms.toList he
  rcases find_pk W k hk es ms.toList 0 he hp with ⟨g1, g2, g3⟩ | ⟨s0, j, e, g1, g2, g3, g4, g5⟩
  · rw [g2] at hf
    refine ⟨ChangeMaps.setBlock W b (.map (ms.push { key := pkV k, val := s3V s, born := clock }) (clock + 1)), ?_, ⟨_, _, ChangeMaps.heap_setBlock_same hb _, by rw [g3 s]; simp [he]⟩, ⟨rfl, rfl, rfl, by simp [ChangeMaps.setBlock], fun i _ hi => ChangeMaps.heap_setBlock_other hb _ (fun e => hi (by rw [e]))⟩⟩
    simp [Instr.mapUpdate, run_underlying hu, MapKept.run_getObj_map hb, hc, hf, MapKept.run_setObj_map _ hb, ChangeMaps.setBlock]
  · rw [g2, Nat.zero_add] at hf
    have hk' : ((ms[j]?).map (·.key)).getD (pkV k) = pkV k := by
      have : ms[j]? = some e := by simpa using g3
      rw [this]
      simpa using g4
    refine ⟨ChangeMaps.setBlock W b (.map (ms.modify j fun e => { e with key := pkV k, val := s3V s }) clock), ?_, ⟨_, _, ChangeMaps.heap_setBlock_same hb _, ?_⟩, ⟨rfl, rfl, rfl, by simp [ChangeMaps.setBlock], fun i _ hi => ChangeMaps.heap_setBlock_other hb _ (fun e => hi (by rw [e]))⟩⟩
    · have hst : (Instr.keyThatStays (((ms[j]?).map (·.key)).getD (pkV k)) (pkV k)).run Tryz.prog W = .ok (pkV k) W := by
        rw [hk']
        simp [Instr.keyThatStays, same_pk]
      simp only [Instr.mapUpdate, Sem.run_bind, run_underlying hu, Result.andThen_ok, MapKept.run_getObj_map hb, hc, hf, hst]
      simp [MapKept.run_setObj_map _ hb, ChangeMaps.setBlock]
    · rw [Array.toList_modify]
      exact g5 s _ (fun x => ⟨rfl, rfl⟩)
theorem MapS.blk {W W' : World} {b : Nat} {es : List (Pk × S3)} (h : MapS W b es) (e : W'.heap[b]? = W.heap[b]?) : MapS W' b es := by
  obtain ⟨ms, clock, hb, he⟩ := h
  exact ⟨ms, clock, e.trans hb, he⟩
end Go.Proofs.YthebfhdpofhmpaaGreatDoor
