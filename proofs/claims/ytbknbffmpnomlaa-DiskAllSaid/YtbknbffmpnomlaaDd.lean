/- Blocks known whole; worlds in which some blocks alone have turned; what is appended, and where. -/
import Derived.Test.YtbknbffmpnomlaaDc
import Derived.ArgAppend
import Derived.Laws.OwnMore
namespace Go.Proofs.Ytbknbffmpnomlaa
open Go.RowKit
set_option linter.unusedVariables false
set_option linter.unusedSimpArgs false

/-- a block that is known whole -/
structure Bk (W : World) (t : TypeId) (q : Nat) (cs : Array Value) : Prop where
  h : W.heap[q]? = some (.cells cs t (0, 0))
theorem Bk.c {W : World} {t : TypeId} {q : Nat} {cs : Array Value} (h : Bk W t q cs) (j : Nat) (u : Value) (hu : cs[j]? = some u) : W.cell? ⟨q, j, none⟩ = some u := by
  rw [cell_of_row W q j _ _ _ h.h]
  exact hu
theorem Bk.f {W : World} {t : TypeId} {q : Nat} {cs : Array Value} (h : Bk W t q cs) (j : Nat) : W.frozen? ⟨q, j, none⟩ = false := frozen_of_row W q j _ _ h.h
theorem Bk.l {W : World} {t : TypeId} {q : Nat} {cs : Array Value} (h : Bk W t q cs) : q < W.heap.size := (Array.getElem?_eq_some_iff.1 h.h).1
theorem Bk.on {W W' : World} {t : TypeId} {q : Nat} {cs : Array Value} (h : Bk W t q cs) (x : Q W W') : Bk W' t q cs := ⟨(Below.block x q h.l).trans h.h⟩
theorem Bk.same {W W' : World} {t : TypeId} {q : Nat} {cs : Array Value} (h : Bk W t q cs) (x : W'.heap[q]? = W.heap[q]?) : Bk W' t q cs := ⟨x.trans h.h⟩
theorem bk_new (W : World) (t : TypeId) (cs : Array Value) : Bk (W.alloc (.cells cs t)) t W.heap.size cs := ⟨heap_alloc_new W _⟩
theorem Bk.put {W : World} {t : TypeId} {q : Nat} {cs : Array Value} (h : Bk W t q cs) (j : Nat) (d : Value) : Bk (W.setCell ⟨q, j, none⟩ d) t q (cs.setIfInBounds j d) := by
  refine ⟨?_⟩
  rw [setCell_eq_setRow W q j _ _ _ d h.h, setRow_heap W q _ _ _ _ h.h]
theorem Bk.oth {W : World} {t : TypeId} {q p : Nat} {cs : Array Value} (h : Bk W t q cs) (hp : q ≠ p) (j : Nat) (d : Value) : Bk (W.setCell ⟨p, j, none⟩ d) t q cs :=
  ⟨(heap_setCell_other W _ q d hp).trans h.h⟩
/-- all but the blocks that P names stands as it stood -/
structure Qp (P : Nat → Prop) (w w' : World) : Prop where
  os : w'.os = w.os
  tape : w'.tape = w.tape
  output : w'.output = w.output
  size : w.heap.size ≤ w'.heap.size
  block : ∀ i, i < w.heap.size → ¬ P i → w'.heap[i]? = w.heap[i]?
theorem Qp.refl (P : Nat → Prop) (w : World) : Qp P w w := ⟨rfl, rfl, rfl, Nat.le_refl _, fun _ _ _ => rfl⟩
theorem Qp.of {P : Nat → Prop} {a b : World} (h : Q a b) : Qp P a b := ⟨h.os, h.tape, h.output, h.size, fun i hi _ => Q.block h hi⟩
/-- .. what turns behind it turned ahead too, or is new -/
theorem Qp.after {P P' : Nat → Prop} {a b c : World} (h : Qp P a b) (k : Qp P' b c) (hp : ∀ i, i < a.heap.size → P' i → P i) : Qp P a c :=
  ⟨k.os.trans h.os, k.tape.trans h.tape, k.output.trans h.output, Nat.le_trans h.size k.size, fun i hi hn => (k.block i (Nat.lt_of_lt_of_le hi h.size) (fun e => hn (hp i hi e))).trans (h.block i hi hn)⟩
theorem Qp.trans {P : Nat → Prop} {a b c : World} (h : Qp P a b) (k : Qp P b c) : Qp P a c := h.after k (fun _ _ h => h)
theorem Qp.mono {P P' : Nat → Prop} {a b : World} (h : Qp P a b) (hp : ∀ i, i < a.heap.size → P i → P' i) : Qp P' a b :=
  ⟨h.os, h.tape, h.output, h.size, fun i hi hn => h.block i hi (fun k => hn (hp i hi k))⟩
theorem Qp.set {P : Nat → Prop} {a w : World} (h : Qp P a w) {b : Nat} (k : Nat) (v : Value) (hb : P b ∨ a.heap.size ≤ b) : Qp P a (w.setCell ⟨b, k, none⟩ v) :=
  ⟨h.os, h.tape, h.output, by simpa [World.setCell] using h.size, fun i hi hp => (Below.heap_setCell _ _ _ _ (fun e => by
    rcases hb with hb | hb
    · exact hp (by rw [e]; exact hb)
    · simp at e; omega)).trans (h.block i hi hp)⟩
theorem Qp.q {P : Nat → Prop} {a b : World} (h : Qp P a b) (hp : ∀ i, i < a.heap.size → ¬ P i) : Q a b := ⟨h.os, h.tape, h.output, h.size, fun i hi => h.block i hi (hp i hi)⟩
theorem Qp.alloc {P : Nat → Prop} {a w : World} (h : Qp P a w) (o : Obj) : Qp P a (w.alloc o) := h.trans (Qp.of ((Q.refl w).alloc o))
theorem Qp.grown {P : Nat → Prop} {a w w' : World} {row : Option Nat} (h : Qp P a w) (hg : w.grownBy w' row) (hr : ∀ k, row = some k → P k ∨ a.heap.size ≤ k) : Qp P a w' :=
  ⟨hg.os.trans h.os, hg.tape.trans h.tape, hg.output.trans h.output, Nat.le_trans h.size hg.size, fun i hi hn => (hg.block i (Nat.lt_of_lt_of_le hi h.size) (fun e => by
    rcases hr i e.symm with k | k
    · exact hn k
    · omega)).trans (h.block i hi hn)⟩
theorem q_of_grown {a w w' : World} (h : Q a w) (hg : w.grownBy w' none) : Q a w' := Below.grown h hg h.size (fun k e => by cases e)
/-- a row of which the block stands -/
theorem Own.same {α : Type} {enc : α → List Value} {e : TypeId} {k B : Nat} {W W' : World} {v : Value} {L : List α} (h : Own enc e k B W v L) (hs : ∀ g, v.ownBlock = some g → W'.heap[g]? = W.heap[g]?) : Own enc e k B W' v L := by
  obtain ⟨hl, h⟩ := h
  refine ⟨hl, ?_⟩
  rcases h with h | ⟨g, cap, cur, hv, hb, hg, h1, h2, h3, h4⟩
  · exact .inl h
  · exact .inr ⟨g, cap, cur, hv, hb, by rw [hs g (by rw [hv]; rfl)]; exact hg, h1, h2, h3, h4⟩
/-- what a row's block is -/
theorem Own.kind {α : Type} {enc : α → List Value} {e : TypeId} {k B : Nat} {W : World} {v : Value} {L : List α} (h : Own enc e k B W v L) {g : Nat} (hg : v.ownBlock = some g) : ∃ cur, W.heap[g]? = some (.cells cur e (0, 0)) := by
  obtain ⟨hl, h⟩ := h
  rcases h with ⟨h, _⟩ | ⟨g', cap, cur, hv, hb, hg', h1, h2, h3, h4⟩
  · rw [h] at hg; cases hg
  · rw [hv] at hg; cases hg; exact ⟨cur, hg'⟩
theorem Own.nbk {α : Type} {enc : α → List Value} {e : TypeId} {k B : Nat} {W : World} {v : Value} {L : List α} (h : Own enc e k B W v L) {t : TypeId} {q : Nat} {cs : Array Value} (hq : Bk W t q cs) (hne : e ≠ t) : v.ownBlock ≠ some q := by
  intro hg
  obtain ⟨cur, hc⟩ := h.kind hg
  rw [hq.h] at hc
  injection hc with hc
  injection hc with _ hc
  exact hne hc.symm
theorem Own.nmp {α : Type} {enc : α → List Value} {e : TypeId} {k B : Nat} {W : World} {v : Value} {L : List α} (h : Own enc e k B W v L) {b n : Nat} {f : ByteArray → Option Sv} (hm : Mp W b n f) : v.ownBlock ≠ some b := by
  intro hg
  obtain ⟨cur, hc⟩ := h.kind hg
  obtain ⟨es, cl, he⟩ := hm.block
  rw [he] at hc
  cases hc
theorem Bk.nmp {W : World} {t : TypeId} {q : Nat} {cs : Array Value} (h : Bk W t q cs) {b n : Nat} {f : ByteArray → Option Sv} (hm : Mp W b n f) : q ≠ b := by
  rintro rfl
  obtain ⟨es, cl, he⟩ := hm.block
  have h := h.h
  rw [he] at h
  cases h
theorem Own.nown {α β : Type} {enc : α → List Value} {enc' : β → List Value} {e e' : TypeId} {k k' B B' : Nat} {W : World} {x o : Value} {L : List α} {M : List β} (h1 : Own enc e k B W x L) (h2 : Own enc' e' k' B' W o M) (hne : e ≠ e') {g : Nat} (hg : x.ownBlock = some g) (hg' : o.ownBlock = some g) : False := by
  obtain ⟨c1, e1⟩ := h1.kind hg
  obtain ⟨c2, e2⟩ := h2.kind hg'
  rw [e1] at e2
  injection e2 with e2
  injection e2 with _ e2
  exact hne e2
/-- a shorter one in the same block, which was written behind its end alone -/
theorem own_shorter {W W' : World} {g n n' cap k c : Nat} {L M K : List UInt8} (h : Own eb 5 1 0 W (.slice (some ⟨g, 0, none⟩) n cap) L) (h' : Own eb 5 1 0 W' (.slice (some ⟨g, 0, none⟩) n' cap) (L ++ M))
    (hk : Own eb 5 1 0 W (.slice (some ⟨g, 0, none⟩) k c) K) (hkn : K.length ≤ L.length) : Own eb 5 1 0 W' (.slice (some ⟨g, 0, none⟩) k c) K := by
  obtain ⟨a1, a2⟩ := h
  obtain ⟨b1, b2⟩ := h'
  obtain ⟨c1, c2⟩ := hk
  refine ⟨c1, ?_⟩
  rcases a2 with ⟨a2, _⟩ | ⟨g1, cap1, cur1, e1, _, hg1, x1, x2, x3, x4⟩
  · cases a2
  rcases b2 with ⟨b2, _⟩ | ⟨g2, cap2, cur2, e2, _, hg2, y1, y2, y3, y4⟩
  · cases b2
  rcases c2 with ⟨c2, _⟩ | ⟨g3, cap3, cur3, e3, _, hg3, z1, z2, z3, z4⟩
  · cases c2
  injection e1 with e1 e1' e1''
  injection e2 with e2 e2' e2''
  injection e3 with e3 e3' e3''
  obtain rfl : g = g1 := congrArg Addr.block (Option.some.inj e1)
  obtain rfl : g = g2 := congrArg Addr.block (Option.some.inj e2)
  obtain rfl : g = g3 := congrArg Addr.block (Option.some.inj e3)
  subst e1' e2' e3' e1'' e2'' e3''
  rw [hg1] at hg3
  cases hg3
  refine .inr ⟨g, c, cur2, rfl, Nat.zero_le _, hg2, z1, z2, ?_, ?_⟩
  · omega
  · have e5 : (flat eb L).take (K.length * 1) = flat eb K := by rw [← x4, ← z4, List.take_take, Nat.min_eq_left (by omega)]
    rw [flat_append] at y4
    have e6 := congrArg (List.take (K.length * 1)) y4
    rw [List.take_take, Nat.min_eq_left (by simp; omega), List.take_append_of_le_length (by rw [flat_len eb eb_len]; omega), e5] at e6
    exact e6
/-- WHERE what is appended lies: in the same block, or in a new one and all stands -/
theorem run_app2 (w : World) (ty : TypeId) (v : Sv) (L : List UInt8) (hown : Own eb 5 1 0 w (sv v) L) (u : Sv) (M : List UInt8) (hu : Sb w (sv u) M) (h0 : 0 < M.length) (hb : L.length + M.length ≤ 140737488355328) :
    ∃ v' w', (Builtin.append_ #[30, 30] ty #[sv v, sv u]).run Try.prog w = .ok (sv v') w' ∧ Own eb 5 1 0 w' (sv v') (L ++ M) ∧
      ((∃ g n cap, v = ⟨some ⟨g, 0, none⟩, n, cap⟩ ∧ v' = ⟨some ⟨g, 0, none⟩, n + M.length, cap⟩ ∧ w.grownBy w' (some g)) ∨ (w.grownBy w' none ∧ ∃ g, (sv v').ownBlock = some g ∧ w.heap.size ≤ g)) := by
  obtain ⟨i0, hi, hz0, hz1, hz2⟩ := inf_of info5
  obtain ⟨ao, cap, e, h1, h2⟩ := hu.s.len
  obtain ⟨ua, un, uc⟩ := u
  have e : Value.slice ua un uc = .slice ao M.length cap := e
  injection e with e1 e2 e3
  subst e1 e2 e3
  obtain ⟨ao', cap', e, hc⟩ := hu.s.cells eb_len (by omega)
  have e : Value.slice ua M.length uc = .slice ao' M.length cap' := e
  injection e with e1 e2 e3
  subst e1 e3
  obtain ⟨ad, rfl, hc1⟩ : ∃ ad, ua = some ad ∧ ∀ j u, (flat eb M)[j]? = some u → w.cell? (ad.add j) = some u := by
    rcases hc with rfl | h
    · simp at h0
    · exact h
  have hone : ∀ u ∈ flat eb M, u.oneCell' = true := by
    intro u hu
    rw [flat_eb] at hu
    unfold bc at hu
    obtain ⟨y, _, rfl⟩ := List.mem_map.1 hu
    rfl
  have hml : (flat eb M).length = M.length * 1 := flat_len eb eb_len M
  have hfin : ∀ {B : Nat} {w' : World} {v' : Value}, w'.ownsRow B 5 1 v' (L.length + M.length) (flat eb L ++ flat eb M) → Own eb 5 1 0 w' v' (L ++ M) := by
    intro B w' v' h
    refine Own.mono ?_ (Nat.zero_le B)
    unfold Own
    rw [flat_append, List.length_append]
    exact h
  have hown' := hown
  obtain ⟨a1, a2⟩ := hown
  obtain ⟨va, vn, vc⟩ := v
  rcases a2 with ⟨a2, a3⟩ | ⟨g, c, cur, e1, _, hg, x1, x2, x3, x4⟩
  · unfold sv at a2
    cases a2
    obtain rfl : L = [] := List.eq_nil_of_length_eq_zero a3
    obtain ⟨v', w', r1, r2, r3, r4, r5⟩ := run_append_own_at (P := Try.prog) w w.heap.size 30 ty 5 i0 (.int .u8 0) 1 1 Try.underlying30 hi hz0 hz1 hz2 rfl (by decide) (.slice none 0 0) 0 [] (World.ownsRow_nil _ _ _ _) ad M.length uc (flat eb M) hml hc1 hone (by unfold maxLen; simp at hb; omega) (by simp at hb; omega) (Nat.le_refl _)
    have r2' := r2
    obtain ⟨_, r2⟩ := r2
    rcases r2 with ⟨r6, r7⟩ | ⟨g, c, cur, e1, hgb, hg, _⟩
    · omega
    · subst e1
      exact ⟨⟨some ⟨g, 0, none⟩, 0 + M.length, c⟩, w', r1, hfin (by simpa [flat, sv] using r2'), .inr ⟨r3, g, rfl, hgb⟩⟩
  · unfold sv at e1
    cases e1
    by_cases hroom : L.length + M.length ≤ vc
    · obtain ⟨w', r1, r2, r3⟩ := run_append_fits (P := Try.prog) w 0 30 ty 5 i0 1 Try.underlying30 hi hz1 g L.length vc (flat eb L) hown' ad M.length uc (flat eb M) hml hc1 hone hroom
      exact ⟨⟨some ⟨g, 0, none⟩, L.length + M.length, vc⟩, w', r1, hfin r2, .inl ⟨g, L.length, vc, rfl, rfl, r3⟩⟩
    · obtain ⟨v', w', r1, r2, r3⟩ := run_append_arg_grows (P := Try.prog) w 30 ty 5 i0 (.int .u8 0) 1 1 Try.underlying30 hi hz0 hz1 hz2 rfl (by decide) ⟨g, 0, none⟩ L.length vc (flat eb L) (flat_len eb eb_len L) (World.ownsRow.cells hown' rfl) ad M.length uc (flat eb M) hml hc1 (by omega) (by unfold maxLen; omega) (by omega)
      have r2' := r2
      obtain ⟨_, r2⟩ := r2
      rcases r2 with ⟨r6, r7⟩ | ⟨g, c, cur, e1, hgb, hg, _⟩
      · omega
      · subst e1
        exact ⟨⟨some ⟨g, 0, none⟩, L.length + M.length, c⟩, w', r1, hfin r2', .inr ⟨r3, g, rfl, hgb⟩⟩
/-- where it lies -/
def Lies (w w' : World) (v v' : Sv) (k : Nat) : Prop := (∃ g n cap, v = ⟨some ⟨g, 0, none⟩, n, cap⟩ ∧ v' = ⟨some ⟨g, 0, none⟩, n + k, cap⟩ ∧ w.grownBy w' (some g)) ∨ (w.grownBy w' none ∧ ∃ g, (sv v').ownBlock = some g ∧ w.heap.size ≤ g)
theorem wpl_app2 {w : World} {ops : Array Oper} {rest : List Oper} {o : Oper} {a : Act} {K : Exit → Act → World → Prop} (hgd : o.guard = none) (s x : Operand)
    (ho : o.op = .call { callee := .builtin .append, args := #[s, x], argTypes := #[30, 30] }) (v : Sv) (L : List UInt8) (hs : a.eval s = sv v) (hown : Own eb 5 1 0 w (sv v) L)
    (u : Sv) (hx : a.eval x = sv u) (M : List UInt8) (hu : Sb w (sv u) M) (h0 : 0 < M.length) (hb : L.length + M.length ≤ 140737488355328)
    (h : ∀ v' w', Own eb 5 1 0 w' (sv v') (L ++ M) →
      Lies w w' v v' M.length → wpList Try.prog ops K rest (a.put o.dst (sv v')) w') : wpList Try.prog ops K (o :: rest) a w := by
  refine wpList_plain hgd fun K' hK' => ?_
  obtain ⟨v', w', hr, h2, h3⟩ := run_app2 w o.type v L hown u M hu h0 hb
  unfold Oper.wp execOp
  simp only [ho, resolve, invoke, builtin, Sem.run_bind, Sem.run_pure, Result.andThen_ok, List.map_toArray, List.map_cons, List.map_nil, hs, hx, hr]
  exact hK' _ _ (h v' w' h2 h3)
end Go.Proofs.Ytbknbffmpnomlaa
