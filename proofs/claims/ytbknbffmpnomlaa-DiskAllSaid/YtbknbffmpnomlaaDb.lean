/- Slices of bytes that may be nil; what is appended; a copy. -/
import Derived.Test.YtbknbffmpnomlaaDa
namespace Go.Proofs.Ytbknbffmpnomlaa
open Go.RowKit
set_option linter.unusedVariables false
set_option linter.unusedSimpArgs false

/-- a slice of bytes; nil has no room -/
structure Sb (W : World) (v : Value) (L : List UInt8) : Prop where
  s : Sl eb 1 W v L
  n : ∀ m c, v = .slice none m c → c = 0
theorem Sb.on {W W' : World} {v : Value} {L : List UInt8} (h : Sb W v L) (q : Q W W') : Sb W' v L := ⟨h.s.on q, h.n⟩
theorem sb_nil (W : World) : Sb W (.slice none 0 0) [] := ⟨sl_nil W, fun m c e => by injection e with _ _ e; exact e.symm⟩
theorem sb_from {w0 : World} {v : Value} {D : List UInt8} (h : Sb w0 v D) (k : Nat) (hk : k ≤ D.length) : ∃ a c, Hid (∀ W, (Instr.sliceAt 30 v (some (.int .i64 k)) none none).run Try.prog W = .ok (.slice a (D.length - k) c) W) ∧ Sb w0 (.slice a (D.length - k) c) (D.drop k) := by
  obtain ⟨ao, cap, rfl, h1, h2⟩ := h.s.len
  refine ⟨_, _, hid (fun W => run_from W ao D.length cap k hk h1 h2), cut_from h.s k hk, fun m c e => ?_⟩
  injection e with e1 e2 e3
  have := h.n D.length cap
  by_cases hc : cap = k
  · omega
  · rw [if_neg hc] at e1
    cases ao with
    | none => have := this rfl; omega
    | some x => cases e1
theorem sb_to {w0 : World} {v : Value} {D : List UInt8} (h : Sb w0 v D) (k : Nat) (hk : k ≤ D.length) : ∃ a c, Hid (∀ W, (Instr.sliceAt 30 v none (some (.int .i64 k)) none).run Try.prog W = .ok (.slice a k c) W) ∧ Sb w0 (.slice a k c) (D.take k) := by
  obtain ⟨ao, cap, rfl, h1, h2⟩ := h.s.len
  refine ⟨_, _, hid (fun W => run_to W ao D.length cap k hk h1 h2), cut_to h.s k hk, fun m c e => ?_⟩
  injection e with e1 e2 e3
  have := h.n D.length cap
  by_cases hc : cap = 0
  · omega
  · rw [if_neg hc] at e1
    cases ao with
    | none => have := this rfl; omega
    | some x => cases e1
theorem own_sb {e B : Nat} {W : World} {v : Value} {L : List UInt8} (h : Own eb 5 1 B W v L) : Sb W v L := by
  refine ⟨h.sl eb_len (by omega), fun m c e => ?_⟩
  obtain ⟨_, h⟩ := h
  rcases h with ⟨hv, _⟩ | ⟨g, cap, cur, hv, _⟩
  · rw [hv] at e
    injection e with _ _ e
    exact e.symm
  · rw [hv] at e
    cases e
theorem info5 : (Try.prog.info? 5).map (fun i => (i.zero, i.size, i.bytes)) = some (some (.int .u8 0), 1, 1) := by kernel_rfl
theorem below_grown {B : Nat} {W W' : World} {v : Value} {L : List UInt8} (ho : Own eb 5 1 B W v L) (hg : W.grownBy W' v.ownBlock) (hB : B ≤ W.heap.size) : Below B W W' :=
  (Below.refl B W).grown hg hB (fun k hk => by have := (World.ownsRow.lt ho k hk).1; omega)
theorem wpl_appb {w : World} {ops : Array Oper} {rest : List Oper} {o : Oper} {a : Act} {Q : Exit → Act → World → Prop} (hgd : o.guard = none) (s x : Operand)
    (ho : o.op = .call { callee := .builtin .append, args := #[s, x], argTypes := #[30, 30] }) (B : Nat) (v : Value) (L : List UInt8) (hs : a.eval s = v) (hown : Own eb 5 1 B w v L)
    (u : Value) (hx : a.eval x = u) (M : List UInt8) (hu : Sb w u M) (hb : L.length + M.length ≤ 140737488355328) (hB : B ≤ w.heap.size)
    (h : ∀ v' w', Own eb 5 1 B w' v' (L ++ M) → w.grownBy w' v.ownBlock → wpList Try.prog ops Q rest (a.put o.dst v') w') : wpList Try.prog ops Q (o :: rest) a w := by
  obtain ⟨i0, hi, hz0, hz1, hz2⟩ := inf_of info5
  obtain ⟨ao, cap, rfl, h1, h2⟩ := hu.s.len
  by_cases hn : ao = none ∧ M.length = 0
  · obtain ⟨rfl, h0⟩ := hn
    have hc := hu.n _ _ rfl
    obtain rfl : M = [] := List.eq_nil_of_length_eq_zero h0
    subst hc
    refine wpList_append_own_none hgd s x 30 ho B 5 i0 1 Try.underlying30 hi v L.length (flat eb L) hs hown hx (h v w (by simpa using hown) ⟨rfl, rfl, rfl, Nat.le_refl _, fun _ _ _ => rfl⟩)
  · obtain ⟨ao', cap', e, hc⟩ := hu.s.cells eb_len (by omega)
    cases e
    obtain ⟨ad, rfl⟩ : ∃ ad, ao = some ad := by
      cases ao with
      | none =>
        rcases hc with rfl | ⟨ad, e, _⟩
        · exact absurd ⟨rfl, rfl⟩ hn
        · cases e
      | some ad => exact ⟨ad, rfl⟩
    refine wpList_append_own w hgd s x 30 ho B 5 i0 (.int .u8 0) 1 1 Try.underlying30 hi hz0 hz1 hz2 rfl (by decide) v L.length (flat eb L) hs hown ad M.length cap (flat eb M) hx (flat_len eb eb_len M) (fun j u hj => ?_) (fun u hu => ?_) (by unfold maxLen; omega) (by omega) hB (fun v' w' ho' hg _ => h v' w' ?_ hg)
    · rcases hc with rfl | ⟨ad', e, hc⟩
      · simp [flat] at hj
      · cases e
        exact hc j u hj
    · rw [flat_eb] at hu
      unfold bc at hu
      obtain ⟨y, _, rfl⟩ := List.mem_map.1 hu
      rfl
    · unfold Own
      rw [flat_append, List.length_append]
      exact ho'
theorem sl_lit {W : World} (cs : List UInt8) (h : cs.length ≤ 1000) : Sb (W.alloc (.cells (flat eb cs).toArray 5)) (.slice (some ⟨W.heap.size, 0, none⟩) cs.length cs.length) cs := by
  refine ⟨⟨some ⟨W.heap.size, 0, none⟩, cs.length, rfl, Nat.le_refl _, by unfold maxLen; omega, fun _ => ⟨W.heap.size, 0, rfl, fun i hi j u hu => ?_⟩⟩, fun m c e => by cases e⟩
  have hj : j < 1 := (List.getElem?_eq_some_iff.1 hu).1
  have h1 := flat_at eb eb_len cs i hi j hj
  rw [hu] at h1
  have h2 := news_new W (flat eb cs) 5 (i * 1 + j) u h1
  rw [add_lit] at h2
  rw [show 0 + i * 1 + j = 0 + (i * 1 + j) by omega]
  exact h2
end Go.Proofs.Ytbknbffmpnomlaa
