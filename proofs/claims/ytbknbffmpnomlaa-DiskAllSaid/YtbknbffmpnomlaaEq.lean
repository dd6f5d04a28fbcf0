/- Steps of a drawn region. -/
import Derived.Test.YtbknbffmpnomlaaEd
import Derived.Deep.RegionLaw
namespace Go.Proofs.Ytbknbffmpnomlaa
open Go.RowKit
set_option linter.unusedVariables false
set_option linter.unusedSimpArgs false

theorem run_appb (w : World) (ty : TypeId) (B : Nat) (v : Value) (L : List UInt8) (hown : Own eb 5 1 B w v L) (u : Value) (M : List UInt8) (hu : Sb w u M) (hb : L.length + M.length ≤ 140737488355328) (hB : B ≤ w.heap.size) :
    ∃ v' w', (Builtin.append_ #[30, 30] ty #[v, u]).run Try.prog w = .ok v' w' ∧ Own eb 5 1 B w' v' (L ++ M) ∧ w.grownBy w' v.ownBlock := by
  obtain ⟨i0, hi, hz0, hz1, hz2⟩ := inf_of info5
  obtain ⟨ao, cap, rfl, h1, h2⟩ := hu.s.len
  by_cases hn : ao = none ∧ M.length = 0
  · obtain ⟨rfl, h0⟩ := hn
    have hc := hu.n _ _ rfl
    obtain rfl : M = [] := List.eq_nil_of_length_eq_zero h0
    subst hc
    exact ⟨v, w, run_append_owned_none (P := Try.prog) w B 30 ty 5 i0 1 Try.underlying30 hi v L.length (flat eb L) hown, by simpa using hown, ⟨rfl, rfl, rfl, Nat.le_refl _, fun _ _ _ => rfl⟩⟩
  · obtain ⟨ao', cap', e, hc⟩ := hu.s.cells eb_len (by omega)
    cases e
    obtain ⟨ad, rfl⟩ : ∃ ad, ao = some ad := by
      cases ao with
      | none =>
        rcases hc with rfl | ⟨ad, e, _⟩
        · exact absurd ⟨rfl, rfl⟩ hn
        · cases e
      | some ad => exact ⟨ad, rfl⟩
    obtain ⟨v', w', r1, r2, r3, _⟩ := run_append_own (P := Try.prog) w B 30 ty 5 i0 (.int .u8 0) 1 1 Try.underlying30 hi hz0 hz1 hz2 rfl (by decide) v L.length (flat eb L) hown ad M.length cap (flat eb M) (flat_len eb eb_len M) (fun j u hj => by
      rcases hc with rfl | ⟨ad', e, hc⟩
      · simp [flat] at hj
      · cases e
        exact hc j u hj) (fun u hu => by
      rw [flat_eb] at hu
      unfold bc at hu
      obtain ⟨y, _, rfl⟩ := List.mem_map.1 hu
      rfl) (by unfold maxLen; omega) (by omega) hB
    refine ⟨v', w', r1, ?_, r3⟩
    unfold Own
    rw [flat_append, List.length_append]
    exact r2
section
variable {ops : Array Oper} {o : Oper} {a : Act} {w : World} {K : Act → World → Prop} {Q' : Exit → Act → World → Prop} {E : Prop}
theorem step_call2 (hg : o.guard = none) (f : FuncId) (s x : Operand) (T : Array TypeId) (hop : o.op = Op.call { callee := Callee.value (.func f), args := #[s, x], argTypes := T })
    (hf : ∀ args w, (callFunc f args).run Try.prog w = .ok (.enter f args) w) (u1 u2 : Value) (hs : a.eval s = u1) (hx : a.eval x = u2)
    (hc : Calls Try.prog f #[u1, u2] w fun e w' => ∃ u, e = .returned u ∧ K (a.put o.dst u) w') :
    if Region.wanted o (yielded ops a.tmps) = true then Oper.wp Try.prog o a w K Q' else E := by
  have hw : Region.wanted o (yielded ops a.tmps) = true := by simp [Region.wanted, hg]
  rw [if_pos hw]
  have he : (execOp a.eval o).run Try.prog w = .ok (.enter f #[u1, u2]) w := by
    have hev : a.eval (.func f) = .func (.func f) #[] #[] := rfl
    simp [execOp, hop, resolve, Deferred.ofValue, invoke, hs, hx, hev, hf, Result.andThen]
  unfold Oper.wp
  rw [he, Oper.upon_enter]
  refine hc.mono ?_
  rintro e w2 ⟨u, rfl, hI⟩
  exact hI
theorem step_appb (hg : o.guard = none) (s x : Operand) (hop : o.op = .call { callee := .builtin .append, args := #[s, x], argTypes := #[30, 30] }) (B : Nat) (v : Value) (L : List UInt8) (hs : a.eval s = v) (hown : Own eb 5 1 B w v L)
    (u : Value) (hx : a.eval x = u) (M : List UInt8) (hu : Sb w u M) (hb : L.length + M.length ≤ 140737488355328) (hB : B ≤ w.heap.size)
    (h : ∀ v' w', Own eb 5 1 B w' (sv v') (L ++ M) → w.grownBy w' v.ownBlock → K (a.put o.dst (sv v')) w') :
    if Region.wanted o (yielded ops a.tmps) = true then Oper.wp Try.prog o a w K Q' else E := by
  have hw : Region.wanted o (yielded ops a.tmps) = true := by simp [Region.wanted, hg]
  rw [if_pos hw]
  obtain ⟨v', w', r1, r2, r3⟩ := run_appb w o.type B v L hown u M hu hb hB
  obtain ⟨v', rfl⟩ := own_sv r2
  unfold Oper.wp execOp
  simp only [hop, resolve, invoke, builtin, Sem.run_bind, Sem.run_pure, Result.andThen_ok, List.map_toArray, List.map_cons, List.map_nil, hs, hx, r1]
  exact h v' w' r2 r3
theorem step_done (hg : o.guard = none) (s x : Operand) (hop : o.op = .call { callee := .builtin .append, args := #[s, x], argTypes := #[27, 27] }) (B : Nat) (v : Value) (ms : List Rn) (hs : a.eval s = v) (hown : Own er 36 4 B w v ms)
    (m : Rn) (q : Nat) (hx : a.eval x = .slice (some ⟨q, 0, none⟩) 1 1) (hq : Bk w 36 q (er m).toArray) (hb : ms.length ≤ 100000) (hB : B ≤ w.heap.size)
    (h : ∀ v' w', Own er 36 4 B w' (sv v') (ms ++ [m]) → w.grownBy w' v.ownBlock → ((sv v').ownBlock = v.ownBlock ∨ (sv v').ownBlock = some w.heap.size) → K (a.put o.dst (sv v')) w') :
    if Region.wanted o (yielded ops a.tmps) = true then Oper.wp Try.prog o a w K Q' else E := by
  have hw : Region.wanted o (yielded ops a.tmps) = true := by simp [Region.wanted, hg]
  rw [if_pos hw]
  obtain ⟨i0, hi, hz0, hz1, hz2⟩ := inf_of info36
  obtain ⟨v', w', r1, r2, r3, r4, r5⟩ := run_append_own_at (P := Try.prog) w B 27 o.type 36 i0 _ 4 64 Try.underlying27 hi hz0 hz1 hz2 rfl (by decide) v ms.length (flat er ms) hown ⟨q, 0, none⟩ 1 1 (er m) (by rw [er_len]) (fun j u hj => by
    rw [add_lit, Nat.zero_add]
    exact hq.c j u (by rw [List.getElem?_toArray]; exact hj)) (fun u hu => by
    obtain ⟨mk, mx, my, ⟨ma, mn, mc⟩, mL⟩ := m
    simp only [er, List.mem_cons, List.not_mem_nil, or_false] at hu
    rcases hu with rfl | rfl | rfl | rfl <;> rfl) (by unfold maxLen; omega) (by omega) hB
  have r2' := own_snoc r2
  obtain ⟨v', rfl⟩ := own_sv r2'
  unfold Oper.wp execOp
  simp only [hop, resolve, invoke, builtin, Sem.run_bind, Sem.run_pure, Result.andThen_ok, List.map_toArray, List.map_cons, List.map_nil, hs, hx, r1]
  exact h v' w' r2' r3 r5
theorem step_file (hg : o.guard = none) (s x : Operand) (hop : o.op = .call { callee := .builtin .append, args := #[s, x], argTypes := #[55, 55] }) (B : Nat) (v : Value) (ms : List Fn) (hs : a.eval s = v) (hown : Own ef 58 2 B w v ms)
    (m : Fn) (q : Nat) (hx : a.eval x = .slice (some ⟨q, 0, none⟩) 1 1) (hq : Bk w 58 q (ef m).toArray) (hb : ms.length ≤ 100000) (hB : B ≤ w.heap.size)
    (h : ∀ v' w', Own ef 58 2 B w' v' (ms ++ [m]) → w.grownBy w' v.ownBlock → K (a.put o.dst v') w') :
    if Region.wanted o (yielded ops a.tmps) = true then Oper.wp Try.prog o a w K Q' else E := by
  have hw : Region.wanted o (yielded ops a.tmps) = true := by simp [Region.wanted, hg]
  rw [if_pos hw]
  obtain ⟨i0, hi, hz0, hz1, hz2⟩ := inf_of info58
  obtain ⟨v', w', r1, r2, r3, r4, r5⟩ := run_append_own_at (P := Try.prog) w B 55 o.type 58 i0 _ 2 40 Try.underlying55 hi hz0 hz1 hz2 rfl (by decide) v ms.length (flat ef ms) hown ⟨q, 0, none⟩ 1 1 (ef m) (by rw [ef_len]) (fun j u hj => by
    rw [add_lit, Nat.zero_add]
    exact hq.c j u (by rw [List.getElem?_toArray]; exact hj)) (fun u hu => by
    obtain ⟨mx, ⟨ma, mn, mc⟩, mL⟩ := m
    simp only [ef, List.mem_cons, List.not_mem_nil, or_false] at hu
    rcases hu with rfl | rfl <;> rfl) (by unfold maxLen; omega) (by omega) hB
  unfold Oper.wp execOp
  simp only [hop, resolve, invoke, builtin, Sem.run_bind, Sem.run_pure, Result.andThen_ok, List.map_toArray, List.map_cons, List.map_nil, hs, hx, r1]
  exact h v' w' (own_snoc r2) r3
end
theorem en29 : ∀ args w, (callFunc 29 args).run Try.prog w = .ok (.enter 29 args) w := enters_of Try.func29 (by kernel_rfl) rfl
end Go.Proofs.Ytbknbffmpnomlaa
