/- A set of pairs of places, as a map holds it; A pair's key, walked. -/
import Derived.Test.YtcgddnliiondoaaGreatDoorKo00
import Derived.Maps.OwnSet
import Derived.LaidEql
import Derived.Deep.RegionHeld3
set_option linter.unusedVariables false
set_option linter.unusedSimpArgs false
set_option maxRecDepth 100000
set_option maxHeartbeats 8000000
namespace Go.Proofs.YtcgddnliiondoaaGreatDoor
open Go.RowKit
abbrev Ky := Nat × Nat × Nat × Nat × Nat
def kyV (k : Ky) : Value := .agg #[.pointer (some ⟨k.1, k.2.1, none⟩), .pointer (some ⟨k.2.2.1, k.2.2.2.1, none⟩), .int .i64 (k.2.2.2.2 : Int)]
def KyP (W : World) (k : Ky) : Prop := Pl W k.1 ∧ Pl W k.2.2.1
theorem info28' : ∃ j, Tryz.prog.info? 40 = some j ∧ j.size ≠ 0 := by
  cases h : Tryz.prog.info? 40 with
  | none =>
    have : (Tryz.prog.info? 40).isSome = true := by kernel_rfl
    rw [h] at this
    cases this
  | some j =>
    refine ⟨j, rfl, ?_⟩
    have : ((Tryz.prog.info? 40).map (fun i => i.size)) = some 7 := by kernel_rfl
    rw [h] at this
    simp at this
    omega
theorem run_ptr (W : World) (d : Nat) (a b : Addr) (ha : Pl W a.block) (hb : Pl W b.block) : (Op.equalIn (d + 1) 120 (.pointer (some a)) (.pointer (some b))).run Tryz.prog W = .ok (decide (a = b)) W := by
  obtain ⟨j, hj, hs⟩ := info28'
  obtain ⟨ca, ta, ha⟩ := ha
  obtain ⟨cb, tb, hb⟩ := hb
  have hu : Tryz.prog.underlying 120 = some (.pointer 40) := Tryz.underlying120
  by_cases h : a = b
  · subst h
    simp [Op.equalIn, run_underlying hu, sizeOf, typeInfo, hj, hs, run_sameAddr_same]
  · simp [Op.equalIn, run_underlying hu, sizeOf, typeInfo, hj, hs, run_sameAddr_other W h ha hb, h]
theorem key_eq (W : World) (k k' : Ky) (h : KyP W k) (h' : KyP W k') : (Op.equal 124 (kyV k) (kyV k')).run Tryz.prog W = .ok (decide (k = k')) W := by
  obtain ⟨b1, o1, b2, o2, n⟩ := k
  obtain ⟨c1, p1, c2, p2, m⟩ := k'
  have e1 : (Op.equalIn 9999 120 (.pointer (some ⟨b1, o1, none⟩)) (.pointer (some ⟨c1, p1, none⟩))).run Tryz.prog W = .ok (decide (b1 = c1 ∧ o1 = p1)) W := by
    have := run_ptr W 9998 ⟨b1, o1, none⟩ ⟨c1, p1, none⟩ h.1 h'.1
    simpa using this
  have e2 : (Op.equalIn 9999 120 (.pointer (some ⟨b2, o2, none⟩)) (.pointer (some ⟨c2, p2, none⟩))).run Tryz.prog W = .ok (decide (b2 = c2 ∧ o2 = p2)) W := by
    have := run_ptr W 9998 ⟨b2, o2, none⟩ ⟨c2, p2, none⟩ h.2 h'.2
    simpa using this
  have e3 : (Op.equalIn 9999 3 (.int .i64 (n : Int)) (.int .i64 (m : Int))).run Tryz.prog W = .ok ((n : Int) == (m : Int)) W := run_equalIn_int (P := Tryz.prog) W 9998 3 .i64 .i64 (n : Int) (m : Int) Tryz.underlying3
  have hf : (Tryz.prog.fieldsOf 124).toList.map (fun f => (f.name == "_", f.type, f.offset)) = [(false, 120, 0), (false, 120, 1), (false, 3, 2)] := by kernel_rfl
  have hu : Tryz.prog.underlying 124 = some (.struct (Tryz.prog.fieldsOf 124)) := by kernel_rfl
  have hp : Tryz.prog.stoodInHeld 124 = false := by kernel_rfl
  unfold Op.equal Op.maxDepth kyV
  rw [run_equalIn_struct W 9999 124 _ _ hu hp]
  have q1 : ∀ x y z : Value, (part 120 #[x, y, z] 0).run Tryz.prog W = .ok x W := fun _ _ _ => by kernel_rfl
  have q2 : ∀ x y z : Value, (part 120 #[x, y, z] 1).run Tryz.prog W = .ok y W := fun _ _ _ => by kernel_rfl
  have q3 : ∀ x y z : Value, (part 3 #[x, y, z] 2).run Tryz.prog W = .ok z W := fun _ _ _ => by kernel_rfl
  generalize (Tryz.prog.fieldsOf 124).toList = fs at hf ⊢
  obtain ⟨f1, r1, rfl, h1, hf⟩ := List.map_eq_cons_iff.1 hf
  obtain ⟨f2, r2, rfl, h2, hf⟩ := List.map_eq_cons_iff.1 hf
  obtain ⟨f3, r3, rfl, h3, hf⟩ := List.map_eq_cons_iff.1 hf
  obtain rfl := List.map_eq_nil_iff.1 hf
  simp only [Prod.mk.injEq, beq_eq_false_iff_ne, ne_eq] at h1 h2 h3
  obtain ⟨n1, t1, o1'⟩ := h1
  obtain ⟨n2, t2, o2'⟩ := h2
  obtain ⟨n3, t3, o3'⟩ := h3
  simp only [Op.eqFields, ne_eq, n1, n2, n3, not_false_eq_true, if_true, t1, t2, t3, o1', o2', o3', Sem.run_bind, Sem.run_ite, Sem.run_pure, q1, q2, q3, e1, e2, e3, Result.andThen_ok]
  by_cases g1 : b1 = c1 ∧ o1 = p1
  · by_cases g2 : b2 = c2 ∧ o2 = p2
    · by_cases g3 : n = m
      · simp [g1, g2, g3]
      · have : ((n : Int) == (m : Int)) = false := by rw [beq_eq_false_iff_ne]; omega
        simp [g1, g2, g3, this]
    · have : ¬ (b2 = c2 ∧ o2 = p2 ∧ n = m) := fun h => g2 ⟨h.1, h.2.1⟩
      simp [g1, g2, this]
  · have : ¬ (b1 = c1 ∧ o1 = p1 ∧ b2 = c2 ∧ o2 = p2 ∧ n = m) := fun h => g1 ⟨h.1, h.2.1⟩
    simp [g1, this]
def MapK (W : World) (b : Nat) (ks : List Ky) : Prop := ∃ es clock, W.heap[b]? = some (.map es clock) ∧ es.toList.map (fun e => (e.key, e.val)) = ks.map (fun k => (kyV k, Value.agg #[]))
theorem find_keys (W : World) (k : Ky) (hk : KyP W k) : ∀ (ks : List Ky) (es : List MapEntry) (i : Nat), es.map (fun e => (e.key, e.val)) = ks.map (fun k => (kyV k, Value.agg #[])) → (∀ x ∈ ks, KyP W x) →
    ∃ r, (Instr.findAsking 124 (kyV k) es i).run Tryz.prog W = .ok r W ∧ (k ∈ ks → ∃ j, r = some (j, .agg #[])) ∧ (k ∉ ks → r = none)
  | [], es, i, he, _ => by
    have : es = [] := by simpa using he
    subst this
    exact ⟨none, by simp [Instr.findAsking], fun h => absurd h (by simp), fun _ => rfl⟩
  | x :: xs, es, i, he, hp => by
    cases es with
    | nil => simp at he
    | cons e es =>
      simp only [List.map_cons, List.cons.injEq, Prod.mk.injEq] at he
      obtain ⟨⟨h1, h2⟩, h3⟩ := he
      have hx := key_eq W k x hk (hp x (by simp))
      by_cases h : k = x
      · refine ⟨some (i, e.val), ?_, fun _ => ⟨i, by rw [h2]⟩, fun hn => absurd (by simp [h]) hn⟩
        simp only [Instr.findAsking, Sem.run_bind, h1, hx, Result.andThen_ok]
        simp [h]
      · obtain ⟨r, hr, hy, hn⟩ := find_keys W k hk xs es (i + 1) h3 (fun y hy => hp y (by simp [hy]))
        refine ⟨r, ?_, fun hm => hy (by simpa [h] using hm), fun hm => hn (fun h' => hm (by simp [h']))⟩
        simp only [Instr.findAsking, Sem.run_bind, h1, hx, Result.andThen_ok]
        simp [h, hr]
theorem find_key (W : World) (k : Ky) (hk : KyP W k) (ks : List Ky) (es : List MapEntry) (he : es.map (fun e => (e.key, e.val)) = ks.map (fun k => (kyV k, Value.agg #[]))) (hp : ∀ x ∈ ks, KyP W x) :
    ∃ r, (Instr.findKey 124 (kyV k) es).run Tryz.prog W = .ok r W ∧ (k ∈ ks → ∃ j, r = some (j, .agg #[])) ∧ (k ∉ ks → r = none) := by
  have hu : Tryz.prog.underlying 124 = some (.struct (Tryz.prog.fieldsOf 124)) := by kernel_rfl
  cases ks with
  | nil =>
    have : es = [] := by simpa using he
    subst this
    refine ⟨none, ?_, fun h => absurd h (by simp), fun _ => rfl⟩
    simp [Instr.findKey, run_underlying hu, Instr.findNow]
  | cons x xs =>
    obtain ⟨r, hr, hy, hn⟩ := find_keys W k hk (x :: xs) es 0 he hp
    refine ⟨r, ?_, hy, hn⟩
    cases es with
    | nil => simp at he
    | cons e es =>
      have hnow : Instr.findNow (.struct (Tryz.prog.fieldsOf 124)) (kyV k) (e :: es) 0 = none := by
        unfold Instr.findNow kyV
        simp [Instr.sameNow]
      simp only [Instr.findKey, Sem.run_bind, run_underlying hu, Result.andThen_ok, hnow]
      exact hr
theorem check_key (W : World) (k : Ky) (b : Bool) : (Instr.checkKey b 10000 124 (kyV k)).run Tryz.prog W = .ok () W := by
  unfold kyV
  cases b <;> kernel_rfl
theorem MapK.lookup {W : World} {b : Nat} {ks : List Ky} (h : MapK W b ks) (k : Ky) (hk : KyP W k) (hp : ∀ x ∈ ks, KyP W x) :
    (Instr.lookup 118 (.map (some b)) (kyV k) true).run Tryz.prog W = .ok (.tuple #[.agg #[], .bool (decide (k ∈ ks))]) W := by
  obtain ⟨es, clock, hb, he⟩ := h
  obtain ⟨r, hr, hy, hn⟩ := find_key W k hk ks es.toList he hp
  have hu : Tryz.prog.underlying 118 = some (.map 124 121) := Tryz.underlying118
  have hz : (zeroValue 121).run Tryz.prog W = .ok (.agg #[]) W := by kernel_rfl
  have hc := check_key W k es.isEmpty
  by_cases hm : k ∈ ks
  · obtain ⟨j, rfl⟩ := hy hm
    simp [Instr.lookup, run_underlying hu, MapKept.run_getObj_map hb, hc, hr, hm]
  · rw [hn hm] at hr
    simp [Instr.lookup, run_underlying hu, MapKept.run_getObj_map hb, hc, hr, hm, hz]
theorem MapK.update {W : World} {b : Nat} {ks : List Ky} (h : MapK W b ks) (k : Ky) (hk : KyP W k) (hp : ∀ x ∈ ks, KyP W x) (hn : k ∉ ks) :
    ∃ W', (Instr.mapUpdate 118 (.map (some b)) (kyV k) (.agg #[])).run Tryz.prog W = .ok () W' ∧ MapK W' b (ks ++ [k]) ∧ W.grownBy W' (some b) := by
  obtain ⟨es, clock, hb, he⟩ := h
  obtain ⟨r, hr, _, hnn⟩ := find_key W k hk ks es.toList he hp
  have hu : Tryz.prog.underlying 118 = some (.map 124 121) := Tryz.underlying118
  have hc := check_key W k false
  rw [hnn hn] at hr
  refine ⟨ChangeMaps.setBlock W b (.map (es.push { key := kyV k, val := .agg #[], born := clock }) (clock + 1)), ?_, ⟨_, _, ChangeMaps.heap_setBlock_same hb _, by simp [he]⟩, ⟨rfl, rfl, rfl, by simp [ChangeMaps.setBlock], fun i _ hi => ChangeMaps.heap_setBlock_other hb _ (fun e => hi (by rw [e]))⟩⟩
  simp [Instr.mapUpdate, run_underlying hu, MapKept.run_getObj_map hb, hc, hr, MapKept.run_setObj_map _ hb, ChangeMaps.setBlock]
set_option maxHeartbeats 4000000 in
theorem key_any (b1 o1 b2 o2 n c1 c2 : Nat) (hn : 0 < n) (W : World) : Calls Tryz.prog 86 #[.agg #[.slice (some ⟨b1, o1, none⟩) n c1, .slice (some ⟨b2, o2, none⟩) n c2]] W fun e W' => e = .returned (kyV (b1, o1, b2, o2, n)) ∧ Q W W' := by
  have hn' : (0 : Int) < (n : Int) := by omega
  go_enter Tryz.func86, Tryz.ntmps86
  go_wp2_with fail
  go_region
  go_wp2_with fail
  refine bodyPost_ret (v := kyV (b1, o1, b2, o2, n)) (by simp [results, Tryz.results86, go_sem, kyV]) rfl ⟨rfl, ?_⟩
  repeat (first | with_reducible exact Q.refl _ | with_reducible refine Q.drewN ?_ _ | with_reducible refine Q.drew ?_ | with_reducible refine Q.alloc ?_ _ | with_reducible refine Q.setCell ?_ (by simp) _)
end Go.Proofs.YtcgddnliiondoaaGreatDoor
