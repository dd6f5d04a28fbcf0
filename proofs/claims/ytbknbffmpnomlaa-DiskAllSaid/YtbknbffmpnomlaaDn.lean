/- Cut. -/
import Derived.Test.YtbknbffmpnomlaaDm
import Derived.Deep.RegionWith
import Derived.BigQuiet
import Derived.Laws.IdiomRangeMap
namespace Go.Proofs.Ytbknbffmpnomlaa
open Go.RowKit Go.Maps
set_option linter.unusedVariables false
set_option linter.unusedSimpArgs false
variable {S S' : Nat → Prop} {w w' : World} {p : Nat} {mv : Option Nat} {n : Nat} {f : Fv} {pv : Value} {ms : List Mk} {u s : Nat}

theorem key_inv {key : Value} {kl : Lit} (h : keyOf Try.prog 9 key = some kl) : ∃ s, key = .string s ∧ s.size ≤ maxLen ∧ kl = ky s := by
  have u9 := Try.underlying9
  cases key <;> simp [keyOf, u9, mapKey] at h
  obtain ⟨h1, h2⟩ := h
  rename_i s
  refine ⟨s, rfl, ?_, ?_⟩
  · simpa [Lit.wf] using h1
  · rw [← h2]; rfl
/-- what a range is over depends on its two blocks -/
theorem rng_same {w w' : World} {b r n cnt : Nat} {D : DataW Sv} {left : Lit → Bool} (h : w.ranges Try.prog 9 rel b r n D left cnt) (hb : w'.heap[b]? = w.heap[b]?) (hr : w'.heap[r]? = w.heap[r]?) : w'.ranges Try.prog 9 rel b r n D left cnt := by
  obtain ⟨es, clock, since, seen, c0, h1, F, hs, hD, h2, rest⟩ := h
  exact ⟨es, clock, since, seen, c0, hb.trans h1, F, hs, hD, hr.trans h2, rest⟩
theorem rng_le {w : World} {b r n cnt : Nat} {D : DataW Sv} {left : Lit → Bool} (h : w.ranges Try.prog 9 rel b r n D left cnt) : cnt ≤ n := by
  obtain ⟨es, clock, since, seen, c0, h1, F, hs, hD, h2, h3, h4, rest⟩ := h
  have : (leftOf es seen).size ≤ es.size := by unfold leftOf; exact Array.size_filter_le
  omega
/-- what comes out of a map that reads so -/
theorem spec_at {D : DataW Sv} {g : ByteArray → Option Sv} (h2 : ∀ s, has D (ky s) = (g s).isSome ∧ ∀ x, g s = some x → ∀ z, D.atKey (ky s) z = .held x) {x : ByteArray} {c : Sv} (hat : ∀ z, D.atKey (ky x) z = .held c) : g x = some c := by
  cases hg : g x with
  | none =>
    exfalso
    have hh := (h2 x).1
    rw [hg] at hh
    have h1 := hat (.held ⟨none, c.n + 1, 0⟩)
    rw [atKey_of_not_has hh] at h1
    simp only [DataW.held.injEq] at h1
    have := congrArg Sv.n h1
    simp at this
  | some y =>
    have h1 := (h2 x).2 y hg (.held nl)
    rw [hat] at h1
    simp only [DataW.held.injEq] at h1
    rw [h1]
/-- the new disk while it is filled -/
structure Cp (w : World) (q b r : Nat) (F : Fs) (N : Nat) (left : Lit → Bool) (k : Nat) (W : World) : Prop where
  qq : Q w W
  ex : ∃ (S : Nat → Prop) (mv : Option Nat) (g : Fv), Dk S W q mv k g (.slice none 0 0) [] N N ∧ (∀ i, S i → w.heap.size ≤ i ∧ i < W.heap.size ∧ i ≠ b ∧ i ≠ r) ∧ ∀ s, pj g s = if left (ky s) then none else F s
theorem Cp.same {q b r N k : Nat} {F : Fs} {left : Lit → Bool} {W W' : World} (h : Cp w q b r F N left k W) (hr : w.heap.size ≤ r) (g : W.grownBy W' (some r)) : Cp w q b r F N left k W' := by
  obtain ⟨hq, S, mv, gf, h1, h2, h3⟩ := h
  refine ⟨?_, S, mv, gf, h1.keep (fun i hi => g.block i (h2 i hi).2.1 (fun e => (h2 i hi).2.2.2 (Option.some.inj e))), fun i hi => ⟨(h2 i hi).1, Nat.lt_of_lt_of_le (h2 i hi).2.1 g.size, (h2 i hi).2.2⟩, h3⟩
  exact Below.grown hq g hq.size (fun k e => by cases e; exact hr)
/-- bytes don't lie in a disk's own block -/
theorem Sb.past {W W' : World} {v : Value} {L : List UInt8} {q : Nat} {d : Option Nat} {N M : Nat} (h : Sb W v L) (hq : Bk W 50 q #[.map d, .slice none 0 0, .int .i64 N, .int .i64 M]) (hs : ∀ i, i < W.heap.size → i ≠ q → W'.heap[i]? = W.heap[i]?) : Sb W' v L := by
  obtain ⟨⟨ao, cap, hv, h1, h2, h3⟩, h4⟩ := h
  refine ⟨⟨ao, cap, hv, h1, h2, fun hl => ?_⟩, h4⟩
  obtain ⟨b, off, ha, hc⟩ := h3 hl
  refine ⟨b, off, ha, fun i hi => (hc i hi).blk (hs b ?_ ?_)⟩
  · exact World.block_lt_of_cell? W ⟨b, off + i * 1 + 0, none⟩ (hc i hi 0 _ rfl)
  · rintro rfl
    have h5 := hc i hi 0 _ rfl
    rw [cell_of_row W b _ _ _ _ hq.h] at h5
    generalize off + i * 1 + 0 = j at h5
    match j, h5 with
    | 0, h5 => simp at h5
    | 1, h5 => simp at h5
    | 2, h5 => simp at h5
    | 3, h5 => simp at h5
    | (j + 4), h5 => simp at h5
/-- an entry -/
theorem Cp.more {q b r N k : Nat} {F : Fs} {left : Lit → Bool} {W W4 W5 : World} (h : Cp w q b r F N left k W) {S4 : Nat → Prop} {mv4 mv5 : Option Nat} {g4 : Fv} {x : ByteArray} {v : Sv} {L : List UInt8} (hF : F x = some L)
    (h4 : Dk S4 W q mv4 k g4 (.slice none 0 0) [] N N) (h5 : ∀ i, S4 i → w.heap.size ≤ i ∧ i < W.heap.size ∧ i ≠ b ∧ i ≠ r) (h6 : ∀ s, pj g4 s = if left (ky s) then none else F s) (hq4 : Q W W4) (hb : b < W.heap.size) (hr : r < W.heap.size)
    (hd : Dk (New (New S4 W W4) W4 W5) W5 q mv5 (k + 1) (upd g4 x (some (v, L))) (.slice none 0 0) [] N N) (hq5 : Qp (New S4 W W4) W4 W5) : Cp w q b r F N (fun z => left z && !z.sameKey (ky x)) (k + 1) W5 := by
  have hsz4 := hq4.size
  have hsz5 := hq5.size
  have hsz := h.qq.size
  refine ⟨?_, _, mv5, _, hd, fun i hi => ?_, fun s => ?_⟩
  · exact q_qp (h.qq.trans (Q.trans (Q.refl W) hq4)) hq5 (fun i hi => by
      rcases hi with hi | hi
      · exact (h5 i hi).1
      · omega)
  · rcases hi with (hi | hi) | hi
    · have := h5 i hi
      exact ⟨this.1, by omega, this.2.2⟩
    · exact ⟨by omega, by omega, by omega, by omega⟩
    · exact ⟨by omega, by omega, by omega, by omega⟩
  · have e : pj (upd g4 x (some (v, L))) s = upd (pj g4) x (some L) s := by
      have := congrFun (upd_map (fun y : Sv × List UInt8 => y.2) g4 x (some (v, L))) s
      exact this
    rw [e]
    by_cases hx : s = x
    · subst hx
      rw [upd_same]
      have : (ky s).sameKey (ky s) = true := by
        have := WideAt.sameKey_self (key_lit s)
        exact this
      simp [this, hF]
    · rw [upd_other _ _ hx, h6 s]
      have : (ky s).sameKey (ky x) = false := sameKey_ne (fun e => hx (ky_inj e))
      simp [this]
theorem wpl_range {ops : Array Oper} {rest : List Oper} {o : Oper} {a : Act} {K : Exit → Act → World → Prop} (hg : o.guard = none) (m : Operand) (hop : o.op = Op.range 47 m) (mv : Option Nat) (n : Nat) (g : ByteArray → Option Sv) (hm : a.eval m = .map mv) (h : Mv w mv n g)
    (hN : mv = none → wpList Try.prog ops K rest (a.put o.dst (.pointer (some ⟨w.heap.size, 0, none⟩))) (w.alloc (.mapIter none 0 #[] 0)))
    (hK : ∀ b D w', mv = some b → (∀ s, has D (ky s) = (g s).isSome ∧ ∀ x, g s = some x → ∀ z, D.atKey (ky s) z = .held x) → w'.ranges Try.prog 9 rel b w.heap.size n D (has D) (size D) → w.grownBy w' none → w'.heap.size = w.heap.size + 1 →
      wpList Try.prog ops K rest (a.put o.dst (.pointer (some ⟨w.heap.size, 0, none⟩))) w') : wpList Try.prog ops K (o :: rest) a w := by
  cases mv with
  | none =>
    refine wpList_plain hg fun K' hK' => ?_
    have hr := run_range_nilMap (P := Try.prog) w 47 _ _ Try.underlying47
    unfold Oper.wp
    simp [execOp, hop, hm, hr, Result.andThen]
    exact hK' _ _ (hN rfl)
  | some b =>
    obtain ⟨D, h1, h2⟩ := h
    exact wpList_range_own w hg m 47 hop 9 30 law Try.underlying47 rel b n D hm h1 (fun w' r1 r2 r3 => hK b D w' rfl h2 r1 r2 r3)
/-- the loop's step: nothing is left -/
structure Nn (g : Lit → Bool) : Prop where
  h : ∀ kl, g kl = false
/-- .. or an entry -/
structure Nx (w w' : World) (b r n cnt cnt' : Nat) (D : DataW Sv) (left : Lit → Bool) (x : ByteArray) (c : Sv) : Prop where
  sz : x.size ≤ maxLen
  lt : left (ky x) = true
  ha : ∀ z, D.atKey (ky x) z = .held c
  rg : w'.ranges Try.prog 9 rel b r n D (fun z => left z && !z.sameKey (ky x)) cnt'
  ls : cnt' < cnt
  gr : w.grownBy w' (some r)
  hs : w'.heap.size = w.heap.size
theorem wpl_next {ops : Array Oper} {rest : List Oper} {o : Oper} {a : Act} {K : Exit → Act → World → Prop} (hg : o.guard = none) (it : Operand) (hop : o.op = Op.next it false) (b r n : Nat) (D : DataW Sv) (left : Lit → Bool) (cnt : Nat)
    (hit : a.eval it = .pointer (some ⟨r, 0, none⟩)) (h : w.ranges Try.prog 9 rel b r n D left cnt)
    (hDone : Nn left → wpList Try.prog ops K rest (a.put o.dst (.tuple #[.bool false])) w)
    (hMore : ∀ (x : ByteArray) (ca : Option Addr) (cn cc : Nat) (w' : World) (cnt' : Nat), Nx w w' b r n cnt cnt' D left x ⟨ca, cn, cc⟩ → (Instr.entry (.pointer (some ⟨r, 0, none⟩))).run Try.prog w' = .ok (.tuple #[.string x, .slice ca cn cc]) w' → wpList Try.prog ops K rest (a.put o.dst (.tuple #[.bool true, .string x, .slice ca cn cc])) w') : wpList Try.prog ops K (o :: rest) a w := by
  refine wpList_next_ranges (α := ByteArray) (β := Sv) w hg it hop 9 law rel Value.string sv (fun key kl hk => ?_) (fun v y hv => ?_) b r n D left cnt hit h (fun _ h2 => hDone ⟨h2⟩) (fun x c kl y w' cnt' h1 h2 h3 h4 h5 h6 h7 h8 h9 => ?_)
  · obtain ⟨s, hs, _⟩ := key_inv hk
    exact ⟨s, hs⟩
  · obtain ⟨x, hx, _⟩ := rel_inv hv
    exact ⟨x, hx⟩
  · obtain ⟨s, hs, h10, h11⟩ := key_inv h1
    cases hs
    subst h11
    rw [rel_sv] at h3
    cases h3
    exact hMore x c.a c.n c.c w' cnt' ⟨h10, h2, h4, h5, h6, h7, h8⟩ h9
theorem dk_fresh {W : World} {q N : Nat} (h : Bk W 50 q #[.map none, .slice none 0 0, .int .i64 N, .int .i64 N]) : Dk (fun i => i = q) W q none 0 (fun _ => none) (.slice none 0 0) [] N N :=
  ⟨h, fun _ => rfl, own_nil W, fun x v L e => (by cases e), fun m hm => (by cases hm), fun x y v L v' L' g _ e => (by cases e), fun m hm => (by cases hm), rfl, fun b e => (by cases e), fun g e => (by cases e), fun x v L g e => (by cases e), fun m hm => (by cases hm), fun _ m hm => (by cases hm)⟩
set_option maxRecDepth 100000 in
set_option maxHeartbeats 4000000 in
theorem cut_any {P : Pd} (h : Ds S w p n P) (hl : Lt S w) (hwf : Wf P) (m : Int) (hm1 : -9223372036854775808 ≤ m) (hm2 : m ≤ 9223372036854775807) (hms : P.ms.length ≤ 10000) (hn : n ≤ 10000) (hu : P.u ≤ 1000000000) (hL : ∀ x, (gd P.f x).length ≤ 1000000000) (hM : ∀ m ∈ P.ms, m.L.length ≤ 1000000000) :
    Calls Try.prog 15 #[.pointer (some ⟨p, 0, none⟩), .int .i64 m] w fun e W' => ∃ q n', e = .returned (.pointer (some ⟨q, 0, none⟩)) ∧ Ds (fun i => w.heap.size ≤ i ∧ i < W'.heap.size) W' q n' (P.cut m) ∧ n' ≤ n + P.ms.length + 1 ∧ Q w W' := by
  obtain ⟨mv, f, pv, ms, H0, H2, H3⟩ := id h
  have c2 : w.cell? ⟨p, 2, none⟩ = some (.int .i64 P.u) := H0.blk.c 2 _ rfl
  have c3 : w.cell? ⟨p, 3, none⟩ = some (.int .i64 P.s) := H0.blk.c 3 _ rfl
  have H := hid h
  clear H0 H2 H3 h
  go_enter Try.func15, Try.ntmps15
  go_upto_region 3 with fail
  go_quiet (fail)
  rename_i nq
  go_upto_region 5 with fail
  have hN : min (max m (P.s : Int)) (P.u : Int) = ((P.near m : Nat) : Int) := by unfold Pd.near; omega
  have hNu : P.near m ≤ P.u := by unfold Pd.near; omega
  rw [hN]
  have hlt := hl
  have q1 : Q w ((w.drewN nq).alloc (.cells #[.map none, .slice none 0 0, .int .i64 (P.near m), .int .i64 (P.near m)] 50)) := ((Q.refl w).drewN nq).alloc _
  have hB1 : Bk ((w.drewN nq).alloc (.cells #[.map none, .slice none 0 0, .int .i64 (P.near m), .int .i64 (P.near m)] 50)) 50 w.heap.size #[.map none, .slice none 0 0, .int .i64 (P.near m), .int .i64 (P.near m)] := by
    have := bk_new (w.drewN nq) 50 #[.map none, .slice none 0 0, .int .i64 (P.near m), .int .i64 (P.near m)]
    simpa using this
  have hs1 : ((w.drewN nq).alloc (.cells #[.map none, .slice none 0 0, .int .i64 (P.near m), .int .i64 (P.near m)] 50)).heap.size = w.heap.size + 1 := by simp
  generalize ((w.drewN nq).alloc (.cells #[.map none, .slice none 0 0, .int .i64 (P.near m), .int .i64 (P.near m)] 50)) = w1 at q1 hB1 hs1 ⊢
  have HB1 := hid hB1
  have Q1 := hid q1
  have HS1 := hid hs1
  have HFA := hid (files_any (H.out.on hl q1) (fun i hi => Nat.lt_of_lt_of_le (hl i hi) q1.size) hwf (P.near m) hNu hms hn hu hL hM)
  have hqs : Q w w1 := q1
  clear q1 hB1 hs1
  go_wp2_with (first
    | (go_at_call 22; refine HFA.out.mono ?_; rintro e9 w2 ⟨mv2, f2, n2, rfl, hm2, hn2, hr2, hp2, hq2, hb2⟩; have HM2 := hid hm2; have HR2 := hid hr2; have HP2 := hid hp2; have Q2 := hid hq2; have HL2 := hid hb2; clear hm2 hr2 hp2 hq2 hb2 HFA)
    | (at_range; refine wpl_range rfl _ rfl mv2 n2 (sj f2) rfl HM2.out ?_ ?_))
  · intro e
    subst e
    have hnx := fun ty => run_next_nilMap (P := Try.prog) w2 ty 0 0 #[]
    have qa : Q w1 (w2.alloc (.mapIter none 0 #[] 0)) := Q2.out.alloc _
    have HD := hid (dk_fresh (HB1.out.on qa))
    have HQ := hid (Q.trans Q1.out qa)
    have hs2 := Q2.out.size
    have HS := hid (show w.heap.size < (w2.alloc (.mapIter none 0 #[] 0)).heap.size by have := HS1.out; have := Q2.out.size; simp; omega)
    go_wp2_with fail
    refine wp_loop_rounds 1 ?_
    rw [rounds_succ]
    go_wp2
    go_ret
    refine ⟨w.heap.size, 0, rfl, ⟨_, _, _, _, HD.out.more (fun i hi => ?_), ?_, rfl⟩, by omega, HQ.out⟩
    · subst hi
      exact ⟨Nat.le_refl _, HS.out⟩
    · have hn : ∀ s, sj f2 s = none := HM2.out
      show (fun x => Option.map (fun x : Sv × List UInt8 => x.2) none) = P.at (P.near m)
      rw [← HP2.out]
      funext s
      have := hn s
      unfold sj at this
      unfold pj
      cases hf : f2 s with
      | none => rfl
      | some y => rw [hf] at this; cases this
  · intro b D w3 e hD hrg hgr hsz
    subst e
    have HRG := hid hrg
    have HGR := hid hgr
    have HSZ := hid hsz
    have HDD := hid hD
    have hs0 := HS1.out
    have hs12 := Q2.out.size
    have hblt := hrg.owns.lt
    have hbge := HL2.out b rfl
    have hne := hrg.ne
    have Q3 : Hid (Q w1 w3) := hid (q_of_grown Q2.out hgr)
    have HC : Hid (Cp w w.heap.size b w2.heap.size (pj f2) (P.near m) (has D) 0 w3) := hid ⟨Q.trans hqs Q3.out, fun i => i = w.heap.size, none, fun _ => none, dk_fresh (HB1.out.on Q3.out), fun i hi => ⟨by omega, by omega, by omega, by omega⟩, fun s => by
      show none = _
      have := (hD s).1
      rw [this]
      unfold sj pj
      cases f2 s <;> rfl⟩
    clear hrg hgr hsz hD hne
    go_wp2_with fail
    go_loopw [6] (fun _ wr => ∃ left cnt k, wr.ranges Try.prog 9 rel b w2.heap.size n2 D left cnt ∧ Cp w w.heap.size b w2.heap.size (pj f2) (P.near m) left k wr ∧ k + cnt ≤ n + P.ms.length + 1 ∧ w2.heap.size < wr.heap.size ∧ Qp (fun i => i = w.heap.size) w1 wr) (fun _ wr => wr.rangeLeft b w2.heap.size)
    case atStart => exact ⟨has D, size D, 0, HRG.out, HC.out, by have := rng_le HRG.out; omega, by have := HSZ.out; omega, Qp.of Q3.out⟩
    case round =>
      obtain ⟨left, cnt, k, hrg, hcp, hkc, hsz, hq1⟩ := hrel
      have HRG5 := hid hrg
      have HCP := hid hcp
      have HKC := hid hkc
      have HSZ5 := hid hsz
      have HQ5 := hid hq1
      clear hrg hcp hkc hsz hq1
      go_wp2_with (at_next; refine wpl_next rfl _ rfl b w2.heap.size n2 D left cnt rfl HRG5.out ?_ ?_)
      · intro hnn
        have HNN := hid hnn
        clear hnn
        go_wp2_with fail
        go_ret
        obtain ⟨hqq, S5, mv5, g5, h1, h2, h3⟩ := HCP.out
        refine ⟨w.heap.size, k, rfl, ⟨_, _, _, _, h1.more (fun i hi => ⟨(h2 i hi).1, (h2 i hi).2.1⟩), ?_, rfl⟩, by have := HKC.out; omega, hqq⟩
        show (fun x => (g5 x).map (·.2)) = P.at (P.near m)
        rw [← HP2.out]
        funext s
        have := h3 s
        rw [HNN.out.h] at this
        simp only [Bool.false_eq_true, if_false] at this
        exact this
      · intro x ca cn cc w4 cnt4 hnx hen
        have HNX := hid hnx
        have hsp := spec_at HDD.out hnx.ha
        obtain ⟨L, hL2⟩ : ∃ L, f2 x = some (⟨ca, cn, cc⟩, L) := by
          unfold sj at hsp
          cases hf : f2 x with
          | none => rw [hf] at hsp; cases hsp
          | some y =>
            rw [hf] at hsp
            obtain ⟨y1, y2⟩ := y
            cases hsp
            exact ⟨y2, rfl⟩
        have HFX : Hid (f2 x = some (⟨ca, cn, cc⟩, L)) := hid hL2
        clear hsp hnx
        have HQ4 : Hid (Qp (fun i => i = w.heap.size) w1 w4) := hid (HQ5.out.grown HNX.out.gr (fun k e => by cases e; exact .inr Q2.out.size))
        have hcl := clone_any (.slice ca cn cc) L w4 ((HR2.out x _ L hL2).1.past HB1.out (fun i hi hne => HQ4.out.block i hi hne)) (by have := (HR2.out x _ L hL2).2; omega)
        have HCL := hid hcl
        clear hcl hL2
        go_upto_region 8 with fail
        have hcp4 := HCP.out.same (by have := HS1.out; have := Q2.out.size; omega) HNX.out.gr
        obtain ⟨hqq4, S4, mv4, g4, h1, h2, h3⟩ := id hcp4
        have HCP4 := hid hcp4
        have H1 := hid h1
        have H2 := hid h2
        have H3 := hid h3
        have hl4 : Lt S4 w4 := fun i hi => (h2 i hi).2.1
        have HB4 : Hid (b < w4.heap.size ∧ w2.heap.size < w4.heap.size) := hid ⟨HNX.out.rg.owns.lt, HNX.out.rg.lt⟩
        clear hqq4 h1 h2 h3 hcp4
        go_wp2_with (first
          | (go_at_call 23; refine HCL.out.mono ?_; rintro e9 w5 ⟨v5, rfl, ho5, hq5⟩
             obtain ⟨⟨xa, xn, xc⟩, rfl⟩ := own_sv ho5
             have HO5 := hid ho5; have Q5 := hid hq5; clear ho5 hq5 HCL
             have HPA := hid (put_any ((H1.out.on hl4 Q5.out).more (S' := New S4 w4 w5) (fun i hi => .inl hi)) (hl4.new Q5.out.size) x HNX.out.sz xa xn xc L ⟨HO5.out.mono (Nat.zero_le _), fun y v' L' g hy he g1 g2 => (by
               have a1 := HO5.out.blk g g1
               have a2 := hl4 _ (H1.out.sfl y v' L' g he g2)
               omega), fun m hm => (by cases hm)⟩ (fun g hg => .inr ⟨HO5.out.blk g hg, HO5.out.lt g hg⟩) (by have := HKC.out; omega))
             unfold sv)
          | (go_at_call 21; refine HPA.out.mono ?_; rintro e9 w6 ⟨⟨v9, rfl⟩, mv6, hd6, hq6⟩; have HD6 := hid hd6; have Q6 := hid hq6; clear hd6 hq6 HPA))
        have hb4 := HB4.out
        have hnew : ∀ i, i < w4.heap.size → ¬ S4 i → ¬ New S4 w4 w5 i := fun i hi hn hp => by
          rcases hp with hp | hp
          · exact hn hp
          · omega
        have hsame : ∀ i, i < w4.heap.size → ¬ S4 i → w6.heap[i]? = w4.heap[i]? := fun i hi hn => (Q6.out.block i (Nat.lt_of_lt_of_le hi Q5.out.size) (hnew i hi hn)).trans (Q5.out.block hi)
        have HRG6 := hid (rng_same HNX.out.rg (hsame b hb4.1 (fun h => (H2.out b h).2.2.1 rfl)) (hsame _ hb4.2 (fun h => (H2.out _ h).2.2.2 rfl)))
        have hcm := HCP4.out.more (x := x) (by unfold pj; rw [HFX.out]; rfl) H1.out H2.out H3.out Q5.out hb4.1 hb4.2 HD6.out Q6.out
        have HCM := hid hcm
        have HQ6 : Hid (Qp (fun i => i = w.heap.size) w1 w6) := hid ((HQ4.out.trans (Qp.of Q5.out)).after Q6.out (fun i hi hp => (by
          have a1 := HQ4.out.size
          have a2 := HS1.out
          rcases hp with hp | hp
          · have := (H2.out i hp).1
            omega
          · omega)))
        clear hb4 hnew hsame hcm
        go_roundw
        case rel => exact ⟨_, cnt4, k + 1, HRG6.out, HCM.out, by have := HKC.out; have := HNX.out.ls; omega, by have := HRG6.out.lt; exact this, HQ6.out⟩
        case measure => rw [HRG6.out.left_eq, HRG5.out.left_eq]; exact HNX.out.ls
end Go.Proofs.Ytbknbffmpnomlaa
