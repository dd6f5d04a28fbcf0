/- What the lists of the other th. -/
import Derived.Test.YtoikodohcieipaaGreatDoorKe19
import Derived.ChangeOld
import Derived.Test.YtoikodohcieipaaGreatDoorKe08
import Derived.Test.YtoikodohcieipaaGreatDoorKe21
import Derived.Test.YtoikodohcieipaaGreatDoorKe22
import Derived.Test.YtoikodohcieipaaGreatDoorKe23
import Derived.Laws.EntriesVeiled
set_option linter.unusedVariables false
set_option linter.unusedSimpArgs false
set_option maxRecDepth 100000
set_option maxHeartbeats 8000000
namespace Go.Proofs.YtoikodohcieipaaGreatDoor
open Go.ChangeShapes Go.WideShapes Go.ChangeAt Go.RowKit
set_option maxRecDepth 100000
set_option linter.unusedVariables false
theorem laid_plain_rewriteElsewhereUpto : (Rows.rewriteElsewhereUptoRow.laid.all fun x => x.2.handleName?.isNone) = true := by kernel_rfl
theorem gd_rewriteElsewhereUpto {W : World} (hL : laidMetH Tryz.prog Rows.rewriteElsewhereUptoRow.laid W) (hsh : W.ShapedOpen Tryz.prog) : Gd W := by
  rw [MakeChecks.laidMetH_plain _ _ _ laid_plain_rewriteElsewhereUpto] at hL
  refine ⟨std_reads (Lib.laidMet.reads hL ?_) (Lib.laidMet.reads hL ?_) (Lib.laidMet.reads hL ?_) (Lib.laidMet.reads hL ?_) hsh, fun W' q => tab_on (tab_reads (Lib.laidMet.reads hL ?_)) q⟩
  · rw [← laid_nam]
    exact .tail _ (.tail _ (.tail _ (.tail _ (.head _))))
  · rw [← laid_first]
    exact .tail _ (.tail _ (.tail _ (.tail _ (.tail _ (.head _)))))
  · rw [← laid_accept]
    exact .tail _ (.tail _ (.tail _ (.head _)))
  · exact .tail _ (.head _)
  · rw [← laid_pow]
    exact .tail _ (.tail _ (.head _))
theorem laid_met_rewriteElsewhereUpto (os : Os) (args : Array Value) : laidMetH Tryz.prog Rows.rewriteElsewhereUptoRow.laid ((lay (World.holding Tryz.prog os ⟨#[], #[], []⟩)).forCall (fun _ _ => 0) ⟨#[], args, []⟩).memory := by
  rw [MakeChecks.laidMetH_plain _ _ _ laid_plain_rewriteElsewhereUpto]
  exact laidMet_of_run' 8 (by kernel_rfl) (by kernel_rfl)
end Go.Proofs.YtoikodohcieipaaGreatDoor
namespace Go.Proofs.YtoikodohcieipaaGreatDoor
open Go.ChangeShapes Go.WideShapes Go.ChangeAt Go.RowKit
theorem cells28r : Tryz.prog.cellsOf 28 = 3 := by kernel_rfl
theorem open_cells {H : Type} {enc : TypeId × Value → H} {W : World} {sp : Nat → Bool} {held : Bool} {fuel base : Nat} {cs : List Value} {x : DataW H × List MemPlace}
    (h : DataW.trod enc Tryz.prog W base sp held fuel 28 cs = some x) :
    ∃ (k a t : Int), cs = [.int .i64 k, .int .i64 a, .int .i64 t] ∧ (Lit.int .i64 k).wf = true ∧ (Lit.int .i64 a).wf = true ∧ (Lit.int .i64 t).wf = true := by
  obtain ⟨xs, m, _, _, hl, hlen, hf⟩ := DataW.trod_struct Tryz.underlying28 h
  rw [cells28r] at hl
  have hlen' : xs.length = 3 := hlen
  match cs, hl with
  | [v0, v1, v2], _ =>
    have g0 := hf 0 _ rfl
    have g1 := hf 1 _ rfl
    have g2 := hf 2 _ rfl
    match xs, hlen' with
    | [y0, y1, y2], _ =>
      obtain ⟨k, e0, _, wk⟩ := DataW.trod_int Tryz.underlying3 g0
      obtain ⟨a, e1, _, wa⟩ := DataW.trod_int Tryz.underlying2 g1
      obtain ⟨t, e2, _, wt⟩ := DataW.trod_int Tryz.underlying2 g2
      refine ⟨k, a, t, ?_, wk, wa, wt⟩
      have f0 : v0 = .int .i64 k := by
        have : [v0] = [.int .i64 k] := e0
        exact (List.cons.inj this).1
      have f1 : v1 = .int .i64 a := by
        have : [v1] = [.int .i64 a] := e1
        exact (List.cons.inj this).1
      have f2 : v2 = .int .i64 t := by
        have : [v2] = [.int .i64 t] := e2
        exact (List.cons.inj this).1
      rw [f0, f1, f2]
theorem open_line {H : Type} {enc : TypeId × Value → H} {W : World} {sp : Nat → Bool} {held : Bool} {base base' : Nat} {v : Value} {d : DataW H} {p : List MemPlace} {r : Reach}
    (hv : Value.okWide Tryz.prog W r base' 28 v) (h : DataW.Trod enc Tryz.prog W base sp held 28 v d p) :
    ∃ (k a t : Int), v = .agg #[.int .i64 k, .int .i64 a, .int .i64 t] ∧ (Lit.int .i64 k).wf = true ∧ (Lit.int .i64 a).wf = true ∧ (Lit.int .i64 t).wf = true := by
  obtain ⟨cs, rfl, hsz⟩ := okWide_struct Tryz.underlying28 hv
  obtain ⟨fuel, hf⟩ := h
  have hf' : DataW.trod enc Tryz.prog W base sp held fuel 28 cs.toList = some (d, p) := hf
  obtain ⟨k, a, t, hcs, w1, w2, w3⟩ := open_cells hf'
  refine ⟨k, a, t, ?_, w1, w2, w3⟩
  congr 1
  exact Array.ext' hcs
end Go.Proofs.YtoikodohcieipaaGreatDoor
namespace Go.Proofs.YtoikodohcieipaaGreatDoor
open Go.RowKit
structure WLI (W0 : World) (s mb : Nat) (w : World) (S : List Od) (T : List (List Ex × List Ex)) (es : List (Pk × S3)) (v : Value) : Prop where
  q : Qp (fun i => W0.heap.size ≤ i) W0 w
  sc : ScA w W0.heap.size s mb (.func (.func 68) #[] #[]) v es S.reverse
  st : Stk W0 none S T
  ei : EsI W0 es S
  nb : ∀ t ∈ T, nodes.nodesL (t.1 ++ t.2) ≤ 1000
  wb : ∀ t ∈ T, wt.wtL (t.1 ++ t.2) ≤ 2147483647
theorem Stk.len {W0 : World} : ∀ {S : List Od} {T : List (List Ex × List Ex)} {ks : List Ex}, Stk W0 (some ks) S T → (∀ t ∈ T, nodes.nodesL (t.1 ++ t.2) ≤ 1000) → nodes.nodesL ks ≤ 1000 → S.length + nodes.nodesL ks ≤ 1000
  | [], _, _, _, _, hk => by simpa using hk
  | x :: S, [], _, h, _, _ => by cases h
  | x :: S, (ds, ys) :: T, ks, h, hn, hk => by
    obtain ⟨h1, h2⟩ := h
    obtain ⟨d, z, e1, e2, _⟩ := h1.so ks rfl
    have hl : nodes.nodesL ks < nodes.nodesL (ds ++ ys) := by
      rw [← e2, e1, List.append_assoc]
      exact kd_less
    have := Stk.len h2 (fun t ht => hn t (List.mem_cons_of_mem _ ht)) (hn (ds, ys) (List.mem_cons_self ..))
    rw [List.length_cons]
    omega
theorem put_some {es : List (Pk × S3)} {k k' : Pk} {x : S3} (h : (getS es k').isSome = true) : (getS (putS es k x) k').isSome = true := by
  rw [get_put]
  split
  · rfl
  · exact h
theorem WLI.slen {W0 : World} {s mb : Nat} {w : World} {x : Od} {S : List Od} {ds ys : List Ex} {T : List (List Ex × List Ex)} {es : List (Pk × S3)} {v : Value} (h : WLI W0 s mb w (x :: S) ((ds, ys) :: T) es v) : S.length ≤ 1000 := by
  have := Stk.len h.st.2 (fun t ht => h.nb t (List.mem_cons_of_mem _ ht)) (h.nb (ds, ys) (List.mem_cons_self ..))
  omega
theorem step_nil (W0 : World) (s mb : Nat) (w : World) (x : Od) (S : List Od) (ds : List Ex) (T : List (List Ex × List Ex)) (es : List (Pk × S3)) (v : Value) (h : WLI W0 s mb w (x :: S) ((ds, []) :: T) es v) :
    Calls Tryz.prog 62 #[.pointer (some ⟨s, 0, none⟩)] w fun e W' => (∃ u, e = .returned u) ∧ ∃ S' T' es' v', WLI W0 s mb W' S' T' es' v' ∧ ms T' < ms ((ds, []) :: T) ∧ ∀ k, (getS es k).isSome = true → (getS es' k).isSome = true := by
  obtain ⟨⟨b, o, n⟩, rv, t⟩ := x
  have ho := h.st.1
  obtain ⟨ra, rc, hrv, _⟩ := ho.rs
  simp only [List.length_nil] at hrv
  subst hrv
  have ht : t = wt.wtL ds := ho.no rfl
  have hsc := h.sc
  rw [List.reverse_cons] at hsc
  have hpl : Pl w b := ho.pl.blk (h.q.block b ho.pl.lt (by have := ho.pl.lt; simp only at this; omega))
  have hat := ho.at_
  have hln := ho.ln
  rw [List.append_nil] at hat hln
  have hfr : ∀ y ∈ S, y.1 ≠ (b, o, n) := by
    intro y hy e
    obtain ⟨xs, a1, a2, a3⟩ := Stk.less h.st.2 y hy
    rw [List.append_nil] at a3
    have := rdl_det (l := ds) (l' := xs) (b := b) (off := o) (by rw [a2, e]; exact hln) hat (by rw [e] at a1; exact a1)
    rw [this] at a3
    omega
  refine (step_end W0.heap.size s mb _ v es S.reverse b o n ra rc t w hsc 0 (h.ei.op _ (List.mem_cons_self ..)) hpl ho.pl.lt (by rw [List.length_reverse]; have := h.slen; omega) (by rw [ht]; exact wtL_pos ds) ?_).mono ?_
  · intro M y hM
    have hS : S = y :: M.reverse := by have := congrArg List.reverse hM; simpa using this
    subst hS
    cases T with
    | nil => exact absurd h.st.2 (by simp [Stk])
    | cons t2 T =>
      obtain ⟨d2, y2⟩ := t2
      obtain ⟨d, z, e1, e2, e3⟩ := h.st.2.1.so _ rfl
      have hw := h.wb (d2, y2) (by simp)
      simp only at hw
      rw [e1, wtL_app, wtL_app, wtL_cons, wtL_nil, wt_own, e2, List.append_nil] at hw
      have := wtL_pos d
      have := wtL_pos y2
      have := own1_pos z
      rw [e3, ht]
      omega
  · rintro e W' ⟨hu, hq, v', hv⟩
    refine ⟨hu, ?_⟩
    have q' := h.q.trans hq
    have ei' : EsI W0 (putS es (b, o, n) (t, true, false)) S := by rw [ht]; exact h.ei.ended hat hln hfr
    rcases hv with ⟨hS, hsc'⟩ | ⟨M, y, hM, hsc'⟩
    · have hS' : S = [] := by simpa using hS
      subst hS'
      cases T with
      | cons t2 T => exact absurd h.st.2 (by simp [Stk])
      | nil => exact ⟨[], [], _, v', ⟨q', hsc', trivial, ei', by simp, by simp⟩, by simp [ms], fun k hk => put_some hk⟩
    · have hS : S = y :: M.reverse := by have := congrArg List.reverse hM; simpa using this
      subst hS
      cases T with
      | nil => exact absurd h.st.2 (by simp [Stk])
      | cons t2 T =>
        obtain ⟨d2, y2⟩ := t2
        obtain ⟨d, z, e1, e2, e3⟩ := h.st.2.1.so _ rfl
        have hp := h.st.2.1
        refine ⟨(y.1, y.2.1, y.2.2 + t) :: M.reverse, (d2, y2) :: T, _, v', ⟨q', by rw [List.reverse_cons, List.reverse_reverse]; exact hsc', ⟨⟨hp.at_, hp.ln, hp.pl, hp.rs, fun _ => ?_, fun _ e => by cases e⟩, h.st.2.2⟩, ei'.same rfl, fun t ht => h.nb t (List.mem_cons_of_mem _ ht), fun t ht => h.wb t (List.mem_cons_of_mem _ ht)⟩, by simp only [ms]; omega, fun k hk => put_some hk⟩
        show y.2.2 + t = _
        rw [e3, ht, e1, wtL_app, wtL_cons, wtL_nil, wt_own, e2, List.append_nil]
        omega
theorem app_one (ds ys : List Ex) (z : Ex) : (ds ++ [z]) ++ ys = ds ++ z :: ys := by rw [List.append_assoc]; rfl
theorem WLI.next {W0 : World} {s mb : Nat} {w W' : World} {k : Pk} {rv : Value} {t : Int} {S : List Od} {ds ys : List Ex} {z : Ex} {T : List (List Ex × List Ex)} {es : List (Pk × S3)} {v : Value} (h : WLI W0 s mb w ((k, rv, t) :: S) ((ds, z :: ys) :: T) es v) {nr v' : Value} {t' : Int} (q : Qp (fun i => W0.heap.size ≤ i) w W') (hn : TL W0 nr ys) (ht : t' = t + own1 z + wt.wtL (kd z)) (sc : ScA W' W0.heap.size s mb (.func (.func 68) #[] #[]) v' es (S.reverse ++ [(k, nr, t')])) : WLI W0 s mb W' ((k, nr, t') :: S) ((ds ++ [z], ys) :: T) es v' ∧ ms ((ds ++ [z], ys) :: T) < ms ((ds, z :: ys) :: T) := by
  have ho := h.st.1
  have hno : t = wt.wtL ds := ho.no rfl
  refine ⟨⟨h.q.trans q, by rw [List.reverse_cons]; exact sc, ⟨⟨?_, ?_, ho.pl, hn, fun _ => ?_, fun _ e => by cases e⟩, ?_⟩, h.ei.same rfl, ?_, ?_⟩, ?_⟩
  · rw [app_one]; exact ho.at_
  · rw [app_one]; exact ho.ln
  · show t' = _
    rw [ht, hno, wtL_app, wtL_cons, wtL_nil, wt_own]
    omega
  · rw [app_one]; exact h.st.2
  · intro u hu
    rcases List.mem_cons.1 hu with rfl | hu
    · simp only; rw [app_one]; exact h.nb (ds, z :: ys) (List.mem_cons_self ..)
    · exact h.nb u (List.mem_cons_of_mem _ hu)
  · intro u hu
    rcases List.mem_cons.1 hu with rfl | hu
    · simp only; rw [app_one]; exact h.wb (ds, z :: ys) (List.mem_cons_self ..)
    · exact h.wb u (List.mem_cons_of_mem _ hu)
  · simp only [ms]
    rw [nl_cons, nl_kd]
    omega
theorem WLI.down {W0 : World} {s mb : Nat} {w W' : World} {k : Pk} {rv : Value} {t : Int} {S : List Od} {ds ys : List Ex} {z : Ex} {T : List (List Ex × List Ex)} {es : List (Pk × S3)} {v : Value} (h : WLI W0 s mb w ((k, rv, t) :: S) ((ds, z :: ys) :: T) es v) {nr v' kv : Value} {t' : Int} {k' : Pk} (q : Qp (fun i => W0.heap.size ≤ i) w W') (hn : TL W0 nr ys) (ht : t' = t + own1 z) (hk : TL W0 kv (kd z)) (hp : Pl W0 k'.1) (hr : Rd.RdL W0 (kd z) k'.1 k'.2.1) (hl : (kd z).length = k'.2.2)
    (sc : ScA W' W0.heap.size s mb (.func (.func 68) #[] #[]) v' (putS es k' (0, false, false)) ((S.reverse ++ [(k, nr, t')]) ++ [(k', kv, 0)])) : WLI W0 s mb W' ((k', kv, 0) :: (k, nr, t') :: S) (([], kd z) :: (ds ++ [z], ys) :: T) (putS es k' (0, false, false)) v' ∧ ms (([], kd z) :: (ds ++ [z], ys) :: T) < ms ((ds, z :: ys) :: T) := by
  have ho := h.st.1
  have hno : t = wt.wtL ds := ho.no rfl
  have hnb := h.nb (ds, z :: ys) (List.mem_cons_self ..)
  have hwb := h.wb (ds, z :: ys) (List.mem_cons_self ..)
  simp only at hnb hwb
  refine ⟨⟨h.q.trans q, by rw [List.reverse_cons, List.reverse_cons]; exact sc, ⟨⟨by rw [List.nil_append]; exact hr, by rw [List.nil_append]; exact hl, hp, hk, fun _ => by rw [wtL_nil], fun _ e => by cases e⟩, ⟨⟨?_, ?_, ho.pl, hn, fun e => (by cases e), fun ks e => ?_⟩, ?_⟩⟩, (h.ei.same (x' := (k, nr, t')) rfl).begun (k', kv, 0), ?_, ?_⟩, ?_⟩
  · rw [app_one]; exact ho.at_
  · rw [app_one]; exact ho.ln
  · obtain rfl := Option.some.inj e
    exact ⟨ds, z, rfl, (List.nil_append _).symm, by show t' = _; rw [ht, hno]⟩
  · rw [app_one]; exact h.st.2
  · intro u hu
    rcases List.mem_cons.1 hu with rfl | hu
    · simp only [List.nil_append]
      have := kd_less (d := ds) (r := ys) (z := z)
      omega
    · rcases List.mem_cons.1 hu with rfl | hu
      · simp only; rw [app_one]; exact hnb
      · exact h.nb u (List.mem_cons_of_mem _ hu)
  · intro u hu
    rcases List.mem_cons.1 hu with rfl | hu
    · simp only [List.nil_append]
      rw [wtL_app, wtL_cons, wt_own] at hwb
      have := wtL_pos ds
      have := wtL_pos ys
      have := own1_pos z
      omega
    · rcases List.mem_cons.1 hu with rfl | hu
      · simp only; rw [app_one]; exact hwb
      · exact h.wb u (List.mem_cons_of_mem _ hu)
  · simp only [ms]
    rw [nl_cons, nl_kd]
    omega
theorem bsize (l : List UInt8) : (⟨l.toArray⟩ : ByteArray).size = l.length := by simp [ByteArray.size]
theorem step_cons (W0 : World) (s mb : Nat) (w : World) (x : Od) (S : List Od) (ds ys : List Ex) (z : Ex) (T : List (List Ex × List Ex)) (es : List (Pk × S3)) (v : Value) (h : WLI W0 s mb w (x :: S) ((ds, z :: ys) :: T) es v) :
    Calls Tryz.prog 62 #[.pointer (some ⟨s, 0, none⟩)] w fun e W' => (∃ u, e = .returned u) ∧ ∃ S' T' es' v', WLI W0 s mb W' S' T' es' v' ∧ ms T' < ms ((ds, z :: ys) :: T) ∧ ∀ k, (getS es k).isSome = true → (getS es' k).isSome = true := by
  obtain ⟨k, rv, t⟩ := x
  have ho := h.st.1
  have hno : t = wt.wtL ds := ho.no rfl
  have hnb := h.nb (ds, z :: ys) (List.mem_cons_self ..)
  have hwb := h.wb (ds, z :: ys) (List.mem_cons_self ..)
  simp only at hnb hwb
  rw [wtL_app, wtL_cons, wt_own] at hwb
  have p1 := wtL_pos ds
  have p2 := wtL_pos ys
  have p3 := own1_pos z
  have p4 := wtL_pos (kd z)
  have hsl := h.slen
  obtain ⟨ra, rc, hrv, hr1, hr2, hrd⟩ := ho.rs
  obtain ⟨rb, ro, rfl, hrp, hrl⟩ := hrd (by simp)
  simp only [List.length_cons] at hrv hr1
  subst hrv
  have hsc := h.sc
  rw [List.reverse_cons] at hsc
  unfold Rd.RdL at hrl
  obtain ⟨⟨c0, c1, c2, c3, c4, c5, c6, g0, g1, g2, g3, g4, g5, g6, hz⟩, hrest⟩ := hrl
  have tr : ∀ {o : Nat} {u : Value}, W0.cell? ⟨rb, o, none⟩ = some u → w.cell? ⟨rb, o, none⟩ = some u := fun e => (h.q.cell hrp.lt (by have := hrp.lt; omega)).trans e
  cases z with
  | mk k1 n1 t1 b1 e1 rs1 ks1 =>
    unfold Rd at hz
    obtain ⟨rv1, kv1, hv, ⟨ao, cao, hao, _⟩, ka, kc, hkv, hk1, hk2, hk3⟩ := hz
    simp only [Value.agg.injEq, Array.mk.injEq, List.cons.injEq, and_true] at hv
    obtain ⟨-, -, rfl, -, -, rfl, rfl⟩ := hv
    subst hao hkv
    have d2 := tr g2
    have d5 := tr g5
    have d6 := tr g6
    have ow : own1 (.mk k1 n1 t1 b1 e1 rs1 ks1) = 96 + ((⟨t1.toArray⟩ : ByteArray).size : Int) + 40 * (rs1.length : Int) := by rw [bsize]; rfl
    have hts : (⟨t1.toArray⟩ : ByteArray).size ≤ 3000000000 := by omega
    have hrs : rs1.length ≤ 100000000 := by omega
    have hll : S.reverse.length < 100000 := by rw [List.length_reverse]; omega
    -- what is left of the list
    have hone : rc = 1 → ys = [] := fun e => List.eq_nil_of_length_eq_zero (by omega)
    have tl1 : rc = 1 → TL W0 (.slice (some ⟨rb, ro, none⟩) 0 0) ys := fun e => by
      rw [hone e]
      exact ⟨_, 0, rfl, Nat.le_refl _, Nat.zero_le _, fun h => absurd rfl h⟩
    have tln : TL W0 (.slice (some ⟨rb, ro + 7, none⟩) ys.length (rc - 1)) ys := ⟨_, rc - 1, rfl, by omega, by omega, fun _ => ⟨rb, ro + 7, rfl, hrp, hrest⟩⟩
    have hB : rb < W0.heap.size := hrp.lt
    by_cases hks : ks1 = []
    · subst hks
      have e0 : wt.wtL (kd (.mk k1 n1 t1 b1 e1 rs1 [])) = 0 := by simp only [kd]; exact wtL_nil
      by_cases h1 : rc = 1
      · subst h1
        obtain rfl := hone rfl
        refine (step_leaf1 W0.heap.size s mb v es S.reverse k rb ro t w hsc hB (by omega) _ ao _ cao ka kc d2 d5 d6 hrs hts (by omega) (by omega)).mono ?_
        rintro e W' ⟨hu, hq, hsc'⟩
        have := h.next hq (tl1 rfl) (by rw [e0, ow]; omega) hsc'
        exact ⟨hu, _, _, es, v, this.1, this.2, fun _ h => h⟩
      · refine (step_leafn W0.heap.size s mb v es S.reverse k rb ro ys.length rc t w hsc hB hr1 h1 hr2 (by omega) _ ao _ cao ka kc d2 d5 d6 hrs hts (by omega) (by omega)).mono ?_
        rintro e W' ⟨hu, hq, hsc'⟩
        have := h.next hq tln (by rw [e0, ow]; omega) hsc'
        exact ⟨hu, _, _, es, v, this.1, this.2, fun _ h => h⟩
    · obtain ⟨kb, ko, rfl, hkp, hkr⟩ := hk3 hks
      have hkn : 0 < ks1.length := List.length_pos_iff.2 hks
      have hkm : ks1.length ≤ 1000 := by
        have := len_nl ks1
        have := kd_less (d := ds) (r := ys) (z := .mk k1 n1 t1 b1 e1 rs1 ks1)
        simp only [kd] at this
        omega
      have hkw : Pl w kb := hkp.blk (h.q.block kb hkp.lt (by have := hkp.lt; omega))
      have tlk : TL W0 (.slice (some ⟨kb, ko, none⟩) ks1.length kc) ks1 := ⟨_, kc, rfl, hk1, hk2, fun _ => ⟨kb, ko, rfl, hkp, hkr⟩⟩
      have hfr := h.st.fresh (k := (kb, ko, ks1.length)) (ks := ks1) hkr rfl (kd_less (d := ds) (r := ys) (z := .mk k1 n1 t1 b1 e1 rs1 ks1))
      cases hg : getS es (kb, ko, ks1.length) with
      | none =>
        by_cases h1 : rc = 1
        · subst h1
          obtain rfl := hone rfl
          refine (step_begin1 W0.heap.size s mb v es S.reverse k rb ro t w hsc hB hll _ ao _ cao kb ko ks1.length kc d2 d5 d6 hkn hkm hkw hkp.lt hg hrs hts (by omega) (by omega)).mono ?_
          rintro e W' ⟨hu, hq, v', hsc'⟩
          have := h.down (k' := (kb, ko, ks1.length)) hq (tl1 rfl) (by rw [ow]) tlk hkp hkr rfl hsc'
          exact ⟨hu, _, _, _, v', this.1, this.2, fun _ h => put_some h⟩
        · refine (step_beginn W0.heap.size s mb v es S.reverse k rb ro ys.length rc t w hsc hB hr1 h1 hr2 hll _ ao _ cao kb ko ks1.length kc d2 d5 d6 hkn hkm hkw hkp.lt hg hrs hts (by omega) (by omega)).mono ?_
          rintro e W' ⟨hu, hq, v', hsc'⟩
          have := h.down (k' := (kb, ko, ks1.length)) hq tln (by rw [ow]) tlk hkp hkr rfl hsc'
          exact ⟨hu, _, _, _, v', this.1, this.2, fun _ h => put_some h⟩
      | some sm =>
        rcases h.ei.cl _ _ hg with ⟨xs, a1, a2, rfl⟩ | ⟨_, y, hy, hy2⟩
        · have exs : xs = ks1 := rdl_det a2 a1 hkr
          subst exs
          have hlim : t + (96 + ((⟨t1.toArray⟩ : ByteArray).size : Int) + 40 * (rs1.length : Int)) + wt.wtL xs ≤ 2147483648 := by rw [← ow]; simp only [kd] at hwb; omega
          by_cases h1 : rc = 1
          · subst h1
            obtain rfl := hone rfl
            refine (step_closed1 W0.heap.size s mb v es S.reverse k rb ro t w hsc hB hll _ ao _ cao kb ko xs.length kc d2 d5 d6 hkn hkm hkw hkp.lt _ hg (wtL_pos xs) hrs hts (by omega) hlim).mono ?_
            rintro e W' ⟨hu, hq, hsc'⟩
            have := h.next hq (tl1 rfl) (by rw [ow]; rfl) hsc'
            exact ⟨hu, _, _, es, v, this.1, this.2, fun _ h => h⟩
          · refine (step_closedn W0.heap.size s mb v es S.reverse k rb ro ys.length rc t w hsc hB hr1 h1 hr2 hll _ ao _ cao kb ko xs.length kc d2 d5 d6 hkn hkm hkw hkp.lt _ hg (wtL_pos xs) hrs hts (by omega) hlim).mono ?_
            rintro e W' ⟨hu, hq, hsc'⟩
            have := h.next hq tln (by rw [ow]; rfl) hsc'
            exact ⟨hu, _, _, es, v, this.1, this.2, fun _ h => h⟩
        · exact absurd hy2 (hfr y hy)
set_option maxHeartbeats 1000000 in
theorem place_eq (b o n cap : Nat) (W : World) (hn : 0 < n) (hm : n ≤ 1000) :
    Calls Tryz.prog 63 #[.slice (some ⟨b, o, none⟩) n cap] W fun e W' => e = .returned (pkV (b, o, n)) ∧ W' = W.alloc (.cells #[.pointer (some ⟨b, o, none⟩), .int .i64 (n : Int)] 106) := by
  have hn' : (0 : Int) < (n : Int) := by omega
  unfold pkV
  go_enter Tryz.func63, Tryz.ntmps63
  go_wp2
  refine bodyPost_ret (v := .agg #[.pointer (some ⟨b, o, none⟩), .int .i64 (n : Int)]) (by simp [results, Tryz.results63, go_sem]) rfl ?_
  exact ⟨rfl, rfl⟩
def WR (W0 : World) (s mb : Nat) (k : Pk) (kk : Nat) (wr : World) : Prop := ∃ S T es v, WLI W0 s mb wr S T es v ∧ ms T = kk ∧ (getS es k).isSome = true
theorem sc_start (W : World) (fv : Value) : ScA ((W.alloc (.map #[] 0)).alloc (.cells #[fv, .map (some W.heap.size), .slice none 0 0, .bool false] 102)) W.heap.size (W.heap.size + 1) W.heap.size fv (.slice none 0 0) [] [] := by
  have hb : ((W.alloc (.map #[] 0)).alloc (.cells #[fv, .map (some W.heap.size), .slice none 0 0, .bool false] 102)).heap[W.heap.size + 1]? = some (.cells #[fv, .map (some W.heap.size), .slice none 0 0, .bool false] 102 (0, 0)) := by
    have := (MapKept.heap_alloc (W.alloc (.map #[] 0)) (.cells #[fv, .map (some W.heap.size), .slice none 0 0, .bool false] 102)).1
    simpa using this
  have hm : ((W.alloc (.map #[] 0)).alloc (.cells #[fv, .map (some W.heap.size), .slice none 0 0, .bool false] 102)).heap[W.heap.size]? = some (.map #[] 0) := by
    have h1 := (MapKept.heap_alloc W (.map #[] 0)).1
    exact (Q.block ((Q.refl (W.alloc (.map #[] 0))).alloc _) (by simp)).trans h1
  have hp : Pl ((W.alloc (.map #[] 0)).alloc (.cells #[fv, .map (some W.heap.size), .slice none 0 0, .bool false] 102)) (W.heap.size + 1) := ⟨_, _, hb⟩
  have cl : ∀ j, ((W.alloc (.map #[] 0)).alloc (.cells #[fv, .map (some W.heap.size), .slice none 0 0, .bool false] 102)).cell? ⟨W.heap.size + 1, j, none⟩ = (#[fv, .map (some W.heap.size), .slice none 0 0, .bool false] : Array Value)[j]? := fun j => cell_of_row _ _ j _ _ _ hb
  exact ⟨cl 0, cl 1, cl 2, cl 3, fun j => hp.frozen j, ⟨#[], 0, hm, rfl⟩, own_nil _, by omega, Nat.le_refl _, by omega, by simp [Value.ownBlock], by simp [Value.ownBlock], by simp⟩
theorem li_start {W w2 : World} {b o n cap : Nat} {xs : List Ex} {v2 : Value} (hr : Rd.RdL W xs b o) (hl : xs.length = n) (hp : Pl W b) (hc : n ≤ cap) (hcm : cap ≤ maxLen) (hnb : nodes.nodesL xs ≤ 1000) (hwb : wt.wtL xs ≤ 2147483647) (q : Qp (fun i => W.heap.size ≤ i) W w2) (sc : ScA w2 W.heap.size (W.heap.size + 1) W.heap.size (.func (.func 68) #[] #[]) v2 (putS [] (b, o, n) (0, false, false)) ([] ++ [((b, o, n), .slice (some ⟨b, o, none⟩) n cap, 0)])) : WR W (W.heap.size + 1) W.heap.size (b, o, n) (ms [([], xs)]) w2 := by
  subst hl
  refine ⟨[((b, o, xs.length), .slice (some ⟨b, o, none⟩) xs.length cap, 0)], [([], xs)], _, v2, ⟨q, sc, ⟨⟨by rw [List.nil_append]; exact hr, by rw [List.nil_append], hp, ⟨_, cap, rfl, hc, hcm, fun _ => ⟨b, o, rfl, hp, hr⟩⟩, fun _ => wtL_nil.symm, fun _ e => by cases e⟩, trivial⟩, ?_, by simpa using hnb, by simpa using hwb⟩, rfl, by rw [get_put, if_pos rfl]; rfl⟩
  exact EsI.begun (S := []) ⟨fun k s hk => (by cases hk), fun x hx => absurd hx (by simp)⟩ ((b, o, xs.length), .slice (some ⟨b, o, none⟩) xs.length cap, 0)
theorem li_step {W0 : World} {s mb : Nat} {w : World} {x : Od} {S : List Od} {T : List (List Ex × List Ex)} {es : List (Pk × S3)} {v : Value} (h : WLI W0 s mb w (x :: S) T es v) (k : Pk) (hk : (getS es k).isSome = true) :
    Calls Tryz.prog 62 #[.pointer (some ⟨s, 0, none⟩)] w fun e W' => (∃ u, e = .returned u) ∧ ∃ kk, WR W0 s mb k kk W' ∧ kk < ms T := by
  cases T with
  | nil => exact absurd h.st (by simp [Stk])
  | cons t T =>
    obtain ⟨ds, ys⟩ := t
    cases ys with
    | nil =>
      refine (step_nil W0 s mb w x S ds T es v h).mono ?_
      rintro e W' ⟨hu, S', T', es', v', h1, h2, h3⟩
      exact ⟨hu, _, ⟨S', T', es', v', h1, rfl, h3 k hk⟩, h2⟩
    | cons z ys =>
      refine (step_cons W0 s mb w x S ds ys z T es v h).mono ?_
      rintro e W' ⟨hu, S', T', es', v', h1, h2, h3⟩
      exact ⟨hu, _, ⟨S', T', es', v', h1, rfl, h3 k hk⟩, h2⟩
set_option maxHeartbeats 2000000 in
theorem weigh_any (b o n cap : Nat) (xs : List Ex) (W : World) (hr : Rd.RdL W xs b o) (hl : xs.length = n) (hn : 0 < n) (hp : Pl W b) (hc : n ≤ cap) (hcm : cap ≤ maxLen) (hnb : nodes.nodesL xs ≤ 1000) (hwb : wt.wtL xs ≤ 2147483647) :
    Calls Tryz.prog 36 #[.slice (some ⟨b, o, none⟩) n cap, .func (.func 68) #[] #[]] W fun e W' => (∃ mv, e = .returned (.tuple #[mv, .bool true])) ∧ Q W W' := by
  have hnm : n ≤ 1000 := by have := len_nl xs; omega
  have q1 : Q W ((W.alloc (.map #[] 0)).alloc (.cells #[.func (.func 68) #[] #[], .map (some W.heap.size), .slice none 0 0, .bool false] 102)) := ((Q.refl W).alloc _).alloc _
  have HB := hid (begin_any W.heap.size (W.heap.size + 1) W.heap.size b o n cap _ _ [] [] _ (sc_start W (.func (.func 68) #[] #[])) hn hnm (hp.on q1) hp.lt (by simp))
  have HX := hid (fun (w2 : World) (v2 : Value) (q : Qp (fun i => W.heap.size ≤ i) ((W.alloc (.map #[] 0)).alloc (.cells #[.func (.func 68) #[] #[], .map (some W.heap.size), .slice none 0 0, .bool false] 102)) w2) => li_start (v2 := v2) hr hl hp hc hcm hnb hwb ((Qp.of q1).trans q))
  have HR := hid (And.intro hr (And.intro hl (And.intro hp hwb)))
  clear hr hl hp hc hcm hnb hwb q1
  have hmm := @run_makeMap Tryz.prog
  go_enter Tryz.func36, Tryz.ntmps36
  go_wp2_with (go_at_call 61; refine HB.out.mono ?_; rintro e w2 ⟨⟨u, rfl⟩, q2, v2, s2⟩; have R2 := hid (HX.out w2 v2 q2 s2); clear q2 s2)
  clear HB HX hmm
  go_loopw [12] (fun _ wr => ∃ kk, WR W (W.heap.size + 1) W.heap.size (b, o, n) kk wr) (fun _ wr => Classical.epsilon (fun kk => WR W (W.heap.size + 1) W.heap.size (b, o, n) kk wr ∧ ∀ j, WR W (W.heap.size + 1) W.heap.size (b, o, n) j wr → kk ≤ j))
  case atStart => exact ⟨_, R2.out⟩
  case round =>
    have hmu := mu_ex hrel
    obtain ⟨K, hK⟩ : ∃ K, Classical.epsilon (fun kk => WR W (W.heap.size + 1) W.heap.size (b, o, n) kk wr ∧ ∀ j, WR W (W.heap.size + 1) W.heap.size (b, o, n) j wr → kk ≤ j) = K := ⟨_, rfl⟩
    rw [hK] at hmu
    have HK := hid hK
    clear hK hrel R2
    obtain ⟨⟨S, T, es, v, hli, hms, hes⟩, _⟩ := hmu
    have HL := hid hli
    cases S with
    | nil =>
      obtain ⟨ao, cp, hv, _⟩ := (hli.sc.ow.sl encO_len (by omega)).len
      simp only [List.reverse_nil, List.length_nil] at hv
      subst hv
      have c1 := hli.sc.c1
      have c2 := hli.sc.c2
      have c3 := hli.sc.c3
      obtain ⟨tt, hget, hle⟩ : ∃ tt : Int, getS es (b, o, n) = some (tt, true, false) ∧ tt ≤ 2147483647 := by
        obtain ⟨sm, hsm⟩ := Option.isSome_iff_exists.1 hes
        rcases hli.ei.cl _ _ hsm with ⟨ys, a1, a2, rfl⟩ | ⟨_, y, hy, _⟩
        · obtain ⟨hr, hl, _, hwb⟩ := HR.out
          have e : ys = xs := rdl_det (a2.trans hl.symm) a1 hr
          exact ⟨_, hsm, by rw [e]; exact hwb⟩
        · exact absurd hy (by simp)
      have hpl : Pl wr b := HR.out.2.2.1.blk (hli.q.block b HR.out.2.2.1.lt (by have := HR.out.2.2.1.lt; omega))
      have qa : Q wr (wr.alloc (.cells #[.pointer (some ⟨b, o, none⟩), .int .i64 (n : Int)] 106)) := (Q.refl wr).alloc _
      have c1a := (hli.sc.on qa).c1
      have c3a := (hli.sc.on qa).c3
      have rl : (Instr.lookup 64 (.map (some W.heap.size)) (.agg #[.pointer (some ⟨b, o, none⟩), .int .i64 (n : Int)]) false).run Tryz.prog (wr.alloc (.cells #[.pointer (some ⟨b, o, none⟩), .int .i64 (n : Int)] 106)).drew = .ok (.agg #[.int .i64 tt, .bool true, .bool false]) (wr.alloc (.cells #[.pointer (some ⟨b, o, none⟩), .int .i64 (n : Int)] 106)).drew := by
        have sd := hli.sc.on qa.drew
        have := sd.mp.lookup (b, o, n) false (hpl.on qa.drew) (fun e he => (sd.pl e he).1)
        rw [hget] at this
        exact this
      have rf0 : ∀ w, (Instr.field 104 (.agg #[.int .i64 tt, .bool true, .bool false]) 0).run Tryz.prog w = .ok (.int .i64 tt) w := fun w => by kernel_rfl
      have HQ : Hid (Q W (wr.alloc (.cells #[.pointer (some ⟨b, o, none⟩), .int .i64 (n : Int)] 106)).drew) := hid ((hli.q.q (fun i hi => by omega)).trans qa.drew)
      have HP := hid (fun V => place_eq b o n cap V hn hnm)
      clear hli hms hes hget hpl qa
      go_wp2_with fail
      apply wp_region_det
      · go_region_with (go_at_call 63; refine (HP.out _).mono ?_; rintro e w7 ⟨rfl, rfl⟩; unfold pkV)
        all_goals exact And.intro rfl (And.intro rfl rfl)
      go_wp2_with fail
      refine bodyPost_ret (v := .tuple #[.map (some W.heap.size), .bool true]) (by simp [results, Tryz.results36, go_sem]) rfl ?_
      exact ⟨⟨_, rfl⟩, HQ.out⟩
    | cons x S =>
      obtain ⟨g, cp, hv, _⟩ := (show ScA wr W.heap.size (W.heap.size + 1) W.heap.size (.func (.func 68) #[] #[]) v es (S.reverse ++ [x]) by have := hli.sc; rw [List.reverse_cons] at this; exact this).last
      subst hv
      have c2 := hli.sc.c2
      have HC := hid (li_step hli (b, o, n) hes)
      have HMS := hid hms
      clear hli hms hes
      go_wp2_with (go_at_call 62; refine HC.out.mono ?_; rintro e w5 ⟨⟨u, rfl⟩, kk, r5, l5⟩; have R5 := hid r5; have L5 := hid l5; clear r5 l5)
      go_roundw
      case rel => exact ⟨_, R5.out⟩
      case measure =>
        rw [HK.out]
        have h1 := (mu_ex (P := fun kk => WR W (W.heap.size + 1) W.heap.size (b, o, n) kk w5) ⟨_, R5.out⟩).2 _ R5.out
        have h2 := L5.out
        have h3 := HMS.out
        omega
set_option maxHeartbeats 1000000 in
theorem fits_all (x : Ex) (r : Nat) (c0 c1 c2 c3 c4 c5 c6 : Value) (W : World) (hk : Kid W x r 0 c0 c1 c2 c3 c4 c5 c6) (hp : Pl W r) (hn : nodes x ≤ 1000) (hw : wt x ≤ 2147483647) :
    Calls Tryz.prog 43 #[.slice (some ⟨r, 0, none⟩) 1 1] W fun e W' => e = .returned (.bool true) ∧ Q W W' := by
  by_cases h : nodes x ≤ 200
  · exact fits_apart x r c0 c1 c2 c3 c4 c5 c6 W hk h
  have HC := hid (pCount_any x _ W hk.rd)
  rw [show min (nodes x) 201 = 201 by omega] at HC
  obtain ⟨g0, g1, g2, g3, g4, g5, g6, hrd⟩ := hk
  have hr : Rd.RdL W [x] r 0 := by
    unfold Rd.RdL
    exact ⟨⟨c0, c1, c2, c3, c4, c5, c6, g0, g1, g2, g3, g4, g5, g6, hrd⟩, by unfold Rd.RdL; trivial⟩
  have HW := hid (fun V (q : Q W V) => weigh_any r 0 1 1 [x] V (hr.on q) rfl (by omega) (hp.on q) (Nat.le_refl _) (by unfold maxLen; omega) (by rw [nl_one]; exact hn) (by rw [wtL_cons, wtL_nil]; omega))
  clear hn hw hr hp h
  go_enter Tryz.func43, Tryz.ntmps43
  go_wp2_with (first | (go_at_call 67; refine HC.out.mono ?_; rintro e w1 ⟨rfl, q1⟩; have Q1 := hid q1; clear q1) | (go_at_call 36; refine (HW.out _ (by repeat (first | exact Q1.out | with_reducible refine Q.alloc ?_ _ | with_reducible refine Q.drew ?_))).mono ?_; rintro e w2 ⟨⟨mv, rfl⟩, q2⟩; have Q2 := hid q2; clear q2))

  go_ret
  exact ⟨rfl, Q1.out.trans Q2.out⟩
theorem Ow.shape {W : World} {x : Ex} {v : Value} {lo hi : Nat} (h : Ow W x v lo hi) : ∃ k n t b e a1 l1 c1 a2 l2 c2, v = .agg #[.int .i64 k, .int .i64 n, .string t, .bool b, .int .i64 e, .slice a1 l1 c1, .slice a2 l2 c2] := (Ow.rdg (g := fun _ => True) x v lo hi (fun _ _ _ => trivial) h).shape
theorem md_keep {w w6 w7 : World} {pm b o2 o5 : Nat} {v v2 v5 : Value} (hm : w.cell? ⟨pm, 0, none⟩ = some v) (hne : pm ≠ b) (q6 : Q w w6) (q7 : Q (w6.setCell ⟨b, o2, none⟩ v2) w7) : (w7.setCell ⟨b, o5, none⟩ v5).cell? ⟨pm, 0, none⟩ = some v := by
  have h6 : w6.cell? ⟨pm, 0, none⟩ = some v := (q6.cell (World.block_lt_of_cell? w ⟨pm, 0, none⟩ hm)).trans hm
  have h6' : (w6.setCell ⟨b, o2, none⟩ v2).cell? ⟨pm, 0, none⟩ = some v := (World.cell?_setCell_other _ _ _ _ (by intro e; injection e with e; exact hne e.symm)).trans h6
  have h7 : w7.cell? ⟨pm, 0, none⟩ = some v := (q7.cell (World.block_lt_of_cell? _ ⟨pm, 0, none⟩ h6')).trans h6'
  exact (World.cell?_setCell_other _ _ _ _ (by intro e; injection e with e; exact hne e.symm)).trans h7
theorem CI.round {W0 Ws : World} {x : Ex} {r n1 wb pm : Nat} {W w1 w2 w3 : World} {X : Nat → Prop} {ov : Value} {S : List Pd} {b o : Nat} {k n : Int} {t : List UInt8} {bb : Bool} {e : Int} {rs : List Rf} {ks : List Ex} {c5 c6 rv : Value} {ao : Option Addr} {cap : Nat}
    (h : CI W0 Ws x r n1 wb pm W X ov S ((b, o, 1, [.mk k n t bb e rs ks]) :: S))
    (hn : Nd W b o (.int .i64 k) (.int .i64 n) (.string ⟨t.toArray⟩) (.bool bb) (.int .i64 e) c5 c6)
    (q1 : Q W w1) (q2 : Q (w1.setCell ⟨b, o + 2, none⟩ (.string ⟨t.toArray⟩)) w2) (hr : OwR w2 rv rs (w1.setCell ⟨b, o + 2, none⟩ (.string ⟨t.toArray⟩)).heap.size w2.heap.size)
    (q3 : Q (w2.setCell ⟨b, o + 5, none⟩ rv) w3) (hcap : ks.length ≤ cap) (hmx : cap ≤ maxLen)
    (hk : ks ≠ [] → ∃ kb, ao = some ⟨kb, 0, none⟩ ∧ (w2.setCell ⟨b, o + 5, none⟩ rv).heap.size ≤ kb ∧ kb < w3.heap.size ∧ Pl w3 kb ∧ PdL W0 w3 ks kb 0) :
    ∃ T3, CI W0 Ws x r n1 wb pm (w3.setCell ⟨b, o + 6, none⟩ (.slice ao ks.length cap)) X ov S T3 ∧ wgtP T3 < wgtP ((b, o, 1, [.mk k n t bb e rs ks]) :: S) ∧ ((ks.length = 0 ∧ T3 = S) ∨ ∃ kb ks', 0 < ks.length ∧ ao = some ⟨kb, 0, none⟩ ∧ ks.length = ks'.length ∧ T3 = (kb, 0, cap, ks') :: S) := by
  have hb : b < W.heap.size := hn.pl.lt
  have s1 := q1.size
  have s2 := q2.size
  have s3 := q3.size
  have e1 : (w1.setCell ⟨b, o + 2, none⟩ (.string ⟨t.toArray⟩)).heap.size = w1.heap.size := by simp [World.setCell]
  have e2 : (w2.setCell ⟨b, o + 5, none⟩ rv).heap.size = w2.heap.size := by simp [World.setCell]
  rw [e1] at s2 hr
  rw [e2] at s3 hk
  have c1 : Ch7 W w1 b o := (Ch7.refl W b o).q' hb q1
  have c2 : Ch7 W w2 b o := (c1.set 2 (by omega) _).q' hb q2
  have c3 : Ch7 W w3 b o := (c2.set 5 (by omega) rv).q' hb q3
  have n3 := ((((((hn.on q1).set2 (.string ⟨t.toArray⟩)).on q2).set5 rv).on q3).set6 (.slice ao ks.length cap))
  refine h.node (m := w2.heap.size) (c3.set 6 (by omega) _) n3 ?_ (by simp [World.setCell]; omega) hcap hmx (fun hne => ?_)
  · refine (hr.mono s1 (Nat.le_refl _)).on (fun i h1 h2 => ?_)
    refine Bs.of ?_
    rw [Below.heap_setCell _ _ _ _ (fun e => by simp at e; omega), Q.block q3 (by omega), Below.heap_setCell _ _ _ _ (fun e => by simp at e; omega)]
  · obtain ⟨kb, k1, k2, k3, k4, k5⟩ := hk hne
    refine ⟨kb, k1, k2, by simp [World.setCell]; exact k3, k4.set _ _ _, k5.on (fun j _ _ => ?_)⟩
    exact World.cell?_setCell_other _ _ _ _ (by intro e; injection e with e; omega)
theorem wt_sn : ∀ x : Ex, Sn x → wt x ≤ 1040096 * (nodes x : Int)
  | .mk k n t b e rs ks, h => by
    unfold Sn at h
    obtain ⟨h1, h2, _, _, h5⟩ := h
    have := go ks h5
    rw [wt, nodes]
    omega
  where
  go : ∀ xs : List Ex, Sn.SnL xs → wt.wtL xs ≤ 1040096 * (nodes.nodesL xs : Int)
  | [], _ => by rw [wt.wtL, nodes.nodesL]; omega
  | x :: xs, h => by
    unfold Sn.SnL at h
    rw [wt.wtL, nodes.nodesL]
    have := wt_sn x h.1
    have := go xs h.2
    omega
set_option maxHeartbeats 4000000 in
theorem copied_all (x : Ex) (v : Value) (W : World) (hx : Rd W x v) (hs : Sn x) (hk : nodes x ≤ 1000) :
    Calls Tryz.prog 23 #[v] W fun e W' => ∃ v', e = .returned v' ∧ Q W W' ∧ ∃ lo hi, W.heap.size ≤ lo ∧ hi ≤ W'.heap.size ∧ Ow W' x v' lo hi := by
  obtain ⟨k, n, t, b, e, a1, l1, c1, a2, l2, c2, rfl⟩ := hx.shape
  have HST := hid (fun w2 => copied_start x _ _ _ _ _ _ _ W w2 hx hs hk)
  have HF : Hid (Calls Tryz.prog 43 #[.slice (some ⟨W.heap.size + 1 + 1, 0, none⟩) 1 1] (((W.alloc (.cells #[.int .i64 k, .int .i64 n, .string t, .bool b, .int .i64 e, .slice a1 l1 c1, .slice a2 l2 c2] 26)).alloc (.cells #[.int .i64 0, .int .i64 0, .string ⟨#[]⟩, .bool false, .int .i64 0, .slice none 0 0, .slice none 0 0] 26)).alloc (.cells #[.int .i64 k, .int .i64 n, .string t, .bool b, .int .i64 e, .slice a1 l1 c1, .slice a2 l2 c2] 26)) fun e9 W' => e9 = .returned (.bool true) ∧ Q (((W.alloc (.cells #[.int .i64 k, .int .i64 n, .string t, .bool b, .int .i64 e, .slice a1 l1 c1, .slice a2 l2 c2] 26)).alloc (.cells #[.int .i64 0, .int .i64 0, .string ⟨#[]⟩, .bool false, .int .i64 0, .slice none 0 0, .slice none 0 0] 26)).alloc (.cells #[.int .i64 k, .int .i64 n, .string t, .bool b, .int .i64 e, .slice a1 l1 c1, .slice a2 l2 c2] 26)) W') := by
    have n1 := nd_new ((W.alloc (.cells #[.int .i64 k, .int .i64 n, .string t, .bool b, .int .i64 e, .slice a1 l1 c1, .slice a2 l2 c2] 26)).alloc (.cells #[.int .i64 0, .int .i64 0, .string ⟨#[]⟩, .bool false, .int .i64 0, .slice none 0 0, .slice none 0 0] 26)) (.int .i64 k) (.int .i64 n) (.string t) (.bool b) (.int .i64 e) (.slice a1 l1 c1) (.slice a2 l2 c2) 26
    rw [show ((W.alloc (.cells #[.int .i64 k, .int .i64 n, .string t, .bool b, .int .i64 e, .slice a1 l1 c1, .slice a2 l2 c2] 26)).alloc (.cells #[.int .i64 0, .int .i64 0, .string ⟨#[]⟩, .bool false, .int .i64 0, .slice none 0 0, .slice none 0 0] 26)).heap.size = W.heap.size + 1 + 1 by simp] at n1
    exact fits_all x (W.heap.size + 1 + 1) _ _ _ _ _ _ _ _ ⟨n1.g0, n1.g1, n1.g2, n1.g3, n1.g4, n1.g5, n1.g6, Rd.on ((((Q.refl _).alloc _).alloc _).alloc _) _ _ hx⟩ (by obtain ⟨_, _, _, _, _, _, _, zp⟩ := n1; exact zp) hk (by have := wt_sn x hs; omega)
  clear hx hs hk
  go_enter Tryz.func23, Tryz.ntmps23
  go_wp2_with (first
    | (go_at_call 43; refine HF.out.mono ?_; rintro e9 w2 ⟨rfl, q2⟩; obtain ⟨Ws, M, T0, hM1, hM2, he⟩ := HST.out w2 q2; have HE := hid he; clear he q2)
    | (go_at_call 44; refine HE.out.mono ?_; rintro e9 w4 ⟨⟨u, rfl⟩, X4, ov4, ci4⟩; have C4 := hid ci4; clear ci4)
    | (go_at_call 45; refine (next_ci C4.out).mono ?_; rintro e9 w5 ⟨v5, rfl, cr5⟩; have R5 := hid cr5; clear cr5))
  go_loopw [6, 7, 8] (fun v _ _ wr => ∃ kk, CR W Ws x (W.heap.size + 1 + 1) M (w2.heap.size + 1) w2.heap.size kk v wr) (fun v _ _ wr => Classical.epsilon (fun kk => CR W Ws x (W.heap.size + 1 + 1) M (w2.heap.size + 1) w2.heap.size kk v wr ∧ ∀ j, CR W Ws x (W.heap.size + 1 + 1) M (w2.heap.size + 1) w2.heap.size j v wr → kk ≤ j))
  case atStart => exact ⟨_, R5.out⟩
  case round =>
    have hmu := mu_ex hrel
    obtain ⟨K, hK⟩ : ∃ K, Classical.epsilon (fun kk => CR W Ws x (W.heap.size + 1 + 1) M (w2.heap.size + 1) w2.heap.size kk u6 wr ∧ ∀ j, CR W Ws x (W.heap.size + 1 + 1) M (w2.heap.size + 1) w2.heap.size j u6 wr → kk ≤ j) = K := ⟨_, rfl⟩
    rw [hK] at hmu
    have HKK := hid hK
    clear hK
    obtain ⟨⟨X, ov, S, hcr⟩, _⟩ := hmu
    clear hrel HST HF HE
    rcases hcr with ⟨rfl, hk0, ci⟩ | ⟨b', o, y, rfl, hkk, ci⟩
    · have ow := ci.prm.done
      unfold Ow.OwL at ow
      obtain ⟨m, ⟨d0, d1, d2, d3, d4, d5, d6, g0, g1, g2, g3, g4, g5, g6, hx⟩, hm⟩ := ow
      unfold Ow.OwL at hm
      obtain ⟨k', n', t', b1', e', a1', l1', c1', a2', l2', c2', hsh⟩ := hx.shape
      simp only [Value.agg.injEq, Array.mk.injEq, List.cons.injEq, and_true] at hsh
      obtain ⟨rfl, rfl, rfl, rfl, rfl, rfl, rfl⟩ := hsh
      have tb := T0.out.blk (ci.kp (W.heap.size + 1) (by omega) (by omega) (by omega))
      obtain ⟨z0, z1, z2, z3, z4, z5, z6, zf⟩ := tb
      have y0 := zf 0
      have y1 := zf 1
      have y2 := zf 2
      have y3 := zf 3
      have y4 := zf 4
      have y5 := zf 5
      have y6 := zf 6
      have HO := hid hx
      have HC := hid ci
      have HMM := hid hm
      clear hx ci hm zf HKK
      simp only [Nat.zero_add] at g1 g2 g3 g4 g5 g6
      go_wp2_with fail
      refine bodyPost_ret (v := .agg #[.int .i64 k', .int .i64 n', .string t', .bool b1', .int .i64 e', .slice a1' l1' c1', .slice a2' l2' c2']) (by simp [results, Tryz.results23, go_sem, z0, z1, z2, z3, z4, z5, z6]) rfl ?_
      have QF : Qx (W.heap.size + 1) wr (((((((wr.setCell ⟨W.heap.size + 1, 0, none⟩ (.int .i64 k')).setCell ⟨W.heap.size + 1, 1, none⟩ (.int .i64 n')).setCell ⟨W.heap.size + 1, 2, none⟩ (.string t')).setCell ⟨W.heap.size + 1, 3, none⟩ (.bool b1')).setCell ⟨W.heap.size + 1, 4, none⟩ (.int .i64 e')).setCell ⟨W.heap.size + 1, 5, none⟩ (.slice a1' l1' c1')).setCell ⟨W.heap.size + 1, 6, none⟩ (.slice a2' l2' c2')) := (((((((Qx.refl _ _).own _ _).own _ _).own _ _).own _ _).own _ _).own _ _).own _ _
      refine ⟨_, rfl, ⟨QF.os.trans HC.out.q.os, QF.tape.trans HC.out.q.tape, QF.output.trans HC.out.q.output, Nat.le_trans HC.out.q.size QF.size, fun i hi => (QF.block i (Nat.lt_of_lt_of_le hi HC.out.q.size) (fun e => by have := Option.some.inj e; omega)).trans (Q.block HC.out.q hi)⟩, M, m, by omega, Nat.le_trans HMM.out QF.size, Ow.on _ _ _ _ (fun i h1 h2 => Bs.of (QF.block i (by have := HMM.out; omega) (fun e => by have := Option.some.inj e; omega))) HO.out⟩
    · have hp := ci.pd _ (List.mem_cons_self ..)
      have hpd := hp.pd
      unfold PdL at hpd
      obtain ⟨⟨d0, d1, d2, d3, d4, d5, d6, g0, g1, g2, g3, g4, g5, g6, hy⟩, _⟩ := hpd
      have hsn := hp.sn _ (List.mem_cons_self ..)
      have hb0 : W.heap.size ≤ b' ∧ w2.heap.size ≠ b' := by
        have h1 := hp.at_
        have h2 := ci.lo
        simp only at h1
        omega
      cases y with
      | mk k' n' t' bb' e' rs ks =>
        unfold Rd at hy
        obtain ⟨rv, kv, hv, hr, ao, cap, hkv, hc1, hc2, hk3⟩ := hy
        simp only [Value.agg.injEq, Array.mk.injEq, List.cons.injEq, and_true] at hv
        obtain ⟨rfl, rfl, rfl, rfl, rfl, rfl, rfl⟩ := hv
        subst hkv
        obtain ⟨ar, cr, rfl, hr1, hr2⟩ := hr.len
        unfold Sn at hsn
        have HN : Hid (Nd wr b' o _ _ _ _ _ _ _) := hid ⟨g0, g1, g2, g3, g4, g5, g6, hp.pl⟩
        have HCI := hid ci
        have HR := hid hr
        have HK3 := hid hk3
        have HSN := hid hsn
        have HKW := hid hkk
        have HCL := hid (clone_any ⟨t'.toArray⟩ wr (by rw [size_mk]; omega))
        have HMD := hid ci.md
        clear hp ci hr hk3 hsn hkk T0 C4 R5
        simp only at g0 g1 g2 g3 g4 g5 g6
        go_wp2_with (first
          | (go_at_call 46; refine HCL.out.mono ?_; rintro e9 w6 ⟨rfl, q6⟩; have Q6 := hid q6; have N6 := hid (HN.out.on q6); clear q6; obtain ⟨z0, z1, z2, z3, z4, z5, z6, zp⟩ := N6.out; have y2 := zp.frozen (o + 2); have QA : Hid (Q W (w6.setCell ⟨b', o + 2, none⟩ (.string ⟨t'.toArray⟩))) := hid ((HCI.out.q.trans Q6.out).setCell hb0.1 _); clear zp)
          | (go_at_call 47; refine (copiedRefs_any rs _ _ (HR.out.on QA.out) HSN.out.2.1 HSN.out.2.2.1).mono ?_; rintro e9 w7 ⟨v7, rfl, or7, q7⟩; have N7 := hid ((N6.out.set2 _).on q7); clear z0 z1 z2 z3 z4 z5 z6 y2; obtain ⟨z0, z1, z2, z3, z4, z5, z6, zp⟩ := N7.out; have y5 := zp.frozen (o + 5); clear zp; obtain ⟨a7, l7, c7, rfl⟩ := or7.shape; have QB : Hid (Q W (w7.setCell ⟨b', o + 5, none⟩ (.slice a7 l7 c7))) := hid ((QA.out.trans q7).setCell hb0.1 _); have MB : Hid ((w7.setCell ⟨b', o + 5, none⟩ (.slice a7 l7 c7)).cell? ⟨w2.heap.size, 0, none⟩ = some (.bool true)) := hid (md_keep HMD.out hb0.2 Q6.out q7); have O7 := hid or7; have Q7 := hid q7; clear or7 q7)
          | (go_at_call 48; refine (of_ci w2.heap.size ao ks cap W _ QB.out MB.out HSN.out.2.2.2.1 HK3.out).mono ?_; rintro e9 w8 ⟨ao8, cap8, rfl, q8, hc8, hm8, hk8⟩; have N8 := hid ((N7.out.set5 (.slice a7 l7 c7)).on q8); clear z0 z1 z2 z3 z4 z5 z6 y5; obtain ⟨z0, z1, z2, z3, z4, z5, z6, zp⟩ := N8.out; have y6 := zp.frozen (o + 6); clear zp; have R8 := hid (HCI.out.round HN.out Q6.out Q7.out O7.out q8 hc8 hm8 hk8); clear q8 hc8 hm8 hk8)
          | (go_at_call 44; obtain ⟨T3, ci9, hlt9, hk9⟩ := R8.out; refine (enter_ci ci9 HSN.out.2.2.2.1 hk9).mono ?_; rintro e9 w10 ⟨⟨u, rfl⟩, X10, ov10, ci10⟩; have C10 := hid ci10; have L9 := hid hlt9; clear ci9 hlt9 hk9 ci10 R8)
          | (go_at_call 45; refine (next_ci C10.out).mono ?_; rintro e9 w11 ⟨v11, rfl, cr11⟩; have R11 := hid cr11; clear cr11))
        go_roundw
        case rel => exact ⟨_, R11.out⟩
        case measure =>
          rw [HKK.out]
          have h1 := (mu_ex (P := fun kk => CR W Ws x (W.heap.size + 1 + 1) M (w2.heap.size + 1) w2.heap.size kk v11 w11) ⟨_, R11.out⟩).2 _ R11.out
          have h2 := L9.out
          have h3 := HKW.out
          omega
theorem copied_any (x : Ex) (v : Value) (W : World) (hx : Rd W x v) (hs : Sn x) (hk : nodes x ≤ 200) :
    Calls Tryz.prog 23 #[v] W fun e W' => ∃ v', e = .returned v' ∧ Q W W' ∧ ∃ lo hi, W.heap.size ≤ lo ∧ hi ≤ W'.heap.size ∧ Ow W' x v' lo hi := copied_all x v W hx hs (by omega)
end Go.Proofs.YtoikodohcieipaaGreatDoor
