/- rewrite's scale: a step, whatever comes; rewrite's scale: a . -/
import Derived.Test.YthebfhdpofhmpaaGreatDoorKc14
import Derived.Test.YthebfhdpofhmpaaGreatDoorKc18
import Derived.Test.YthebfhdpofhmpaaGreatDoorKc21
import Derived.Test.YthebfhdpofhmpaaGreatDoorKc22
import Derived.Test.YthebfhdpofhmpaaGreatDoorKc20
import Derived.Test.YthebfhdpofhmpaaGreatDoorKc23
import Derived.Test.YthebfhdpofhmpaaGreatDoorKc10
import Derived.Laws.EntriesVeiled
set_option linter.unusedVariables false
set_option linter.unusedSimpArgs false
set_option maxRecDepth 100000
set_option maxHeartbeats 8000000
namespace Go.Proofs.YthebfhdpofhmpaaGreatDoor
open Go.RowKit
structure WLI (W0 : World) (s mb : Nat) (w : World) (S : List Od) (T : List (List Ex × List Ex)) (es : List (Pk × S3)) (v : Value) : Prop where
  q : Qp (fun i => W0.heap.size ≤ i) W0 w
  sc : ScA w W0.heap.size s mb (.func (.func 88) #[] #[]) v es S.reverse
  st : Stk W0 none S T
  ei : EsI W0 es S
  nb : ∀ t ∈ T, nodes.nodesL (t.1 ++ t.2) ≤ 1000
  wb : ∀ t ∈ T, wt.wtL (t.1 ++ t.2) ≤ 2147483647
theorem Stk.len {W0 : World} : ∀ {S : List Od} {T : List (List Ex × List Ex)} {ks : List Ex}, Stk W0 (some ks) S T → (∀ t ∈ T, nodes.nodesL (t.1 ++ t.2) ≤ 1000) → nodes.nodesL ks ≤ 1000 → S.length + nodes.nodesL ks ≤ 1000
  | [], _, _, _, _, hk => by simpa using hk
  | x :: S, [], _, h, _, _ => by cases h
  | x :: S, (ds, ys) :: T, ks, h, hn, hk => by
    obtain ⟨h1, h2⟩ := h
    obtain ⟨d, z, e1, e2, _⟩ := h1.so ks rfl
    have hl : nodes.nodesL ks < nodes.nodesL (ds ++ ys) := by
      rw [← e2, e1, List.append_assoc]
      exact kd_less
    have := Stk.len h2 (fun t ht => hn t (List.mem_cons_of_mem _ ht)) (hn (ds, ys) (List.mem_cons_self ..))
    rw [List.length_cons]
    omega
theorem put_some {es : List (Pk × S3)} {k k' : Pk} {x : S3} (h : (getS es k').isSome = true) : (getS (putS es k x) k').isSome = true := by
  rw [get_put]
  split
  · rfl
  · exact h
theorem WLI.slen {W0 : World} {s mb : Nat} {w : World} {x : Od} {S : List Od} {ds ys : List Ex} {T : List (List Ex × List Ex)} {es : List (Pk × S3)} {v : Value} (h : WLI W0 s mb w (x :: S) ((ds, ys) :: T) es v) : S.length ≤ 1000 := by
  have := Stk.len h.st.2 (fun t ht => h.nb t (List.mem_cons_of_mem _ ht)) (h.nb (ds, ys) (List.mem_cons_self ..))
  omega
theorem step_nil (W0 : World) (s mb : Nat) (w : World) (x : Od) (S : List Od) (ds : List Ex) (T : List (List Ex × List Ex)) (es : List (Pk × S3)) (v : Value) (h : WLI W0 s mb w (x :: S) ((ds, []) :: T) es v) :
    Calls Tryz.prog 105 #[.pointer (some ⟨s, 0, none⟩)] w fun e W' => (∃ u, e = .returned u) ∧ ∃ S' T' es' v', WLI W0 s mb W' S' T' es' v' ∧ ms T' < ms ((ds, []) :: T) ∧ ∀ k, (getS es k).isSome = true → (getS es' k).isSome = true := by
  obtain ⟨⟨b, o, n⟩, rv, t⟩ := x
  have ho := h.st.1
  obtain ⟨ra, rc, hrv, _⟩ := ho.rs
  simp only [List.length_nil] at hrv
  subst hrv
  have ht : t = wt.wtL ds := ho.no rfl
  have hsc := h.sc
  rw [List.reverse_cons] at hsc
  have hpl : Pl w b := ho.pl.blk (h.q.block b ho.pl.lt (by have := ho.pl.lt; simp only at this; omega))
  have hat := ho.at_
  have hln := ho.ln
  rw [List.append_nil] at hat hln
  have hfr : ∀ y ∈ S, y.1 ≠ (b, o, n) := by
    intro y hy e
    obtain ⟨xs, a1, a2, a3⟩ := Stk.less h.st.2 y hy
    rw [List.append_nil] at a3
    have := rdl_det (l := ds) (l' := xs) (b := b) (off := o) (by rw [a2, e]; exact hln) hat (by rw [e] at a1; exact a1)
    rw [this] at a3
    omega
  refine (step_end W0.heap.size s mb _ v es S.reverse b o n ra rc t w hsc 0 (h.ei.op _ (List.mem_cons_self ..)) hpl ho.pl.lt (by rw [List.length_reverse]; have := h.slen; omega) (by rw [ht]; exact wtL_pos ds) ?_).mono ?_
  · intro M y hM
    have hS : S = y :: M.reverse := by have := congrArg List.reverse hM; simpa using this
    subst hS
    cases T with
    | nil => exact absurd h.st.2 (by simp [Stk])
    | cons t2 T =>
      obtain ⟨d2, y2⟩ := t2
      obtain ⟨d, z, e1, e2, e3⟩ := h.st.2.1.so _ rfl
      have hw := h.wb (d2, y2) (by simp)
      simp only at hw
      rw [e1, wtL_app, wtL_app, wtL_cons, wtL_nil, wt_own, e2, List.append_nil] at hw
      have := wtL_pos d
      have := wtL_pos y2
      have := own1_pos z
      rw [e3, ht]
      omega
  · rintro e W' ⟨hu, hq, v', hv⟩
    refine ⟨hu, ?_⟩
    have q' := h.q.trans hq
    have ei' : EsI W0 (putS es (b, o, n) (t, true, false)) S := by rw [ht]; exact h.ei.ended hat hln hfr
    rcases hv with ⟨hS, hsc'⟩ | ⟨M, y, hM, hsc'⟩
    · have hS' : S = [] := by simpa using hS
      subst hS'
      cases T with
      | cons t2 T => exact absurd h.st.2 (by simp [Stk])
      | nil => exact ⟨[], [], _, v', ⟨q', hsc', trivial, ei', by simp, by simp⟩, by simp [ms], fun k hk => put_some hk⟩
    · have hS : S = y :: M.reverse := by have := congrArg List.reverse hM; simpa using this
      subst hS
      cases T with
      | nil => exact absurd h.st.2 (by simp [Stk])
      | cons t2 T =>
        obtain ⟨d2, y2⟩ := t2
        obtain ⟨d, z, e1, e2, e3⟩ := h.st.2.1.so _ rfl
        have hp := h.st.2.1
        refine ⟨(y.1, y.2.1, y.2.2 + t) :: M.reverse, (d2, y2) :: T, _, v', ⟨q', by rw [List.reverse_cons, List.reverse_reverse]; exact hsc', ⟨⟨hp.at_, hp.ln, hp.pl, hp.rs, fun _ => ?_, fun _ e => by cases e⟩, h.st.2.2⟩, ei'.same rfl, fun t ht => h.nb t (List.mem_cons_of_mem _ ht), fun t ht => h.wb t (List.mem_cons_of_mem _ ht)⟩, by simp only [ms]; omega, fun k hk => put_some hk⟩
        show y.2.2 + t = _
        rw [e3, ht, e1, wtL_app, wtL_cons, wtL_nil, wt_own, e2, List.append_nil]
        omega
theorem app_one (ds ys : List Ex) (z : Ex) : (ds ++ [z]) ++ ys = ds ++ z :: ys := by rw [List.append_assoc]; rfl
theorem WLI.next {W0 : World} {s mb : Nat} {w W' : World} {k : Pk} {rv : Value} {t : Int} {S : List Od} {ds ys : List Ex} {z : Ex} {T : List (List Ex × List Ex)} {es : List (Pk × S3)} {v : Value} (h : WLI W0 s mb w ((k, rv, t) :: S) ((ds, z :: ys) :: T) es v) {nr v' : Value} {t' : Int} (q : Qp (fun i => W0.heap.size ≤ i) w W') (hn : TL W0 nr ys) (ht : t' = t + own1 z + wt.wtL (kd z)) (sc : ScA W' W0.heap.size s mb (.func (.func 88) #[] #[]) v' es (S.reverse ++ [(k, nr, t')])) : WLI W0 s mb W' ((k, nr, t') :: S) ((ds ++ [z], ys) :: T) es v' ∧ ms ((ds ++ [z], ys) :: T) < ms ((ds, z :: ys) :: T) := by
  have ho := h.st.1
  have hno : t = wt.wtL ds := ho.no rfl
  refine ⟨⟨h.q.trans q, by rw [List.reverse_cons]; exact sc, ⟨⟨?_, ?_, ho.pl, hn, fun _ => ?_, fun _ e => by cases e⟩, ?_⟩, h.ei.same rfl, ?_, ?_⟩, ?_⟩
  · rw [app_one]; exact ho.at_
  · rw [app_one]; exact ho.ln
  · show t' = _
    rw [ht, hno, wtL_app, wtL_cons, wtL_nil, wt_own]
    omega
  · rw [app_one]; exact h.st.2
  · intro u hu
    rcases List.mem_cons.1 hu with rfl | hu
    · simp only; rw [app_one]; exact h.nb (ds, z :: ys) (List.mem_cons_self ..)
    · exact h.nb u (List.mem_cons_of_mem _ hu)
  · intro u hu
    rcases List.mem_cons.1 hu with rfl | hu
    · simp only; rw [app_one]; exact h.wb (ds, z :: ys) (List.mem_cons_self ..)
    · exact h.wb u (List.mem_cons_of_mem _ hu)
  · simp only [ms]
    rw [nl_cons, nl_kd]
    omega
theorem WLI.down {W0 : World} {s mb : Nat} {w W' : World} {k : Pk} {rv : Value} {t : Int} {S : List Od} {ds ys : List Ex} {z : Ex} {T : List (List Ex × List Ex)} {es : List (Pk × S3)} {v : Value} (h : WLI W0 s mb w ((k, rv, t) :: S) ((ds, z :: ys) :: T) es v) {nr v' kv : Value} {t' : Int} {k' : Pk} (q : Qp (fun i => W0.heap.size ≤ i) w W') (hn : TL W0 nr ys) (ht : t' = t + own1 z) (hk : TL W0 kv (kd z)) (hp : Pl W0 k'.1) (hr : Rd.RdL W0 (kd z) k'.1 k'.2.1) (hl : (kd z).length = k'.2.2)
    (sc : ScA W' W0.heap.size s mb (.func (.func 88) #[] #[]) v' (putS es k' (0, false, false)) ((S.reverse ++ [(k, nr, t')]) ++ [(k', kv, 0)])) : WLI W0 s mb W' ((k', kv, 0) :: (k, nr, t') :: S) (([], kd z) :: (ds ++ [z], ys) :: T) (putS es k' (0, false, false)) v' ∧ ms (([], kd z) :: (ds ++ [z], ys) :: T) < ms ((ds, z :: ys) :: T) := by
  have ho := h.st.1
  have hno : t = wt.wtL ds := ho.no rfl
  have hnb := h.nb (ds, z :: ys) (List.mem_cons_self ..)
  have hwb := h.wb (ds, z :: ys) (List.mem_cons_self ..)
  simp only at hnb hwb
  refine ⟨⟨h.q.trans q, by rw [List.reverse_cons, List.reverse_cons]; exact sc, ⟨⟨by rw [List.nil_append]; exact hr, by rw [List.nil_append]; exact hl, hp, hk, fun _ => by rw [wtL_nil], fun _ e => by cases e⟩, ⟨⟨?_, ?_, ho.pl, hn, fun e => (by cases e), fun ks e => ?_⟩, ?_⟩⟩, (h.ei.same (x' := (k, nr, t')) rfl).begun (k', kv, 0), ?_, ?_⟩, ?_⟩
  · rw [app_one]; exact ho.at_
  · rw [app_one]; exact ho.ln
  · obtain rfl := Option.some.inj e
    exact ⟨ds, z, rfl, (List.nil_append _).symm, by show t' = _; rw [ht, hno]⟩
  · rw [app_one]; exact h.st.2
  · intro u hu
    rcases List.mem_cons.1 hu with rfl | hu
    · simp only [List.nil_append]
      have := kd_less (d := ds) (r := ys) (z := z)
      omega
    · rcases List.mem_cons.1 hu with rfl | hu
      · simp only; rw [app_one]; exact hnb
      · exact h.nb u (List.mem_cons_of_mem _ hu)
  · intro u hu
    rcases List.mem_cons.1 hu with rfl | hu
    · simp only [List.nil_append]
      rw [wtL_app, wtL_cons, wt_own] at hwb
      have := wtL_pos ds
      have := wtL_pos ys
      have := own1_pos z
      omega
    · rcases List.mem_cons.1 hu with rfl | hu
      · simp only; rw [app_one]; exact hwb
      · exact h.wb u (List.mem_cons_of_mem _ hu)
  · simp only [ms]
    rw [nl_cons, nl_kd]
    omega
theorem bsize (l : List UInt8) : (⟨l.toArray⟩ : ByteArray).size = l.length := by simp [ByteArray.size]
theorem step_cons (W0 : World) (s mb : Nat) (w : World) (x : Od) (S : List Od) (ds ys : List Ex) (z : Ex) (T : List (List Ex × List Ex)) (es : List (Pk × S3)) (v : Value) (h : WLI W0 s mb w (x :: S) ((ds, z :: ys) :: T) es v) :
    Calls Tryz.prog 105 #[.pointer (some ⟨s, 0, none⟩)] w fun e W' => (∃ u, e = .returned u) ∧ ∃ S' T' es' v', WLI W0 s mb W' S' T' es' v' ∧ ms T' < ms ((ds, z :: ys) :: T) ∧ ∀ k, (getS es k).isSome = true → (getS es' k).isSome = true := by
  obtain ⟨k, rv, t⟩ := x
  have ho := h.st.1
  have hno : t = wt.wtL ds := ho.no rfl
  have hnb := h.nb (ds, z :: ys) (List.mem_cons_self ..)
  have hwb := h.wb (ds, z :: ys) (List.mem_cons_self ..)
  simp only at hnb hwb
  rw [wtL_app, wtL_cons, wt_own] at hwb
  have p1 := wtL_pos ds
  have p2 := wtL_pos ys
  have p3 := own1_pos z
  have p4 := wtL_pos (kd z)
  have hsl := h.slen
  obtain ⟨ra, rc, hrv, hr1, hr2, hrd⟩ := ho.rs
  obtain ⟨rb, ro, rfl, hrp, hrl⟩ := hrd (by simp)
  simp only [List.length_cons] at hrv hr1
  subst hrv
  have hsc := h.sc
  rw [List.reverse_cons] at hsc
  unfold Rd.RdL at hrl
  obtain ⟨⟨c0, c1, c2, c3, c4, c5, c6, g0, g1, g2, g3, g4, g5, g6, hz⟩, hrest⟩ := hrl
  have tr : ∀ {o : Nat} {u : Value}, W0.cell? ⟨rb, o, none⟩ = some u → w.cell? ⟨rb, o, none⟩ = some u := fun e => (h.q.cell hrp.lt (by have := hrp.lt; omega)).trans e
  cases z with
  | mk k1 n1 t1 b1 e1 rs1 ks1 =>
    unfold Rd at hz
    obtain ⟨rv1, kv1, hv, ⟨ao, cao, hao, _⟩, ka, kc, hkv, hk1, hk2, hk3⟩ := hz
    simp only [Value.agg.injEq, Array.mk.injEq, List.cons.injEq, and_true] at hv
    obtain ⟨-, -, rfl, -, -, rfl, rfl⟩ := hv
    subst hao hkv
    have d2 := tr g2
    have d5 := tr g5
    have d6 := tr g6
    have ow : own1 (.mk k1 n1 t1 b1 e1 rs1 ks1) = 96 + ((⟨t1.toArray⟩ : ByteArray).size : Int) + 40 * (rs1.length : Int) := by rw [bsize]; rfl
    have hts : (⟨t1.toArray⟩ : ByteArray).size ≤ 3000000000 := by omega
    have hrs : rs1.length ≤ 100000000 := by omega
    have hll : S.reverse.length < 100000 := by rw [List.length_reverse]; omega
    -- what is left of the list
    have hone : rc = 1 → ys = [] := fun e => List.eq_nil_of_length_eq_zero (by omega)
    have tl1 : rc = 1 → TL W0 (.slice (some ⟨rb, ro, none⟩) 0 0) ys := fun e => by
      rw [hone e]
      exact ⟨_, 0, rfl, Nat.le_refl _, Nat.zero_le _, fun h => absurd rfl h⟩
    have tln : TL W0 (.slice (some ⟨rb, ro + 7, none⟩) ys.length (rc - 1)) ys := ⟨_, rc - 1, rfl, by omega, by omega, fun _ => ⟨rb, ro + 7, rfl, hrp, hrest⟩⟩
    have hB : rb < W0.heap.size := hrp.lt
    by_cases hks : ks1 = []
    · subst hks
      have e0 : wt.wtL (kd (.mk k1 n1 t1 b1 e1 rs1 [])) = 0 := by simp only [kd]; exact wtL_nil
      by_cases h1 : rc = 1
      · subst h1
        obtain rfl := hone rfl
        refine (step_leaf1 W0.heap.size s mb v es S.reverse k rb ro t w hsc hB (by omega) _ ao _ cao ka kc d2 d5 d6 hrs hts (by omega) (by omega)).mono ?_
        rintro e W' ⟨hu, hq, hsc'⟩
        have := h.next hq (tl1 rfl) (by rw [e0, ow]; omega) hsc'
        exact ⟨hu, _, _, es, v, this.1, this.2, fun _ h => h⟩
      · refine (step_leafn W0.heap.size s mb v es S.reverse k rb ro ys.length rc t w hsc hB hr1 h1 hr2 (by omega) _ ao _ cao ka kc d2 d5 d6 hrs hts (by omega) (by omega)).mono ?_
        rintro e W' ⟨hu, hq, hsc'⟩
        have := h.next hq tln (by rw [e0, ow]; omega) hsc'
        exact ⟨hu, _, _, es, v, this.1, this.2, fun _ h => h⟩
    · obtain ⟨kb, ko, rfl, hkp, hkr⟩ := hk3 hks
      have hkn : 0 < ks1.length := List.length_pos_iff.2 hks
      have hkm : ks1.length ≤ 1000 := by
        have := len_nl ks1
        have := kd_less (d := ds) (r := ys) (z := .mk k1 n1 t1 b1 e1 rs1 ks1)
        simp only [kd] at this
        omega
      have hkw : Pl w kb := hkp.blk (h.q.block kb hkp.lt (by have := hkp.lt; omega))
      have tlk : TL W0 (.slice (some ⟨kb, ko, none⟩) ks1.length kc) ks1 := ⟨_, kc, rfl, hk1, hk2, fun _ => ⟨kb, ko, rfl, hkp, hkr⟩⟩
      have hfr := h.st.fresh (k := (kb, ko, ks1.length)) (ks := ks1) hkr rfl (kd_less (d := ds) (r := ys) (z := .mk k1 n1 t1 b1 e1 rs1 ks1))
      cases hg : getS es (kb, ko, ks1.length) with
      | none =>
        by_cases h1 : rc = 1
        · subst h1
          obtain rfl := hone rfl
          refine (step_begin1 W0.heap.size s mb v es S.reverse k rb ro t w hsc hB hll _ ao _ cao kb ko ks1.length kc d2 d5 d6 hkn hkm hkw hkp.lt hg hrs hts (by omega) (by omega)).mono ?_
          rintro e W' ⟨hu, hq, v', hsc'⟩
          have := h.down (k' := (kb, ko, ks1.length)) hq (tl1 rfl) (by rw [ow]) tlk hkp hkr rfl hsc'
          exact ⟨hu, _, _, _, v', this.1, this.2, fun _ h => put_some h⟩
        · refine (step_beginn W0.heap.size s mb v es S.reverse k rb ro ys.length rc t w hsc hB hr1 h1 hr2 hll _ ao _ cao kb ko ks1.length kc d2 d5 d6 hkn hkm hkw hkp.lt hg hrs hts (by omega) (by omega)).mono ?_
          rintro e W' ⟨hu, hq, v', hsc'⟩
          have := h.down (k' := (kb, ko, ks1.length)) hq tln (by rw [ow]) tlk hkp hkr rfl hsc'
          exact ⟨hu, _, _, _, v', this.1, this.2, fun _ h => put_some h⟩
      | some sm =>
        rcases h.ei.cl _ _ hg with ⟨xs, a1, a2, rfl⟩ | ⟨_, y, hy, hy2⟩
        · have exs : xs = ks1 := rdl_det a2 a1 hkr
          subst exs
          have hlim : t + (96 + ((⟨t1.toArray⟩ : ByteArray).size : Int) + 40 * (rs1.length : Int)) + wt.wtL xs ≤ 2147483648 := by rw [← ow]; simp only [kd] at hwb; omega
          by_cases h1 : rc = 1
          · subst h1
            obtain rfl := hone rfl
            refine (step_closed1 W0.heap.size s mb v es S.reverse k rb ro t w hsc hB hll _ ao _ cao kb ko xs.length kc d2 d5 d6 hkn hkm hkw hkp.lt _ hg (wtL_pos xs) hrs hts (by omega) hlim).mono ?_
            rintro e W' ⟨hu, hq, hsc'⟩
            have := h.next hq (tl1 rfl) (by rw [ow]; rfl) hsc'
            exact ⟨hu, _, _, es, v, this.1, this.2, fun _ h => h⟩
          · refine (step_closedn W0.heap.size s mb v es S.reverse k rb ro ys.length rc t w hsc hB hr1 h1 hr2 hll _ ao _ cao kb ko xs.length kc d2 d5 d6 hkn hkm hkw hkp.lt _ hg (wtL_pos xs) hrs hts (by omega) hlim).mono ?_
            rintro e W' ⟨hu, hq, hsc'⟩
            have := h.next hq tln (by rw [ow]; rfl) hsc'
            exact ⟨hu, _, _, es, v, this.1, this.2, fun _ h => h⟩
        · exact absurd hy2 (hfr y hy)
set_option maxHeartbeats 1000000 in
theorem place_eq (b o n cap : Nat) (W : World) (hn : 0 < n) (hm : n ≤ 1000) :
    Calls Tryz.prog 91 #[.slice (some ⟨b, o, none⟩) n cap] W fun e W' => e = .returned (pkV (b, o, n)) ∧ W' = W.alloc (.cells #[.pointer (some ⟨b, o, none⟩), .int .i64 (n : Int)] 150) := by
  have hn' : (0 : Int) < (n : Int) := by omega
  unfold pkV
  go_enter Tryz.func91, Tryz.ntmps91
  go_wp2
  refine bodyPost_ret (v := .agg #[.pointer (some ⟨b, o, none⟩), .int .i64 (n : Int)]) (by simp [results, Tryz.results91, go_sem]) rfl ?_
  exact ⟨rfl, rfl⟩
def WR (W0 : World) (s mb : Nat) (k : Pk) (kk : Nat) (wr : World) : Prop := ∃ S T es v, WLI W0 s mb wr S T es v ∧ ms T = kk ∧ (getS es k).isSome = true
theorem sc_start (W : World) (fv : Value) : ScA ((W.alloc (.map #[] 0)).alloc (.cells #[fv, .map (some W.heap.size), .slice none 0 0, .bool false] 167)) W.heap.size (W.heap.size + 1) W.heap.size fv (.slice none 0 0) [] [] := by
  have hb : ((W.alloc (.map #[] 0)).alloc (.cells #[fv, .map (some W.heap.size), .slice none 0 0, .bool false] 167)).heap[W.heap.size + 1]? = some (.cells #[fv, .map (some W.heap.size), .slice none 0 0, .bool false] 167 (0, 0)) := by
    have := (MapKept.heap_alloc (W.alloc (.map #[] 0)) (.cells #[fv, .map (some W.heap.size), .slice none 0 0, .bool false] 167)).1
    simpa using this
  have hm : ((W.alloc (.map #[] 0)).alloc (.cells #[fv, .map (some W.heap.size), .slice none 0 0, .bool false] 167)).heap[W.heap.size]? = some (.map #[] 0) := by
    have h1 := (MapKept.heap_alloc W (.map #[] 0)).1
    exact (Q.block ((Q.refl (W.alloc (.map #[] 0))).alloc _) (by simp)).trans h1
  have hp : Pl ((W.alloc (.map #[] 0)).alloc (.cells #[fv, .map (some W.heap.size), .slice none 0 0, .bool false] 167)) (W.heap.size + 1) := ⟨_, _, hb⟩
  have cl : ∀ j, ((W.alloc (.map #[] 0)).alloc (.cells #[fv, .map (some W.heap.size), .slice none 0 0, .bool false] 167)).cell? ⟨W.heap.size + 1, j, none⟩ = (#[fv, .map (some W.heap.size), .slice none 0 0, .bool false] : Array Value)[j]? := fun j => cell_of_row _ _ j _ _ _ hb
  exact ⟨cl 0, cl 1, cl 2, cl 3, fun j => hp.frozen j, ⟨#[], 0, hm, rfl⟩, own_nil _, by omega, Nat.le_refl _, by omega, by simp [Value.ownBlock], by simp [Value.ownBlock], by simp⟩
theorem li_start {W w2 : World} {b o n cap : Nat} {xs : List Ex} {v2 : Value} (hr : Rd.RdL W xs b o) (hl : xs.length = n) (hp : Pl W b) (hc : n ≤ cap) (hcm : cap ≤ maxLen) (hnb : nodes.nodesL xs ≤ 1000) (hwb : wt.wtL xs ≤ 2147483647) (q : Qp (fun i => W.heap.size ≤ i) W w2) (sc : ScA w2 W.heap.size (W.heap.size + 1) W.heap.size (.func (.func 88) #[] #[]) v2 (putS [] (b, o, n) (0, false, false)) ([] ++ [((b, o, n), .slice (some ⟨b, o, none⟩) n cap, 0)])) : WR W (W.heap.size + 1) W.heap.size (b, o, n) (ms [([], xs)]) w2 := by
  subst hl
  refine ⟨[((b, o, xs.length), .slice (some ⟨b, o, none⟩) xs.length cap, 0)], [([], xs)], _, v2, ⟨q, sc, ⟨⟨by rw [List.nil_append]; exact hr, by rw [List.nil_append], hp, ⟨_, cap, rfl, hc, hcm, fun _ => ⟨b, o, rfl, hp, hr⟩⟩, fun _ => wtL_nil.symm, fun _ e => by cases e⟩, trivial⟩, ?_, by simpa using hnb, by simpa using hwb⟩, rfl, by rw [get_put, if_pos rfl]; rfl⟩
  exact EsI.begun (S := []) ⟨fun k s hk => (by cases hk), fun x hx => absurd hx (by simp)⟩ ((b, o, xs.length), .slice (some ⟨b, o, none⟩) xs.length cap, 0)
theorem li_step {W0 : World} {s mb : Nat} {w : World} {x : Od} {S : List Od} {T : List (List Ex × List Ex)} {es : List (Pk × S3)} {v : Value} (h : WLI W0 s mb w (x :: S) T es v) (k : Pk) (hk : (getS es k).isSome = true) :
    Calls Tryz.prog 105 #[.pointer (some ⟨s, 0, none⟩)] w fun e W' => (∃ u, e = .returned u) ∧ ∃ kk, WR W0 s mb k kk W' ∧ kk < ms T := by
  cases T with
  | nil => exact absurd h.st (by simp [Stk])
  | cons t T =>
    obtain ⟨ds, ys⟩ := t
    cases ys with
    | nil =>
      refine (step_nil W0 s mb w x S ds T es v h).mono ?_
      rintro e W' ⟨hu, S', T', es', v', h1, h2, h3⟩
      exact ⟨hu, _, ⟨S', T', es', v', h1, rfl, h3 k hk⟩, h2⟩
    | cons z ys =>
      refine (step_cons W0 s mb w x S ds ys z T es v h).mono ?_
      rintro e W' ⟨hu, S', T', es', v', h1, h2, h3⟩
      exact ⟨hu, _, ⟨S', T', es', v', h1, rfl, h3 k hk⟩, h2⟩
end Go.Proofs.YthebfhdpofhmpaaGreatDoor
