/- counterpanelaw4.RegionParts: the walk. -/
import Derived.Test.YtkbpdgghnlnakaaN
namespace Go.Proofs.Ytkbpdgghnlnakaa
open Go.RowKit
set_option linter.unusedVariables false
set_option linter.unusedSimpArgs false

theorem wpList_append_src {w : World} {ops : Array Oper} {rest : List Oper} {o : Oper} {a : Act} {Q : Exit → Act → World → Prop} (hgd : o.guard = none) (s x : Operand) (t : TypeId)
    (ho : o.op = .call { callee := .builtin .append, args := #[s, x], argTypes := #[t, t] })
    (base : Nat) (e : TypeId) (i : TypeInfo) (z : Value) (size bytes : Nat) (ht : Try.prog.underlying t = some (.slice e)) (hi : Try.prog.info? e = some i) (hz : i.zero = some z)
    (hsize : i.size = size) (hby : i.bytes = bytes) (hzs : z.cells.size = size) (hsz : 0 < size)
    (v : Value) (n : Nat) (xs : List Value) (hs : a.eval s = v) (hown : w.ownsRow base e size v n xs)
    (u : Value) (hx : a.eval x = u) (m : Nat) (news : List Value) (hu : (u = .slice none 0 0 ∧ m = 0 ∧ news = []) ∨ ∃ ad c, u = .slice (some ad) m c ∧ ∀ j u, news[j]? = some u → w.cell? (ad.add j) = some u)
    (hl : news.length = m * size) (h1 : ∀ u ∈ news, u.oneCell' = true)
    (h63 : n + m ≤ maxLen) (hbytes : (n + m) * bytes ≤ 140737488355328) (hbase : base ≤ w.heap.size)
    (h : ∀ v' w', w'.ownsRow base e size v' (n + m) (xs ++ news) → w.grownBy w' v.ownBlock → wpList Try.prog ops Q rest (a.put o.dst v') w') : wpList Try.prog ops Q (o :: rest) a w := by
  rcases hu with ⟨rfl, rfl, rfl⟩ | ⟨ad, c, rfl, hnews⟩
  · refine wpList_append_own_none hgd s x t ho base e i size ht hi v n xs hs hown hx (h v w (by simpa using hown) ⟨rfl, rfl, rfl, Nat.le_refl _, fun _ _ _ => rfl⟩)
  · exact wpList_append_own w hgd s x t ho base e i z size bytes ht hi hz hsize hby hzs hsz v n xs hs hown ad m c news hx hl hnews h1 h63 hbytes hbase fun v' w' h2 h3 _ => h v' w' h2 h3
theorem own_src {α : Type} {enc : α → List Value} {e : TypeId} {k B : Nat} {W : World} {v : Value} {L : List α} (h : Own enc e k B W v L) (hk : ∀ x, (enc x).length = k) (hp : 0 < k) : (v = .slice none 0 0 ∧ L.length = 0 ∧ flat enc L = []) ∨ ∃ ad c, v = .slice (some ad) L.length c ∧ ∀ j u, (flat enc L)[j]? = some u → W.cell? (ad.add j) = some u := by
  have hs := h.sl hk hp
  obtain ⟨_, h⟩ := h
  rcases h with ⟨hv, hn⟩ | ⟨g, cap, cur, hv, _⟩
  · exact .inl ⟨hv, hn, by rw [List.eq_nil_of_length_eq_zero hn]; rfl⟩
  · rw [hv] at hs
    exact .inr ⟨_, _, hv, sl_news hs hk hp⟩
/-- the length of a slice that is not opened -/
theorem len_sl {W : World} {v : Value} {L : List Rg.Rc} (h : Sl rc 4 W v L) : ∀ w, Sem.run Try.prog (Builtin.len_ #[22] 3 #[v]) w = .ok (.int .i64 (L.length : Int)) w := by
  obtain ⟨ao, cap, rfl, _, _⟩ := h.len
  intro w
  have u22 := Try.underlying22
  go_simp
theorem calls_ends {P : Program} {f : FuncId} {args : Array Value} {w : World} {R : Ending → World → Prop} (h : Calls P f args w R) : ∃ e w', R e w' := by
  obtain ⟨e, w', fr, r, _⟩ := h []
  first
    | exact ⟨e, w', r⟩
    | exact ⟨e, w', fr⟩
/-- what the parts are, plainly -/
structure Prt (CA CB O E lA : List Rg.Rc) : Prop where
  all : ∀ r c, Rg.has (O ++ E) r c = Rg.has CA r c
  l : ∀ r c, Rg.has lA r c = Rg.has CA r c
  eb : ∀ r c, Rg.dif E CB r c = false
  oa : ∀ r c, Rg.dif O CA r c = false
  tot : Rg.tot lA = Rg.tot O + Rg.tot E
  okA : Rg.Ok lA
  okO : Rg.Ok O
  okE : Rg.Ok E
theorem prt_of {CA CB O E lA : List Rg.Rc} (mA : Rg.Mays CA) (hO : Rg.Nf (Rg.dif CA CB) O) (hE : Rg.Nf (Rg.dif CA O) E) (hA : Rg.Nf (Rg.dif CA []) lA) : Prt CA CB O E lA := by
  have o1 : ∀ r c, Rg.has O r c = (Rg.has CA r c && !Rg.has CB r c) := fun r c => Rg.nf_has hO r c
  have e1 : ∀ r c, Rg.has E r c = (Rg.has CA r c && !Rg.has O r c) := fun r c => Rg.nf_has hE r c
  have a1 : ∀ r c, Rg.has lA r c = Rg.has CA r c := fun r c => by rw [Rg.nf_has hA, Rg.dif_nil]
  obtain ⟨n, hn⟩ : ∃ n : Nat, (4398046511104 : Int) ≤ n := ⟨4398046511104, by omega⟩
  refine ⟨fun r c => ?_, a1, fun r c => ?_, fun r c => ?_, ?_, Rg.nf_ok hA, Rg.nf_ok hO, Rg.nf_ok hE⟩
  · rw [Rg.has_append, e1, o1]
    cases Rg.has CA r c <;> cases Rg.has CB r c <;> rfl
  · unfold Rg.dif
    rw [e1, o1]
    cases Rg.has CA r c <;> cases Rg.has CB r c <;> rfl
  · unfold Rg.dif
    rw [o1]
    cases Rg.has CA r c <;> cases Rg.has CB r c <;> rfl
  · rw [Rg.nf_msr hA (Rg.nf_mays hA (Rg.dif_inn mA)) hn, Rg.nf_msr hO (Rg.nf_mays hO (Rg.dif_inn mA)) hn, Rg.nf_msr hE (Rg.nf_mays hE (Rg.dif_inn mA)) hn]
    refine Rg.msr_add (fun r c => ?_) (fun r c => ?_) n
    · rw [Rg.dif_nil]
      unfold Rg.dif
      rw [o1]
      cases Rg.has CA r c <;> cases Rg.has CB r c <;> rfl
    · unfold Rg.dif
      rw [o1]
      cases Rg.has CA r c <;> cases Rg.has CB r c <;> rfl
theorem ar_sum {CA CB O E lA : List Rg.Rc} (h : Prt CA CB O E lA) (most : Int) (hm : 0 ≤ most) (hne : ¬ Rg.ar most 0 lA = most) : Rg.ar most 0 O + Rg.ar most 0 E = Rg.ar most 0 lA := by
  have t1 := Rg.tot_nonneg h.okO
  have t2 := Rg.tot_nonneg h.okE
  have t3 := h.tot
  rw [Rg.ar_eq most lA 0 h.okA (Int.le_refl _) hm] at hne ⊢
  rw [Rg.ar_eq most O 0 h.okO (Int.le_refl _) hm, Rg.ar_eq most E 0 h.okE (Int.le_refl _) hm]
  by_cases g : 0 + Rg.tot lA ≤ most
  · rw [if_pos g, if_pos (by omega), if_pos (by omega)]
    omega
  · rw [if_neg g] at hne
    exact absurd rfl hne

set_option maxRecDepth 100000 in
set_option maxHeartbeats 4000000 in
theorem parts_walk (va : Value) (La : List Rg.Rc) (vb : Value) (Lb : List Rg.Rc) (w : World) (ha : Sl rc 4 w va La) (hb : Sl rc 4 w vb Lb) : Calls Try.prog 4 #[va, vb] w fun e w' => e = .returned (.bool true) ∧ Q w w' := by
  obtain ⟨i0, HI⟩ := inf_of info28
  have HI := hid HI
  have hA : (La.take 12).length ≤ 12 := by rw [List.length_take]; omega
  have hB : (Lb.take 12).length ≤ 12 := by rw [List.length_take]; omega
  have HCA := hid (fun W (q : Q w W) => cut_any va La W (ha.on q))
  have HCB := hid (fun W (q : Q w W) => cut_any vb Lb W (hb.on q))
  have HEX : Hid (∃ lA, Rg.Nf (Rg.dif (Rg.cnted (La.take 12)) []) lA ∧ lA.length ≤ 256) := by
    obtain ⟨_, _, v1, _, s1, _⟩ := calls_ends (HCA.out w (Q.refl _))
    obtain ⟨_, _, v2, _, l, _, _, h3, _, h5⟩ := calls_ends (norm_any v1 _ w s1)
    exact ⟨l, h3, h5 (Nat.le_trans (Rg.cnted_len' _) hA) rfl⟩
  clear ha hb
  generalize La.take 12 = A at *
  generalize Lb.take 12 = B at *
  obtain ⟨lA, hlA, hl256⟩ := HEX.out
  have HLA := hid hlA
  clear HEX hlA
  go_enter Try.func4, Try.ntmps4
  go_upto_region 5 with (first
    | (go_at_call 6; refine (begun_any _).mono ?_; rintro e w1 ⟨rfl, q1⟩; have HQ1 := hid q1; clear q1)
    | (go_at_call_of 7 va; refine (HCA.out _ HQ1.out).mono ?_; rintro e w2 ⟨v2, rfl, s2, rfl⟩; have HSA := hid s2; clear s2)
    | (go_at_call_of 7 vb; refine (HCB.out _ HQ1.out).mono ?_; rintro e w3 ⟨v3, rfl, s3, rfl⟩; have HSB := hid s3; clear s3))
  have HSU := hid (sub_any v2 v3 A B w3 HSA.out HSB.out)
  go_upto_region 7 with (first
    | (go_at_call_of 17 v3; refine HSU.out.mono ?_; rintro e w4 ⟨v4, rfl, O, own4, q4, n4, b4, _⟩; have HO4 := hid own4; have HQ4 := hid q4; have HN4 := hid n4; have hb4 := b4; have HSV := hid (sub_any v2 v4 A O w4 (HSA.out.on q4) (own4.sl rc_len (by decide))); clear own4 q4 n4 b4)
    | (go_at_call_of 17 v4; refine HSV.out.mono ?_; rintro e w5 ⟨v5, rfl, E, own5, q5, n5, b5, _⟩; have HO5 := hid own5; have HQ5 := hid (HQ4.out.trans q5); replace HO4 := hid (HO4.out.on q5); have HN5 := hid n5; have hb5 := b5; clear own5 q5 n5 b5))
  have HSA5 := hid (HSA.out.on HQ5.out)
  have HSB5 := hid (HSB.out.on HQ5.out)
  have l4 := len_sl (HO4.out.sl rc_len (by decide))
  have l5 := len_sl (HO5.out.sl rc_len (by decide))
  clear HSU HSV HSA HSB HCA HCB
  by_cases hbig : 256 < O.length + E.length
  · have hbig' : (256 : Int) < (O.length : Int) + (E.length : Int) := by omega
    go_wp2_with fail
    go_ret
    exact ⟨rfl, HQ1.out.trans HQ5.out⟩
  · have hbig' : ¬ (256 : Int) < (O.length : Int) + (E.length : Int) := by omega
    have HMA := hid (Rg.cnted_mays A)
    have HMO := hid (Rg.nf_mays HN4.out (Rg.dif_inn HMA.out))
    have HCO := hid (Rg.cnted_self HMO.out (show O.length ≤ 256 by omega))
    rw [HCO.out] at HN5
    have HME := hid (Rg.nf_mays HN5.out (Rg.dif_inn HMA.out))
    have HCE := hid (Rg.cnted_self HME.out (show E.length ≤ 256 by omega))
    have HP := hid (prt_of HMA.out HN4.out HN5.out HLA.out)
    have HMOE : Hid (Rg.Mays (O ++ E)) := fun x hx => by
      rcases List.mem_append.1 hx with h | h
      · exact HMO.out x h
      · exact HME.out x h
    have HCOE := hid (Rg.cnted_self HMOE.out (by rw [List.length_append]; omega))
    have HNA : Hid (Rg.Nf (Rg.dif (Rg.cnted (O ++ E)) []) lA) := Rg.nf_congr HLA.out fun r c => by rw [Rg.dif_nil, Rg.dif_nil, HCOE.out, HP.out.all]
    have HNO := hid (nf_self HN4.out HMO.out (show O.length ≤ 256 by omega))
    have HNE := hid (nf_self HN5.out HME.out (show E.length ≤ 256 by omega))
    have HML := hid (Rg.nf_mays HLA.out (Rg.dif_inn HMA.out))
    have HCL := hid (Rg.cnted_self HML.out hl256)
    have HEQ : Hid (∀ r c, Rg.has (Rg.cnted lA) r c = Rg.has (Rg.cnted A) r c) := fun r c => by rw [HCL.out, HP.out.l]
    have HS1 : Hid (Rg.Nf (Rg.dif (Rg.cnted E) (Rg.cnted B)) []) := by show Rg.Nf _ _; rw [HCE.out]; exact Rg.nf_empty _ HP.out.eb
    have HS2 : Hid (Rg.Nf (Rg.dif (Rg.cnted O) (Rg.cnted A)) []) := by show Rg.Nf _ _; rw [HCO.out]; exact Rg.nf_empty _ HP.out.oa
    have HA1 := hid (fun W (q : Q w5 W) => area_any v2 A lA 1125899906842624 1125899906842624 W (HSA5.out.on q) HLA.out (by omega) (by omega) (by omega))
    have HA2 := hid (fun W (q : Q w5 W) => area_any v4 O O 1125899906842624 1125899906842624 W ((HO4.out.sl rc_len (by decide)).on q) HNO.out (by omega) (by omega) (by omega))
    have HA3 := hid (fun W (q : Q w5 W) => area_any v5 E E 1125899906842624 1125899906842624 W ((HO5.out.sl rc_len (by decide)).on q) HNE.out (by omega) (by omega) (by omega))
    have HSUM := hid (ar_sum HP.out 1125899906842624 (by omega))
    have hbd1 := Rg.ar_bound 1125899906842624 lA 0 HP.out.okA (by omega) (by omega)
    have hbd2 := Rg.ar_bound 1125899906842624 O 0 HP.out.okO (by omega) (by omega)
    have hbd3 := Rg.ar_bound 1125899906842624 E 0 HP.out.okE (by omega) (by omega)
    generalize Rg.ar 1125899906842624 0 lA = ra at *
    generalize Rg.ar 1125899906842624 0 O = ro at *
    generalize Rg.ar 1125899906842624 0 E = re at *
    obtain ⟨p1, p2⟩ := hbd1
    obtain ⟨p3, p4⟩ := hbd2
    obtain ⟨p5, p6⟩ := hbd3
    obtain ⟨w0, rfl⟩ : ∃ w', w' = w5 := ⟨w5, rfl⟩
    go_upto_region 12 with (first
      | (at_builtin; refine wpList_append_src rfl _ _ 22 rfl w0.heap.size 28 i0 (.agg #[.int .i64 0, .int .i64 0, .int .i64 0, .int .i64 0]) 4 32 Try.underlying22 HI.out.1 HI.out.2.1 HI.out.2.2.1 HI.out.2.2.2 rfl (by decide) (.slice none 0 0) 0 [] rfl (World.ownsRow_nil _ _ _ _) v4 rfl O.length (flat rc O) (own_src HO4.out rc_len (by decide)) (flat_len rc rc_len O) (flat_one rc rc_one) (by unfold maxLen; omega) (by omega) (Nat.le_refl _) ?_; intro v6 w6 hown' hgrow; have HO6 := hid (own_first (enc := rc) (L := O) hown' (by omega)); have HQ6 : Hid (Q w0 w6) := Below.grown (Q.refl w0) hgrow (Nat.le_refl _) (fun k e => by cases e); clear hown' hgrow)
      | (at_builtin; refine wpList_append_src rfl _ _ 22 rfl w0.heap.size 28 i0 (.agg #[.int .i64 0, .int .i64 0, .int .i64 0, .int .i64 0]) 4 32 Try.underlying22 HI.out.1 HI.out.2.1 HI.out.2.2.1 HI.out.2.2.2 rfl (by decide) _ _ _ rfl HO6.out v5 rfl E.length (flat rc E) (own_src (HO5.out.on HQ6.out) rc_len (by decide)) (flat_len rc rc_len E) (flat_one rc rc_one) (by unfold maxLen; omega) (by omega) (by have := HQ6.out.size; omega) ?_; intro v7 w7 hown' hgrow; have HO7 := hid (own_append' (enc := rc) (L := O) (L' := E) hown' rfl); have HQ7 : Hid (Q w0 w7) := Below.grown HQ6.out hgrow HQ6.out.size (HO6.out.blk); clear hown' hgrow)
      | (go_at_call 8; refine (norm_known v7 (O ++ E) lA _ (HO7.out.sl rc_len (by decide)) HNA.out).mono ?_; rintro e w8 ⟨v8, rfl, own8, q8⟩; have HS8 := hid (own8.sl rc_len (by decide)); have HQ8 := hid (HQ7.out.trans q8); clear own8 q8)
      | (go_at_call 15; refine (HA1.out _ HQ8.out).mono ?_; rintro e w9 ⟨rfl, q9⟩; have HQ9 := hid (HQ8.out.trans q9); replace HS8 := hid (HS8.out.on q9); have HET := hid (eq_true v8 v2 lA A _ HS8.out (HSA5.out.on HQ9.out) HEQ.out); clear q9))
    by_cases hmost : ra = 1125899906842624
    · have hmb : (ra == 1125899906842624) = true := by simpa using hmost
      clear hmost HSUM
      go_wp2_with (first
        | (go_at_call 18; refine HET.out.mono ?_; rintro e wa ⟨rfl, qa⟩; have HQa := hid (HQ9.out.trans qa); clear qa; have HU1 := hid (fun W (q : Q w0 W) => sub_known v5 v3 E B [] W ((HO5.out.sl rc_len (by decide)).on q) (HSB5.out.on q) HS1.out); have HU2 := hid (fun W (q : Q w0 W) => sub_known v4 v2 O A [] W ((HO4.out.sl rc_len (by decide)).on q) (HSA5.out.on q) HS2.out))
        | (go_at_call_of 17 v5; refine (HU1.out _ HQa.out).mono ?_; rintro e wd ⟨vd, rfl, ownd, qd⟩; have HQd := hid (HQa.out.trans qd); obtain ⟨aod, capd, rfl, _, _⟩ := (ownd.sl rc_len (by decide)).len; clear ownd qd; simp only [List.length_nil])
        | (go_at_call_of 17 v4; refine (HU2.out _ HQd.out).mono ?_; rintro e we ⟨ve, rfl, owne, qe⟩; have HQe := hid (HQd.out.trans qe); obtain ⟨aoe, cape, rfl, _, _⟩ := (owne.sl rc_len (by decide)).len; clear owne qe; simp only [List.length_nil]))
      go_ret
      exact ⟨rfl, HQ1.out.trans (HQ5.out.trans HQe.out)⟩
    · have hmb : (ra == 1125899906842624) = false := by simpa using hmost
      have hsum := HSUM.out hmost
      have hsb : (ro + re == ra) = true := by simpa using hsum
      clear hmost HSUM hsum
      go_wp2_with (first
        | (go_at_call 18; refine HET.out.mono ?_; rintro e wa ⟨rfl, qa⟩; have HQa := hid (HQ9.out.trans qa); clear qa; have HU1 := hid (fun W (q : Q w0 W) => sub_known v5 v3 E B [] W ((HO5.out.sl rc_len (by decide)).on q) (HSB5.out.on q) HS1.out); have HU2 := hid (fun W (q : Q w0 W) => sub_known v4 v2 O A [] W ((HO4.out.sl rc_len (by decide)).on q) (HSA5.out.on q) HS2.out))
        | (go_at_call_of 15 v4; refine (HA2.out _ HQa.out).mono ?_; rintro e wb ⟨rfl, qb⟩; have HQb := hid (HQa.out.trans qb); clear qb)
        | (go_at_call_of 15 v5; refine (HA3.out _ HQb.out).mono ?_; rintro e wc ⟨rfl, qc⟩; have HQc := hid (HQb.out.trans qc); clear qc)
        | (go_at_call_of 17 v5; refine (HU1.out _ HQc.out).mono ?_; rintro e wd ⟨vd, rfl, ownd, qd⟩; have HQd := hid (HQc.out.trans qd); obtain ⟨aod, capd, rfl, _, _⟩ := (ownd.sl rc_len (by decide)).len; clear ownd qd; simp only [List.length_nil])
        | (go_at_call_of 17 v4; refine (HU2.out _ HQd.out).mono ?_; rintro e we ⟨ve, rfl, owne, qe⟩; have HQe := hid (HQd.out.trans qe); obtain ⟨aoe, cape, rfl, _, _⟩ := (owne.sl rc_len (by decide)).len; clear owne qe; simp only [List.length_nil]))
      go_ret
      exact ⟨rfl, HQ1.out.trans (HQ5.out.trans HQe.out)⟩
end Go.Proofs.Ytkbpdgghnlnakaa
