/- The reference's Area; counterpanelaw4.RegionNorm: the walk, over the reference's Norm. -/
import Derived.Test.YtkbpdgghnlnakaaO
import Derived.Test.YtkbpdgghnlnakaaJ1
import Derived.Test.YtkbpdgghnlnakaaC1
import Derived.Deep.RegionHeld3
import Derived.Deep.DrawnRows
namespace Go.Proofs.Ytkbpdgghnlnakaa
open Go.RowKit
set_option linter.unusedVariables false
set_option linter.unusedSimpArgs false
attribute [local go_sem ↓] Go.wp_at_zero Go.wp_at_succ

/-- what the reference's Norm answers -/
def RN : Prop := ∀ (v : Value) (L l : List Rg.Rc) (w : World), Sl rc 4 w v L → Rg.Nf (Rg.dif (Rg.cnted L) []) l → Calls Try.prog 12 #[v] w fun e w' => ∃ v', e = .returned v' ∧ Own rc 28 4 w.heap.size w' v' l ∧ Q w w'

set_option maxRecDepth 100000 in
set_option maxHeartbeats 4000000 in
theorem rarea_any (HN : RN) (v : Value) (L l : List Rg.Rc) (most mx : Int) (w : World) (h : Sl rc 4 w v L) (hl : Rg.Nf (Rg.dif (Rg.cnted L) []) l) (hll : l.length ≤ 1000000000000) (hm1 : most ≤ 9223372036854775807) (hmx : max most 0 = mx) :
    Calls Try.prog 16 #[v, .int .i64 most] w fun e w' => e = .returned (.int .i64 (Rg.ar mx 0 l)) ∧ Q w w' := by
  have HNN := hid (HN v L l w h hl)
  have HMA := hid (Rg.nf_mays hl (Rg.dif_inn (Rg.cnted_mays L)))
  have hm0 : 0 ≤ mx := by omega
  have hm2 : mx ≤ 9223372036854775807 := by omega
  clear h hl
  by_cases hneg : most < 0
  · have HR : Hid (0 = Rg.ar mx 0 l) := by
      have := Rg.ar_bound mx l 0 HMA.out.ok (Int.le_refl _) hm0
      show _ = _
      omega
    clear hmx
    go_enter Try.func16, Try.ntmps16
    go_wp2_with (go_at_call 12; refine HNN.out.mono ?_; rintro e w1 ⟨v1, rfl, own1, q1⟩; have HQ1 := hid q1; clear own1 q1)
    go_ret
    exact ⟨ret_int HR.out, HQ1.out⟩
  · obtain rfl : mx = most := by omega
    clear hmx
    generalize hT : Rg.ar mx 0 l = T
    have HT := hid hT
    clear hT
    go_enter Try.func16, Try.ntmps16
    go_wp2_with (go_at_call 12; refine HNN.out.mono ?_; rintro e w1 ⟨v1, rfl, own1, q1⟩; have HS := hid (own1.sl rc_len (by decide)); have HQ1 := hid q1; clear own1 q1; obtain ⟨ao, cap, rfl, _, _⟩ := HS.out.len)
    go_loopw [5, 7, 8, 9] (fun r s _ _ W => ∃ (i : Nat) (nn : Int), i ≤ l.length ∧ s = .int .i64 i ∧ r = .int .i64 nn ∧ 0 ≤ nn ∧ nn ≤ mx ∧ Q w1 W ∧ Hid (Rg.ar mx nn (l.drop i) = T)) (fun _ s _ _ _ => l.length - (intOf s).toNat)
    case atStart => exact ⟨0, 0, Nat.zero_le _, rfl, rfl, Int.le_refl _, hm0, Q.refl _, by rw [List.drop_zero]; exact HT.out⟩
    case round =>
      obtain ⟨i, nn, hi, rfl, rfl, hr0, hr1, hq, HZ⟩ := hrel
      have HQ := hid hq
      clear hq
      by_cases hlt : i < l.length
      · have hlt' : (i : Int) < (l.length : Int) := by omega
        obtain ⟨g, off, cap', e, _, _, hc⟩ := (HS.out.on HQ.out).at hlt
        cases e
        rw [List.drop_eq_getElem_cons hlt] at HZ
        have hmay := HMA.out l[i] (List.getElem_mem _)
        generalize l[i] = x at *
        obtain ⟨xa, xb, xc, xd⟩ := x
        obtain ⟨m1, m2, m3, m4, m5, m6⟩ := hmay
        simp only at m1 m2 m3 m4 m5 m6
        have c0 : wr.cell? ⟨g, off + i * 4, none⟩ = some (.int .i64 xa) := hc 0 _ rfl
        have c1 : wr.cell? ⟨g, off + i * 4 + 1, none⟩ = some (.int .i64 xb) := hc 1 _ rfl
        have c2 : wr.cell? ⟨g, off + i * 4 + 2, none⟩ = some (.int .i64 xc) := hc 2 _ rfl
        have c3 : wr.cell? ⟨g, off + i * 4 + 3, none⟩ = some (.int .i64 xd) := hc 3 _ rfl
        clear hc
        obtain ⟨hh, e1⟩ : ∃ hh, xc - xa = hh := ⟨_, rfl⟩
        obtain ⟨ww, e2⟩ : ∃ ww, xd - xb = ww := ⟨_, rfl⟩
        obtain ⟨rm, e0⟩ : ∃ rm, mx - nn = rm := ⟨_, rfl⟩
        have p0 : 0 ≤ rm := by omega
        have p1 : 0 < hh := by omega
        have p2 : hh ≤ 4398046511104 := by omega
        have p3 : 0 < ww := by omega
        have p4 : ww ≤ 4398046511104 := by omega
        have p5 : (ww == 0) = false := by simp; omega
        have p6 : rm ≤ 9223372036854775807 := by omega
        have hdv0 : 0 ≤ Int.tdiv rm ww := Int.tdiv_nonneg p0 (by omega)
        have hdv1 : Int.tdiv rm ww ≤ rm := by rw [Int.tdiv_eq_ediv_of_nonneg p0]; exact Int.ediv_le_self _ p0
        by_cases hd : Int.tdiv rm ww < hh
        · have HR : Hid (mx = T) := by
            have := HZ.out
            rw [ar_stop (by simp only; rw [e1, e2, e0]; exact hd)] at this
            exact this
          clear HZ
          go_wp2_with fail
          go_quiet (fail)
          go_wp2_with fail
          go_ret
          exact ⟨ret_int HR.out, HQ1.out.trans (HQ.out.drewN _)⟩
        · have HM := hid ((Rg.tdiv_lt (h := hh) p0 p3))
          have hle : hh * ww ≤ rm := by
            have h9 := hd
            rw [HM.out] at h9
            omega
          have hge : 0 ≤ hh * ww := Int.mul_nonneg (by omega) (by omega)
          have HZ2 : Hid (Rg.ar mx (nn + hh * ww) (l.drop (i + 1)) = T) := by
            have := HZ.out
            rw [ar_go (by simp only; rw [e1, e2, e0]; exact hd)] at this
            simp only at this
            rw [e1, e2] at this
            exact this
          clear HZ HM
          obtain ⟨pp, e3⟩ : ∃ pp, hh * ww = pp := ⟨_, rfl⟩
          rw [e3] at hle hge HZ2
          go_wp2_with fail
          go_quiet (fail)
          go_wp2_with fail
          exact ⟨⟨i + 1, nn + pp, by omega, by go_num, by go_num, by omega, by omega, HQ.out.drewN _, HZ2⟩, by simp [intOf]; omega⟩
      · have hlt' : ¬ (i : Int) < (l.length : Int) := by omega
        have HR : Hid (nn = T) := by
          have := HZ.out
          rw [List.drop_eq_nil_of_le (by omega)] at this
          exact this
        clear HZ
        go_wp2_with fail
        go_ret
        exact ⟨ret_int HR.out, HQ1.out.trans HQ.out⟩

set_option maxRecDepth 100000 in
set_option maxHeartbeats 8000000 in
theorem norm_over (HN : RN) (v : Value) (L : List Rg.Rc) (row col most : Int) (w : World) (h : Sl rc 4 w v L) (hm1 : most ≤ 9223372036854775807) : Calls Try.prog 3 #[v, .int .i64 row, .int .i64 col, .int .i64 most] w fun e w' => e = .returned (.bool true) ∧ Q w w' := by
  have hA : (L.take 12).length ≤ 12 := by rw [List.length_take]; omega
  have HCU := hid (fun W (q : Q w W) => cut_any v L W (h.on q))
  clear h
  generalize L.take 12 = A at *
  go_enter Try.func3, Try.ntmps3
  go_wp2_with (first
    | (go_at_call 6; refine (begun_any _).mono ?_; rintro e w1 ⟨rfl, q1⟩; have HQ1 := hid q1; clear q1)
    | (go_at_call 7; refine (HCU.out _ HQ1.out).mono ?_; rintro e w2 ⟨v2, rfl, s2, rfl⟩; have HA := hid s2; obtain ⟨ao, cap, rfl, _, _⟩ := s2.len; clear s2)
    | (go_at_call 8; refine (norm_any _ A _ HA.out).mono ?_; rintro e w3 ⟨v5, rfl, l, own5, q5, n5, b5, c5⟩; have HNL := hid n5; have hll : l.length ≤ 256 := (c5 (Nat.le_trans (Rg.cnted_len' A) hA) rfl); have HS5 := hid (own5.sl rc_len (by decide)); have HA3 := hid (HA.out.on q5); have HQ3 := hid (HQ1.out.trans q5); clear own5 q5 n5 b5 c5))
  have HML := hid (Rg.nf_mays HNL.out (Rg.dif_inn (Rg.cnted_mays A)))
  have HHL : Hid (Rg.has (Rg.cnted l) row col = Rg.has (Rg.cnted A) row col) := by
    show _ = _
    rw [Rg.cnted_self HML.out hll, Rg.nf_has HNL.out, Rg.dif_nil]
  obtain ⟨mx, hmx⟩ : ∃ mx, max most 0 = mx := ⟨_, rfl⟩
  have K1 := hid (fun W (q : Q w3 W) => HN _ A l W (HA3.out.on q) HNL.out)
  have K2 := hid (fun W va vb (ha : Sl rc 4 W va l) (hb : Sl rc 4 W vb l) => eqList_any va vb l l W ha hb (by omega) (by omega))
  have K3 := hid (fun W (q : Q w3 W) => has_any _ A row col W (HA3.out.on q))
  have K4 := hid (fun W (q : Q w3 W) => rhas_any _ A row col W (HA3.out.on q))
  have K5 := hid (fun W (q : Q w3 W) => has_any v5 l row col W (HS5.out.on q))
  have K6 := hid (fun W (q : Q w3 W) => area_any _ A l most mx W (HA3.out.on q) HNL.out (by omega) hm1 hmx)
  have K7 := hid (fun W (q : Q w3 W) => rarea_any HN _ A l most mx W (HA3.out.on q) HNL.out (by omega) hm1 hmx)
  rw [HHL.out] at K5
  have HEQ : Hid (eqRc l l = true) := eqRc_iff.2 rfl
  rw [HEQ.out] at K2
  generalize Rg.has (Rg.cnted A) row col = b1 at *
  generalize Rg.ar mx 0 l = r1 at *
  clear hmx HHL HEQ HNL HML
  go_loopw [11] (fun s W => ∃ (n : Nat), n ≤ A.length ∧ s = .int .i64 n ∧ Q w3 W) (fun s _ => A.length - (intOf s).toNat)
  case atStart => exact ⟨0, Nat.zero_le _, rfl, Q.refl _⟩
  case round =>
    obtain ⟨n, hn, rfl, hq⟩ := hrel
    have HQ := hid hq
    clear hq
    by_cases hlt : n < A.length
    · have hlt' : (n : Int) < (A.length : Int) := by omega
      obtain ⟨g, off, cap', e, _, _, hc⟩ := (HA3.out.on HQ.out).at hlt
      cases e
      generalize A[n] = x at *
      have HX := hid hc
      clear hc
      obtain ⟨xa, xb, xc, xd⟩ := x
      have M1 : Hid (∀ W, Calls Try.prog 9 #[.agg #[.int .i64 xa, .int .i64 xb, .int .i64 xc, .int .i64 xd]] W fun e w' => e = .returned (.bool (Rg.mayB ⟨xa, xb, xc, xd⟩)) ∧ Q W w') := fun W => (may_any xa xb xc xd W).mono fun e w' ⟨h1, h2⟩ => ⟨h1, by rw [h2]; exact (Q.refl _).alloc _⟩
      have M2 : Hid (∀ W, Calls Try.prog 10 #[.agg #[.int .i64 xa, .int .i64 xb, .int .i64 xc, .int .i64 xd]] W fun e w' => e = .returned (.bool (Rg.mayB ⟨xa, xb, xc, xd⟩)) ∧ Q W w') := fun W => (mayRect_any xa xb xc xd W).mono fun e w' ⟨h1, h2⟩ => ⟨h1, by rw [h2]; exact (Q.refl _).alloc _⟩
      have HKP : Hid (∀ W, Q wr W → (W.cell? ⟨g, off + n * 4, none⟩ = some (.int .i64 xa) ∧ W.cell? ⟨g, off + n * 4 + 1, none⟩ = some (.int .i64 xb) ∧ W.cell? ⟨g, off + n * 4 + 2, none⟩ = some (.int .i64 xc) ∧ W.cell? ⟨g, off + n * 4 + 3, none⟩ = some (.int .i64 xd))) := fun W q => ⟨HX.out.on q 0 _ rfl, HX.out.on q 1 _ rfl, HX.out.on q 2 _ rfl, HX.out.on q 3 _ rfl⟩
      have HQR : Hid (Q wr wr.drew) := ((Q.refl _).drew)
      have hk0 := hid (HKP.out _ HQR.out)
      generalize Rg.mayB ⟨xa, xb, xc, xd⟩ = b at *
      go_upto_region 9 with fail
      cases b
      · go_region_held3 (fun W => (W.cell? ⟨g, off + n * 4, none⟩ = some (.int .i64 xa) ∧ W.cell? ⟨g, off + n * 4 + 1, none⟩ = some (.int .i64 xb) ∧ W.cell? ⟨g, off + n * 4 + 2, none⟩ = some (.int .i64 xc) ∧ W.cell? ⟨g, off + n * 4 + 3, none⟩ = some (.int .i64 xd))) (with_reducible (first | exact hk0.out | exact hk1.out | exact hk2.out))
          (first
            | (go_at_call 9; refine (M1.out _).mono ?_; rintro r W1 ⟨rfl, q1⟩; have HQ1x : Hid (Q wr W1) := (hid (HQR.out.trans q1)); have hk1 := hid (HKP.out _ HQ1x.out); clear q1)
            | (go_at_call 10; refine (M2.out _).mono ?_; rintro r W2 ⟨rfl, q2⟩; have HQ2x : Hid (Q wr W2) := (hid (HQ1x.out.trans q2)); have hk2 := hid (HKP.out _ HQ2x.out); clear q2))
        go_wp2_with fail
        go_roundw
        case rel => exact ⟨n + 1, by omega, by go_num, HQ.out.trans HQ2x.out⟩
        case measure => simp [intOf]; omega
      · go_region_held3 (fun W => (W.cell? ⟨g, off + n * 4, none⟩ = some (.int .i64 xa) ∧ W.cell? ⟨g, off + n * 4 + 1, none⟩ = some (.int .i64 xb) ∧ W.cell? ⟨g, off + n * 4 + 2, none⟩ = some (.int .i64 xc) ∧ W.cell? ⟨g, off + n * 4 + 3, none⟩ = some (.int .i64 xd))) (with_reducible (first | exact hk0.out | exact hk1.out | exact hk2.out))
          (first
            | (go_at_call 9; refine (M1.out _).mono ?_; rintro r W1 ⟨rfl, q1⟩; have HQ1x : Hid (Q wr W1) := (hid (HQR.out.trans q1)); have hk1 := hid (HKP.out _ HQ1x.out); clear q1)
            | (go_at_call 10; refine (M2.out _).mono ?_; rintro r W2 ⟨rfl, q2⟩; have HQ2x : Hid (Q wr W2) := (hid (HQ1x.out.trans q2)); have hk2 := hid (HKP.out _ HQ2x.out); clear q2))
        go_wp2_with fail
        go_roundw
        case rel => exact ⟨n + 1, by omega, by go_num, HQ.out.trans HQ2x.out⟩
        case measure => simp [intOf]; omega
    · have hlt' : ¬ (n : Int) < (A.length : Int) := by omega
      go_wp2_with (first
        | (go_at_call 12; refine (K1.out _ HQ.out).mono ?_; rintro e wa ⟨va, rfl, owna, qa⟩; have HQa := hid (HQ.out.trans qa); have HSa := hid (owna.sl rc_len (by decide)); clear owna qa)
        | (go_at_call 11; refine (K2.out _ v5 va (HS5.out.on HQa.out) HSa.out).mono ?_; rintro e wb ⟨rfl, qb⟩; have HQb := hid (HQa.out.trans qb); clear qb)
        | (go_at_call_of 13 v5; refine (K5.out _ HQd.out).mono ?_; rintro e we ⟨rfl, qe⟩; have HQe := hid (HQd.out.trans qe); clear qe)
        | (go_at_call 13; refine (K3.out _ HQb.out).mono ?_; rintro e wc ⟨rfl, qc⟩; have HQc := hid (HQb.out.trans qc); clear qc)
        | (go_at_call 14; refine (K4.out _ HQe.out).mono ?_; rintro e wf ⟨rfl, qf⟩; have HQf := hid (HQe.out.trans qf); clear qf)
        | (go_at_call 14; refine (K4.out _ HQc.out).mono ?_; rintro e wd ⟨rfl, qd⟩; have HQd := hid (HQc.out.trans qd); clear qd)
        | (go_at_call 15; refine (K6.out _ HQf.out).mono ?_; rintro e wg ⟨rfl, qg⟩; have HQg := hid (HQf.out.trans qg); clear qg)
        | (go_at_call 16; refine (K7.out _ HQg.out).mono ?_; rintro e wh ⟨rfl, qh⟩; have HQh := hid (HQg.out.trans qh); clear qh))
      go_ret
      exact ⟨rfl, HQ3.out.trans HQh.out⟩
end Go.Proofs.Ytkbpdgghnlnakaa
