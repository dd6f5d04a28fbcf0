/- The law FrameScan, walked. -/
import Derived.Test.YtcefpjjefokjjaaDoorFp
namespace Go.Proofs.YtcefpjjefokjjaaDoor
open Go.RowKit
set_option linter.unusedVariables false
set_option linter.unusedSimpArgs false

theorem bits_xor8 {a b : Nat} (ha : a < 256) (hb : b < 256) : bits .xor .u8 (a : Int) (b : Int) = ((UInt8.ofNat (a ^^^ b)).toNat : Int) := by
  have hlt := Nat.xor_lt_two_pow (n := 8) ha hb
  have h7 : (BitVec.ofInt 8 (a : Int) ^^^ BitVec.ofInt 8 (b : Int)).toNat = a ^^^ b := by
    rw [BitVec.toNat_xor, BitVec.ofInt_natCast, BitVec.ofInt_natCast, BitVec.toNat_ofNat, BitVec.toNat_ofNat, Nat.mod_eq_of_lt ha, Nat.mod_eq_of_lt hb]
  unfold bits
  show IntKind.u8.wrap ((BitVec.ofInt 8 (a : Int) ^^^ BitVec.ofInt 8 (b : Int)).toNat : Int) = _
  rw [h7, UInt8.toNat_ofNat']
  simp only [IntKind.wrap, IntKind.bits, IntKind.signed, Bool.false_and, Bool.false_eq_true, if_false]
  omega
/-- what stands behind the first loop -/
def Lp (w : World) (Ps : List (List UInt8)) (n : Nat) (W : World) (b : Value) : Prop := Own eb 5 1 w.heap.size W b (fl Ps n) ∧ Q w W
set_option maxRecDepth 100000 in
set_option maxHeartbeats 8000000 in
theorem fscan_any (p r : Value) (LL : List (List UInt8)) (R : List UInt8) (at' : Int) (x : Nat) (w : World) (hx : x < 256) (ha1 : -9223372036854775808 ≤ at') (ha2 : at' ≤ 9223372036854775807) (ht : Tab w) (hp : Parts w p LL) (hr : Sb w r R) :
    Calls Tryd.prog 3 #[p, .int .i64 at', .int .u8 (x : Nat), r] w fun e W' => e = .returned (.bool true) ∧ Q w W' := by
  have HT := hid ht
  have HP := hid hp
  have HR := hid hr
  have HB := hid (begun_any w ht)
  obtain ⟨ao, cap, rfl, hc1, hc2⟩ := hp.len
  have hm : LL.length ≤ 9223372036854775807 := by unfold maxLen at hc2; omega
  obtain ⟨Ps, hPs⟩ : ∃ Ps, Ps = ps 80 6 LL := ⟨_, rfl⟩
  have HPL : Hid (∀ P ∈ Ps, P.length ≤ 80) := hid (by rw [hPs]; exact ps_le 80 6 LL)
  have hPn : Ps.length ≤ 6 := by rw [hPs, ps_len]; omega
  have HPn : Hid (Ps.length = min 6 LL.length) := hid (by rw [hPs, ps_len])
  have HPA : Hid (∀ i (h : i < LL.length) (h8 : i < 6) (h' : i < Ps.length), Ps[i] = LL[i].take 80) := hid (by subst hPs; exact fun i h h8 _ => ps_at 80 6 LL i h h8)
  have HEN : Hid (∀ n, en Ps n ≤ 1000) := hid (fun n => by have := en_le 80 Ps HPL.out n; have := Nat.mul_le_mul_right (8 + 80) hPn; omega)
  clear ht hp hr hPs
  go_enter Tryd.func3, Tryd.ntmps3
  go_upto_block 0 with (go_at_call 6; refine HB.out.mono ?_; rintro e9 w1 ⟨rfl, hq9⟩; have HQ1 : Hid (Q w w1) := hid hq9; clear hq9)
  clear HB
  go_cut [8, 10, 11, 12, 13] from 22 to 47 (fun z b i c d W => z = .bool false ∧ Hid (Lp w Ps Ps.length W b))
  case first =>
    go_wp2_with fail
    go_loopw [8, 10, 11] (fun z b i W => z = .bool false ∧ ∃ n : Nat, n ≤ Ps.length ∧ i = .int .i64 n ∧ Hid (Lp w Ps n W b)) (fun _ _ i _ => 6 - (intOf i).toNat)
    case atStart => exact ⟨rfl, 0, by omega, rfl, hid ⟨own_nil _, HQ1.out⟩⟩
    case round =>
      obtain ⟨rfl, n, hn, rfl, HL0⟩ := hrel
      have HOb := hid HL0.out.1
      have HQ := hid HL0.out.2
      clear HL0
      by_cases hlt : n < Ps.length
      · have hltL : n < LL.length := by have := HPn.out; omega
        have hlt8 : n < 6 := by omega
        obtain ⟨g, o, y, rfl, hy, hsx⟩ := (HP.out.on HQ.out).at n hltL
        obtain ⟨ax, cx, rfl, _, _⟩ := hsx.s.len
        have HS := hid (short_any _ _ 80 wr hsx (by omega))
        have HA := hid (HPA.out n hltL hlt8 hlt)
        have HL := hid (HPL.out Ps[n] (List.getElem_mem _))
        have HFL := hid (fl_succ Ps n hlt)
        have hE := HEN.out n
        have hfl : (fl Ps n).length ≤ 1000 := hE
        clear hsx
        rw [← HA.out] at HS
        have hPn8 := HL.out
        clear HL HA
        generalize Ps[n] = P at HS HFL hPn8
        generalize LL[n].length = ln at hy HS
        have hfp : (frm P).length ≤ 88 := by rw [frm_len]; omega
        have HFr : Hid (∀ v', Sb wr v' P → Calls Tryd.prog 8 #[v'] wr fun e W' => ∃ v2, e = .returned v2 ∧ Own eb 5 1 wr.heap.size W' v2 (frm P) ∧ Q wr W') := hid (fun v' hs => frame_any v' P wr (HT.out.on HQ.out) hs (by omega))
        go_upto_region 9 with (go_at_call 7; refine HS.out.mono ?_; rintro e9 w2 ⟨⟨v9, rfl, hs9⟩, rfl⟩; have HF9 := hid (HFr.out v9 hs9); have HS9 := hid hs9; clear hs9)
        go_upto_region 10 with (go_at_call 8; refine HF9.out.mono ?_; rintro e9 w3 ⟨v3, rfl, ho9, hq9⟩; have HV3 := hid (own_sb (e := 5) ho9); have HOb3 := hid (HOb.out.on hq9); have HQ3 := hid (HQ.out.trans hq9); have HS3 := hid (HS9.out.on hq9); clear ho9 hq9)
        obtain ⟨a3, c3, rfl, _, _⟩ := HV3.out.s.len
        have hfl3 : (frm P).length ≤ 88 := hfp
        have HRF := hid (fun W (q : Q w3 W) => rframe_any v9 P W (HS3.out.on q) (by omega))
        have HK := hid (sb_conv HV3.out.s)
        have k3 : ∀ k, (convert 23 9 (.slice a3 (frm P).length c3)).run Tryd.prog (w3.drewN k) = .ok (.string ⟨(frm P).toArray⟩) (w3.drewN k) := fun k => HK.out _ ((Q.refl w3).drewN k)
        have k3d : (convert 23 9 (.slice a3 (frm P).length c3)).run Tryd.prog w3.drew = .ok (.string ⟨(frm P).toArray⟩) w3.drew := HK.out _ (Q.refl w3).drew
        clear HS HFr HF9 HS9 HOb HQ
        go_cut [44] from 39 to 44 (fun z W => z = .bool false ∧ Hid (Q w3 W))
        case first =>
          go_region_with (go_at_call 9; refine (HRF.out _ (by repeat (first | exact Q.refl _ | apply Q.drewN | apply Q.drew))).mono ?_; rintro e9 w9 ⟨v5, rfl, ho9, hq9⟩; have HQ9 : Hid (Q w3 w9) := hid (Q.trans (by repeat (first | exact Q.refl _ | apply Q.drewN | apply Q.drew)) hq9); have hs9 := (own_sb (e := 5) ho9).s; obtain ⟨a9, c9, rfl, _, _⟩ := hs9.len; have k4 := sl_conv hs9; have k5 := fun k => (sb_conv hs9) _ ((Q.refl w9).drewN k); have k6 := fun k => HK.out _ (HQ9.out.drewN k); have k7 := HK.out _ HQ9.out; clear ho9 hq9 hs9)
          all_goals (go_wp2_with fail; go_meet; exact ⟨rfl, hid (by repeat (first | exact HQ9.out | apply Q.drewN | apply Q.drew))⟩)
        case rest =>
          obtain ⟨rfl, HQc⟩ := hcut
          have HOb4 := hid (HOb3.out.on HQc.out)
          have HQ4 := hid (HQ3.out.trans HQc.out)
          have HV4 := hid (HV3.out.on HQc.out)
          obtain ⟨w4, rfl⟩ : ∃ w4, w4 = wc := ⟨wc, rfl⟩
          clear HOb3 HQ3 HV3 HQc HS3 HRF HK k3 k3d
          go_wp2_with (at_builtin; refine wpl_appb rfl _ _ rfl w.heap.size _ (fl Ps n) rfl HOb4.out _ rfl (frm P) HV4.out (by omega) HQ4.out.size ?_; intro v5 w5 hown hg; have HF : Hid (Lp w Ps (n + 1) w5 v5) := hid ⟨by rw [HFL.out]; exact hown, own_q HQ4.out HOb4.out hg⟩; clear hown hg)
          go_roundw
          case rel => exact ⟨rfl, n + 1, by omega, by go_num, HF⟩
          case measure => simp [intOf]; omega
      · have hne : n = Ps.length := by omega
        subst hne
        have hmin := HPn.out
        by_cases h8 : LL.length ≤ 6
        · have l1 : ¬ ((Ps.length : Nat) : Int) < (LL.length : Int) := by omega
          clear hmin
          go_wp2_with fail
          go_meet
          exact ⟨rfl, hid ⟨HOb.out, HQ.out⟩⟩
        · have l1 : ((Ps.length : Nat) : Int) < (LL.length : Int) := by omega
          have l8 : ¬ ((Ps.length : Nat) : Int) < 6 := by omega
          clear hmin
          go_wp2_with fail
          go_meet
          exact ⟨rfl, hid ⟨HOb.out, HQ.out⟩⟩
  case rest =>
    obtain ⟨rfl, HL0⟩ := hcut
    have HOb := hid HL0.out.1
    have HQ := hid HL0.out.2
    obtain ⟨w2, rfl⟩ : ∃ w2, w2 = wc := ⟨wc, rfl⟩
    have hN : (fl Ps Ps.length).length ≤ 1000 := HEN.out _
    have HS := hid (short_any r R 40 w2 (HR.out.on HQ.out) (by omega))
    clear HL0 HPA HPn HPL HEN HP
    generalize fl Ps Ps.length = F at HOb hN
    have hR : (R.take 40).length ≤ 40 := by rw [List.length_take]; omega
    generalize R.take 40 = R4 at HS hR
    go_upto_region 14 with (first
      | (at_builtin; refine wpl_appb rfl _ _ rfl w.heap.size _ F rfl HOb.out _ rfl R4 HS9.out (by omega) HQ.out.size ?_; intro v5 w5 hown hg; have HO5 := hid hown; have HQ5 := hid (own_q HQ.out HOb.out hg); clear hown hg)
      | (go_at_call 7; refine HS.out.mono ?_; rintro e9 w9 ⟨⟨v9, rfl, hs9⟩, h9⟩; replace h9 := h9.symm; subst h9; have HS9 := hid hs9; clear hs9))
    have hD : (F ++ R4).length ≤ 1040 := by rw [List.length_append]; omega
    clear HOb HQ HS HS9
    generalize F ++ R4 = D at HO5 hD
    obtain ⟨a5, c5, hv5, _, _⟩ := (own_sb (e := 5) HO5.out).s.len
    subst hv5
    go_upto_if 54 with fail
    go_cut [1] from 52 to 69 (fun a W => Hid (∃ E : List UInt8, E.length = D.length ∧ Own eb 5 1 w.heap.size W (.slice a5 D.length c5) E ∧ Q w W))
    case first =>
      by_cases hD0 : 0 < D.length
      · obtain ⟨g, cap5, e, hg1, hg2, _, _⟩ := HO5.out.shape hD0
        cases e
        have hD0' : (0 : Int) < (D.length : Int) := by omega
        have HC := hid (fun i (hi : i < D.length) => HO5.out.cell eb_len hi)
        have hfz : ∀ i, w5.frozen? ⟨g, i, none⟩ = false := by
          intro i
          obtain ⟨_, hh⟩ := HO5.out
          rcases hh with ⟨hv, _⟩ | ⟨g', cap', cur, hv, _, hg, _⟩
          · cases hv
          · cases hv
            exact frozen_of_row w5 g i _ _ hg
        by_cases hneg : at' < 0
        · obtain ⟨m, hme⟩ : ∃ m : Nat, at' = -((m : Int) + 1) := ⟨(-(at' + 1)).toNat, by omega⟩
          have z1 : -(at' + 1) = (m : Int) := by omega
          have z2 : IntKind.i64.wrap (at' + 1) = at' + 1 := by rw [IntKind.wrap_i64]; omega
          have z3 : IntKind.i64.wrap (m : Int) = (m : Int) := by rw [IntKind.wrap_i64]; omega
          clear hme ha1 ha2
          have hk : m % D.length < D.length := Nat.mod_lt _ hD0
          have e2 : (m : Int) % (D.length : Int) = ((m % D.length : Nat) : Int) := by simp
          have e3 : (m : Int).tmod (D.length : Int) = ((m % D.length : Nat) : Int) := (Int.tmod_eq_emod_of_nonneg (by omega)).trans e2
          generalize m % D.length = k at hk e2 e3
          have c0 : w5.cell? ⟨g, k, none⟩ = some (.int .u8 (D[k].toNat : Nat)) := by
            have := HC.out k hk 0 _ rfl
            rw [show k * 1 + 0 = k by omega] at this
            exact this
          have f0 := hfz k
          have hkI : (k : Int) < (D.length : Int) := by omega
          have hb := D[k].toNat_lt
          have x8 := bits_xor8 (a := D[k].toNat) (b := x) (by omega) hx
          have HE := hid (HO5.out.set eb_len hk 0 (by omega) (.int .u8 ((UInt8.ofNat (D[k].toNat ^^^ x)).toNat : Nat)) (UInt8.ofNat (D[k].toNat ^^^ x)) rfl)
          rw [show k * 1 + 0 = k by omega] at HE
          generalize UInt8.ofNat (D[k].toNat ^^^ x) = y at x8 HE
          generalize D[k].toNat = bb at c0 hb x8
          clear hfz HC
          go_wp2_with fail
          go_meet
          exact hid ⟨D.set k y, by simp, HE.out, HQ5.out.setCell hg1 _⟩
        · obtain ⟨m, rfl⟩ := Int.eq_ofNat_of_zero_le (show 0 ≤ at' by omega)
          have z1 : ¬ (m : Int) < 0 := by omega
          clear ha1 ha2 hneg
          have hk : m % D.length < D.length := Nat.mod_lt _ hD0
          have e2 : (m : Int) % (D.length : Int) = ((m % D.length : Nat) : Int) := by simp
          have e3 : (m : Int).tmod (D.length : Int) = ((m % D.length : Nat) : Int) := (Int.tmod_eq_emod_of_nonneg (by omega)).trans e2
          generalize m % D.length = k at hk e2 e3
          have c0 : w5.cell? ⟨g, k, none⟩ = some (.int .u8 (D[k].toNat : Nat)) := by
            have := HC.out k hk 0 _ rfl
            rw [show k * 1 + 0 = k by omega] at this
            exact this
          have f0 := hfz k
          have hkI : (k : Int) < (D.length : Int) := by omega
          have hb := D[k].toNat_lt
          have x8 := bits_xor8 (a := D[k].toNat) (b := x) (by omega) hx
          have HE := hid (HO5.out.set eb_len hk 0 (by omega) (.int .u8 ((UInt8.ofNat (D[k].toNat ^^^ x)).toNat : Nat)) (UInt8.ofNat (D[k].toNat ^^^ x)) rfl)
          rw [show k * 1 + 0 = k by omega] at HE
          generalize UInt8.ofNat (D[k].toNat ^^^ x) = y at x8 HE
          generalize D[k].toNat = bb at c0 hb x8
          clear hfz HC
          go_wp2_with fail
          go_meet
          exact hid ⟨D.set k y, by simp, HE.out, HQ5.out.setCell hg1 _⟩
      · have hD0' : ¬ (0 : Int) < (D.length : Int) := by omega
        go_wp2_with fail
        go_meet
        exact hid ⟨D, rfl, HO5.out, HQ5.out⟩
    case rest =>
      obtain ⟨E, hE, ho9, hq9⟩ := hcut.out
      obtain ⟨w6, rfl⟩ : ∃ w6, w6 = wc := ⟨wc, rfl⟩
      rw [← hE] at ho9 ⊢
      have HV := hid (own_sb (e := 5) ho9)
      have HQ6 := hid hq9
      have hE1 : E.length ≤ 1040 := by omega
      clear hcut ho9 hq9 HO5 HQ5 hE
      have HS1 := hid (scan_any _ E w6 (HT.out.on HQ6.out) HV.out (by omega))
      go_upto_region 19 with (go_at_call 10; refine HS1.out.mono ?_; rintro e9 w7 ⟨v7, rfl, hr9, hq9⟩; have HR7 := hid hr9; have HQ7 := hid (HQ6.out.trans hq9); have HV7 := hid (HV.out.on hq9); clear hr9 hq9)
      have HS2 := hid (rscan_any _ E w7 HV7.out (by omega))
      go_upto_region 20 with (go_at_call 11; refine HS2.out.mono ?_; rintro e9 w8 ⟨v8, rfl, hr9, hq9⟩; have HR8 := hid hr9; have HQ8 := hid (HQ7.out.trans hq9); have HR78 := hid (HR7.out.on hq9); clear hr9 hq9)
      obtain ⟨xs, hx1, hx2, hx3⟩ := HR78.out
      obtain ⟨ys, hy1, hy2, hy3⟩ := HR8.out
      have hle := scn_le E
      clear HS1 HS2 HR7 HR8 HR78 HV HV7 HQ6 HQ7
      generalize (scn E).2 = n2 at hle ⊢
      generalize (scn E).1 = G at hle hx1 hx3 hy1 hy3
      obtain ⟨a7, c7, rfl, _, _⟩ := hx2.len
      obtain ⟨a8, c8, rfl, _, _⟩ := hy2.len
      rw [hx1, hy1]
      have HX2 := hid hx2
      have HY2 := hid hy2
      have HX1 := hid hx1
      have HY1 := hid hy1
      have HX3 := hid hx3
      have HY3 := hid hy3
      have hG : G.length ≤ 1040 := by omega
      clear hx1 hx2 hx3 hy1 hy2 hy3 hle
      go_wp2_with fail
      go_loopw [8, 18] (fun z i W => z = .bool false ∧ ∃ m : Nat, m ≤ G.length ∧ i = .int .i64 m ∧ Hid (Q w8 W)) (fun _ i _ => G.length - (intOf i).toNat)
      case atStart => exact ⟨rfl, 0, by omega, rfl, hid (Q.refl _)⟩
      case round =>
        obtain ⟨rfl, m, hm', rfl, HQ9⟩ := hrel
        by_cases hlt : m < G.length
        · have hlx : m < xs.length := by rw [HX1.out]; exact hlt
          have hly : m < ys.length := by rw [HY1.out]; exact hlt
          obtain ⟨g7, o7, cap7, e, hc7⟩ := ev_cell (HX2.out.on HQ9.out) (by omega)
          cases e
          obtain ⟨g8, o8, cap8, e, hc8⟩ := ev_cell (HY2.out.on HQ9.out) (by omega)
          cases e
          have c7 := hc7 m hlx
          have c8 := hc8 m hly
          have s7 := (HX3.out m hlx hlt).on HQ9.out
          have s8 := (HY3.out m hly hlt).on HQ9.out
          clear hc7 hc8
          generalize xs[m] = x7 at c7 s7
          generalize ys[m] = x8 at c8 s8
          generalize G[m] = S at s7 s8
          obtain ⟨b7, d7, rfl, _, _⟩ := s7.len
          obtain ⟨b8, d8, rfl, _, _⟩ := s8.len
          have k7 : ∀ k, (convert 23 9 (.slice b7 S.length d7)).run Tryd.prog (wr.drewN k) = .ok (.string ⟨S.toArray⟩) (wr.drewN k) := fun k => (sb_conv s7) _ ((Q.refl wr).drewN k)
          have k8 : ∀ k, (convert 23 9 (.slice b8 S.length d8)).run Tryd.prog (wr.drewN k) = .ok (.string ⟨S.toArray⟩) (wr.drewN k) := fun k => (sb_conv s8) _ ((Q.refl wr).drewN k)
          have l1 : (m : Int) < (G.length : Int) := by omega
          clear s7 s8
          go_upto_region 25 with fail
          go_quiet (fail)
          rename_i nq
          have HQa : Hid (Q w8 (wr.drewN nq)) := hid (HQ9.out.drewN nq)
          generalize wr.drewN nq = wa at HQa ⊢
          clear k7 k8 c7 c8
          go_wp2_with fail
          go_roundw
          case rel => exact ⟨rfl, m + 1, by omega, by go_num, HQa⟩
          case measure => simp [intOf]; omega
        · have l1 : ¬ (m : Int) < (G.length : Int) := by omega
          have HQa : Hid (Q w wr) := hid (HQ8.out.trans HQ9.out)
          go_wp2_with fail
          go_ret
          exact ⟨rfl, HQa.out⟩
end Go.Proofs.YtcefpjjefokjjaaDoor
