/- The law FramePrefix, walked. -/
import Derived.Test.YtcefpjjefokjjaaDoorFj
namespace Go.Proofs.YtcefpjjefokjjaaDoor
open Go.RowKit
set_option linter.unusedVariables false
set_option linter.unusedSimpArgs false

theorem one8 {W : World} (n : Nat) : ∀ j u, [Value.int .i64 (n : Int)][j]? = some u → (W.alloc (.cells #[.int .i64 (n : Int)] 3)).cell? ((⟨W.heap.size, 0, none⟩ : Addr).add j) = some u := news_new W [.int .i64 (n : Int)] 3
set_option maxRecDepth 100000 in
set_option maxHeartbeats 8000000 in
theorem prefix_any (p : Value) (LL : List (List UInt8)) (cut : Int) (w : World) (ht : Tab w) (hp : Parts w p LL) : Calls Tryd.prog 4 #[p, .int .i64 cut] w fun e W' => e = .returned (.bool true) ∧ Q w W' := by
  have HT := hid ht
  have HP := hid hp
  have HB := hid (begun_any w ht)
  obtain ⟨ao, cap, rfl, hc1, hc2⟩ := hp.len
  obtain ⟨i3, j1, j2, j3, j4⟩ := inf_of info3
  have hm : LL.length ≤ 9223372036854775807 := by unfold maxLen at hc2; omega
  obtain ⟨Ps, hPs⟩ : ∃ Ps, Ps = ps 60 8 LL := ⟨_, rfl⟩
  have HPL : Hid (∀ P ∈ Ps, P.length ≤ 60) := hid (by rw [hPs]; exact ps_le 60 8 LL)
  have hPn : Ps.length ≤ 8 := by rw [hPs, ps_len]; omega
  have HPn : Hid (Ps.length = min 8 LL.length) := hid (by rw [hPs, ps_len])
  have HPA : Hid (∀ i (h : i < LL.length) (h8 : i < 8) (h' : i < Ps.length), Ps[i] = LL[i].take 60) := hid (by subst hPs; exact fun i h h8 _ => ps_at 60 8 LL i h h8)
  have HEN : Hid (∀ n, en Ps n ≤ 1000) := hid (fun n => by have := en_le 60 Ps HPL.out n; have := Nat.mul_le_mul_right (8 + 60) hPn; omega)
  clear ht hp hPs
  go_enter Tryd.func4, Tryd.ntmps4
  go_upto_block 0 with (go_at_call 6; refine HB.out.mono ?_; rintro e9 w1 ⟨rfl, hq9⟩; have HQ1 : Hid (Q w w1) := hid hq9; clear hq9)
  clear HB
  go_cut [6, 7, 8] from 17 to 39 (fun b l i W => Hid (Own eb 5 1 w.heap.size W b (fl Ps Ps.length)) ∧ Hid (Own ie 3 1 w.heap.size W l (ends Ps Ps.length)) ∧ Hid (Q w W))
  case first =>
    go_wp2_with fail
    go_loopw [6, 7, 8] (fun b l i W => ∃ n : Nat, n ≤ Ps.length ∧ i = .int .i64 n ∧ Hid (Own eb 5 1 w.heap.size W b (fl Ps n)) ∧ Hid (Own ie 3 1 w.heap.size W l (ends Ps n)) ∧ Hid (Q w W)) (fun _ _ i _ => 8 - (intOf i).toNat)
    case atStart => exact ⟨0, by omega, rfl, hid (own_nil _), hid (own_nil _), HQ1⟩
    case round =>
      obtain ⟨n, hn, rfl, HOb, HOl, HQ⟩ := hrel
      by_cases hlt : n < Ps.length
      · have hltL : n < LL.length := by have := HPn.out; omega
        have hlt8 : n < 8 := by omega
        obtain ⟨g, o, x, rfl, hx, hsx⟩ := (HP.out.on HQ.out).at n hltL
        obtain ⟨ax, cx, rfl, _, _⟩ := hsx.s.len
        have HS := hid (short_any _ _ 60 wr hsx (by omega))
        have HA := hid (HPA.out n hltL hlt8 hlt)
        have HL := hid (HPL.out Ps[n] (List.getElem_mem _))
        have HFL := hid (fl_succ Ps n hlt)
        have HES := hid (ends_succ Ps n)
        have hE := HEN.out n
        have hE1 := HEN.out (n + 1)
        have hfl : (fl Ps n).length ≤ 1000 := hE
        have hel : (ends Ps n).length ≤ 8 := by rw [ends_len]; omega
        clear hsx
        rw [← HA.out] at HS
        have hPn8 := HL.out
        clear HL HA
        generalize Ps[n] = P at HS HFL hPn8
        generalize LL[n].length = ln at hx HS
        have HFr : Hid (∀ v', Sb wr v' P → Calls Tryd.prog 8 #[v'] wr fun e W' => ∃ v2, e = .returned v2 ∧ Own eb 5 1 wr.heap.size W' v2 (frm P) ∧ Q wr W') := hid (fun v' hs => frame_any v' P wr (HT.out.on HQ.out) hs (by omega))
        have hfp : (frm P).length ≤ 68 := by rw [frm_len]; omega
        go_upto_region 10 with (first
          | (go_at_call 7; refine HS.out.mono ?_; rintro e9 w2 ⟨⟨v9, rfl, hs9⟩, rfl⟩; have HF9 := hid (HFr.out v9 hs9); clear hs9)
          | (go_at_call 8; refine HF9.out.mono ?_; rintro e9 w3 ⟨v3, rfl, ho9, hq9⟩; have HV3 := hid (own_sb (e := 5) ho9); have HOb3 := hid (HOb.out.on hq9); have HOl3 := hid (HOl.out.on hq9); have HQ3 := hid (HQ.out.trans hq9); clear ho9 hq9)
          | (at_builtin; refine wpl_appb rfl _ _ rfl w.heap.size _ (fl Ps n) rfl HOb3.out _ rfl (frm P) HV3.out (by omega) HQ3.out.size ?_; intro v5 w5 hown hg; have HOb5 : Hid (Own eb 5 1 w.heap.size w5 v5 (fl Ps (n + 1))) := hid (by rw [HFL.out]; exact hown); have HOl5 := hid (HOl3.out.grown hg (own_ne (by decide) HOl3.out HOb3.out)); have HQ5 := hid (own_q HQ3.out HOb3.out hg); clear hown hg))
        obtain ⟨a5, c5, hv5⟩ : ∃ a c, v5 = Value.slice a (en Ps (n + 1)) c := by
          obtain ⟨a, c, h, _⟩ := (own_sb (e := 5) HOb5.out).s.len
          exact ⟨a, c, h⟩
        subst hv5
        have HOb6 := hid (HOb5.out.alloc (.cells #[.int .i64 (en Ps (n + 1) : Nat)] 3))
        have HOl6 := hid (HOl5.out.alloc (.cells #[.int .i64 (en Ps (n + 1) : Nat)] 3))
        have HQ6 := hid (HQ5.out.alloc (.cells #[.int .i64 (en Ps (n + 1) : Nat)] 3))
        have l8 : (n : Int) < 8 := by omega
        clear HOb3 HOl3 HQ3 HV3 HF9 HFr HS HFL HOb5 HOl5 HQ5 HOb HOl HQ
        go_wp2_with (at_builtin; refine wpList_append_own _ rfl _ _ 30 rfl w.heap.size 3 i3 (.int .i64 0) 1 8 Tryd.underlying30 j1 j2 j3 j4 rfl (by decide) _ _ _ rfl HOl6.out ⟨w5.heap.size, 0, none⟩ 1 1 [.int .i64 (en Ps (n + 1) : Nat)] rfl rfl (one8 _) (by intro u hu; simp at hu; subst hu; rfl) (by unfold maxLen; omega) (by omega) HQ6.out.size ?_; intro v7 w7 hown hg _; have HOl7 : Hid (Own ie 3 1 w.heap.size w7 v7 (ends Ps (n + 1))) := hid (by rw [HES.out]; exact own_snoc hown); have HOb7 := hid (HOb6.out.grown hg (own_ne (by decide) HOb6.out HOl6.out)); have HQ7 := hid (own_q HQ6.out HOl6.out hg); clear hown hg)
        go_roundw
        case rel => exact ⟨n + 1, by omega, by go_num, HOb7, HOl7, HQ7⟩
        case measure => simp [intOf]; omega
      · have hne : n = Ps.length := by omega
        subst hne
        have hmin := HPn.out
        by_cases h8 : LL.length ≤ 8
        · have l1 : ¬ ((Ps.length : Nat) : Int) < (LL.length : Int) := by omega
          clear hmin
          go_wp2_with fail
          go_meet
          exact ⟨HOb, HOl, HQ⟩
        · have l1 : ((Ps.length : Nat) : Int) < (LL.length : Int) := by omega
          have l8 : ¬ ((Ps.length : Nat) : Int) < 8 := by omega
          clear hmin
          go_wp2_with fail
          go_meet
          exact ⟨HOb, HOl, HQ⟩
  case rest =>
    obtain ⟨HOb, HOl, HQ⟩ := hcut
    have HF := hid (show fl Ps Ps.length = Ps.flatMap frm by unfold fl; rw [List.take_length])
    have hN : (fl Ps Ps.length).length ≤ 1000 := HEN.out _
    have HS6 := hid (own_sb (e := 5) HOb.out)
    obtain ⟨a6, c6, h6⟩ : ∃ a c, u6 = Value.slice a (fl Ps Ps.length).length c := by
      obtain ⟨a, c, h, _⟩ := HS6.out.s.len
      exact ⟨a, c, h⟩
    subst h6
    have HSl := hid (HOl.out.sl ie_len (by omega))
    clear HOb HOl HPA HPn HP
    have HCUT := hid (fun k hk => scn_cut Ps k (fun P hP => Nat.le_trans (HPL.out P hP) (by omega)) hk)
    rw [HF.out] at hN HS6
    rw [HF.out]
    generalize Ps.flatMap frm = F at hN HS6 HCUT ⊢
    by_cases hbad : cut < 0 ∨ (F.length : Int) < cut
    · obtain ⟨k, hkk⟩ : ∃ k, k = F.length := ⟨_, rfl⟩
      have hk : k ≤ F.length := by omega
      rw [← hkk]
      rw [← hkk] at HS6
      have r0 := hid hkk
      by_cases hneg : cut < 0
      · clear hbad
        clear hkk
        obtain ⟨K, e1, e2, e3, e4, e5⟩ := HCUT.out k hk
        obtain ⟨a, c, hr, hs⟩ := sb_to HS6.out k (by rw [← r0.out]; exact Nat.le_refl _)
        have r := hr.out
        have HSC := hid (scan_any (.slice a k c) (F.take k) wc (HT.out.on HQ.out) hs (by rw [List.length_take]; omega))
        rw [e3] at HSC
        have HK := hid (show (scn (F.take k)).1.length = K from e2)
        have HK1 := hid (fun m (hm : m + 1 ≤ K) => Nat.le_trans (en_mono Ps (m + 1) K hm) e4)
        have HK2 := hid (fun m (hm : m < Ps.length) (h : ¬ m + 1 ≤ K) => Nat.lt_of_lt_of_le (e5 (by omega)) (en_mono Ps (K + 1) (m + 1) (by omega)))
        have hen := HEN.out K
        clear hr hs e2 e3 e4 e5
        go_upto_region 14 with (go_at_call 10; refine HSC.out.mono ?_; rintro e9 w2 ⟨v2, rfl, hr9, hq9⟩; have HQ2 := hid (HQ.out.trans hq9); have HSl2 := hid (HSl.out.on hq9); obtain ⟨vs, hv1, hv2, _⟩ := hr9; rw [HK.out] at hv1; obtain ⟨a9, c9, rfl, _, _⟩ := hv2.len; rw [hv1]; clear hv1 hv2 hq9)
        obtain ⟨a7, c7, hv7⟩ : ∃ a c, u7 = Value.slice a Ps.length c := by
          obtain ⟨a, c, h, _⟩ := HSl2.out.len
          rw [ends_len] at h
          exact ⟨a, c, h⟩
        subst hv7
        clear HSl HSC HS6 HCUT r
        go_wp2_with fail
        go_loopw [11, 12, 13] (fun x y i W => ∃ m : Nat, m ≤ Ps.length ∧ i = .int .i64 m ∧ x = .int .i64 (min m K : Nat) ∧ y = .int .i64 (en Ps (min m K) : Nat) ∧ Hid (Q w2 W)) (fun _ _ i _ => Ps.length - (intOf i).toNat)
        case atStart => exact ⟨0, by omega, rfl, by rw [Nat.zero_min]; rfl, by rw [Nat.zero_min, en_zero]; rfl, hid (Q.refl _)⟩
        case round =>
          obtain ⟨m, hm', rfl, rfl, rfl, HQ3⟩ := hrel
          by_cases hlt : m < Ps.length
          · obtain ⟨g, o, cap', e, hc⟩ := ie_cell (HSl2.out.on HQ3.out) (by rw [ends_len]; omega)
            rw [ends_len] at e
            cases e
            have c0 : wr.cell? ⟨g, o + m, none⟩ = some (.int .i64 (en Ps (m + 1) : Nat)) := by
              have := hc m (by rw [ends_len]; omega)
              rw [ends_at _ _ _ hlt] at this
              exact this
            clear hc
            have hE := HEN.out (m + 1)
            by_cases hK : m + 1 ≤ K
            · have hle := HK1.out m hK
              have HM : Hid (min (m + 1) K = m + 1) := hid (by omega)
              obtain ⟨x1, hx1⟩ : ∃ x, x = min m K := ⟨_, rfl⟩
              rw [← hx1]
              have hle' : (en Ps (m + 1) : Int) ≤ (k : Int) := by omega
              generalize en Ps x1 = y1
              clear hx1
              have m0 : (m : Int) < (Ps.length : Int) := by omega
              go_upto_region 19 with fail
              go_quiet (fail)
              rename_i nq
              have HQ4 : Hid (Q w2 (wr.drewN nq)) := hid (HQ3.out.drewN nq)
              generalize wr.drewN nq = w4 at HQ4 ⊢
              go_wp2_with fail
              go_roundw
              case rel => exact ⟨m + 1, by omega, by go_num, by rw [HM.out]; go_num, by rw [HM.out], HQ4⟩
              case measure => simp [intOf]; omega
            · have hle := HK2.out m hlt hK
              have HM : Hid (min (m + 1) K = min m K) := hid (by omega)
              have hle' : ¬ (en Ps (m + 1) : Int) ≤ (k : Int) := by omega
              obtain ⟨x1, hx1⟩ : ∃ x, x = min m K := ⟨_, rfl⟩
              rw [← hx1] at HM ⊢
              clear hx1
              go_wp2_with fail
              go_roundw
              case rel => exact ⟨m + 1, by omega, by go_num, by rw [HM.out], by rw [HM.out], HQ3⟩
              case measure => simp [intOf]; omega
          · have hme : min m K = K := by omega
            rw [hme]
            have HQ4 : Hid (Q w wr) := hid (HQ2.out.trans HQ3.out)
            clear hme
            go_wp2_with fail
            go_ret
            exact ⟨rfl, HQ4.out⟩
      · have b1 : ¬ cut < 0 := hneg
        have b2 : (k : Int) < cut := by omega
        clear hbad
        clear hkk
        obtain ⟨K, e1, e2, e3, e4, e5⟩ := HCUT.out k hk
        obtain ⟨a, c, hr, hs⟩ := sb_to HS6.out k (by rw [← r0.out]; exact Nat.le_refl _)
        have r := hr.out
        have HSC := hid (scan_any (.slice a k c) (F.take k) wc (HT.out.on HQ.out) hs (by rw [List.length_take]; omega))
        rw [e3] at HSC
        have HK := hid (show (scn (F.take k)).1.length = K from e2)
        have HK1 := hid (fun m (hm : m + 1 ≤ K) => Nat.le_trans (en_mono Ps (m + 1) K hm) e4)
        have HK2 := hid (fun m (hm : m < Ps.length) (h : ¬ m + 1 ≤ K) => Nat.lt_of_lt_of_le (e5 (by omega)) (en_mono Ps (K + 1) (m + 1) (by omega)))
        have hen := HEN.out K
        clear hr hs e2 e3 e4 e5
        go_upto_region 14 with (go_at_call 10; refine HSC.out.mono ?_; rintro e9 w2 ⟨v2, rfl, hr9, hq9⟩; have HQ2 := hid (HQ.out.trans hq9); have HSl2 := hid (HSl.out.on hq9); obtain ⟨vs, hv1, hv2, _⟩ := hr9; rw [HK.out] at hv1; obtain ⟨a9, c9, rfl, _, _⟩ := hv2.len; rw [hv1]; clear hv1 hv2 hq9)
        obtain ⟨a7, c7, hv7⟩ : ∃ a c, u7 = Value.slice a Ps.length c := by
          obtain ⟨a, c, h, _⟩ := HSl2.out.len
          rw [ends_len] at h
          exact ⟨a, c, h⟩
        subst hv7
        clear HSl HSC HS6 HCUT r
        go_wp2_with fail
        go_loopw [11, 12, 13] (fun x y i W => ∃ m : Nat, m ≤ Ps.length ∧ i = .int .i64 m ∧ x = .int .i64 (min m K : Nat) ∧ y = .int .i64 (en Ps (min m K) : Nat) ∧ Hid (Q w2 W)) (fun _ _ i _ => Ps.length - (intOf i).toNat)
        case atStart => exact ⟨0, by omega, rfl, by rw [Nat.zero_min]; rfl, by rw [Nat.zero_min, en_zero]; rfl, hid (Q.refl _)⟩
        case round =>
          obtain ⟨m, hm', rfl, rfl, rfl, HQ3⟩ := hrel
          by_cases hlt : m < Ps.length
          · obtain ⟨g, o, cap', e, hc⟩ := ie_cell (HSl2.out.on HQ3.out) (by rw [ends_len]; omega)
            rw [ends_len] at e
            cases e
            have c0 : wr.cell? ⟨g, o + m, none⟩ = some (.int .i64 (en Ps (m + 1) : Nat)) := by
              have := hc m (by rw [ends_len]; omega)
              rw [ends_at _ _ _ hlt] at this
              exact this
            clear hc
            have hE := HEN.out (m + 1)
            by_cases hK : m + 1 ≤ K
            · have hle := HK1.out m hK
              have HM : Hid (min (m + 1) K = m + 1) := hid (by omega)
              obtain ⟨x1, hx1⟩ : ∃ x, x = min m K := ⟨_, rfl⟩
              rw [← hx1]
              have hle' : (en Ps (m + 1) : Int) ≤ (k : Int) := by omega
              generalize en Ps x1 = y1
              clear hx1
              have m0 : (m : Int) < (Ps.length : Int) := by omega
              go_upto_region 19 with fail
              go_quiet (fail)
              rename_i nq
              have HQ4 : Hid (Q w2 (wr.drewN nq)) := hid (HQ3.out.drewN nq)
              generalize wr.drewN nq = w4 at HQ4 ⊢
              go_wp2_with fail
              go_roundw
              case rel => exact ⟨m + 1, by omega, by go_num, by rw [HM.out]; go_num, by rw [HM.out], HQ4⟩
              case measure => simp [intOf]; omega
            · have hle := HK2.out m hlt hK
              have HM : Hid (min (m + 1) K = min m K) := hid (by omega)
              have hle' : ¬ (en Ps (m + 1) : Int) ≤ (k : Int) := by omega
              obtain ⟨x1, hx1⟩ : ∃ x, x = min m K := ⟨_, rfl⟩
              rw [← hx1] at HM ⊢
              clear hx1
              go_wp2_with fail
              go_roundw
              case rel => exact ⟨m + 1, by omega, by go_num, by rw [HM.out], by rw [HM.out], HQ3⟩
              case measure => simp [intOf]; omega
          · have hme : min m K = K := by omega
            rw [hme]
            have HQ4 : Hid (Q w wr) := hid (HQ2.out.trans HQ3.out)
            clear hme
            go_wp2_with fail
            go_ret
            exact ⟨rfl, HQ4.out⟩
    · obtain ⟨k, rfl⟩ := Int.eq_ofNat_of_zero_le (show 0 ≤ cut by omega)
      have hk : k ≤ F.length := by omega
      have b1 : ¬ (k : Int) < 0 := by omega
      have b2 : ¬ (F.length : Int) < (k : Int) := by omega
      clear hbad
      obtain ⟨K, e1, e2, e3, e4, e5⟩ := HCUT.out k hk
      obtain ⟨a, c, hr, hs⟩ := sb_to HS6.out k hk
      have r := hr.out
      have HSC := hid (scan_any (.slice a k c) (F.take k) wc (HT.out.on HQ.out) hs (by rw [List.length_take]; omega))
      rw [e3] at HSC
      have HK := hid (show (scn (F.take k)).1.length = K from e2)
      have HK1 := hid (fun m (hm : m + 1 ≤ K) => Nat.le_trans (en_mono Ps (m + 1) K hm) e4)
      have HK2 := hid (fun m (hm : m < Ps.length) (h : ¬ m + 1 ≤ K) => Nat.lt_of_lt_of_le (e5 (by omega)) (en_mono Ps (K + 1) (m + 1) (by omega)))
      have hen := HEN.out K
      clear hr hs e2 e3 e4 e5
      go_upto_region 14 with (go_at_call 10; refine HSC.out.mono ?_; rintro e9 w2 ⟨v2, rfl, hr9, hq9⟩; have HQ2 := hid (HQ.out.trans hq9); have HSl2 := hid (HSl.out.on hq9); obtain ⟨vs, hv1, hv2, _⟩ := hr9; rw [HK.out] at hv1; obtain ⟨a9, c9, rfl, _, _⟩ := hv2.len; rw [hv1]; clear hv1 hv2 hq9)
      obtain ⟨a7, c7, hv7⟩ : ∃ a c, u7 = Value.slice a Ps.length c := by
        obtain ⟨a, c, h, _⟩ := HSl2.out.len
        rw [ends_len] at h
        exact ⟨a, c, h⟩
      subst hv7
      clear HSl HSC HS6 HCUT r
      go_wp2_with fail
      go_loopw [11, 12, 13] (fun x y i W => ∃ m : Nat, m ≤ Ps.length ∧ i = .int .i64 m ∧ x = .int .i64 (min m K : Nat) ∧ y = .int .i64 (en Ps (min m K) : Nat) ∧ Hid (Q w2 W)) (fun _ _ i _ => Ps.length - (intOf i).toNat)
      case atStart => exact ⟨0, by omega, rfl, by rw [Nat.zero_min]; rfl, by rw [Nat.zero_min, en_zero]; rfl, hid (Q.refl _)⟩
      case round =>
        obtain ⟨m, hm', rfl, rfl, rfl, HQ3⟩ := hrel
        by_cases hlt : m < Ps.length
        · obtain ⟨g, o, cap', e, hc⟩ := ie_cell (HSl2.out.on HQ3.out) (by rw [ends_len]; omega)
          rw [ends_len] at e
          cases e
          have c0 : wr.cell? ⟨g, o + m, none⟩ = some (.int .i64 (en Ps (m + 1) : Nat)) := by
            have := hc m (by rw [ends_len]; omega)
            rw [ends_at _ _ _ hlt] at this
            exact this
          clear hc
          have hE := HEN.out (m + 1)
          by_cases hK : m + 1 ≤ K
          · have hle := HK1.out m hK
            have HM : Hid (min (m + 1) K = m + 1) := hid (by omega)
            obtain ⟨x1, hx1⟩ : ∃ x, x = min m K := ⟨_, rfl⟩
            rw [← hx1]
            have hle' : (en Ps (m + 1) : Int) ≤ (k : Int) := by omega
            generalize en Ps x1 = y1
            clear hx1
            have m0 : (m : Int) < (Ps.length : Int) := by omega
            go_upto_region 19 with fail
            go_quiet (fail)
            rename_i nq
            have HQ4 : Hid (Q w2 (wr.drewN nq)) := hid (HQ3.out.drewN nq)
            generalize wr.drewN nq = w4 at HQ4 ⊢
            go_wp2_with fail
            go_roundw
            case rel => exact ⟨m + 1, by omega, by go_num, by rw [HM.out]; go_num, by rw [HM.out], HQ4⟩
            case measure => simp [intOf]; omega
          · have hle := HK2.out m hlt hK
            have HM : Hid (min (m + 1) K = min m K) := hid (by omega)
            have hle' : ¬ (en Ps (m + 1) : Int) ≤ (k : Int) := by omega
            obtain ⟨x1, hx1⟩ : ∃ x, x = min m K := ⟨_, rfl⟩
            rw [← hx1] at HM ⊢
            clear hx1
            go_wp2_with fail
            go_roundw
            case rel => exact ⟨m + 1, by omega, by go_num, by rw [HM.out], by rw [HM.out], HQ3⟩
            case measure => simp [intOf]; omega
        · have hme : min m K = K := by omega
          rw [hme]
          have HQ4 : Hid (Q w wr) := hid (HQ2.out.trans HQ3.out)
          clear hme
          go_wp2_with fail
          go_ret
          exact ⟨rfl, HQ4.out⟩
end Go.Proofs.YtcefpjjefokjjaaDoor
