/- The reference's reader of a file, walked. -/
import Derived.Test.YtcefpjjefokjjaaDoorFq
namespace Go.Proofs.YtcefpjjefokjjaaDoor
open Go.RowKit
set_option linter.unusedVariables false
set_option linter.unusedSimpArgs false

set_option maxRecDepth 100000 in
set_option maxHeartbeats 8000000 in
theorem rscan_any (v : Value) (D : List UInt8) (w : World) (hv : Sb w v D) (hl : D.length ≤ 1099511627776) :
    Calls Tryd.prog 11 #[v] w fun e W' => ∃ v', e = .returned (.tuple #[v', .int .i64 ((scn D).2 : Nat)]) ∧ Recs W' v' (scn D).1 ∧ Q w W' := by
  have HV := hid hv
  obtain ⟨i0, hi, hz0, hz1, hz2⟩ := inf_of info23
  obtain ⟨ao, cap, rfl, hc1, hc2⟩ := hv.s.len
  clear hv
  go_enter Tryd.func11, Tryd.ntmps11
  go_wp2_with fail
  go_loopw [4, 5] (fun o s W => ∃ (n : Nat) (LL : List (List UInt8)), s = .int .i64 n ∧ Hid (Prg D n LL) ∧ Hid (Rf w w.heap.size W o LL) ∧ Hid (Q w W)) (fun _ s _ => D.length - (intOf s).toNat)
  case atStart => exact ⟨0, [], rfl, hid (prg_zero D), hid (rf_nil _ _ _), hid (Q.refl w)⟩
  case round =>
    obtain ⟨n, LL, rfl, HP, HR, HQ⟩ := hrel
    have hn := HP.out.le
    by_cases h8 : n + 8 ≤ D.length
    · obtain ⟨g, o, a, b, c, d, rfl, ha, hb, hc, hd, hrd, hcells⟩ := four_at (HV.out.on HQ.out).s n (by omega)
      obtain ⟨c0, c1, c2, c3⟩ := hcells wr (Q.refl wr)
      have n8 : (n : Int) + 8 ≤ (D.length : Int) := by omega
      have n0 : (n : Int) < (D.length : Int) := by omega
      have n1 : (n : Int) + 1 < (D.length : Int) := by omega
      have n2 : (n : Int) + 2 < (D.length : Int) := by omega
      have n3 : (n : Int) + 3 < (D.length : Int) := by omega
      obtain ⟨N, hN⟩ : ∃ N, N = rd4 (D.drop n) := ⟨_, rfl⟩
      have eN : (a : Int) + (b : Int) * 256 + (c : Int) * 65536 + (d : Int) * 16777216 = (N : Int) := by omega
      have HX := hid hN
      have HXL := hid (show (D.drop n).length = D.length - n from List.length_drop)
      clear hcells hrd hN
      go_upto_region 4 with fail
      go_quiet (fail)
      rename_i nq
      have HQ4 : Hid (Q w (wr.drewN nq)) := hid (HQ.out.drewN nq)
      have HR4 := hid (HR.out.on ((Q.refl wr).drewN nq))
      generalize wr.drewN nq = w4 at HQ4 HR4 ⊢
      clear c0 c1 c2 c3 eN HR HQ n0 n1 n2 n3
      by_cases hA : 4194304 < N
      · have HE := hid (HP.out.end (fst_r1 (by rw [← HX.out]; exact hA)))
        have hA' : (4194304 : Int) < (N : Int) := by omega
        go_upto_region 5 with fail
        go_quiet (fail)
        rename_i nq
        have HQ5 : Hid (Q w (w4.drewN nq)) := hid (HQ4.out.drewN nq)
        have HR5 := hid (HR4.out.on ((Q.refl w4).drewN nq))
        generalize w4.drewN nq = w5 at HQ5 HR5 ⊢
        go_wp2_with fail
        go_ret2
        exact ⟨u4, by rw [← HE.out.2]; rfl, HE.out.1 ▸ HR5.out.recs HQ5.out, HQ5.out⟩
      · have hA' : decide ((4194304 : Int) < (N : Int)) = false := decide_eq_false (by omega)
        by_cases hB : D.length < n + 8 + N
        · have HE := hid (HP.out.end (fst_r2 (by rw [← HX.out, HXL.out]; omega)))
          have hB' : (D.length : Int) < (n : Int) + 8 + (N : Int) := by omega
          go_upto_region 5 with fail
          go_quiet (fail)
          rename_i nq
          have HQ5 : Hid (Q w (w4.drewN nq)) := hid (HQ4.out.drewN nq)
          have HR5 := hid (HR4.out.on ((Q.refl w4).drewN nq))
          generalize w4.drewN nq = w5 at HQ5 HR5 ⊢
          go_wp2_with fail
          go_ret2
          exact ⟨u4, by rw [← HE.out.2]; rfl, HE.out.1 ▸ HR5.out.recs HQ5.out, HQ5.out⟩
        · have hB' : decide ((D.length : Int) < (n : Int) + 8 + (N : Int)) = false := decide_eq_false (by omega)
          obtain ⟨a1, d1, hr1, hs1⟩ := sb_mid HV.out (n + 8) (n + 8 + N) (by omega) (by omega)
          rw [show n + 8 + N - (n + 8) = N by omega] at hr1 hs1
          have r1 : ∀ W, (Instr.sliceAt 23 (.slice (some ⟨g, o, none⟩) D.length cap) (some (.int .i64 ((n : Int) + 8))) (some (.int .i64 ((n : Int) + 8 + (N : Int)))) none).run Tryd.prog W = .ok (.slice a1 N d1) W := fun W => hr1.out W
          obtain ⟨a2, d2, hr2, hs2⟩ := sb_mid HV.out n (n + 8 + N) (by omega) (by omega)
          rw [show n + 8 + N - n = 8 + N by omega] at hr2 hs2
          have r2 : ∀ W, (Instr.sliceAt 23 (.slice (some ⟨g, o, none⟩) D.length cap) (some (.int .i64 (n : Int))) (some (.int .i64 ((n : Int) + 8 + (N : Int)))) none).run Tryd.prog W = .ok (.slice a2 (8 + N) d2) W := fun W => hr2.out W
          have HF := hid (fun W (q : Q w W) => rframe_any _ _ W (hs1.on q) (by rw [List.length_take]; omega))
          have HS1 := hid hs1
          have HC2 := hid (sb_conv hs2.s)
          have HFR := hid (fst_r3 (X := D.drop n) (by rw [HXL.out]; omega) (by rw [← HX.out]; exact hA) (by rw [HXL.out, ← HX.out]; omega))
          rw [← HX.out, List.drop_drop] at HFR
          clear hr1 hs1 hr2 hs2
          have HBL := hid (show ((D.drop (n + 8)).take N).length = N by rw [List.length_take, List.length_drop]; omega)
          generalize (D.drop (n + 8)).take N = Bt at HF HS1 HFR HBL
          generalize (D.drop n).take (8 + N) = Xt at HC2 HFR
          have zw1 : IntKind.i64.wrap ((n : Int) + 8) = (n : Int) + 8 := by rw [IntKind.wrap_i64]; omega
          have zw2 : IntKind.i64.wrap ((n : Int) + 8 + (N : Int)) = (n : Int) + 8 + (N : Int) := by rw [IntKind.wrap_i64]; omega
          by_cases heq : frm Bt = Xt
          · subst heq
            have HE := HFR.out
            rw [if_pos rfl] at HE
            have HN := hid (HP.out.next HE)
            rw [HBL.out] at HN
            clear HE HFR
            go_upto_region 5 with fail
            refine wp_region_invw (by kernel_rfl) [41, 42, 43, 44, 45, 46, 47, 48, 49, 50, 51, 52, 53, 54, 55, 56, 57, 58, 59, 60, 61, 62, 63, 64, 65, 66, 67, 68, 69, 70, 71, 72] (I5 w N n D.length (.slice (some ⟨g, o, none⟩) D.length cap) (.slice a1 N d1) (.slice a2 (8 + N) d2) (frm Bt) ⟨(frm Bt).toArray⟩ ⟨(frm Bt).toArray⟩ false u4 LL) (by kernel_rfl) (steps_list ⟨?o0, ?o1, ?o2, ?o3, ?o4, ?o5, ?o6, ?o7, ?o8, ?o9, ?o10, ?o11, ?o12, ?o13, ?o14, ?o15, ?o16, ?o17, ?o18, ?o19, ?o20, ?o21, ?o22, ?o23, ?o24, ?o25, ?o26, ?o27, ?o28, ?o29, ?o30, ?o31, trivial⟩) (I5.start HQ4.out.drew (HR4.out.on (Q.refl w4).drew)) ?_
            case o0 =>
              intro L v W J hL hd
              refine opw_val rfl rfl rfl (by decide) (by simp only [frA, List.foldl_cons, List.foldl_nil, List.setIfInBounds_toArray, List.set_cons_zero, List.set_cons_succ]; (go_simp) <;> (first | exact ⟨⟨rfl, rfl⟩, rfl⟩ | exact ⟨rfl, rfl⟩ | with_reducible rfl)) ?_
              exact J.s 0 (by decide) rfl
            case o1 =>
              intro L v W J hL hd
              have h0 : v 41 = .int .i64 (N : Int) := J.e 0 (hd 0 (by decide)) (by decide)
              refine opw_val rfl rfl rfl (by decide) (by simp only [frA, List.foldl_cons, List.foldl_nil, List.setIfInBounds_toArray, List.set_cons_zero, List.set_cons_succ]; (go_simp) <;> (first | exact ⟨⟨rfl, rfl⟩, rfl⟩ | exact ⟨rfl, rfl⟩ | with_reducible rfl)) ?_
              exact J.s 1 (by decide) rfl
            case o2 =>
              intro L v W J hL hd
              have h1 : v 42 = .bool false := J.e 1 (hd 1 (by decide)) (by decide)
              refine opw_val rfl rfl rfl (by decide) (by simp only [frA, List.foldl_cons, List.foldl_nil, List.setIfInBounds_toArray, List.set_cons_zero, List.set_cons_succ]; (go_simp) <;> (first | exact ⟨⟨rfl, rfl⟩, rfl⟩ | exact ⟨rfl, rfl⟩ | with_reducible rfl)) ?_
              exact J.s 2 (by decide) rfl
            case o3 =>
              intro L v W J hL hd
              have h2 : v 43 = .bool false := J.e 2 (hd 2 (by decide)) (by decide)
              refine opw_valG 2 43 false rfl rfl rfl (by decide) (by rfl) h2 rfl (by decide) (by simp only [frA, List.foldl_cons, List.foldl_nil, List.setIfInBounds_toArray, List.set_cons_zero, List.set_cons_succ]; (go_simp) <;> (first | exact ⟨⟨rfl, rfl⟩, rfl⟩ | exact ⟨rfl, rfl⟩ | with_reducible rfl)) ?_
              exact J.s 3 (by decide) rfl
            case o4 =>
              intro L v W J hL hd
              have h2 : v 43 = .bool false := J.e 2 (hd 2 (by decide)) (by decide)
              have h3 : v 44 = .int .i64 (n : Int) := J.e 3 (hd 3 (by decide)) (by decide)
              refine opw_valG 2 43 false rfl rfl rfl (by decide) (by rfl) h2 rfl (by decide) (by simp only [frA, List.foldl_cons, List.foldl_nil, List.setIfInBounds_toArray, List.set_cons_zero, List.set_cons_succ]; (go_simp) <;> (first | exact ⟨⟨rfl, rfl⟩, rfl⟩ | exact ⟨rfl, rfl⟩ | with_reducible rfl)) ?_
              exact J.s 4 (by decide) rfl
            case o5 =>
              intro L v W J hL hd
              have h2 : v 43 = .bool false := J.e 2 (hd 2 (by decide)) (by decide)
              refine opw_valG 2 43 false rfl rfl rfl (by decide) (by rfl) h2 rfl (by decide) (by simp only [frA, List.foldl_cons, List.foldl_nil, List.setIfInBounds_toArray, List.set_cons_zero, List.set_cons_succ]; (go_simp) <;> (first | exact ⟨⟨rfl, rfl⟩, rfl⟩ | exact ⟨rfl, rfl⟩ | with_reducible rfl)) ?_
              exact J.s 5 (by decide) rfl
            case o6 =>
              intro L v W J hL hd
              have h2 : v 43 = .bool false := J.e 2 (hd 2 (by decide)) (by decide)
              have h4 : v 45 = .int .i64 ((n : Int) + 8) := J.e 4 (hd 4 (by decide)) (by decide)
              have h5 : v 46 = .int .i64 (N : Int) := J.e 5 (hd 5 (by decide)) (by decide)
              refine opw_valG 2 43 false rfl rfl rfl (by decide) (by rfl) h2 rfl (by decide) (by simp only [frA, List.foldl_cons, List.foldl_nil, List.setIfInBounds_toArray, List.set_cons_zero, List.set_cons_succ]; (go_simp) <;> (first | exact ⟨⟨rfl, rfl⟩, rfl⟩ | exact ⟨rfl, rfl⟩ | with_reducible rfl)) ?_
              exact J.s 6 (by decide) rfl
            case o7 =>
              intro L v W J hL hd
              have h2 : v 43 = .bool false := J.e 2 (hd 2 (by decide)) (by decide)
              refine opw_valG 2 43 false rfl rfl rfl (by decide) (by rfl) h2 rfl (by decide) (by simp only [frA, List.foldl_cons, List.foldl_nil, List.setIfInBounds_toArray, List.set_cons_zero, List.set_cons_succ]; (go_simp) <;> (first | exact ⟨⟨rfl, rfl⟩, rfl⟩ | exact ⟨rfl, rfl⟩ | with_reducible rfl)) ?_
              exact J.s 7 (by decide) rfl
            case o8 =>
              intro L v W J hL hd
              have h2 : v 43 = .bool false := J.e 2 (hd 2 (by decide)) (by decide)
              have h7 : v 48 = .slice (some ⟨g, o, none⟩) D.length cap := J.e 7 (hd 7 (by decide)) (by decide)
              refine opw_valG 2 43 false rfl rfl rfl (by decide) (by rfl) h2 rfl (by decide) (by simp only [frA, List.foldl_cons, List.foldl_nil, List.setIfInBounds_toArray, List.set_cons_zero, List.set_cons_succ]; (go_simp) <;> (first | exact ⟨⟨rfl, rfl⟩, rfl⟩ | exact ⟨rfl, rfl⟩ | with_reducible rfl)) ?_
              exact J.s 8 (by decide) rfl
            case o9 =>
              intro L v W J hL hd
              have h2 : v 43 = .bool false := J.e 2 (hd 2 (by decide)) (by decide)
              have h6 : v 47 = .int .i64 ((n : Int) + 8 + (N : Int)) := J.e 6 (hd 6 (by decide)) (by decide)
              have h8 : v 49 = .int .i64 (D.length : Int) := J.e 8 (hd 8 (by decide)) (by decide)
              refine opw_valG 2 43 false rfl rfl rfl (by decide) (by rfl) h2 rfl (by decide) (by simp only [frA, List.foldl_cons, List.foldl_nil, List.setIfInBounds_toArray, List.set_cons_zero, List.set_cons_succ]; (go_simp) <;> (first | exact ⟨⟨rfl, rfl⟩, rfl⟩ | exact ⟨rfl, rfl⟩ | with_reducible rfl)) ?_
              exact J.s 9 (by decide) rfl
            case o10 =>
              intro L v W J hL hd
              have h2 : v 43 = .bool false := J.e 2 (hd 2 (by decide)) (by decide)
              have h9 : v 50 = .bool false := J.e 9 (hd 9 (by decide)) (by decide)
              refine opw_val rfl rfl rfl (by decide) (by simp only [frA, List.foldl_cons, List.foldl_nil, List.setIfInBounds_toArray, List.set_cons_zero, List.set_cons_succ]; (go_simp) <;> (first | exact ⟨⟨rfl, rfl⟩, rfl⟩ | exact ⟨rfl, rfl⟩ | with_reducible rfl)) ?_
              exact J.s 10 (by decide) rfl
            case o11 =>
              intro L v W J hL hd
              have h10 : v 51 = .bool false := J.e 10 (hd 10 (by decide)) (by decide)
              refine opw_val rfl rfl rfl (by decide) (by simp only [frA, List.foldl_cons, List.foldl_nil, List.setIfInBounds_toArray, List.set_cons_zero, List.set_cons_succ]; (go_simp) <;> (first | exact ⟨⟨rfl, rfl⟩, rfl⟩ | exact ⟨rfl, rfl⟩ | with_reducible rfl)) ?_
              exact J.s 11 (by decide) rfl
            case o12 =>
              intro L v W J hL hd
              have h11 : v 52 = .bool false := J.e 11 (hd 11 (by decide)) (by decide)
              refine opw_valG 11 52 false rfl rfl rfl (by decide) (by rfl) h11 rfl (by decide) (by simp only [frA, List.foldl_cons, List.foldl_nil, List.setIfInBounds_toArray, List.set_cons_zero, List.set_cons_succ]; (go_simp) <;> (first | exact ⟨⟨rfl, rfl⟩, rfl⟩ | exact ⟨rfl, rfl⟩ | with_reducible rfl)) ?_
              exact J.s 12 (by decide) rfl
            case o13 =>
              intro L v W J hL hd
              have h11 : v 52 = .bool false := J.e 11 (hd 11 (by decide)) (by decide)
              refine opw_valG 11 52 false rfl rfl rfl (by decide) (by rfl) h11 rfl (by decide) (by simp only [frA, List.foldl_cons, List.foldl_nil, List.setIfInBounds_toArray, List.set_cons_zero, List.set_cons_succ]; (go_simp) <;> (first | exact ⟨⟨rfl, rfl⟩, rfl⟩ | exact ⟨rfl, rfl⟩ | with_reducible rfl)) ?_
              exact J.s 13 (by decide) rfl
            case o14 =>
              intro L v W J hL hd
              have h11 : v 52 = .bool false := J.e 11 (hd 11 (by decide)) (by decide)
              have h13 : v 54 = .int .i64 (n : Int) := J.e 13 (hd 13 (by decide)) (by decide)
              refine opw_valG 11 52 false rfl rfl rfl (by decide) (by rfl) h11 rfl (by decide) (by simp only [frA, List.foldl_cons, List.foldl_nil, List.setIfInBounds_toArray, List.set_cons_zero, List.set_cons_succ]; (go_simp) <;> (first | exact ⟨⟨rfl, rfl⟩, rfl⟩ | exact ⟨rfl, rfl⟩ | with_reducible rfl)) ?_
              exact J.s 14 (by decide) rfl
            case o15 =>
              intro L v W J hL hd
              have h11 : v 52 = .bool false := J.e 11 (hd 11 (by decide)) (by decide)
              refine opw_valG 11 52 false rfl rfl rfl (by decide) (by rfl) h11 rfl (by decide) (by simp only [frA, List.foldl_cons, List.foldl_nil, List.setIfInBounds_toArray, List.set_cons_zero, List.set_cons_succ]; (go_simp) <;> (first | exact ⟨⟨rfl, rfl⟩, rfl⟩ | exact ⟨rfl, rfl⟩ | with_reducible rfl)) ?_
              exact J.s 15 (by decide) rfl
            case o16 =>
              intro L v W J hL hd
              have h11 : v 52 = .bool false := J.e 11 (hd 11 (by decide)) (by decide)
              have h15 : v 56 = .int .i64 (n : Int) := J.e 15 (hd 15 (by decide)) (by decide)
              refine opw_valG 11 52 false rfl rfl rfl (by decide) (by rfl) h11 rfl (by decide) (by simp only [frA, List.foldl_cons, List.foldl_nil, List.setIfInBounds_toArray, List.set_cons_zero, List.set_cons_succ]; (go_simp) <;> (first | exact ⟨⟨rfl, rfl⟩, rfl⟩ | exact ⟨rfl, rfl⟩ | with_reducible rfl)) ?_
              exact J.s 16 (by decide) rfl
            case o17 =>
              intro L v W J hL hd
              have h11 : v 52 = .bool false := J.e 11 (hd 11 (by decide)) (by decide)
              refine opw_valG 11 52 false rfl rfl rfl (by decide) (by rfl) h11 rfl (by decide) (by simp only [frA, List.foldl_cons, List.foldl_nil, List.setIfInBounds_toArray, List.set_cons_zero, List.set_cons_succ]; (go_simp) <;> (first | exact ⟨⟨rfl, rfl⟩, rfl⟩ | exact ⟨rfl, rfl⟩ | with_reducible rfl)) ?_
              exact J.s 17 (by decide) rfl
            case o18 =>
              intro L v W J hL hd
              have h11 : v 52 = .bool false := J.e 11 (hd 11 (by decide)) (by decide)
              have h16 : v 57 = .int .i64 ((n : Int) + 8) := J.e 16 (hd 16 (by decide)) (by decide)
              have h17 : v 58 = .int .i64 (N : Int) := J.e 17 (hd 17 (by decide)) (by decide)
              refine opw_valG 11 52 false rfl rfl rfl (by decide) (by rfl) h11 rfl (by decide) (by simp only [frA, List.foldl_cons, List.foldl_nil, List.setIfInBounds_toArray, List.set_cons_zero, List.set_cons_succ]; (go_simp) <;> (first | exact ⟨⟨rfl, rfl⟩, rfl⟩ | exact ⟨rfl, rfl⟩ | with_reducible rfl)) ?_
              exact J.s 18 (by decide) rfl
            case o19 =>
              intro L v W J hL hd
              have h11 : v 52 = .bool false := J.e 11 (hd 11 (by decide)) (by decide)
              have h12 : v 53 = .slice (some ⟨g, o, none⟩) D.length cap := J.e 12 (hd 12 (by decide)) (by decide)
              have h14 : v 55 = .int .i64 ((n : Int) + 8) := J.e 14 (hd 14 (by decide)) (by decide)
              have h18 : v 59 = .int .i64 ((n : Int) + 8 + (N : Int)) := J.e 18 (hd 18 (by decide)) (by decide)
              refine opw_valG 11 52 false rfl rfl rfl (by decide) (by rfl) h11 rfl (by decide) (by simp only [frA, List.foldl_cons, List.foldl_nil, List.setIfInBounds_toArray, List.set_cons_zero, List.set_cons_succ]; (go_simp) <;> (first | exact ⟨⟨rfl, rfl⟩, rfl⟩ | exact ⟨rfl, rfl⟩ | with_reducible rfl)) ?_
              exact J.s 19 (by decide) rfl
            case o20 =>
              intro L v W J hL hd
              have h11 : v 52 = .bool false := J.e 11 (hd 11 (by decide)) (by decide)
              have h19 : v 60 = .slice a1 N d1 := J.e 19 (hd 19 (by decide)) (by decide)
              refine opw_callG 11 52 false rfl rfl rfl (by decide) (by rfl) h11 rfl (by decide) (by simp only [frA, List.foldl_cons, List.foldl_nil, List.setIfInBounds_toArray, List.set_cons_zero, List.set_cons_succ]; (go_simp) <;> (first | exact ⟨⟨rfl, rfl⟩, rfl⟩ | exact ⟨rfl, rfl⟩ | with_reducible rfl)) ?_
              refine (HF.out _ J.qw).mono ?_
              rintro e W1 ⟨v9, rfl, ho9, hq9⟩
              have hs9 := (own_sb (e := 5) ho9).s
              obtain ⟨a9, c9, rfl, _, _⟩ := hs9.len
              exact ⟨_, rfl, (J.on hq9).k ⟨_, _, rfl, hs9⟩⟩
            case o21 =>
              intro L v W J hL hd
              have h11 : v 52 = .bool false := J.e 11 (hd 11 (by decide)) (by decide)
              obtain ⟨a9, d9, h20, h21⟩ := J.c (hd 20 (by decide))
              have k9 := sl_conv h21
              refine opw_valG 11 52 false rfl rfl rfl (by decide) (by rfl) h11 rfl (by decide) (by simp only [frA, List.foldl_cons, List.foldl_nil, List.setIfInBounds_toArray, List.set_cons_zero, List.set_cons_succ]; (go_simp) <;> (first | exact ⟨⟨rfl, rfl⟩, rfl⟩ | exact ⟨rfl, rfl⟩ | with_reducible rfl)) ?_
              exact J.s 21 (by decide) rfl
            case o22 =>
              intro L v W J hL hd
              have h11 : v 52 = .bool false := J.e 11 (hd 11 (by decide)) (by decide)
              refine opw_valG 11 52 false rfl rfl rfl (by decide) (by rfl) h11 rfl (by decide) (by simp only [frA, List.foldl_cons, List.foldl_nil, List.setIfInBounds_toArray, List.set_cons_zero, List.set_cons_succ]; (go_simp) <;> (first | exact ⟨⟨rfl, rfl⟩, rfl⟩ | exact ⟨rfl, rfl⟩ | with_reducible rfl)) ?_
              exact J.s 22 (by decide) rfl
            case o23 =>
              intro L v W J hL hd
              have h11 : v 52 = .bool false := J.e 11 (hd 11 (by decide)) (by decide)
              refine opw_valG 11 52 false rfl rfl rfl (by decide) (by rfl) h11 rfl (by decide) (by simp only [frA, List.foldl_cons, List.foldl_nil, List.setIfInBounds_toArray, List.set_cons_zero, List.set_cons_succ]; (go_simp) <;> (first | exact ⟨⟨rfl, rfl⟩, rfl⟩ | exact ⟨rfl, rfl⟩ | with_reducible rfl)) ?_
              exact J.s 23 (by decide) rfl
            case o24 =>
              intro L v W J hL hd
              have h11 : v 52 = .bool false := J.e 11 (hd 11 (by decide)) (by decide)
              refine opw_valG 11 52 false rfl rfl rfl (by decide) (by rfl) h11 rfl (by decide) (by simp only [frA, List.foldl_cons, List.foldl_nil, List.setIfInBounds_toArray, List.set_cons_zero, List.set_cons_succ]; (go_simp) <;> (first | exact ⟨⟨rfl, rfl⟩, rfl⟩ | exact ⟨rfl, rfl⟩ | with_reducible rfl)) ?_
              exact J.s 24 (by decide) rfl
            case o25 =>
              intro L v W J hL hd
              have h11 : v 52 = .bool false := J.e 11 (hd 11 (by decide)) (by decide)
              have h24 : v 65 = .int .i64 (n : Int) := J.e 24 (hd 24 (by decide)) (by decide)
              refine opw_valG 11 52 false rfl rfl rfl (by decide) (by rfl) h11 rfl (by decide) (by simp only [frA, List.foldl_cons, List.foldl_nil, List.setIfInBounds_toArray, List.set_cons_zero, List.set_cons_succ]; (go_simp) <;> (first | exact ⟨⟨rfl, rfl⟩, rfl⟩ | exact ⟨rfl, rfl⟩ | with_reducible rfl)) ?_
              exact J.s 25 (by decide) rfl
            case o26 =>
              intro L v W J hL hd
              have h11 : v 52 = .bool false := J.e 11 (hd 11 (by decide)) (by decide)
              refine opw_valG 11 52 false rfl rfl rfl (by decide) (by rfl) h11 rfl (by decide) (by simp only [frA, List.foldl_cons, List.foldl_nil, List.setIfInBounds_toArray, List.set_cons_zero, List.set_cons_succ]; (go_simp) <;> (first | exact ⟨⟨rfl, rfl⟩, rfl⟩ | exact ⟨rfl, rfl⟩ | with_reducible rfl)) ?_
              exact J.s 26 (by decide) rfl
            case o27 =>
              intro L v W J hL hd
              have h11 : v 52 = .bool false := J.e 11 (hd 11 (by decide)) (by decide)
              have h25 : v 66 = .int .i64 ((n : Int) + 8) := J.e 25 (hd 25 (by decide)) (by decide)
              have h26 : v 67 = .int .i64 (N : Int) := J.e 26 (hd 26 (by decide)) (by decide)
              refine opw_valG 11 52 false rfl rfl rfl (by decide) (by rfl) h11 rfl (by decide) (by simp only [frA, List.foldl_cons, List.foldl_nil, List.setIfInBounds_toArray, List.set_cons_zero, List.set_cons_succ]; (go_simp) <;> (first | exact ⟨⟨rfl, rfl⟩, rfl⟩ | exact ⟨rfl, rfl⟩ | with_reducible rfl)) ?_
              exact J.s 27 (by decide) rfl
            case o28 =>
              intro L v W J hL hd
              have h11 : v 52 = .bool false := J.e 11 (hd 11 (by decide)) (by decide)
              have h22 : v 63 = .slice (some ⟨g, o, none⟩) D.length cap := J.e 22 (hd 22 (by decide)) (by decide)
              have h23 : v 64 = .int .i64 (n : Int) := J.e 23 (hd 23 (by decide)) (by decide)
              have h27 : v 68 = .int .i64 ((n : Int) + 8 + (N : Int)) := J.e 27 (hd 27 (by decide)) (by decide)
              refine opw_valG 11 52 false rfl rfl rfl (by decide) (by rfl) h11 rfl (by decide) (by simp only [frA, List.foldl_cons, List.foldl_nil, List.setIfInBounds_toArray, List.set_cons_zero, List.set_cons_succ]; (go_simp) <;> (first | exact ⟨⟨rfl, rfl⟩, rfl⟩ | exact ⟨rfl, rfl⟩ | with_reducible rfl)) ?_
              exact J.s 28 (by decide) rfl
            case o29 =>
              intro L v W J hL hd
              have h11 : v 52 = .bool false := J.e 11 (hd 11 (by decide)) (by decide)
              have h28 : v 69 = .slice a2 (8 + N) d2 := J.e 28 (hd 28 (by decide)) (by decide)
              have k9 := HC2.out _ J.qw
              refine opw_valG 11 52 false rfl rfl rfl (by decide) (by rfl) h11 rfl (by decide) (by simp only [frA, List.foldl_cons, List.foldl_nil, List.setIfInBounds_toArray, List.set_cons_zero, List.set_cons_succ]; (go_simp) <;> (first | exact ⟨⟨rfl, rfl⟩, rfl⟩ | exact ⟨rfl, rfl⟩ | with_reducible rfl)) ?_
              exact J.s 29 (by decide) rfl
            case o30 =>
              intro L v W J hL hd
              have h11 : v 52 = .bool false := J.e 11 (hd 11 (by decide)) (by decide)
              have h21 : v 62 = .string ⟨(frm Bt).toArray⟩ := J.e 21 (hd 21 (by decide)) (by decide)
              have h29 : v 70 = .string ⟨(frm Bt).toArray⟩ := J.e 29 (hd 29 (by decide)) (by decide)
              refine opw_valG 11 52 false rfl rfl rfl (by decide) (by rfl) h11 rfl (by decide) (by simp only [frA, List.foldl_cons, List.foldl_nil, List.setIfInBounds_toArray, List.set_cons_zero, List.set_cons_succ]; (go_simp) <;> (first | exact ⟨⟨rfl, rfl⟩, rfl⟩ | exact ⟨rfl, rfl⟩ | with_reducible rfl)) ?_
              exact J.s 30 (by decide) rfl
            case o31 =>
              intro L v W J hL hd
              have h11 : v 52 = .bool false := J.e 11 (hd 11 (by decide)) (by decide)
              have h30 : v 71 = .bool false := J.e 30 (hd 30 (by decide)) (by decide)
              refine opw_val rfl rfl rfl (by decide) (by simp only [frA, List.foldl_cons, List.foldl_nil, List.setIfInBounds_toArray, List.set_cons_zero, List.set_cons_succ]; (go_simp) <;> (first | exact ⟨⟨rfl, rfl⟩, rfl⟩ | exact ⟨rfl, rfl⟩ | with_reducible rfl)) ?_
              exact J.s 31 (by decide) rfl
            intro L v W hall J
            have h31 : v 72 = .bool false := J.e 31 (hall 31 (by decide)) (by decide)
            have HQ5 := hid J.qw
            have HR5 := hid J.r
            simp only [frA, List.foldl_cons, List.foldl_nil, List.setIfInBounds_toArray, List.set_cons_zero, List.set_cons_succ]
            rw [h31]
            clear h31 hall J
            obtain ⟨vs, hv1, hv2, hv3⟩ := HR5.out.h
            have HV1 := hid hv1
            have HO := hid (hv2.alloc (.cells #[.slice a1 N d1] 23))
            have HV3 := hid hv3
            have HQ6 := hid (HQ5.out.alloc (.cells #[.slice a1 N d1] 23))
            have hvl : vs.length ≤ 1099511627776 := by have := HP.out.n; omega
            have hsz := HN.out.le
            clear hv1 hv2 hv3 HR5
            go_upto_region 7 with (at_builtin; refine wpList_append_own _ rfl _ _ 22 rfl w.heap.size 23 i0 (.slice none 0 0) 1 24 Tryd.underlying22 hi hz0 hz1 hz2 rfl (by decide) _ _ _ rfl HO.out ⟨W.heap.size, 0, none⟩ 1 1 [.slice a1 N d1] rfl rfl (one_lit _) (by intro u hu; simp at hu; subst hu; rfl) (by unfold maxLen; omega) (by omega) HQ6.out.size ?_; intro v5 w5 hown hg _; have HR6 : Hid (Rf w w.heap.size w5 v5 (LL ++ [Bt])) := hid (rf_snoc HS1.out.s vs HV1.out HV3.out (own_snoc hown)); have HQ7 : Hid (Q w w5) := hid (own_q HQ6.out HO.out hg); clear hown hg)
            clear HO HV1 HV3 HQ5 HQ6 HF HC2 HS1 HR4 HQ4
            go_wp2_with fail
            go_roundw
            case rel => exact ⟨n + (8 + N), LL ++ [Bt], by go_num, HN, HR6, HQ7⟩
            case measure => simp [intOf]; omega
          · have HE0 := HFR.out
            rw [if_neg heq] at HE0
            have HE := hid (HP.out.end HE0)
            have hne : ¬ (⟨(frm Bt).toArray⟩ : ByteArray) = ⟨Xt.toArray⟩ := fun h => heq (by injection h with h; injection h)
            have heqb : (frm Bt == Xt) = false := beq_eq_false_iff_ne.2 heq
            clear HE0 HFR heq
            go_upto_region 5 with fail
            refine wp_region_invw (by kernel_rfl) [41, 42, 43, 44, 45, 46, 47, 48, 49, 50, 51, 52, 53, 54, 55, 56, 57, 58, 59, 60, 61, 62, 63, 64, 65, 66, 67, 68, 69, 70, 71, 72] (I5 w N n D.length (.slice (some ⟨g, o, none⟩) D.length cap) (.slice a1 N d1) (.slice a2 (8 + N) d2) (frm Bt) ⟨(frm Bt).toArray⟩ ⟨Xt.toArray⟩ true u4 LL) (by kernel_rfl) (steps_list ⟨?p0, ?p1, ?p2, ?p3, ?p4, ?p5, ?p6, ?p7, ?p8, ?p9, ?p10, ?p11, ?p12, ?p13, ?p14, ?p15, ?p16, ?p17, ?p18, ?p19, ?p20, ?p21, ?p22, ?p23, ?p24, ?p25, ?p26, ?p27, ?p28, ?p29, ?p30, ?p31, trivial⟩) (I5.start HQ4.out.drew (HR4.out.on (Q.refl w4).drew)) ?_
            case p0 =>
              intro L v W J hL hd
              refine opw_val rfl rfl rfl (by decide) (by simp only [frA, List.foldl_cons, List.foldl_nil, List.setIfInBounds_toArray, List.set_cons_zero, List.set_cons_succ]; (go_simp) <;> (first | exact ⟨⟨rfl, rfl⟩, rfl⟩ | exact ⟨rfl, rfl⟩ | with_reducible rfl)) ?_
              exact J.s 0 (by decide) rfl
            case p1 =>
              intro L v W J hL hd
              have h0 : v 41 = .int .i64 (N : Int) := J.e 0 (hd 0 (by decide)) (by decide)
              refine opw_val rfl rfl rfl (by decide) (by simp only [frA, List.foldl_cons, List.foldl_nil, List.setIfInBounds_toArray, List.set_cons_zero, List.set_cons_succ]; (go_simp) <;> (first | exact ⟨⟨rfl, rfl⟩, rfl⟩ | exact ⟨rfl, rfl⟩ | with_reducible rfl)) ?_
              exact J.s 1 (by decide) rfl
            case p2 =>
              intro L v W J hL hd
              have h1 : v 42 = .bool false := J.e 1 (hd 1 (by decide)) (by decide)
              refine opw_val rfl rfl rfl (by decide) (by simp only [frA, List.foldl_cons, List.foldl_nil, List.setIfInBounds_toArray, List.set_cons_zero, List.set_cons_succ]; (go_simp) <;> (first | exact ⟨⟨rfl, rfl⟩, rfl⟩ | exact ⟨rfl, rfl⟩ | with_reducible rfl)) ?_
              exact J.s 2 (by decide) rfl
            case p3 =>
              intro L v W J hL hd
              have h2 : v 43 = .bool false := J.e 2 (hd 2 (by decide)) (by decide)
              refine opw_valG 2 43 false rfl rfl rfl (by decide) (by rfl) h2 rfl (by decide) (by simp only [frA, List.foldl_cons, List.foldl_nil, List.setIfInBounds_toArray, List.set_cons_zero, List.set_cons_succ]; (go_simp) <;> (first | exact ⟨⟨rfl, rfl⟩, rfl⟩ | exact ⟨rfl, rfl⟩ | with_reducible rfl)) ?_
              exact J.s 3 (by decide) rfl
            case p4 =>
              intro L v W J hL hd
              have h2 : v 43 = .bool false := J.e 2 (hd 2 (by decide)) (by decide)
              have h3 : v 44 = .int .i64 (n : Int) := J.e 3 (hd 3 (by decide)) (by decide)
              refine opw_valG 2 43 false rfl rfl rfl (by decide) (by rfl) h2 rfl (by decide) (by simp only [frA, List.foldl_cons, List.foldl_nil, List.setIfInBounds_toArray, List.set_cons_zero, List.set_cons_succ]; (go_simp) <;> (first | exact ⟨⟨rfl, rfl⟩, rfl⟩ | exact ⟨rfl, rfl⟩ | with_reducible rfl)) ?_
              exact J.s 4 (by decide) rfl
            case p5 =>
              intro L v W J hL hd
              have h2 : v 43 = .bool false := J.e 2 (hd 2 (by decide)) (by decide)
              refine opw_valG 2 43 false rfl rfl rfl (by decide) (by rfl) h2 rfl (by decide) (by simp only [frA, List.foldl_cons, List.foldl_nil, List.setIfInBounds_toArray, List.set_cons_zero, List.set_cons_succ]; (go_simp) <;> (first | exact ⟨⟨rfl, rfl⟩, rfl⟩ | exact ⟨rfl, rfl⟩ | with_reducible rfl)) ?_
              exact J.s 5 (by decide) rfl
            case p6 =>
              intro L v W J hL hd
              have h2 : v 43 = .bool false := J.e 2 (hd 2 (by decide)) (by decide)
              have h4 : v 45 = .int .i64 ((n : Int) + 8) := J.e 4 (hd 4 (by decide)) (by decide)
              have h5 : v 46 = .int .i64 (N : Int) := J.e 5 (hd 5 (by decide)) (by decide)
              refine opw_valG 2 43 false rfl rfl rfl (by decide) (by rfl) h2 rfl (by decide) (by simp only [frA, List.foldl_cons, List.foldl_nil, List.setIfInBounds_toArray, List.set_cons_zero, List.set_cons_succ]; (go_simp) <;> (first | exact ⟨⟨rfl, rfl⟩, rfl⟩ | exact ⟨rfl, rfl⟩ | with_reducible rfl)) ?_
              exact J.s 6 (by decide) rfl
            case p7 =>
              intro L v W J hL hd
              have h2 : v 43 = .bool false := J.e 2 (hd 2 (by decide)) (by decide)
              refine opw_valG 2 43 false rfl rfl rfl (by decide) (by rfl) h2 rfl (by decide) (by simp only [frA, List.foldl_cons, List.foldl_nil, List.setIfInBounds_toArray, List.set_cons_zero, List.set_cons_succ]; (go_simp) <;> (first | exact ⟨⟨rfl, rfl⟩, rfl⟩ | exact ⟨rfl, rfl⟩ | with_reducible rfl)) ?_
              exact J.s 7 (by decide) rfl
            case p8 =>
              intro L v W J hL hd
              have h2 : v 43 = .bool false := J.e 2 (hd 2 (by decide)) (by decide)
              have h7 : v 48 = .slice (some ⟨g, o, none⟩) D.length cap := J.e 7 (hd 7 (by decide)) (by decide)
              refine opw_valG 2 43 false rfl rfl rfl (by decide) (by rfl) h2 rfl (by decide) (by simp only [frA, List.foldl_cons, List.foldl_nil, List.setIfInBounds_toArray, List.set_cons_zero, List.set_cons_succ]; (go_simp) <;> (first | exact ⟨⟨rfl, rfl⟩, rfl⟩ | exact ⟨rfl, rfl⟩ | with_reducible rfl)) ?_
              exact J.s 8 (by decide) rfl
            case p9 =>
              intro L v W J hL hd
              have h2 : v 43 = .bool false := J.e 2 (hd 2 (by decide)) (by decide)
              have h6 : v 47 = .int .i64 ((n : Int) + 8 + (N : Int)) := J.e 6 (hd 6 (by decide)) (by decide)
              have h8 : v 49 = .int .i64 (D.length : Int) := J.e 8 (hd 8 (by decide)) (by decide)
              refine opw_valG 2 43 false rfl rfl rfl (by decide) (by rfl) h2 rfl (by decide) (by simp only [frA, List.foldl_cons, List.foldl_nil, List.setIfInBounds_toArray, List.set_cons_zero, List.set_cons_succ]; (go_simp) <;> (first | exact ⟨⟨rfl, rfl⟩, rfl⟩ | exact ⟨rfl, rfl⟩ | with_reducible rfl)) ?_
              exact J.s 9 (by decide) rfl
            case p10 =>
              intro L v W J hL hd
              have h2 : v 43 = .bool false := J.e 2 (hd 2 (by decide)) (by decide)
              have h9 : v 50 = .bool false := J.e 9 (hd 9 (by decide)) (by decide)
              refine opw_val rfl rfl rfl (by decide) (by simp only [frA, List.foldl_cons, List.foldl_nil, List.setIfInBounds_toArray, List.set_cons_zero, List.set_cons_succ]; (go_simp) <;> (first | exact ⟨⟨rfl, rfl⟩, rfl⟩ | exact ⟨rfl, rfl⟩ | with_reducible rfl)) ?_
              exact J.s 10 (by decide) rfl
            case p11 =>
              intro L v W J hL hd
              have h10 : v 51 = .bool false := J.e 10 (hd 10 (by decide)) (by decide)
              refine opw_val rfl rfl rfl (by decide) (by simp only [frA, List.foldl_cons, List.foldl_nil, List.setIfInBounds_toArray, List.set_cons_zero, List.set_cons_succ]; (go_simp) <;> (first | exact ⟨⟨rfl, rfl⟩, rfl⟩ | exact ⟨rfl, rfl⟩ | with_reducible rfl)) ?_
              exact J.s 11 (by decide) rfl
            case p12 =>
              intro L v W J hL hd
              have h11 : v 52 = .bool false := J.e 11 (hd 11 (by decide)) (by decide)
              refine opw_valG 11 52 false rfl rfl rfl (by decide) (by rfl) h11 rfl (by decide) (by simp only [frA, List.foldl_cons, List.foldl_nil, List.setIfInBounds_toArray, List.set_cons_zero, List.set_cons_succ]; (go_simp) <;> (first | exact ⟨⟨rfl, rfl⟩, rfl⟩ | exact ⟨rfl, rfl⟩ | with_reducible rfl)) ?_
              exact J.s 12 (by decide) rfl
            case p13 =>
              intro L v W J hL hd
              have h11 : v 52 = .bool false := J.e 11 (hd 11 (by decide)) (by decide)
              refine opw_valG 11 52 false rfl rfl rfl (by decide) (by rfl) h11 rfl (by decide) (by simp only [frA, List.foldl_cons, List.foldl_nil, List.setIfInBounds_toArray, List.set_cons_zero, List.set_cons_succ]; (go_simp) <;> (first | exact ⟨⟨rfl, rfl⟩, rfl⟩ | exact ⟨rfl, rfl⟩ | with_reducible rfl)) ?_
              exact J.s 13 (by decide) rfl
            case p14 =>
              intro L v W J hL hd
              have h11 : v 52 = .bool false := J.e 11 (hd 11 (by decide)) (by decide)
              have h13 : v 54 = .int .i64 (n : Int) := J.e 13 (hd 13 (by decide)) (by decide)
              refine opw_valG 11 52 false rfl rfl rfl (by decide) (by rfl) h11 rfl (by decide) (by simp only [frA, List.foldl_cons, List.foldl_nil, List.setIfInBounds_toArray, List.set_cons_zero, List.set_cons_succ]; (go_simp) <;> (first | exact ⟨⟨rfl, rfl⟩, rfl⟩ | exact ⟨rfl, rfl⟩ | with_reducible rfl)) ?_
              exact J.s 14 (by decide) rfl
            case p15 =>
              intro L v W J hL hd
              have h11 : v 52 = .bool false := J.e 11 (hd 11 (by decide)) (by decide)
              refine opw_valG 11 52 false rfl rfl rfl (by decide) (by rfl) h11 rfl (by decide) (by simp only [frA, List.foldl_cons, List.foldl_nil, List.setIfInBounds_toArray, List.set_cons_zero, List.set_cons_succ]; (go_simp) <;> (first | exact ⟨⟨rfl, rfl⟩, rfl⟩ | exact ⟨rfl, rfl⟩ | with_reducible rfl)) ?_
              exact J.s 15 (by decide) rfl
            case p16 =>
              intro L v W J hL hd
              have h11 : v 52 = .bool false := J.e 11 (hd 11 (by decide)) (by decide)
              have h15 : v 56 = .int .i64 (n : Int) := J.e 15 (hd 15 (by decide)) (by decide)
              refine opw_valG 11 52 false rfl rfl rfl (by decide) (by rfl) h11 rfl (by decide) (by simp only [frA, List.foldl_cons, List.foldl_nil, List.setIfInBounds_toArray, List.set_cons_zero, List.set_cons_succ]; (go_simp) <;> (first | exact ⟨⟨rfl, rfl⟩, rfl⟩ | exact ⟨rfl, rfl⟩ | with_reducible rfl)) ?_
              exact J.s 16 (by decide) rfl
            case p17 =>
              intro L v W J hL hd
              have h11 : v 52 = .bool false := J.e 11 (hd 11 (by decide)) (by decide)
              refine opw_valG 11 52 false rfl rfl rfl (by decide) (by rfl) h11 rfl (by decide) (by simp only [frA, List.foldl_cons, List.foldl_nil, List.setIfInBounds_toArray, List.set_cons_zero, List.set_cons_succ]; (go_simp) <;> (first | exact ⟨⟨rfl, rfl⟩, rfl⟩ | exact ⟨rfl, rfl⟩ | with_reducible rfl)) ?_
              exact J.s 17 (by decide) rfl
            case p18 =>
              intro L v W J hL hd
              have h11 : v 52 = .bool false := J.e 11 (hd 11 (by decide)) (by decide)
              have h16 : v 57 = .int .i64 ((n : Int) + 8) := J.e 16 (hd 16 (by decide)) (by decide)
              have h17 : v 58 = .int .i64 (N : Int) := J.e 17 (hd 17 (by decide)) (by decide)
              refine opw_valG 11 52 false rfl rfl rfl (by decide) (by rfl) h11 rfl (by decide) (by simp only [frA, List.foldl_cons, List.foldl_nil, List.setIfInBounds_toArray, List.set_cons_zero, List.set_cons_succ]; (go_simp) <;> (first | exact ⟨⟨rfl, rfl⟩, rfl⟩ | exact ⟨rfl, rfl⟩ | with_reducible rfl)) ?_
              exact J.s 18 (by decide) rfl
            case p19 =>
              intro L v W J hL hd
              have h11 : v 52 = .bool false := J.e 11 (hd 11 (by decide)) (by decide)
              have h12 : v 53 = .slice (some ⟨g, o, none⟩) D.length cap := J.e 12 (hd 12 (by decide)) (by decide)
              have h14 : v 55 = .int .i64 ((n : Int) + 8) := J.e 14 (hd 14 (by decide)) (by decide)
              have h18 : v 59 = .int .i64 ((n : Int) + 8 + (N : Int)) := J.e 18 (hd 18 (by decide)) (by decide)
              refine opw_valG 11 52 false rfl rfl rfl (by decide) (by rfl) h11 rfl (by decide) (by simp only [frA, List.foldl_cons, List.foldl_nil, List.setIfInBounds_toArray, List.set_cons_zero, List.set_cons_succ]; (go_simp) <;> (first | exact ⟨⟨rfl, rfl⟩, rfl⟩ | exact ⟨rfl, rfl⟩ | with_reducible rfl)) ?_
              exact J.s 19 (by decide) rfl
            case p20 =>
              intro L v W J hL hd
              have h11 : v 52 = .bool false := J.e 11 (hd 11 (by decide)) (by decide)
              have h19 : v 60 = .slice a1 N d1 := J.e 19 (hd 19 (by decide)) (by decide)
              refine opw_callG 11 52 false rfl rfl rfl (by decide) (by rfl) h11 rfl (by decide) (by simp only [frA, List.foldl_cons, List.foldl_nil, List.setIfInBounds_toArray, List.set_cons_zero, List.set_cons_succ]; (go_simp) <;> (first | exact ⟨⟨rfl, rfl⟩, rfl⟩ | exact ⟨rfl, rfl⟩ | with_reducible rfl)) ?_
              refine (HF.out _ J.qw).mono ?_
              rintro e W1 ⟨v9, rfl, ho9, hq9⟩
              have hs9 := (own_sb (e := 5) ho9).s
              obtain ⟨a9, c9, rfl, _, _⟩ := hs9.len
              exact ⟨_, rfl, (J.on hq9).k ⟨_, _, rfl, hs9⟩⟩
            case p21 =>
              intro L v W J hL hd
              have h11 : v 52 = .bool false := J.e 11 (hd 11 (by decide)) (by decide)
              obtain ⟨a9, d9, h20, h21⟩ := J.c (hd 20 (by decide))
              have k9 := sl_conv h21
              refine opw_valG 11 52 false rfl rfl rfl (by decide) (by rfl) h11 rfl (by decide) (by simp only [frA, List.foldl_cons, List.foldl_nil, List.setIfInBounds_toArray, List.set_cons_zero, List.set_cons_succ]; (go_simp) <;> (first | exact ⟨⟨rfl, rfl⟩, rfl⟩ | exact ⟨rfl, rfl⟩ | with_reducible rfl)) ?_
              exact J.s 21 (by decide) rfl
            case p22 =>
              intro L v W J hL hd
              have h11 : v 52 = .bool false := J.e 11 (hd 11 (by decide)) (by decide)
              refine opw_valG 11 52 false rfl rfl rfl (by decide) (by rfl) h11 rfl (by decide) (by simp only [frA, List.foldl_cons, List.foldl_nil, List.setIfInBounds_toArray, List.set_cons_zero, List.set_cons_succ]; (go_simp) <;> (first | exact ⟨⟨rfl, rfl⟩, rfl⟩ | exact ⟨rfl, rfl⟩ | with_reducible rfl)) ?_
              exact J.s 22 (by decide) rfl
            case p23 =>
              intro L v W J hL hd
              have h11 : v 52 = .bool false := J.e 11 (hd 11 (by decide)) (by decide)
              refine opw_valG 11 52 false rfl rfl rfl (by decide) (by rfl) h11 rfl (by decide) (by simp only [frA, List.foldl_cons, List.foldl_nil, List.setIfInBounds_toArray, List.set_cons_zero, List.set_cons_succ]; (go_simp) <;> (first | exact ⟨⟨rfl, rfl⟩, rfl⟩ | exact ⟨rfl, rfl⟩ | with_reducible rfl)) ?_
              exact J.s 23 (by decide) rfl
            case p24 =>
              intro L v W J hL hd
              have h11 : v 52 = .bool false := J.e 11 (hd 11 (by decide)) (by decide)
              refine opw_valG 11 52 false rfl rfl rfl (by decide) (by rfl) h11 rfl (by decide) (by simp only [frA, List.foldl_cons, List.foldl_nil, List.setIfInBounds_toArray, List.set_cons_zero, List.set_cons_succ]; (go_simp) <;> (first | exact ⟨⟨rfl, rfl⟩, rfl⟩ | exact ⟨rfl, rfl⟩ | with_reducible rfl)) ?_
              exact J.s 24 (by decide) rfl
            case p25 =>
              intro L v W J hL hd
              have h11 : v 52 = .bool false := J.e 11 (hd 11 (by decide)) (by decide)
              have h24 : v 65 = .int .i64 (n : Int) := J.e 24 (hd 24 (by decide)) (by decide)
              refine opw_valG 11 52 false rfl rfl rfl (by decide) (by rfl) h11 rfl (by decide) (by simp only [frA, List.foldl_cons, List.foldl_nil, List.setIfInBounds_toArray, List.set_cons_zero, List.set_cons_succ]; (go_simp) <;> (first | exact ⟨⟨rfl, rfl⟩, rfl⟩ | exact ⟨rfl, rfl⟩ | with_reducible rfl)) ?_
              exact J.s 25 (by decide) rfl
            case p26 =>
              intro L v W J hL hd
              have h11 : v 52 = .bool false := J.e 11 (hd 11 (by decide)) (by decide)
              refine opw_valG 11 52 false rfl rfl rfl (by decide) (by rfl) h11 rfl (by decide) (by simp only [frA, List.foldl_cons, List.foldl_nil, List.setIfInBounds_toArray, List.set_cons_zero, List.set_cons_succ]; (go_simp) <;> (first | exact ⟨⟨rfl, rfl⟩, rfl⟩ | exact ⟨rfl, rfl⟩ | with_reducible rfl)) ?_
              exact J.s 26 (by decide) rfl
            case p27 =>
              intro L v W J hL hd
              have h11 : v 52 = .bool false := J.e 11 (hd 11 (by decide)) (by decide)
              have h25 : v 66 = .int .i64 ((n : Int) + 8) := J.e 25 (hd 25 (by decide)) (by decide)
              have h26 : v 67 = .int .i64 (N : Int) := J.e 26 (hd 26 (by decide)) (by decide)
              refine opw_valG 11 52 false rfl rfl rfl (by decide) (by rfl) h11 rfl (by decide) (by simp only [frA, List.foldl_cons, List.foldl_nil, List.setIfInBounds_toArray, List.set_cons_zero, List.set_cons_succ]; (go_simp) <;> (first | exact ⟨⟨rfl, rfl⟩, rfl⟩ | exact ⟨rfl, rfl⟩ | with_reducible rfl)) ?_
              exact J.s 27 (by decide) rfl
            case p28 =>
              intro L v W J hL hd
              have h11 : v 52 = .bool false := J.e 11 (hd 11 (by decide)) (by decide)
              have h22 : v 63 = .slice (some ⟨g, o, none⟩) D.length cap := J.e 22 (hd 22 (by decide)) (by decide)
              have h23 : v 64 = .int .i64 (n : Int) := J.e 23 (hd 23 (by decide)) (by decide)
              have h27 : v 68 = .int .i64 ((n : Int) + 8 + (N : Int)) := J.e 27 (hd 27 (by decide)) (by decide)
              refine opw_valG 11 52 false rfl rfl rfl (by decide) (by rfl) h11 rfl (by decide) (by simp only [frA, List.foldl_cons, List.foldl_nil, List.setIfInBounds_toArray, List.set_cons_zero, List.set_cons_succ]; (go_simp) <;> (first | exact ⟨⟨rfl, rfl⟩, rfl⟩ | exact ⟨rfl, rfl⟩ | with_reducible rfl)) ?_
              exact J.s 28 (by decide) rfl
            case p29 =>
              intro L v W J hL hd
              have h11 : v 52 = .bool false := J.e 11 (hd 11 (by decide)) (by decide)
              have h28 : v 69 = .slice a2 (8 + N) d2 := J.e 28 (hd 28 (by decide)) (by decide)
              have k9 := HC2.out _ J.qw
              refine opw_valG 11 52 false rfl rfl rfl (by decide) (by rfl) h11 rfl (by decide) (by simp only [frA, List.foldl_cons, List.foldl_nil, List.setIfInBounds_toArray, List.set_cons_zero, List.set_cons_succ]; (go_simp) <;> (first | exact ⟨⟨rfl, rfl⟩, rfl⟩ | exact ⟨rfl, rfl⟩ | with_reducible rfl)) ?_
              exact J.s 29 (by decide) rfl
            case p30 =>
              intro L v W J hL hd
              have h11 : v 52 = .bool false := J.e 11 (hd 11 (by decide)) (by decide)
              have h21 : v 62 = .string ⟨(frm Bt).toArray⟩ := J.e 21 (hd 21 (by decide)) (by decide)
              have h29 : v 70 = .string ⟨Xt.toArray⟩ := J.e 29 (hd 29 (by decide)) (by decide)
              refine opw_valG 11 52 false rfl rfl rfl (by decide) (by rfl) h11 rfl (by decide) (by simp only [frA, List.foldl_cons, List.foldl_nil, List.setIfInBounds_toArray, List.set_cons_zero, List.set_cons_succ]; (go_simp) <;> (first | exact ⟨⟨rfl, rfl⟩, rfl⟩ | exact ⟨rfl, rfl⟩ | with_reducible rfl)) ?_
              exact J.s 30 (by decide) (by first | rfl | (rw [heqb]; rfl))
            case p31 =>
              intro L v W J hL hd
              have h11 : v 52 = .bool false := J.e 11 (hd 11 (by decide)) (by decide)
              have h30 : v 71 = .bool true := J.e 30 (hd 30 (by decide)) (by decide)
              refine opw_val rfl rfl rfl (by decide) (by simp only [frA, List.foldl_cons, List.foldl_nil, List.setIfInBounds_toArray, List.set_cons_zero, List.set_cons_succ]; (go_simp) <;> (first | exact ⟨⟨rfl, rfl⟩, rfl⟩ | exact ⟨rfl, rfl⟩ | with_reducible rfl)) ?_
              exact J.s 31 (by decide) rfl
            intro L v W hall J
            have h31 : v 72 = .bool true := J.e 31 (hall 31 (by decide)) (by decide)
            have HQ5 := hid J.qw
            have HR5 := hid J.r
            simp only [frA, List.foldl_cons, List.foldl_nil, List.setIfInBounds_toArray, List.set_cons_zero, List.set_cons_succ]
            rw [h31]
            clear h31 hall J
            go_wp2_with fail
            go_ret2
            exact ⟨u4, by rw [← HE.out.2]; rfl, HE.out.1 ▸ HR5.out.recs HQ5.out, HQ5.out⟩
    · have HE := hid (HP.out.end (fst_short (by rw [List.length_drop]; omega)))
      have h8' : ¬ (n : Int) + 8 ≤ (D.length : Int) := by omega
      go_wp2_with fail
      go_ret2
      exact ⟨u4, by rw [← HE.out.2]; rfl, HE.out.1 ▸ HR.out.recs HQ.out, HQ.out⟩
end Go.Proofs.YtcefpjjefokjjaaDoor
