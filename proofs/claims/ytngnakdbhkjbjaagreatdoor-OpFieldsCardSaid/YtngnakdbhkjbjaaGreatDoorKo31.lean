/- OpFields: the walk. -/
import Derived.Test.YtngnakdbhkjbjaaGreatDoorKo29
set_option linter.unusedVariables false
set_option linter.unusedSimpArgs false
namespace Go.Proofs.YtngnakdbhkjbjaaGreatDoor
open Go.RowKit
open IV
set_option maxRecDepth 100000 in
set_option maxHeartbeats 16000000 in
theorem opfields_any (w : World) (hg : Gd w) : Calls Tryz.prog 5 #[] w fun e V' => e = .returned (.bool true) ∧ Q w V' := by
  have HG := hid hg
  clear hg
  have HB := hid (fun W (q : Q w W) => begun_any W (HG.out.on q))
  have HR0 : Hid (R.Sl R.rc 4 (w.alloc (.cells #[.int .i64 0, .int .i64 0, .int .i64 1, .int .i64 1] 49)) (.slice (some ⟨w.heap.size, 0, none⟩) 1 1) [rc1]) := hid (rsl_one w)
  have HS0 := hid (sl_lit23 (w.alloc (.cells #[.int .i64 0, .int .i64 0, .int .i64 1, .int .i64 1] 49)) (fs7 w.heap.size) (by show (7 : Nat) ≤ 1000; decide))
  have T1 : Hid True := trivial
  have T2 : Hid True := trivial
  have T3 : Hid True := trivial
  have T4 : Hid True := trivial
  have T5 : Hid True := trivial
  have T6 : Hid True := trivial
  have T7 : Hid True := trivial
  go_enter Tryz.func5, Tryz.ntmps5
  go_upto_region 2 with (first
    | (clear T1; with_reducible refine wpl_buildt 35 _ (by with_unfolding_all rfl) (by with_unfolding_all rfl) f1.L.toArray (by kernel_rfl) ?_)
    | (clear T2; with_reducible refine wpl_buildt 35 _ (by with_unfolding_all rfl) (by with_unfolding_all rfl) f2.L.toArray (by kernel_rfl) ?_)
    | (clear T3; with_reducible refine wpl_buildt 35 _ (by with_unfolding_all rfl) (by with_unfolding_all rfl) f3.L.toArray (by kernel_rfl) ?_)
    | (clear T4; with_reducible refine wpl_buildt 35 _ (by with_unfolding_all rfl) (by with_unfolding_all rfl) (f4 w.heap.size).L.toArray (by kernel_rfl) ?_)
    | (clear T5; with_reducible refine wpl_buildt 35 _ (by with_unfolding_all rfl) (by with_unfolding_all rfl) f5.L.toArray (by kernel_rfl) ?_)
    | (clear T6; with_reducible refine wpl_buildt 35 _ (by with_unfolding_all rfl) (by with_unfolding_all rfl) f6.L.toArray (by kernel_rfl) ?_)
    | (clear T7; with_reducible refine wpl_buildt 35 _ (by with_unfolding_all rfl) (by with_unfolding_all rfl) f7.L.toArray (by kernel_rfl) ?_)
    | (with_reducible refine wpl_bsl 7 _ (by with_unfolding_all rfl) (by with_unfolding_all rfl) (fs7 w.heap.size) (by decide) (by kernel_rfl) ?_))
  have HFA : Hid (∀ V, Q ((w.alloc (.cells #[.int .i64 0, .int .i64 0, .int .i64 1, .int .i64 1] 49)).alloc (.cells (flat Rv.L (fs7 w.heap.size)).toArray 35)) V → ∀ x ∈ fs7 w.heap.size, FA V x) := hid (fun V q => fa_all V _ ((HR0.out.on ((Q.refl _).alloc _)).on q))
  have HQ0 : Hid (Q w ((w.alloc (.cells #[.int .i64 0, .int .i64 0, .int .i64 1, .int .i64 1] 49)).alloc (.cells (flat Rv.L (fs7 w.heap.size)).toArray 35))) := hid (((Q.refl _).alloc _).alloc _)
  have hl7 : (fs7 w.heap.size).length = 7 := rfl
  have HL7 := hid hl7
  rw [hl7] at HS0
  clear HR0 hl7
  generalize (w.alloc (.cells #[.int .i64 0, .int .i64 0, .int .i64 1, .int .i64 1] 49)).alloc (.cells (flat Rv.L (fs7 w.heap.size)).toArray 35) = w1 at *
  rw [World.size_alloc] at HS0
  generalize (some ⟨w.heap.size + 1, 0, none⟩ : Option Addr) = ao at HS0 ⊢
  generalize fs7 w.heap.size = xs at HS0 HL7 HFA
  go_wp2_with fail
  go_loopw [0, 2] (fun r i W => ∃ k : Nat, k ≤ 7 ∧ i = .int .i64 k ∧ r = .bool false ∧ Q w1 W) (fun _ i _ => 7 - (intOf i).toNat)
  case atStart => exact ⟨0, Nat.zero_le _, rfl, rfl, Q.refl _⟩
  case round =>
    obtain ⟨k, hk, rfl, rfl, hq⟩ := hrel
    have HQ := hid hq
    clear hq
    by_cases hlt : k < 7
    · have hlt' : (k : Int) < 7 := by omega
      have hk0 : (0 : Int) ≤ (k : Int) := by omega
      have hkx : k < xs.length := by have := HL7.out; omega
      obtain ⟨b, off, cap', e, _, _, hc⟩ := HS0.out.at hkx
      simp only [Value.slice.injEq] at e
      obtain ⟨rfl, hyx, rfl⟩ := e
      clear hyx
      have HX := hid (fun V (q : Q w1 V) => HFA.out V q _ (List.getElem_mem hkx))
      have HRQ : Hid (∀ V, Q w1 V → V.rangeAt b (off + k * 23) (xs[k]).L) := hid (fun V q j u hu => (hc.on q) j u hu)
      have HGQ := hid (fun V (q : Q w1 V) => HG.out.on (HQ0.out.trans q))
      clear hc
      generalize xs[k] = x at HX HRQ
      go_upto_region 7 with (first
        | (with_reducible refine wpl_loadm _ (by with_unfolding_all rfl) (by with_unfolding_all rfl) b (off + k * 23) x (by with_unfolding_all exact HRQ.out _ HQ.out) (by with_unfolding_all rfl) ?_)
        | (go_at_call 8; refine (opmay_g x true _ (HGQ.out _ HQ.out) (HX.out _ HQ.out).o).mono ?_; rintro e9 w5 ⟨rfl, q9⟩; have HQ5 : Hid (Q w1 w5) := hid (HQ.out.trans q9); clear q9))
      refine wp_region_invw (by kernel_rfl) [33, 34, 35, 36, 37, 38, 39, 40, 41, 42, 43, 44, 45, 46, 47, 48, 49, 50, 51, 52, 3, 4, 5, 6, 7] (F7 w1 b off k x) (by kernel_rfl) (steps_list ⟨?o0, ?o1, ?o2, ?o3, ?o4, ?o5, ?o6, ?o7, ?o8, ?o9, ?o10, ?o11, ?o12, ?o13, ?o14, ?o15, ?o16, ?o17, ?o18, ?o19, ?o20, ?o21, ?o22, ?o23, ?o24, ?o25, ?o26, ?o27, ?o28, ?o29, trivial⟩) (F7.start HQ5.out.drew) ?_
      case o0 =>
        intro L v W J hL hd
        refine opw_val rfl rfl rfl (by decide) (by simp only [frm, List.foldl_cons, List.foldl_nil, List.setIfInBounds_toArray, List.set_cons_zero, List.set_cons_succ]; (go_simp) <;> (first | exact ⟨⟨rfl, rfl⟩, rfl⟩ | exact ⟨rfl, rfl⟩ | with_reducible rfl)) ?_
        exact J.m 0 (by decide)
      case o1 =>
        intro L v W J hL hd
        refine opw_val rfl rfl rfl (by decide) (by simp only [frm, List.foldl_cons, List.foldl_nil, List.setIfInBounds_toArray, List.set_cons_zero, List.set_cons_succ]; (go_simp) <;> (first | exact ⟨⟨rfl, rfl⟩, rfl⟩ | exact ⟨rfl, rfl⟩ | with_reducible rfl)) ?_
        exact J.m 1 (by decide)
      case o2 =>
        intro L v W J hL hd
        have h0 : v 33 = .slice (some ⟨b, off, none⟩) 7 7 := J.mv 0 (by decide) (hd 0 (by decide))
        have h1 : v 34 = .int .i64 k := J.mv 1 (by decide) (hd 1 (by decide))
        refine opw_val rfl rfl rfl (by decide) (by simp only [frm, List.foldl_cons, List.foldl_nil, List.setIfInBounds_toArray, List.set_cons_zero, List.set_cons_succ]; (go_simp) <;> (first | exact ⟨⟨rfl, rfl⟩, rfl⟩ | exact ⟨rfl, rfl⟩ | with_reducible rfl)) ?_
        exact J.m 2 (by decide)
      case o3 =>
        intro L v W J hL hd
        have h0 : v 35 = .pointer (some ⟨b, off + k * 23, none⟩) := J.mv 2 (by decide) (hd 2 (by decide))
        exact opw_loadm rfl rfl rfl rfl (by decide) (by decide) (by rfl) h0 (HRQ.out W J.q) (J.m 3 (by decide))
      case o4 =>
        intro L v W J hL hd
        refine opw_val rfl rfl rfl (by decide) (by simp only [frm, List.foldl_cons, List.foldl_nil, List.setIfInBounds_toArray, List.set_cons_zero, List.set_cons_succ]; (go_simp) <;> (first | exact ⟨⟨rfl, rfl⟩, rfl⟩ | exact ⟨rfl, rfl⟩ | with_reducible rfl)) ?_
        exact J.m 4 (by decide)
      case o5 =>
        intro L v W J hL hd
        refine opw_val rfl rfl rfl (by decide) (by simp only [frm, List.foldl_cons, List.foldl_nil, List.setIfInBounds_toArray, List.set_cons_zero, List.set_cons_succ]; (go_simp) <;> (first | exact ⟨⟨rfl, rfl⟩, rfl⟩ | exact ⟨rfl, rfl⟩ | with_reducible rfl)) ?_
        exact J.m 5 (by decide)
      case o6 =>
        intro L v W J hL hd
        have h0 : v 37 = .slice (some ⟨b, off, none⟩) 7 7 := J.mv 4 (by decide) (hd 4 (by decide))
        have h1 : v 38 = .int .i64 k := J.mv 5 (by decide) (hd 5 (by decide))
        refine opw_val rfl rfl rfl (by decide) (by simp only [frm, List.foldl_cons, List.foldl_nil, List.setIfInBounds_toArray, List.set_cons_zero, List.set_cons_succ]; (go_simp) <;> (first | exact ⟨⟨rfl, rfl⟩, rfl⟩ | exact ⟨rfl, rfl⟩ | with_reducible rfl)) ?_
        exact J.m 6 (by decide)
      case o7 =>
        intro L v W J hL hd
        have h0 : v 39 = .pointer (some ⟨b, off + k * 23, none⟩) := J.mv 6 (by decide) (hd 6 (by decide))
        exact opw_loadm rfl rfl rfl rfl (by decide) (by decide) (by rfl) h0 (HRQ.out W J.q) (J.m 7 (by decide))
      case o8 =>
        intro L v W J hL hd
        refine opw_val rfl rfl rfl (by decide) (by simp only [frm, List.foldl_cons, List.foldl_nil, List.setIfInBounds_toArray, List.set_cons_zero, List.set_cons_succ]; (go_simp) <;> (first | exact ⟨⟨rfl, rfl⟩, rfl⟩ | exact ⟨rfl, rfl⟩ | with_reducible rfl)) ?_
        exact J.m 8 (by decide)
      case o9 =>
        intro L v W J hL hd
        refine opw_val rfl rfl rfl (by decide) (by simp only [frm, List.foldl_cons, List.foldl_nil, List.setIfInBounds_toArray, List.set_cons_zero, List.set_cons_succ]; (go_simp) <;> (first | exact ⟨⟨rfl, rfl⟩, rfl⟩ | exact ⟨rfl, rfl⟩ | with_reducible rfl)) ?_
        exact J.m 9 (by decide)
      case o10 =>
        intro L v W J hL hd
        have h0 : v 41 = .slice (some ⟨b, off, none⟩) 7 7 := J.mv 8 (by decide) (hd 8 (by decide))
        have h1 : v 42 = .int .i64 k := J.mv 9 (by decide) (hd 9 (by decide))
        refine opw_val rfl rfl rfl (by decide) (by simp only [frm, List.foldl_cons, List.foldl_nil, List.setIfInBounds_toArray, List.set_cons_zero, List.set_cons_succ]; (go_simp) <;> (first | exact ⟨⟨rfl, rfl⟩, rfl⟩ | exact ⟨rfl, rfl⟩ | with_reducible rfl)) ?_
        exact J.m 10 (by decide)
      case o11 =>
        intro L v W J hL hd
        have h0 : v 43 = .pointer (some ⟨b, off + k * 23, none⟩) := J.mv 10 (by decide) (hd 10 (by decide))
        exact opw_loadm rfl rfl rfl rfl (by decide) (by decide) (by rfl) h0 (HRQ.out W J.q) (J.m 11 (by decide))
      case o12 =>
        intro L v W J hL hd
        refine opw_val rfl rfl rfl (by decide) (by simp only [frm, List.foldl_cons, List.foldl_nil, List.setIfInBounds_toArray, List.set_cons_zero, List.set_cons_succ]; (go_simp) <;> (first | exact ⟨⟨rfl, rfl⟩, rfl⟩ | exact ⟨rfl, rfl⟩ | with_reducible rfl)) ?_
        exact J.m 12 (by decide)
      case o13 =>
        intro L v W J hL hd
        refine opw_val rfl rfl rfl (by decide) (by simp only [frm, List.foldl_cons, List.foldl_nil, List.setIfInBounds_toArray, List.set_cons_zero, List.set_cons_succ]; (go_simp) <;> (first | exact ⟨⟨rfl, rfl⟩, rfl⟩ | exact ⟨rfl, rfl⟩ | with_reducible rfl)) ?_
        exact J.m 13 (by decide)
      case o14 =>
        intro L v W J hL hd
        have h0 : v 45 = .slice (some ⟨b, off, none⟩) 7 7 := J.mv 12 (by decide) (hd 12 (by decide))
        have h1 : v 46 = .int .i64 k := J.mv 13 (by decide) (hd 13 (by decide))
        refine opw_val rfl rfl rfl (by decide) (by simp only [frm, List.foldl_cons, List.foldl_nil, List.setIfInBounds_toArray, List.set_cons_zero, List.set_cons_succ]; (go_simp) <;> (first | exact ⟨⟨rfl, rfl⟩, rfl⟩ | exact ⟨rfl, rfl⟩ | with_reducible rfl)) ?_
        exact J.m 14 (by decide)
      case o15 =>
        intro L v W J hL hd
        have h0 : v 47 = .pointer (some ⟨b, off + k * 23, none⟩) := J.mv 14 (by decide) (hd 14 (by decide))
        exact opw_loadm rfl rfl rfl rfl (by decide) (by decide) (by rfl) h0 (HRQ.out W J.q) (J.m 15 (by decide))
      case o16 =>
        intro L v W J hL hd
        refine opw_val rfl rfl rfl (by decide) (by simp only [frm, List.foldl_cons, List.foldl_nil, List.setIfInBounds_toArray, List.set_cons_zero, List.set_cons_succ]; (go_simp) <;> (first | exact ⟨⟨rfl, rfl⟩, rfl⟩ | exact ⟨rfl, rfl⟩ | with_reducible rfl)) ?_
        exact J.m 16 (by decide)
      case o17 =>
        intro L v W J hL hd
        refine opw_val rfl rfl rfl (by decide) (by simp only [frm, List.foldl_cons, List.foldl_nil, List.setIfInBounds_toArray, List.set_cons_zero, List.set_cons_succ]; (go_simp) <;> (first | exact ⟨⟨rfl, rfl⟩, rfl⟩ | exact ⟨rfl, rfl⟩ | with_reducible rfl)) ?_
        exact J.m 17 (by decide)
      case o18 =>
        intro L v W J hL hd
        have h0 : v 49 = .slice (some ⟨b, off, none⟩) 7 7 := J.mv 16 (by decide) (hd 16 (by decide))
        have h1 : v 50 = .int .i64 k := J.mv 17 (by decide) (hd 17 (by decide))
        refine opw_val rfl rfl rfl (by decide) (by simp only [frm, List.foldl_cons, List.foldl_nil, List.setIfInBounds_toArray, List.set_cons_zero, List.set_cons_succ]; (go_simp) <;> (first | exact ⟨⟨rfl, rfl⟩, rfl⟩ | exact ⟨rfl, rfl⟩ | with_reducible rfl)) ?_
        exact J.m 18 (by decide)
      case o19 =>
        intro L v W J hL hd
        have h0 : v 51 = .pointer (some ⟨b, off + k * 23, none⟩) := J.mv 18 (by decide) (hd 18 (by decide))
        exact opw_loadm rfl rfl rfl rfl (by decide) (by decide) (by rfl) h0 (HRQ.out W J.q) (J.m 19 (by decide))
      case o20 =>
        intro L v W J hL hd
        refine opw_val rfl rfl rfl (by decide) (by simp only [frm, List.foldl_cons, List.foldl_nil, List.setIfInBounds_toArray, List.set_cons_zero, List.set_cons_succ]; (go_simp) <;> (first | exact ⟨⟨rfl, rfl⟩, rfl⟩ | exact ⟨rfl, rfl⟩ | with_reducible rfl)) ?_
        exact J.a 0 (by decide) hL
      case o21 =>
        intro L v W J hL hd
        refine opw_val rfl rfl rfl (by decide) (by simp only [frm, List.foldl_cons, List.foldl_nil, List.setIfInBounds_toArray, List.set_cons_zero, List.set_cons_succ]; (go_simp) <;> (first | exact ⟨⟨rfl, rfl⟩, rfl⟩ | exact ⟨rfl, rfl⟩ | with_reducible rfl)) ?_
        exact J.a 1 (by decide) hL
      case o22 =>
        intro L v W J hL hd
        refine opw_val rfl rfl rfl (by decide) (by simp only [frm, List.foldl_cons, List.foldl_nil, List.setIfInBounds_toArray, List.set_cons_zero, List.set_cons_succ]; (go_simp) <;> (first | exact ⟨⟨rfl, rfl⟩, rfl⟩ | exact ⟨rfl, rfl⟩ | with_reducible rfl)) ?_
        exact J.a 2 (by decide) hL
      case o23 =>
        intro L v W J hL hd
        refine opw_val rfl rfl rfl (by decide) (by simp only [frm, List.foldl_cons, List.foldl_nil, List.setIfInBounds_toArray, List.set_cons_zero, List.set_cons_succ]; (go_simp) <;> (first | exact ⟨⟨rfl, rfl⟩, rfl⟩ | exact ⟨rfl, rfl⟩ | with_reducible rfl)) ?_
        exact J.a 3 (by decide) hL
      case o24 =>
        intro L v W J hL hd
        refine opw_val rfl rfl rfl (by decide) (by simp only [frm, List.foldl_cons, List.foldl_nil, List.setIfInBounds_toArray, List.set_cons_zero, List.set_cons_succ]; (go_simp) <;> (first | exact ⟨⟨rfl, rfl⟩, rfl⟩ | exact ⟨rfl, rfl⟩ | with_reducible rfl)) ?_
        exact J.a 4 (by decide) hL
      case o25 =>
        intro L v W J hL hd
        have l20 := hd 20 (by decide)
        have h0 : v 36 = .agg x.L.toArray := J.mv 3 (by decide) (hd 3 (by decide))
        obtain ⟨g, h1, h2, h3, _⟩ := J.bl 0 (by decide) l20
        exact opw_storer rfl rfl rfl rfl (by decide) (by rfl) (by decide) (by rfl) h1 h0 (h3 hL) (J.s 0 (by decide) hL l20 g h1)
      case o26 =>
        intro L v W J hL hd
        have l20 := hd 21 (by decide)
        have h0 : v 40 = .agg x.L.toArray := J.mv 7 (by decide) (hd 7 (by decide))
        obtain ⟨g, h1, h2, h3, _⟩ := J.bl 1 (by decide) l20
        exact opw_storer rfl rfl rfl rfl (by decide) (by rfl) (by decide) (by rfl) h1 h0 (h3 hL) (J.s 1 (by decide) hL l20 g h1)
      case o27 =>
        intro L v W J hL hd
        have l20 := hd 22 (by decide)
        have h0 : v 44 = .agg x.L.toArray := J.mv 11 (by decide) (hd 11 (by decide))
        obtain ⟨g, h1, h2, h3, _⟩ := J.bl 2 (by decide) l20
        exact opw_storer rfl rfl rfl rfl (by decide) (by rfl) (by decide) (by rfl) h1 h0 (h3 hL) (J.s 2 (by decide) hL l20 g h1)
      case o28 =>
        intro L v W J hL hd
        have l20 := hd 23 (by decide)
        have h0 : v 48 = .agg x.L.toArray := J.mv 15 (by decide) (hd 15 (by decide))
        obtain ⟨g, h1, h2, h3, _⟩ := J.bl 3 (by decide) l20
        exact opw_storer rfl rfl rfl rfl (by decide) (by rfl) (by decide) (by rfl) h1 h0 (h3 hL) (J.s 3 (by decide) hL l20 g h1)
      case o29 =>
        intro L v W J hL hd
        have l20 := hd 24 (by decide)
        have h0 : v 52 = .agg x.L.toArray := J.mv 19 (by decide) (hd 19 (by decide))
        obtain ⟨g, h1, h2, h3, _⟩ := J.bl 4 (by decide) l20
        exact opw_storer rfl rfl rfl rfl (by decide) (by rfl) (by decide) (by rfl) h1 h0 (h3 hL) (J.s 4 (by decide) hL l20 g h1)
      intro L v W hall J
      obtain ⟨g0, p0, _, _, z0⟩ := J.bl 0 (by decide) (hall 20 (by decide))
      have c0 := z0 (hall 25 (by decide))
      obtain ⟨g1, p1, _, _, z1⟩ := J.bl 1 (by decide) (hall 21 (by decide))
      have c1 := z1 (hall 26 (by decide))
      obtain ⟨g2, p2, _, _, z2⟩ := J.bl 2 (by decide) (hall 22 (by decide))
      have c2 := z2 (hall 27 (by decide))
      obtain ⟨g3, p3, _, _, z3⟩ := J.bl 3 (by decide) (hall 23 (by decide))
      have c3 := z3 (hall 28 (by decide))
      obtain ⟨g4, p4, _, _, z4⟩ := J.bl 4 (by decide) (hall 24 (by decide))
      have c4 := z4 (hall 29 (by decide))
      have n01 : g0 ≠ g1 := by intro e; exact J.ne 0 1 (by decide) (by decide) (by decide) (hall 20 (by decide)) (hall 21 (by decide)) (p0.trans ((by rw [e] : (Value.pointer (some ⟨g0, 0, none⟩)) = .pointer (some ⟨g1, 0, none⟩)).trans p1.symm))
      have n02 : g0 ≠ g2 := by intro e; exact J.ne 0 2 (by decide) (by decide) (by decide) (hall 20 (by decide)) (hall 22 (by decide)) (p0.trans ((by rw [e] : (Value.pointer (some ⟨g0, 0, none⟩)) = .pointer (some ⟨g2, 0, none⟩)).trans p2.symm))
      have n03 : g0 ≠ g3 := by intro e; exact J.ne 0 3 (by decide) (by decide) (by decide) (hall 20 (by decide)) (hall 23 (by decide)) (p0.trans ((by rw [e] : (Value.pointer (some ⟨g0, 0, none⟩)) = .pointer (some ⟨g3, 0, none⟩)).trans p3.symm))
      have n04 : g0 ≠ g4 := by intro e; exact J.ne 0 4 (by decide) (by decide) (by decide) (hall 20 (by decide)) (hall 24 (by decide)) (p0.trans ((by rw [e] : (Value.pointer (some ⟨g0, 0, none⟩)) = .pointer (some ⟨g4, 0, none⟩)).trans p4.symm))
      have n10 : g1 ≠ g0 := by intro e; exact J.ne 1 0 (by decide) (by decide) (by decide) (hall 21 (by decide)) (hall 20 (by decide)) (p1.trans ((by rw [e] : (Value.pointer (some ⟨g1, 0, none⟩)) = .pointer (some ⟨g0, 0, none⟩)).trans p0.symm))
      have n12 : g1 ≠ g2 := by intro e; exact J.ne 1 2 (by decide) (by decide) (by decide) (hall 21 (by decide)) (hall 22 (by decide)) (p1.trans ((by rw [e] : (Value.pointer (some ⟨g1, 0, none⟩)) = .pointer (some ⟨g2, 0, none⟩)).trans p2.symm))
      have n13 : g1 ≠ g3 := by intro e; exact J.ne 1 3 (by decide) (by decide) (by decide) (hall 21 (by decide)) (hall 23 (by decide)) (p1.trans ((by rw [e] : (Value.pointer (some ⟨g1, 0, none⟩)) = .pointer (some ⟨g3, 0, none⟩)).trans p3.symm))
      have n14 : g1 ≠ g4 := by intro e; exact J.ne 1 4 (by decide) (by decide) (by decide) (hall 21 (by decide)) (hall 24 (by decide)) (p1.trans ((by rw [e] : (Value.pointer (some ⟨g1, 0, none⟩)) = .pointer (some ⟨g4, 0, none⟩)).trans p4.symm))
      have n20 : g2 ≠ g0 := by intro e; exact J.ne 2 0 (by decide) (by decide) (by decide) (hall 22 (by decide)) (hall 20 (by decide)) (p2.trans ((by rw [e] : (Value.pointer (some ⟨g2, 0, none⟩)) = .pointer (some ⟨g0, 0, none⟩)).trans p0.symm))
      have n21 : g2 ≠ g1 := by intro e; exact J.ne 2 1 (by decide) (by decide) (by decide) (hall 22 (by decide)) (hall 21 (by decide)) (p2.trans ((by rw [e] : (Value.pointer (some ⟨g2, 0, none⟩)) = .pointer (some ⟨g1, 0, none⟩)).trans p1.symm))
      have n23 : g2 ≠ g3 := by intro e; exact J.ne 2 3 (by decide) (by decide) (by decide) (hall 22 (by decide)) (hall 23 (by decide)) (p2.trans ((by rw [e] : (Value.pointer (some ⟨g2, 0, none⟩)) = .pointer (some ⟨g3, 0, none⟩)).trans p3.symm))
      have n24 : g2 ≠ g4 := by intro e; exact J.ne 2 4 (by decide) (by decide) (by decide) (hall 22 (by decide)) (hall 24 (by decide)) (p2.trans ((by rw [e] : (Value.pointer (some ⟨g2, 0, none⟩)) = .pointer (some ⟨g4, 0, none⟩)).trans p4.symm))
      have n30 : g3 ≠ g0 := by intro e; exact J.ne 3 0 (by decide) (by decide) (by decide) (hall 23 (by decide)) (hall 20 (by decide)) (p3.trans ((by rw [e] : (Value.pointer (some ⟨g3, 0, none⟩)) = .pointer (some ⟨g0, 0, none⟩)).trans p0.symm))
      have n31 : g3 ≠ g1 := by intro e; exact J.ne 3 1 (by decide) (by decide) (by decide) (hall 23 (by decide)) (hall 21 (by decide)) (p3.trans ((by rw [e] : (Value.pointer (some ⟨g3, 0, none⟩)) = .pointer (some ⟨g1, 0, none⟩)).trans p1.symm))
      have n32 : g3 ≠ g2 := by intro e; exact J.ne 3 2 (by decide) (by decide) (by decide) (hall 23 (by decide)) (hall 22 (by decide)) (p3.trans ((by rw [e] : (Value.pointer (some ⟨g3, 0, none⟩)) = .pointer (some ⟨g2, 0, none⟩)).trans p2.symm))
      have n34 : g3 ≠ g4 := by intro e; exact J.ne 3 4 (by decide) (by decide) (by decide) (hall 23 (by decide)) (hall 24 (by decide)) (p3.trans ((by rw [e] : (Value.pointer (some ⟨g3, 0, none⟩)) = .pointer (some ⟨g4, 0, none⟩)).trans p4.symm))
      have n40 : g4 ≠ g0 := by intro e; exact J.ne 4 0 (by decide) (by decide) (by decide) (hall 24 (by decide)) (hall 20 (by decide)) (p4.trans ((by rw [e] : (Value.pointer (some ⟨g4, 0, none⟩)) = .pointer (some ⟨g0, 0, none⟩)).trans p0.symm))
      have n41 : g4 ≠ g1 := by intro e; exact J.ne 4 1 (by decide) (by decide) (by decide) (hall 24 (by decide)) (hall 21 (by decide)) (p4.trans ((by rw [e] : (Value.pointer (some ⟨g4, 0, none⟩)) = .pointer (some ⟨g1, 0, none⟩)).trans p1.symm))
      have n42 : g4 ≠ g2 := by intro e; exact J.ne 4 2 (by decide) (by decide) (by decide) (hall 24 (by decide)) (hall 22 (by decide)) (p4.trans ((by rw [e] : (Value.pointer (some ⟨g4, 0, none⟩)) = .pointer (some ⟨g2, 0, none⟩)).trans p2.symm))
      have n43 : g4 ≠ g3 := by intro e; exact J.ne 4 3 (by decide) (by decide) (by decide) (hall 24 (by decide)) (hall 23 (by decide)) (p4.trans ((by rw [e] : (Value.pointer (some ⟨g4, 0, none⟩)) = .pointer (some ⟨g3, 0, none⟩)).trans p3.symm))
      have hqW := J.q
      have b0 := fun i : Nat => i
      have l0 : w1.heap.size ≤ g0 := by obtain ⟨g, e1, e2, _⟩ := J.bl 0 (by decide) (hall 20 (by decide)); rw [p0] at e1; simp only [Value.pointer.injEq, Option.some.injEq, Addr.mk.injEq] at e1; omega
      have l1 : w1.heap.size ≤ g1 := by obtain ⟨g, e1, e2, _⟩ := J.bl 1 (by decide) (hall 21 (by decide)); rw [p1] at e1; simp only [Value.pointer.injEq, Option.some.injEq, Addr.mk.injEq] at e1; omega
      have l2 : w1.heap.size ≤ g2 := by obtain ⟨g, e1, e2, _⟩ := J.bl 2 (by decide) (hall 22 (by decide)); rw [p2] at e1; simp only [Value.pointer.injEq, Option.some.injEq, Addr.mk.injEq] at e1; omega
      have l3 : w1.heap.size ≤ g3 := by obtain ⟨g, e1, e2, _⟩ := J.bl 3 (by decide) (hall 23 (by decide)); rw [p3] at e1; simp only [Value.pointer.injEq, Option.some.injEq, Addr.mk.injEq] at e1; omega
      have l4 : w1.heap.size ≤ g4 := by obtain ⟨g, e1, e2, _⟩ := J.bl 4 (by decide) (hall 24 (by decide)); rw [p4] at e1; simp only [Value.pointer.injEq, Option.some.injEq, Addr.mk.injEq] at e1; omega
      simp only [frm, List.foldl_cons, List.foldl_nil, List.setIfInBounds_toArray, List.set_cons_zero, List.set_cons_succ]
      simp only [show v 3 = _ from p0, show v 4 = _ from p1, show v 5 = _ from p2, show v 6 = _ from p3, show v 7 = _ from p4]
      clear hall J p0 p1 p2 p3 p4 z0 z1 z2 z3 z4 b0
      have hfa := HX.out w1 (Q.refl _)
      have hr5 : IntKind.i64.wrap (x.row + 5) = x.row + 5 := by have := hfa.r; rw [IntKind.wrap_i64]; omega
      have hf3 : IntKind.i64.wrap (x.fm + 3) = x.fm + 3 := by have := hfa.f; rw [IntKind.wrap_i64]; omega
      have hnm : ¬ 9223372036854775807 < x.nm.size + 1 := by have := hfa.n; omega
      have hnm2 : ¬ 9223372036854775807 < x.nm.size + (⟨#[121]⟩ : ByteArray).size := by have := hfa.n; show ¬ 9223372036854775807 < x.nm.size + 1; omega
      obtain ⟨ny, hny⟩ : ∃ y, x.nm ++ (⟨#[121]⟩ : ByteArray) = y := ⟨_, rfl⟩
      clear hfa
      have u1 := c0.c 2 (.int .i64 x.row) rfl
      have u2 := c0.f 2
      go_upto_region 9 with fail
      obtain ⟨W1, hW1⟩ : ∃ V, (W.setCell ⟨g0, 2, none⟩ (.int .i64 (x.row + 5))) = V := ⟨_, rfl⟩
      rw [hW1]
      have d0 : Cq W1 g0 x.va.L := hW1 ▸ (c0.put 2 _)
      have d1 : Cq W1 g1 x.L := hW1 ▸ (c1.oth n10 2 _)
      have d2 : Cq W1 g2 x.L := hW1 ▸ (c2.oth n20 2 _)
      have d3 : Cq W1 g3 x.L := hW1 ▸ (c3.oth n30 2 _)
      have d4 : Cq W1 g4 x.L := hW1 ▸ (c4.oth n40 2 _)
      have hq1 : Q w1 W1 := hW1 ▸ (hqW.setCell l0 _)
      clear hW1 hqW c0 c1 c2 c3 c4 u1 u2
      have u1 := d1.c 19 (.int .i64 x.lt) rfl
      have u2 := d1.f 19
      go_upto_region 10 with fail
      obtain ⟨W2, hW2⟩ : ∃ V, (W1.setCell ⟨g1, 19, none⟩ (.int .i64 9)) = V := ⟨_, rfl⟩
      rw [hW2]
      have e0 : Cq W2 g0 x.va.L := hW2 ▸ (d0.oth n01 19 _)
      have e1 : Cq W2 g1 x.vb1.L := hW2 ▸ (d1.put 19 _)
      have e2 : Cq W2 g2 x.L := hW2 ▸ (d2.oth n21 19 _)
      have e3 : Cq W2 g3 x.L := hW2 ▸ (d3.oth n31 19 _)
      have e4 : Cq W2 g4 x.L := hW2 ▸ (d4.oth n41 19 _)
      have hq2 : Q w1 W2 := hW2 ▸ (hq1.setCell l1 _)
      clear hW2 hq1 d0 d1 d2 d3 d4 u1 u2
      have u1 := e2.c 21 (.int .i64 x.fm) rfl
      have u2 := e2.f 21
      go_upto_region 11 with fail
      obtain ⟨W3, hW3⟩ : ∃ V, (W2.setCell ⟨g2, 21, none⟩ (.int .i64 (x.fm + 3))) = V := ⟨_, rfl⟩
      rw [hW3]
      have f0 : Cq W3 g0 x.va.L := hW3 ▸ (e0.oth n02 21 _)
      have f1 : Cq W3 g1 x.vb1.L := hW3 ▸ (e1.oth n12 21 _)
      have f2 : Cq W3 g2 x.vc.L := hW3 ▸ (e2.put 21 _)
      have f3 : Cq W3 g3 x.L := hW3 ▸ (e3.oth n32 21 _)
      have f4 : Cq W3 g4 x.L := hW3 ▸ (e4.oth n42 21 _)
      have hq3 : Q w1 W3 := hW3 ▸ (hq2.setCell l2 _)
      clear hW3 hq2 e0 e1 e2 e3 e4 u1 u2
      have u1 := f3.c 22 (.string x.nm) rfl
      have u2 := f3.f 22
      go_upto_region 12 with fail
      obtain ⟨W4, hW4⟩ : ∃ V, (W3.setCell ⟨g3, 22, none⟩ (.string ny)) = V := ⟨_, rfl⟩
      rw [hW4]
      have h0 : Cq W4 g0 x.va.L := hW4 ▸ (f0.oth n03 22 _)
      have h1 : Cq W4 g1 x.vb1.L := hW4 ▸ (f1.oth n13 22 _)
      have h2 : Cq W4 g2 x.vc.L := hW4 ▸ (f2.oth n23 22 _)
      have h3 : Cq W4 g3 x.vd.L := by rw [← hW4, ← hny]; exact (f3.put 22 _)
      have h4 : Cq W4 g4 x.L := hW4 ▸ (f4.oth n43 22 _)
      have hq4 : Q w1 W4 := hW4 ▸ (hq3.setCell l3 _)
      clear hW4 hq3 f0 f1 f2 f3 f4 u1 u2
      have u5 := h4.c 5 (.int .i64 x.vk) rfl
      have uf5 := h4.f 5
      have u6 := h4.c 6 (.int .i64 x.vn) rfl
      have uf6 := h4.f 6
      have u7 := h4.c 7 (.string x.vt) rfl
      have uf7 := h4.f 7
      have u8 := h4.c 8 (.bool x.vb) rfl
      have uf8 := h4.f 8
      have u9 := h4.c 9 (.int .i64 x.ve) rfl
      have uf9 := h4.f 9
      go_upto_region 13 with fail
      obtain ⟨W5, hW5⟩ : ∃ V, (((((W4.setCell ⟨g4, 5, none⟩ (.int .i64 3)).setCell ⟨g4, 6, none⟩ (.int .i64 0)).setCell ⟨g4, 7, none⟩ (.string ⟨#[]⟩)).setCell ⟨g4, 8, none⟩ (.bool false)).setCell ⟨g4, 9, none⟩ (.int .i64 0)) = V := ⟨_, rfl⟩
      rw [hW5]
      have k0 : Cq W5 g0 x.va.L := hW5 ▸ (((((h0.oth n04 5 _).oth n04 6 _).oth n04 7 _).oth n04 8 _).oth n04 9 _)
      have k1 : Cq W5 g1 x.vb1.L := hW5 ▸ (((((h1.oth n14 5 _).oth n14 6 _).oth n14 7 _).oth n14 8 _).oth n14 9 _)
      have k2 : Cq W5 g2 x.vc.L := hW5 ▸ (((((h2.oth n24 5 _).oth n24 6 _).oth n24 7 _).oth n24 8 _).oth n24 9 _)
      have k3 : Cq W5 g3 x.vd.L := hW5 ▸ (((((h3.oth n34 5 _).oth n34 6 _).oth n34 7 _).oth n34 8 _).oth n34 9 _)
      have k4 : Cq W5 g4 x.ve1.L := hW5 ▸ (((((h4.put 5 _).put 6 _).put 7 _).put 8 _).put 9 _)
      have hq5 : Q w1 W5 := hW5 ▸ (((((hq4.setCell l4 _).setCell l4 _).setCell l4 _).setCell l4 _).setCell l4 _)
      clear hW5 hq4 h0 h1 h2 h3 h4 u5 uf5 u6 uf6 u7 uf7 u8 uf8 u9 uf9
      have uk := HRQ.out W5 hq5 0 (.int .i64 x.k) rfl
      have uk2 : W5.cell? ⟨b, off + k * 23, none⟩ = some (.int .i64 x.k) := uk
      go_upto_region 14 with fail
      have HZ : Hid (∀ V, Q W5 V → Cq V g0 x.va.L ∧ Cq V g1 x.vb1.L ∧ Cq V g2 x.vc.L ∧ Cq V g3 x.vd.L ∧ Cq V g4 x.ve1.L ∧ Gd V ∧ FA V x ∧ Q w1 V) := hid (fun V q => ⟨k0.on q, k1.on q, k2.on q, k3.on q, k4.on q, HGQ.out V (hq5.trans q), HX.out V (hq5.trans q), hq5.trans q⟩)
      clear uk uk2 k0 k1 k2 k3 k4 hq5 HGQ HX HRQ
      have Q0 : Q W5 W5 := Q.refl _
      by_cases h5 : x.k = 5
      · have hb5 : (x.k == 5) = true := by simpa using h5
        have hor : (x.k == 5 || x.k == 6) = true := by rw [hb5]; rfl
        clear h5
        go_wp2_with (first
          | (with_reducible refine wpl_loadg _ (by with_unfolding_all rfl) (by with_unfolding_all rfl) g0 (by with_unfolding_all rfl) x.va.L (by with_unfolding_all exact (HZ.out _ (by assumption)).1) (by with_unfolding_all rfl) ?_)
          | (with_reducible refine wpl_loadg _ (by with_unfolding_all rfl) (by with_unfolding_all rfl) g1 (by with_unfolding_all rfl) x.vb1.L (by with_unfolding_all exact (HZ.out _ (by assumption)).2.1) (by with_unfolding_all rfl) ?_)
          | (with_reducible refine wpl_loadg _ (by with_unfolding_all rfl) (by with_unfolding_all rfl) g2 (by with_unfolding_all rfl) x.vc.L (by with_unfolding_all exact (HZ.out _ (by assumption)).2.2.1) (by with_unfolding_all rfl) ?_)
          | (with_reducible refine wpl_loadg _ (by with_unfolding_all rfl) (by with_unfolding_all rfl) g3 (by with_unfolding_all rfl) x.vd.L (by with_unfolding_all exact (HZ.out _ (by assumption)).2.2.2.1) (by with_unfolding_all rfl) ?_)
          | (with_reducible refine wpl_loadg _ (by with_unfolding_all rfl) (by with_unfolding_all rfl) g4 (by with_unfolding_all rfl) x.ve1.L (by with_unfolding_all exact (HZ.out _ (by assumption)).2.2.2.2.1) (by with_unfolding_all rfl) ?_)
          | (go_at_call 8; have hQ := Q4; refine (opmay_g x.ve1 (x.k == 1) _ (HZ.out _ Q4).2.2.2.2.2.1 (HZ.out _ Q4).2.2.2.2.2.2.1.e).mono ?_; rintro e9 y5 ⟨rfl, q9⟩; have Q5 : Q W5 y5 := Q4.trans q9; clear q9 hQ Q4)
          | (go_at_call 8; have hQ := Q3; refine (opmay_g x.vd true _ (HZ.out _ Q3).2.2.2.2.2.1 (by have hh := (HZ.out _ Q3).2.2.2.2.2.2.1.d; rw [hor] at hh; exact hh)).mono ?_; rintro e9 y4 ⟨rfl, q9⟩; have Q4 : Q W5 y4 := Q3.trans q9; clear q9 hQ Q3)
          | (go_at_call 8; have hQ := Q2; refine (opmay_g x.vc (x.k == 4) _ (HZ.out _ Q2).2.2.2.2.2.1 (HZ.out _ Q2).2.2.2.2.2.2.1.c).mono ?_; rintro e9 y3 ⟨rfl, q9⟩; have Q3 : Q W5 y3 := Q2.trans q9; clear q9 hQ Q2)
          | (go_at_call 8; have hQ := Q1; refine (opmay_g x.vb1 false _ (HZ.out _ Q1).2.2.2.2.2.1 (HZ.out _ Q1).2.2.2.2.2.2.1.b).mono ?_; rintro e9 y2 ⟨rfl, q9⟩; have Q2 : Q W5 y2 := Q1.trans q9; clear q9 hQ Q1)
          | (go_at_call 8; have hQ := Q0; refine (opmay_g x.va (x.k == 1) _ (HZ.out _ Q0).2.2.2.2.2.1 (HZ.out _ Q0).2.2.2.2.2.2.1.a).mono ?_; rintro e9 y1 ⟨rfl, q9⟩; have Q1 : Q W5 y1 := Q0.trans q9; clear q9 hQ))
        go_roundw
        case rel => exact ⟨k + 1, by omega, by go_num, rfl, (HZ.out _ Q5).2.2.2.2.2.2.2⟩
        case measure => simp [intOf]; omega
      · have hb5 : (x.k == 5) = false := by simpa using h5
        have hor : (x.k == 5 || x.k == 6) = (x.k == 6) := by rw [hb5]; rfl
        clear h5
        go_wp2_with (first
          | (with_reducible refine wpl_loadg _ (by with_unfolding_all rfl) (by with_unfolding_all rfl) g0 (by with_unfolding_all rfl) x.va.L (by with_unfolding_all exact (HZ.out _ (by assumption)).1) (by with_unfolding_all rfl) ?_)
          | (with_reducible refine wpl_loadg _ (by with_unfolding_all rfl) (by with_unfolding_all rfl) g1 (by with_unfolding_all rfl) x.vb1.L (by with_unfolding_all exact (HZ.out _ (by assumption)).2.1) (by with_unfolding_all rfl) ?_)
          | (with_reducible refine wpl_loadg _ (by with_unfolding_all rfl) (by with_unfolding_all rfl) g2 (by with_unfolding_all rfl) x.vc.L (by with_unfolding_all exact (HZ.out _ (by assumption)).2.2.1) (by with_unfolding_all rfl) ?_)
          | (with_reducible refine wpl_loadg _ (by with_unfolding_all rfl) (by with_unfolding_all rfl) g3 (by with_unfolding_all rfl) x.vd.L (by with_unfolding_all exact (HZ.out _ (by assumption)).2.2.2.1) (by with_unfolding_all rfl) ?_)
          | (with_reducible refine wpl_loadg _ (by with_unfolding_all rfl) (by with_unfolding_all rfl) g4 (by with_unfolding_all rfl) x.ve1.L (by with_unfolding_all exact (HZ.out _ (by assumption)).2.2.2.2.1) (by with_unfolding_all rfl) ?_)
          | (go_at_call 8; have hQ := Q4; refine (opmay_g x.ve1 (x.k == 1) _ (HZ.out _ Q4).2.2.2.2.2.1 (HZ.out _ Q4).2.2.2.2.2.2.1.e).mono ?_; rintro e9 y5 ⟨rfl, q9⟩; have Q5 : Q W5 y5 := Q4.trans q9; clear q9 hQ Q4)
          | (go_at_call 8; have hQ := Q3; refine (opmay_g x.vd (x.k == 6) _ (HZ.out _ Q3).2.2.2.2.2.1 (by have hh := (HZ.out _ Q3).2.2.2.2.2.2.1.d; rw [hor] at hh; exact hh)).mono ?_; rintro e9 y4 ⟨rfl, q9⟩; have Q4 : Q W5 y4 := Q3.trans q9; clear q9 hQ Q3)
          | (go_at_call 8; have hQ := Q2; refine (opmay_g x.vc (x.k == 4) _ (HZ.out _ Q2).2.2.2.2.2.1 (HZ.out _ Q2).2.2.2.2.2.2.1.c).mono ?_; rintro e9 y3 ⟨rfl, q9⟩; have Q3 : Q W5 y3 := Q2.trans q9; clear q9 hQ Q2)
          | (go_at_call 8; have hQ := Q1; refine (opmay_g x.vb1 false _ (HZ.out _ Q1).2.2.2.2.2.1 (HZ.out _ Q1).2.2.2.2.2.2.1.b).mono ?_; rintro e9 y2 ⟨rfl, q9⟩; have Q2 : Q W5 y2 := Q1.trans q9; clear q9 hQ Q1)
          | (go_at_call 8; have hQ := Q0; refine (opmay_g x.va (x.k == 1) _ (HZ.out _ Q0).2.2.2.2.2.1 (HZ.out _ Q0).2.2.2.2.2.2.1.a).mono ?_; rintro e9 y1 ⟨rfl, q9⟩; have Q1 : Q W5 y1 := Q0.trans q9; clear q9 hQ))
        go_roundw
        case rel => exact ⟨k + 1, by omega, by go_num, rfl, (HZ.out _ Q5).2.2.2.2.2.2.2⟩
        case measure => simp [intOf]; omega
    · have hk7 : k = 7 := by omega
      subst hk7
      have hl7 : ¬ ((7 : Nat) : Int) < 7 := by omega
      have HO0 := hid (fun V (q : Q w1 V) => opmay_g f0 false V (HG.out.on (HQ0.out.trans q)) (og0 V))
      have HO8 := hid (fun V (q : Q w1 V) => opmay_g f8 false V (HG.out.on (HQ0.out.trans q)) (og8 V))
      have U1 : Hid True := trivial
      have U2 : Hid True := trivial
      go_wp2_with (first
        | (clear U1; with_reducible refine wpl_buildt 35 _ (by with_unfolding_all rfl) (by with_unfolding_all rfl) f0.L.toArray (by kernel_rfl) ?_)
        | (clear U2; with_reducible refine wpl_buildt 35 _ (by with_unfolding_all rfl) (by with_unfolding_all rfl) f8.L.toArray (by kernel_rfl) ?_)
        | (go_at_call 6; refine (HB.out _ (HQ0.out.trans HQ.out)).mono ?_; rintro e9 y1 ⟨rfl, q9⟩; have Q1 : Hid (Q w1 y1) := hid (HQ.out.trans q9); clear q9)
        | (go_at_call 8; have hQ := Q2; refine (HO8.out _ Q2.out).mono ?_; rintro e9 y3 ⟨rfl, q9⟩; have Q3 : Hid (Q w1 y3) := hid (Q2.out.trans q9); clear q9 hQ)
        | (go_at_call 8; refine (HO0.out _ Q1.out).mono ?_; rintro e9 y2 ⟨rfl, q9⟩; have Q2 : Hid (Q w1 y2) := hid (Q1.out.trans q9); clear q9))
      go_ret
      exact ⟨rfl, HQ0.out.trans Q3.out⟩
end Go.Proofs.YtngnakdbhkjbjaaGreatDoor
