/- BuiltinIf: the walk. -/
import Derived.Test.YtfjpdopmojfchaaGreatDoorIb
import Derived.Deep.CutBlock
import Derived.Deep.RegionWith
namespace Go.Proofs.YtfjpdopmojfchaaGreatDoor
open Go.RowKit
set_option linter.unusedVariables false
set_option linter.unusedSimpArgs false

theorem if3g (c : Bool) (a b : Cv) (V : World) (v : Value) (hw : Std2 V) (ha : a.may = true) (hb : b.may = true) (sa : a.sm) (sb : b.sm) (s1 s2 s3 : Value) (h : Args V v (sg [(s1, bo c), (s2, a), (s3, b)])) :
    Calls Tryz.prog 13 #[.string ⟨#[73, 70]⟩, v] V fun r V' => r = .returned (if c = true then a else b).v ∧ Q V V' := by
  obtain ⟨ao, cap, rfl, _, _⟩ := h.sl.len
  refine call_if ao _ cap (if c = true then a else b) _ (by simp [sg]) (by simp [sg]) (fun W f p hf q hv => ?_)
  refine sing75 [(s1, bo c), (s2, a), (s3, b)] _ _ p W (hw.on q) (h.on q) (by simp) (fun p hp => ?_) (bsin hf hv) (fun W' s q' hs => ?_)
  · simp only [List.mem_cons, List.not_mem_nil, or_false] at hp
    rcases hp with rfl | rfl | rfl
    · exact nil_sm
    · exact sa
    · exact sb
  · simp only [List.map_cons, List.map_nil, ctd_may ha, ctd_may hb, ctd_may (bo_may c)] at hs
    have hW := hw.on (q.trans q')
    cases c
    · exact choose3_f a b s W' hW hs
    · exact choose3_t a b s W' hW hs
theorem if2g (c : Bool) (a : Cv) (V : World) (v : Value) (hw : Std2 V) (ha : a.may = true) (sa : a.sm) (s1 s2 : Value) (h : Args V v (sg [(s1, bo c), (s2, a)])) :
    Calls Tryz.prog 13 #[.string ⟨#[73, 70]⟩, v] V fun r V' => r = .returned (if c = true then a else bo false).v ∧ Q V V' := by
  obtain ⟨ao, cap, rfl, _, _⟩ := h.sl.len
  refine call_if ao _ cap (if c = true then a else bo false) _ (by simp [sg]) (by simp [sg]) (fun W f p hf q hv => ?_)
  refine sing75 [(s1, bo c), (s2, a)] _ _ p W (hw.on q) (h.on q) (by simp) (fun p hp => ?_) (bsin hf hv) (fun W' s q' hs => ?_)
  · simp only [List.mem_cons, List.not_mem_nil, or_false] at hp
    rcases hp with rfl | rfl
    · exact nil_sm
    · exact sa
  · simp only [List.map_cons, List.map_nil, ctd_may ha, ctd_may (bo_may c)] at hs
    have hW := hw.on (q.trans q')
    cases c
    · exact choose2_f a a s W' hW hs
    · exact choose2_t a a s W' hW hs

set_option maxRecDepth 100000 in
set_option maxHeartbeats 16000000 in
theorem if_walk (c : Bool) (a b : Cv) (w : World) (hw : Std2 w) : Calls Tryz.prog 6 #[.bool c, a.v, b.v] w fun r w' => r = .returned (.bool true) ∧ Q w w' := by
  have J := bp_new w a b
  have HBg := hid (fun W (q : Q w W) => bbegun_any W (hw.on q))
  have HU := hid (fun W => cutv_any a W)
  have HU' := hid (fun W => cutv_any b W)
  have hxs := cut_sm' a
  have hzs := cut_sm' b
  obtain ⟨x, hx⟩ : ∃ x, a.cut = x := ⟨_, rfl⟩
  obtain ⟨z, hz⟩ : ∃ z, b.cut = z := ⟨_, rfl⟩
  rw [hx] at HU hxs
  rw [hz] at HU' hzs
  have HM := hid (fun W => rmayv_any x W hxs)
  have HM' := hid (fun W => rmayv_any z W hzs)
  have HBo := hid (fun W => boo_any c W)
  have HBf := hid (fun W => boo_any false W)
  have HO1 := hid (fun W => arg1_ob (bo c) W)
  have HO2 := hid (fun W => arg1_ob x W)
  have HO3 := hid (fun W => arg1_ob z W)
  have HE := hid (fun y W => eqv_same y W)
  obtain ⟨Y, hY⟩ : ∃ Y, (if c = true then x else z) = Y := ⟨_, rfl⟩
  obtain ⟨Z, hZ⟩ : ∃ Z, (if c = true then x else bo false) = Z := ⟨_, rfl⟩
  have HI3 := hid (fun (ha : x.may = true) (hb : z.may = true) (V : World) (v : Value) (q : Q w V) (s1 s2 s3 : Value) h => if3g c x z V v (hw.on q) ha hb hxs hzs s1 s2 s3 h)
  have HI2 := hid (fun (ha : x.may = true) (V : World) (v : Value) (q : Q w V) (s1 s2 : Value) h => if2g c x V v (hw.on q) ha hxs s1 s2 h)
  rw [hY] at HI3
  rw [hZ] at HI2
  have HYZ := hid (And.intro hY hZ)
  clear hw hx hz hxs hzs hY hZ
  obtain ⟨ak, an, at', ab, ae⟩ := a
  obtain ⟨bk, bn, bt, bb, be⟩ := b
  have HS := hid (fun W (J : Bp w ⟨ak, an, at', ab, ae⟩ ⟨bk, bn, bt, bb, be⟩ W) => J.setTwo x z)
  obtain ⟨mx, hmx⟩ : ∃ m, x.may = m := ⟨_, rfl⟩
  obtain ⟨mz, hmz⟩ : ∃ m, z.may = m := ⟨_, rfl⟩
  rw [hmx] at HM
  rw [hmz] at HM'
  have HMX := hid (And.intro hmx hmz)
  clear hmx hmz
  obtain ⟨xk, xn, xt, xb, xe⟩ := x
  obtain ⟨zk, zn, zt, zb, ze⟩ := z
  obtain ⟨Yk, Yn, Yt, Yb, Ye⟩ := Y
  obtain ⟨Zk, Zn, Zt, Zb, Ze⟩ := Z
  simp only [Cv.v, vv] at HU HU' HM HM' HO2 HO3 HI3 HI2
  simp only [Cv.v, vv, bo] at HO1 HBo HBf
  go_enter Tryz.func6, Tryz.ntmps6
  go_wp2_with (go_at_call 9; refine (HBg.out _ J.q).mono ?_; rintro e w1 ⟨rfl, q1⟩; replace J := J.on q1; clear q1)
  go_upto_region 4 with fail
  go_cut [] from 13 to 16 (fun W => Bp w ⟨xk, xn, xt, xb, xe⟩ ⟨zk, zn, zt, zb, ze⟩ W)
  case first =>
    have ix0 := J.x.c0
    have ix1 := J.x.c1
    have ix2 := J.x.c2
    have ix3 := J.x.c3
    have ix4 := J.x.c4
    have iy0 := J.y.c0
    have iy1 := J.y.c1
    have iy2 := J.y.c2
    have iy3 := J.y.c3
    have iy4 := J.y.c4
    go_region_with (first
      | (go_at_call_of 17 at'; refine (HU.out _).mono ?_; rintro x w2 ⟨rfl, q2⟩; replace J := (J.drew).on q2; clear q2; have px0 := J.x.c0; have px1 := J.x.c1; have px2 := J.x.c2; have px3 := J.x.c3; have px4 := J.x.c4; have py0 := J.y.c0; have py1 := J.y.c1; have py2 := J.y.c2; have py3 := J.y.c3; have py4 := J.y.c4)
      | (go_at_call_of 17 bt; refine (HU'.out _).mono ?_; rintro x w3 ⟨rfl, q2⟩; replace J := J.on q2; clear q2; have sx0 := J.x.c0; have sx1 := J.x.c1; have sx2 := J.x.c2; have sx3 := J.x.c3; have sx4 := J.x.c4; have sy0 := J.y.c0; have sy1 := J.y.c1; have sy2 := J.y.c2; have sy3 := J.y.c3; have sy4 := J.y.c4; have sfx0 := J.x.f0; have sfx1 := J.x.f1; have sfx2 := J.x.f2; have sfx3 := J.x.f3; have sfx4 := J.x.f4; have sfy0 := J.y.f0; have sfy1 := J.y.f1; have sfy2 := J.y.f2; have sfy3 := J.y.f3; have sfy4 := J.y.f4))
    all_goals
      go_wp2_with fail
      go_meet
      case rel => exact HS.out _ J
  case rest =>
    have J := hcut
    clear hcut HS HU HU' HBg
    have tx0 := J.x.c0
    have tx1 := J.x.c1
    have tx2 := J.x.c2
    have tx3 := J.x.c3
    have tx4 := J.x.c4
    have ty0 := J.y.c0
    have ty1 := J.y.c1
    have ty2 := J.y.c2
    have ty3 := J.y.c3
    have ty4 := J.y.c4
    cases mx
    · go_wp2_with (go_at_call_of 23 xt; refine (HM.out _).mono ?_; rintro r w4 ⟨rfl, q2⟩; replace J := J.on q2; clear q2)
      go_ret
      exact ⟨rfl, J.q⟩
    · cases mz
      · go_wp2_with (first
          | (go_at_call_of 23 xt; refine (HM.out _).mono ?_; rintro r w4 ⟨rfl, q2⟩; replace J := J.on q2; clear q2; have ux0 := J.x.c0; have ux1 := J.x.c1; have ux2 := J.x.c2; have ux3 := J.x.c3; have ux4 := J.x.c4; have uy0 := J.y.c0; have uy1 := J.y.c1; have uy2 := J.y.c2; have uy3 := J.y.c3; have uy4 := J.y.c4)
          | (go_at_call_of 23 zt; refine (HM'.out _).mono ?_; rintro r w5 ⟨rfl, q2⟩; replace J := J.on q2; clear q2))
        go_ret
        exact ⟨rfl, J.q⟩
      · go_upto_region 7 with (first
          | (go_at_call_of 23 xt; refine (HM.out _).mono ?_; rintro r w4 ⟨rfl, q2⟩; replace J := J.on q2; clear q2; have ux0 := J.x.c0; have ux1 := J.x.c1; have ux2 := J.x.c2; have ux3 := J.x.c3; have ux4 := J.x.c4; have uy0 := J.y.c0; have uy1 := J.y.c1; have uy2 := J.y.c2; have uy3 := J.y.c3; have uy4 := J.y.c4)
          | (go_at_call_of 23 zt; refine (HM'.out _).mono ?_; rintro r w5 ⟨rfl, q2⟩; replace J := J.on q2; clear q2))
        have HIX := hid (HI3.out HMX.out.1 HMX.out.2)
        have HIY := hid (HI2.out HMX.out.1)
        clear HI3 HI2 HM HM'
        clear tx0 tx1 tx2 tx3 tx4 ty0 ty1 ty2 ty3 ty4
        clear ux0 ux1 ux2 ux3 ux4 uy0 uy1 uy2 uy3 uy4
        go_cut [8] from 26 to 34 (fun p W => ∃ g W0, W0 = W ∧ p = .pointer (some ⟨g, 0, none⟩) ∧ w.heap.size + 1 < g ∧ Bp w ⟨xk, xn, xt, xb, xe⟩ ⟨zk, zn, zt, zb, ze⟩ W ∧ Bx W g (.int .i64 Yk) (.int .i64 Yn) (.string Yt) (.bool Yb) (.int .i64 Ye))
        case first =>
          clear HIY HE HBf HYZ HMX
          refine wp_region_inv (by kernel_rfl) [26, 27, 28, 29, 30, 31, 32, 33, 34, 8] (I7 w c ⟨xk, xn, xt, xb, xe⟩ ⟨zk, zn, zt, zb, ze⟩ ⟨Yk, Yn, Yt, Yb, Ye⟩) (by kernel_rfl) (steps_list ⟨?o0, ?o1, ?o2, ?o3, ?o4, ?o5, ?o6, ?o7, ?o8, ?o9, ?o10, trivial⟩) ?_ ?_
          case o0 =>
            intro L v W J hL hd
            refine op_val rfl rfl rfl (by decide) (by simp only [frm, List.foldl_cons, List.foldl_nil, List.setIfInBounds_toArray, List.set_cons_zero, List.set_cons_succ]; (go_simp) <;> (first | exact ⟨⟨rfl, rfl⟩, rfl⟩ | exact ⟨rfl, rfl⟩ | with_reducible rfl)) ?_
            exact J.s0 rfl
          case o1 =>
            intro L v W J hL hd
            have h0 := J.e0 (hd 0 (by decide))
            refine op_call rfl rfl rfl (by decide) (by simp only [frm, List.foldl_cons, List.foldl_nil, List.setIfInBounds_toArray, List.set_cons_zero, List.set_cons_succ]; (go_simp) <;> (first | exact ⟨⟨rfl, rfl⟩, rfl⟩ | exact ⟨rfl, rfl⟩ | with_reducible rfl)) ?_
            refine (HBo.out _).mono ?_
            rintro e W1 ⟨rfl, q1⟩
            exact ⟨_, rfl, (J.on q1).s1 rfl⟩
          case o2 =>
            intro L v W J hL hd
            have h0 := J.e1 (hd 1 (by decide))
            simp only [Cv.v, vv, bo] at h0
            refine op_call rfl rfl rfl (by decide) (by simp only [frm, List.foldl_cons, List.foldl_nil, List.setIfInBounds_toArray, List.set_cons_zero, List.set_cons_succ]; (go_simp) <;> (first | exact ⟨⟨rfl, rfl⟩, rfl⟩ | exact ⟨rfl, rfl⟩ | with_reducible rfl)) ?_
            refine (HO1.out _).mono ?_
            rintro e W1 ⟨s, rfl, ob, q1⟩
            exact ⟨_, rfl, (J.on q1).s2 ⟨s, rfl, ob⟩⟩
          case o3 =>
            intro L v W J hL hd
            obtain ⟨b0, b1, b2, b3, b4, _⟩ := J.bp.x
            simp only at b0 b1 b2 b3 b4
            refine op_val rfl rfl rfl (by decide) (by simp only [frm, List.foldl_cons, List.foldl_nil, List.setIfInBounds_toArray, List.set_cons_zero, List.set_cons_succ]; (go_simp) <;> (first | exact ⟨⟨rfl, rfl⟩, rfl⟩ | exact ⟨rfl, rfl⟩ | with_reducible rfl)) ?_
            exact J.s3 rfl
          case o4 =>
            intro L v W J hL hd
            have h0 := J.e3 (hd 3 (by decide))
            simp only [Cv.v, vv] at h0
            refine op_call rfl rfl rfl (by decide) (by simp only [frm, List.foldl_cons, List.foldl_nil, List.setIfInBounds_toArray, List.set_cons_zero, List.set_cons_succ]; (go_simp) <;> (first | exact ⟨⟨rfl, rfl⟩, rfl⟩ | exact ⟨rfl, rfl⟩ | with_reducible rfl)) ?_
            refine (HO2.out _).mono ?_
            rintro e W1 ⟨s, rfl, ob, q1⟩
            exact ⟨_, rfl, (J.on q1).s4 ⟨s, rfl, ob⟩⟩
          case o5 =>
            intro L v W J hL hd
            obtain ⟨b0, b1, b2, b3, b4, _⟩ := J.bp.y
            simp only at b0 b1 b2 b3 b4
            refine op_val rfl rfl rfl (by decide) (by simp only [frm, List.foldl_cons, List.foldl_nil, List.setIfInBounds_toArray, List.set_cons_zero, List.set_cons_succ]; (go_simp) <;> (first | exact ⟨⟨rfl, rfl⟩, rfl⟩ | exact ⟨rfl, rfl⟩ | with_reducible rfl)) ?_
            exact J.s5 rfl
          case o6 =>
            intro L v W J hL hd
            have h0 := J.e5 (hd 5 (by decide))
            simp only [Cv.v, vv] at h0
            refine op_call rfl rfl rfl (by decide) (by simp only [frm, List.foldl_cons, List.foldl_nil, List.setIfInBounds_toArray, List.set_cons_zero, List.set_cons_succ]; (go_simp) <;> (first | exact ⟨⟨rfl, rfl⟩, rfl⟩ | exact ⟨rfl, rfl⟩ | with_reducible rfl)) ?_
            refine (HO3.out _).mono ?_
            rintro e W1 ⟨s, rfl, ob, q1⟩
            exact ⟨_, rfl, (J.on q1).s6 ⟨s, rfl, ob⟩⟩
          case o7 =>
            intro L v W J hL hd
            obtain ⟨r0, k0, ob0⟩ := J.e2 (hd 2 (by decide)) hL
            obtain ⟨r1, k1, ob1⟩ := J.e4 (hd 4 (by decide)) hL
            obtain ⟨r2, k2, ob2⟩ := J.e6 (hd 6 (by decide)) hL
            refine op_val rfl rfl rfl (by decide) (by simp only [frm, List.foldl_cons, List.foldl_nil, List.setIfInBounds_toArray, List.set_cons_zero, List.set_cons_succ]; (go_simp) <;> (first | exact ⟨⟨rfl, rfl⟩, rfl⟩ | exact ⟨rfl, rfl⟩ | with_reducible rfl)) ?_
            exact (J.on ((Q.refl _).alloc _)).s7 ⟨r0, r1, r2, _, rfl, args3 ob0.sl ob1.sl ob2.sl⟩
          case o8 =>
            intro L v W J hL hd
            obtain ⟨r0, r1, r2, sl, h0, ha⟩ := J.e7 (hd 7 (by decide)) hL
            refine op_call rfl rfl rfl (by decide) (by simp only [frm, List.foldl_cons, List.foldl_nil, List.setIfInBounds_toArray, List.set_cons_zero, List.set_cons_succ]; (go_simp) <;> (first | exact ⟨⟨rfl, rfl⟩, rfl⟩ | exact ⟨rfl, rfl⟩ | with_reducible rfl)) ?_
            refine (HIX.out _ _ J.bp.q r0 r1 r2 ha).mono ?_
            rintro e W1 ⟨rfl, q1⟩
            exact ⟨_, rfl, (J.on q1).s8 (hd 7 (by decide)) rfl⟩
          case o9 =>
            intro L v W J hL hd
            have hb := J.bp.y.big
            refine op_val rfl rfl rfl (by decide) (by simp only [frm, List.foldl_cons, List.foldl_nil, List.setIfInBounds_toArray, List.set_cons_zero, List.set_cons_succ]; (go_simp) <;> (first | exact ⟨⟨rfl, rfl⟩, rfl⟩ | exact ⟨rfl, rfl⟩ | with_reducible rfl)) ?_
            exact (J.on ((Q.refl _).alloc _)).s9 hL ⟨_, rfl, hb, bxz _⟩
          case o10 =>
            intro L v W J hL hd
            have l8 := hd 8 (by decide)
            have l9 := hd 9 (by decide)
            have l7 := J.l7 l8
            obtain ⟨gg, h0, h1, h2, _⟩ := J.e9 l9
            have h8 := J.e8 l8
            simp only [Cv.v, vv] at h8
            have h4 := h2 hL
            obtain ⟨b0, b1, b2, b3, b4, f0, f1, f2, f3, f4, _⟩ := h4
            refine op_non rfl rfl rfl (by simp only [frm, List.foldl_cons, List.foldl_nil, List.setIfInBounds_toArray, List.set_cons_zero, List.set_cons_succ]; (go_simp) <;> (first | exact ⟨⟨rfl, rfl⟩, rfl⟩ | exact ⟨rfl, rfl⟩ | with_reducible rfl)) ?_
            exact J.s10 l7 l8 l9 h0 h1 (h2 hL)
          · exact I7.start J.drew
          · intro L v W hall J
            obtain ⟨gg, h0, h1, _, h3⟩ := J.e9 (hall 9 (by decide))
            have h4 := h3 (hall 10 (by decide))
            have h5 := J.bp
            simp only [frm, List.foldl_cons, List.foldl_nil, List.setIfInBounds_toArray, List.set_cons_zero, List.set_cons_succ]
            rw [h0]
            clear h0 hall h3
            go_wp2_with fail
            go_meet
            case rel => exact ⟨_, _, rfl, rfl, h1, h5, h4⟩
        case rest =>
          obtain ⟨g, W0, hW0, rfl, hg0, J, V0⟩ := hcut
          subst hW0
          clear HIX
          go_upto_region 8 with fail
          go_cut [9] from 35 to 41 (fun p W => ∃ g', p = .pointer (some ⟨g', 0, none⟩) ∧ Bp w ⟨xk, xn, xt, xb, xe⟩ ⟨zk, zn, zt, zb, ze⟩ W ∧ Bx W g (.int .i64 Yk) (.int .i64 Yn) (.string Yt) (.bool Yb) (.int .i64 Ye) ∧ Bx W g' (.int .i64 Zk) (.int .i64 Zn) (.string Zt) (.bool Zb) (.int .i64 Ze))
          case first =>
            clear HE HBf HYZ HMX
            refine wp_region_inv (by kernel_rfl) [35, 36, 37, 38, 39, 40, 41, 9] (I8 w c ⟨xk, xn, xt, xb, xe⟩ ⟨zk, zn, zt, zb, ze⟩ ⟨Zk, Zn, Zt, Zb, Ze⟩ g ⟨Yk, Yn, Yt, Yb, Ye⟩) (by kernel_rfl) (steps_list ⟨?o0, ?o1, ?o2, ?o3, ?o4, ?o5, ?o6, ?o7, ?o8, trivial⟩) ?_ ?_
            case o0 =>
              intro L v W J hL hd
              refine op_val rfl rfl rfl (by decide) (by simp only [frm, List.foldl_cons, List.foldl_nil, List.setIfInBounds_toArray, List.set_cons_zero, List.set_cons_succ]; (go_simp) <;> (first | exact ⟨⟨rfl, rfl⟩, rfl⟩ | exact ⟨rfl, rfl⟩ | with_reducible rfl)) ?_
              exact J.s0 rfl
            case o1 =>
              intro L v W J hL hd
              have h0 := J.e0 (hd 0 (by decide))
              refine op_call rfl rfl rfl (by decide) (by simp only [frm, List.foldl_cons, List.foldl_nil, List.setIfInBounds_toArray, List.set_cons_zero, List.set_cons_succ]; (go_simp) <;> (first | exact ⟨⟨rfl, rfl⟩, rfl⟩ | exact ⟨rfl, rfl⟩ | with_reducible rfl)) ?_
              refine (HBo.out _).mono ?_
              rintro e W1 ⟨rfl, q1⟩
              exact ⟨_, rfl, (J.on q1).s1 rfl⟩
            case o2 =>
              intro L v W J hL hd
              have h0 := J.e1 (hd 1 (by decide))
              simp only [Cv.v, vv, bo] at h0
              refine op_call rfl rfl rfl (by decide) (by simp only [frm, List.foldl_cons, List.foldl_nil, List.setIfInBounds_toArray, List.set_cons_zero, List.set_cons_succ]; (go_simp) <;> (first | exact ⟨⟨rfl, rfl⟩, rfl⟩ | exact ⟨rfl, rfl⟩ | with_reducible rfl)) ?_
              refine (HO1.out _).mono ?_
              rintro e W1 ⟨s, rfl, ob, q1⟩
              exact ⟨_, rfl, (J.on q1).s2 ⟨s, rfl, ob⟩⟩
            case o3 =>
              intro L v W J hL hd
              obtain ⟨b0, b1, b2, b3, b4, _⟩ := J.bp.x
              simp only at b0 b1 b2 b3 b4
              refine op_val rfl rfl rfl (by decide) (by simp only [frm, List.foldl_cons, List.foldl_nil, List.setIfInBounds_toArray, List.set_cons_zero, List.set_cons_succ]; (go_simp) <;> (first | exact ⟨⟨rfl, rfl⟩, rfl⟩ | exact ⟨rfl, rfl⟩ | with_reducible rfl)) ?_
              exact J.s3 rfl
            case o4 =>
              intro L v W J hL hd
              have h0 := J.e3 (hd 3 (by decide))
              simp only [Cv.v, vv] at h0
              refine op_call rfl rfl rfl (by decide) (by simp only [frm, List.foldl_cons, List.foldl_nil, List.setIfInBounds_toArray, List.set_cons_zero, List.set_cons_succ]; (go_simp) <;> (first | exact ⟨⟨rfl, rfl⟩, rfl⟩ | exact ⟨rfl, rfl⟩ | with_reducible rfl)) ?_
              refine (HO2.out _).mono ?_
              rintro e W1 ⟨s, rfl, ob, q1⟩
              exact ⟨_, rfl, (J.on q1).s4 ⟨s, rfl, ob⟩⟩
            case o5 =>
              intro L v W J hL hd
              obtain ⟨r0, k0, ob0⟩ := J.e2 (hd 2 (by decide)) hL
              obtain ⟨r1, k1, ob1⟩ := J.e4 (hd 4 (by decide)) hL
              refine op_val rfl rfl rfl (by decide) (by simp only [frm, List.foldl_cons, List.foldl_nil, List.setIfInBounds_toArray, List.set_cons_zero, List.set_cons_succ]; (go_simp) <;> (first | exact ⟨⟨rfl, rfl⟩, rfl⟩ | exact ⟨rfl, rfl⟩ | with_reducible rfl)) ?_
              exact (J.on ((Q.refl _).alloc _)).s5 ⟨r0, r1, _, rfl, args2 ob0.sl ob1.sl⟩
            case o6 =>
              intro L v W J hL hd
              obtain ⟨r0, r1, sl, h0, ha⟩ := J.e5 (hd 5 (by decide)) hL
              refine op_call rfl rfl rfl (by decide) (by simp only [frm, List.foldl_cons, List.foldl_nil, List.setIfInBounds_toArray, List.set_cons_zero, List.set_cons_succ]; (go_simp) <;> (first | exact ⟨⟨rfl, rfl⟩, rfl⟩ | exact ⟨rfl, rfl⟩ | with_reducible rfl)) ?_
              refine (HIY.out _ _ J.bp.q r0 r1 ha).mono ?_
              rintro e W1 ⟨rfl, q1⟩
              exact ⟨_, rfl, (J.on q1).s6 (hd 5 (by decide)) rfl⟩
            case o7 =>
              intro L v W J hL hd
              have hb := J.bp.y.big
              have hb0 := J.k0.big
              refine op_val rfl rfl rfl (by decide) (by simp only [frm, List.foldl_cons, List.foldl_nil, List.setIfInBounds_toArray, List.set_cons_zero, List.set_cons_succ]; (go_simp) <;> (first | exact ⟨⟨rfl, rfl⟩, rfl⟩ | exact ⟨rfl, rfl⟩ | with_reducible rfl)) ?_
              exact (J.on ((Q.refl _).alloc _)).s7 hL ⟨_, rfl, hb, hb0, bxz _⟩
            case o8 =>
              intro L v W J hL hd
              have l8 := hd 6 (by decide)
              have l9 := hd 7 (by decide)
              have l7 := J.l7 l8
              obtain ⟨gg, h0, h1, h3, h2, _⟩ := J.e7 l9
              have h8 := J.e6 l8
              simp only [Cv.v, vv] at h8
              have h4 := h2 hL
              obtain ⟨b0, b1, b2, b3, b4, f0, f1, f2, f3, f4, _⟩ := h4
              refine op_non rfl rfl rfl (by simp only [frm, List.foldl_cons, List.foldl_nil, List.setIfInBounds_toArray, List.set_cons_zero, List.set_cons_succ]; (go_simp) <;> (first | exact ⟨⟨rfl, rfl⟩, rfl⟩ | exact ⟨rfl, rfl⟩ | with_reducible rfl)) ?_
              exact J.s8 l7 l8 l9 h0 h1 h3 (h2 hL)
            · exact I8.start J.drew V0.drew hg0
            · intro L v W hall J
              obtain ⟨gg, h0, h1, h2, _, h3⟩ := J.e7 (hall 7 (by decide))
              have h4 := h3 (hall 8 (by decide))
              have h5 := J.bp
              have h6 := J.k0
              simp only [frm, List.foldl_cons, List.foldl_nil, List.setIfInBounds_toArray, List.set_cons_zero, List.set_cons_succ]
              rw [h0]
              clear h0 hall h3
              go_wp2_with fail
              go_meet
              case rel => exact ⟨_, rfl, h5, h6, h4⟩
          case rest =>
            obtain ⟨g', rfl, J, V, U⟩ := hcut
            clear HIY
            obtain ⟨hY, hZ⟩ := HYZ.out
            cases c
            · simp only [Bool.false_eq_true, if_false, bo, Cv.mk.injEq] at hY hZ
              obtain ⟨rfl, rfl, rfl, rfl, rfl⟩ := hY
              obtain ⟨rfl, rfl, rfl, rfl, rfl⟩ := hZ
              have lx0 := J.x.c0
              have lx1 := J.x.c1
              have lx2 := J.x.c2
              have lx3 := J.x.c3
              have lx4 := J.x.c4
              have ly0 := J.y.c0
              have ly1 := J.y.c1
              have ly2 := J.y.c2
              have ly3 := J.y.c3
              have ly4 := J.y.c4
              have lv0 := V.c0
              have lv1 := V.c1
              have lv2 := V.c2
              have lv3 := V.c3
              have lv4 := V.c4
              have lu0 := U.c0
              have lu1 := U.c1
              have lu2 := U.c2
              have lu3 := U.c3
              have lu4 := U.c4
              have HE1 := hid (fun W => HE.out ⟨zk, zn, zt, zb, ze⟩ W)
              have HE2 := hid (fun W => HE.out ⟨3, 0, ⟨#[]⟩, false, 0⟩ W)
              simp only [Cv.v, vv] at HE1 HE2
              go_upto_region 11 with fail
              go_region_with (first
                | (go_at_call_of 12 zt; refine (HE1.out _).mono ?_; rintro r w8 ⟨rfl, q2⟩; replace J := J.drew.on q2; replace U := (U.on ((Q.refl _).drew)).on q2; clear q2; have e0 := U.c0; have e1 := U.c1; have e2 := U.c2; have e3 := U.c3; have e4 := U.c4)
                | (go_at_call 25; refine (HBf.out _).mono ?_; rintro r w9 ⟨rfl, q2⟩; replace J := J.on q2; replace U := U.on q2; clear q2; have f0 := U.c0; have f1 := U.c1; have f2 := U.c2; have f3 := U.c3; have f4 := U.c4)
                | (go_at_call 12; refine (HE2.out _).mono ?_; rintro r w10 ⟨rfl, q2⟩; replace J := J.on q2; clear q2))
              all_goals try go_wp2
              all_goals go_ret
              all_goals exact ⟨rfl, J.q⟩
            · simp only [if_true, Cv.mk.injEq] at hY hZ
              obtain ⟨rfl, rfl, rfl, rfl, rfl⟩ := hY
              obtain ⟨rfl, rfl, rfl, rfl, rfl⟩ := hZ
              have lx0 := J.x.c0
              have lx1 := J.x.c1
              have lx2 := J.x.c2
              have lx3 := J.x.c3
              have lx4 := J.x.c4
              have ly0 := J.y.c0
              have ly1 := J.y.c1
              have ly2 := J.y.c2
              have ly3 := J.y.c3
              have ly4 := J.y.c4
              have lv0 := V.c0
              have lv1 := V.c1
              have lv2 := V.c2
              have lv3 := V.c3
              have lv4 := V.c4
              have lu0 := U.c0
              have lu1 := U.c1
              have lu2 := U.c2
              have lu3 := U.c3
              have lu4 := U.c4
              have HE1 := hid (fun W => HE.out ⟨xk, xn, xt, xb, xe⟩ W)
              simp only [Cv.v, vv] at HE1
              have S0 : Hid True := trivial
              go_wp2_with (first
                | (go_at_call 12; clear S0; refine (HE1.out _).mono ?_; rintro r w8 ⟨rfl, q2⟩; replace J := J.on q2; replace U := U.on q2; clear q2; have mx0 := J.x.c0; have mx1 := J.x.c1; have mx2 := J.x.c2; have mx3 := J.x.c3; have mx4 := J.x.c4; have e0 := U.c0; have e1 := U.c1; have e2 := U.c2; have e3 := U.c3; have e4 := U.c4)
                | (go_at_call 12; refine (HE1.out _).mono ?_; rintro r w9 ⟨rfl, q2⟩; replace J := J.on q2; clear q2))
              go_ret
              exact ⟨rfl, J.q⟩
end Go.Proofs.YtfjpdopmojfchaaGreatDoor
