/- BuiltinBinary: the walk. -/
import Derived.Test.YtfjpdopmojfchaaGreatDoorKr48
import Derived.Test.YtfjpdopmojfchaaGreatDoorKr34
import Derived.Deep.CutBlock
import Derived.Deep.RegionWith
set_option linter.unusedVariables false
set_option linter.unusedSimpArgs false
namespace Go.Proofs.YtfjpdopmojfchaaGreatDoor
open Go.RowKit
theorem short_any (s : ByteArray) (n : Int) (w : World) (n0 : 0 ≤ n) (n1 : n ≤ 1000) :
    Calls Tryz.prog 10 #[.string s, .int .i64 n] w fun e w' => e = .returned (.string (if n < (s.size : Int) then s.extract 0 n.toNat else s)) ∧ w' = w := by
  by_cases h : n < (s.size : Int)
  · have HE := hid (if_pos h : (if n < (s.size : Int) then s.extract 0 n.toNat else s) = _)
    rw [HE.out]
    go_enter Tryz.func10, Tryz.ntmps10
    go_wp2
    go_ret
    exact ⟨rfl, rfl⟩
  · have HE := hid (if_neg h : (if n < (s.size : Int) then s.extract 0 n.toNat else s) = _)
    rw [HE.out]
    go_enter Tryz.func10, Tryz.ntmps10
    go_wp2
    go_ret
    exact ⟨rfl, rfl⟩
theorem rnum0_any (n : Int) (w : World) : Calls Tryz.prog 27 #[.int .i64 n] w fun x w' => x = .returned (nu n).v ∧ Q w w' := by
  go_enter Tryz.func27, Tryz.ntmps27
  go_wp2
  exact bodyPost_ret (v := (nu n).v) (by simp [results, Tryz.results27, go_sem, vv, Cv.v, nu]) rfl ⟨rfl, (Q.refl _).alloc _⟩
set_option maxHeartbeats 1000000 in
theorem rneg_any (a y : Cv) (w : World) (HB : ∀ W, Q w W → Calls Tryz.prog 19 #[.string ⟨#[45]⟩, (nu 0).v, a.v] W fun r W' => r = .returned y.v ∧ Q W W') : Calls Tryz.prog 21 #[a.v] w fun r w' => r = .returned y.v ∧ Q w w' := by
  have HA := hid (bx_new w (.int .i64 a.k) (.int .i64 a.n) (.string a.t) (.bool a.b) (.int .i64 a.e))
  have HZ : Hid (Bx ((w.alloc (.cells #[.int .i64 a.k, .int .i64 a.n, .string a.t, .bool a.b, .int .i64 a.e] 37)).alloc (.cells #[.int .i64 0, .int .i64 0, .string ⟨#[]⟩, .bool false, .int .i64 0] 37)) (w.heap.size + 1) (.int .i64 0) (.int .i64 0) (.string ⟨#[]⟩) (.bool false) (.int .i64 0)) := by
    show Bx _ _ _ _ _ _ _
    have h := bxz (w.alloc (.cells #[.int .i64 a.k, .int .i64 a.n, .string a.t, .bool a.b, .int .i64 a.e] 37))
    rw [World.size_alloc] at h
    exact h
  have HN := hid (fun W => rnum0_any 0 W)
  have HB' := hid HB
  obtain ⟨yk, yn, yt, yb, ye⟩ := y
  obtain ⟨ak, an, at', ab, ae⟩ := a
  clear HB
  simp only [Cv.v, vv, nu] at *
  have q0 : Hid (Q w ((w.alloc (.cells #[.int .i64 ak, .int .i64 an, .string at', .bool ab, .int .i64 ae] 37)).alloc (.cells #[.int .i64 0, .int .i64 0, .string ⟨#[]⟩, .bool false, .int .i64 0] 37))) := hid (((Q.refl _).alloc _).alloc _)
  have A0 := hid (HA.out.on ((Q.refl _).alloc (.cells #[.int .i64 0, .int .i64 0, .string ⟨#[]⟩, .bool false, .int .i64 0] 37)))
  go_enter Tryz.func21, Tryz.ntmps21
  go_upto_region 1 with fail
  go_region_with (first
    | (go_at_call 27; refine (HN.out _).mono ?_; rintro x w2 ⟨rfl, q2⟩; first | (have A1 := hid (A0.out.on q2); have B1 := hid (HZ.out.on q2); have Q1 := hid (q0.out.trans q2)) | (have A1 := hid ((A0.out.on ((Q.refl _).drew)).on q2); have B1 := hid ((HZ.out.on ((Q.refl _).drew)).on q2); have Q1 := hid (q0.out.drew.trans q2)); clear q2; obtain ⟨a0, a1, a2, a3, a4, _⟩ := A1.out)
    | (go_at_call 19; refine (HB'.out _ Q1.out).mono ?_; rintro x w3 ⟨rfl, q3⟩; have B2 := (B1.out.on q3); have Q2 := hid (Q1.out.trans q3); clear q3; have d0 := B2.c0; have d1 := B2.c1; have d2 := B2.c2; have d3 := B2.c3; have d4 := B2.c4; have y0 := B2.f0; have y1 := B2.f1; have y2 := B2.f2; have y3 := B2.f3; have y4 := B2.f4; clear B2 B1 A1 HA HB' HZ A0 q0 HN))
  all_goals try go_wp2
  all_goals exact bodyPost_ret (v := .agg #[.int .i64 yk, .int .i64 yn, .string yt, .bool yb, .int .i64 ye]) (by simp [results, Tryz.results21, go_sem, d0, d1, d2, d3, d4]) rfl ⟨rfl, Q5 Q2.out (by omega)⟩
set_option maxRecDepth 100000 in
set_option maxHeartbeats 16000000 in
theorem bin_walk (op0 : ByteArray) (a b : Cv) (w : World) (hw : Std2 w) (ha : Fx a.n) (hb : Fx b.n) : Calls Tryz.prog 4 #[.string op0, a.v, b.v] w fun r w' => r = .returned (.bool true) ∧ Q w w' := by
  have J := bp_new w a b
  have HBg := hid (fun W (q : Q w W) => bbegun_any W (hw.on q))
  have HU := hid (fun W => cutv_any a W)
  have HU' := hid (fun W => cutv_any b W)
  have hx' := cut_sl a ha
  have hz' := cut_sl b hb
  obtain ⟨x, hx⟩ : ∃ x, a.cut = x := ⟨_, rfl⟩
  obtain ⟨z, hz⟩ : ∃ z, b.cut = z := ⟨_, rfl⟩
  rw [hx] at HU hx'
  rw [hz] at HU' hz'
  have HS0 := hid (fun W => short_any op0 5 W (by omega) (by omega))
  obtain ⟨op, hop⟩ : ∃ op, (if (5 : Int) < (op0.size : Int) then op0.extract 0 (5 : Int).toNat else op0) = op := ⟨_, rfl⟩
  rw [hop] at HS0
  obtain ⟨y, hB, hRB⟩ := same_any op x z w hw hx' hz'
  obtain ⟨Y, hN, hRN⟩ := same_any ⟨#[45]⟩ (nu 0) x w hw (nu_sl 0 ⟨by omega, by omega⟩) hx'
  have HB := hid hB
  have HRB := hid hRB
  have HN := hid (fun W (q : Q w W) => neg_any x Y W (fun W' q' => hN W' (q.trans q')))
  have HRN := hid (fun W => rneg_any x Y W (fun W' q' => hRN W'))
  have HE1 := hid (fun W => eqv_same y W)
  have HE2 := hid (fun W => eqv_same Y W)
  clear hw hx hz hx' hz' hop hB hRB hN hRN ha hb
  obtain ⟨ak, an, at', ab, ae⟩ := a
  obtain ⟨bk, bn, bt, bb, be⟩ := b
  have HS := hid (fun W (J : Bp w ⟨ak, an, at', ab, ae⟩ ⟨bk, bn, bt, bb, be⟩ W) => J.setTwo x z)
  obtain ⟨xk, xn, xt, xb, xe⟩ := x
  obtain ⟨zk, zn, zt, zb, ze⟩ := z
  obtain ⟨yk, yn, yt, yb, ye⟩ := y
  obtain ⟨Yk, Yn, Yt, Yb, Ye⟩ := Y
  simp only [Cv.v, vv] at HU HU' HB HRB HN HRN HE1 HE2 ⊢
  go_enter Tryz.func4, Tryz.ntmps4
  go_wp2_with (first
    | (go_at_call 9; refine (HBg.out _ J.q).mono ?_; rintro e w1 ⟨rfl, q1⟩; replace J := J.on q1; clear q1)
    | (go_at_call 10; refine (HS0.out _).mono ?_; rintro e w2 ⟨rfl, h⟩; replace h := h.symm; subst h))
  go_upto_region 5 with fail
  go_cut [] from 13 to 16 (fun W => Bp w ⟨xk, xn, xt, xb, xe⟩ ⟨zk, zn, zt, zb, ze⟩ W)
  case first =>
    have ix0 := J.x.c0
    have ix1 := J.x.c1
    have ix2 := J.x.c2
    have ix3 := J.x.c3
    have ix4 := J.x.c4
    have iy0 := J.y.c0
    have iy1 := J.y.c1
    have iy2 := J.y.c2
    have iy3 := J.y.c3
    have iy4 := J.y.c4
    go_region_with (first
      | (go_at_call_of 17 at'; refine (HU.out _).mono ?_; rintro x w2 ⟨rfl, q2⟩; replace J := (J.drew).on q2; clear q2; have px0 := J.x.c0; have px1 := J.x.c1; have px2 := J.x.c2; have px3 := J.x.c3; have px4 := J.x.c4; have py0 := J.y.c0; have py1 := J.y.c1; have py2 := J.y.c2; have py3 := J.y.c3; have py4 := J.y.c4)
      | (go_at_call_of 17 bt; refine (HU'.out _).mono ?_; rintro x w3 ⟨rfl, q2⟩; replace J := J.on q2; clear q2; have sx0 := J.x.c0; have sx1 := J.x.c1; have sx2 := J.x.c2; have sx3 := J.x.c3; have sx4 := J.x.c4; have sy0 := J.y.c0; have sy1 := J.y.c1; have sy2 := J.y.c2; have sy3 := J.y.c3; have sy4 := J.y.c4; have sfx0 := J.x.f0; have sfx1 := J.x.f1; have sfx2 := J.x.f2; have sfx3 := J.x.f3; have sfx4 := J.x.f4; have sfy0 := J.y.f0; have sfy1 := J.y.f1; have sfy2 := J.y.f2; have sfy3 := J.y.f3; have sfy4 := J.y.f4))
    all_goals
      go_wp2_with fail
      go_meet
      case rel => exact HS.out _ J
  case rest =>
    have J := hcut
    clear hcut HS HU HU' HBg HS0
    go_upto_region 6 with fail
    refine wp_region_invw (by kernel_rfl) [17, 18, 19, 20, 21, 22, 23, 24, 25, 26, 27, 28, 29, 30, 31, 32, 33, 34, 35, 6] (I6 w op ⟨xk, xn, xt, xb, xe⟩ ⟨zk, zn, zt, zb, ze⟩ ⟨yk, yn, yt, yb, ye⟩ ⟨Yk, Yn, Yt, Yb, Ye⟩) (by kernel_rfl) (steps_list ⟨?o0, ?o1, ?o2, ?o3, ?o4, ?o5, ?o6, ?o7, ?o8, ?o9, ?o10, ?o11, ?o12, ?o13, ?o14, ?o15, ?o16, ?o17, ?o18, ?o19, trivial⟩) (I6.start J.drew) ?_
    case o0 =>
      intro L v W J hL hd
      refine opw_val rfl rfl rfl (by decide) (by simp only [frm, List.foldl_cons, List.foldl_nil, List.setIfInBounds_toArray, List.set_cons_zero, List.set_cons_succ]; (go_simp) <;> (first | exact ⟨⟨rfl, rfl⟩, rfl⟩ | exact ⟨rfl, rfl⟩ | with_reducible rfl)) ?_
      exact J.s0 rfl
    case o1 =>
      intro L v W J hL hd
      have h0 := J.e0 (hd 0 (by decide))
      refine opw_val rfl rfl rfl (by decide) (by simp only [frm, List.foldl_cons, List.foldl_nil, List.setIfInBounds_toArray, List.set_cons_zero, List.set_cons_succ]; (go_simp) <;> (first | exact ⟨⟨rfl, rfl⟩, rfl⟩ | exact ⟨rfl, rfl⟩ | with_reducible rfl)) ?_
      exact J.s1 rfl
    case o2 =>
      intro L v W J hL hd
      have h1 := J.e1 (hd 1 (by decide))
      refine opw_valG 1 18 true rfl rfl rfl (by decide) (by rfl) h1 rfl (by decide) (by simp only [frm, List.foldl_cons, List.foldl_nil, List.setIfInBounds_toArray, List.set_cons_zero, List.set_cons_succ]; (go_simp) <;> (first | exact ⟨⟨rfl, rfl⟩, rfl⟩ | exact ⟨rfl, rfl⟩ | with_reducible rfl)) ?_
      exact J.s2 rfl
    case o3 =>
      intro L v W J hL hd
      have h1 := J.e1 (hd 1 (by decide))
      obtain ⟨b0, b1, b2, b3, b4, _⟩ := J.bp.x
      simp only at b0 b1 b2 b3 b4
      refine opw_valG 1 18 true rfl rfl rfl (by decide) (by rfl) h1 rfl (by decide) (by simp only [frm, List.foldl_cons, List.foldl_nil, List.setIfInBounds_toArray, List.set_cons_zero, List.set_cons_succ]; (go_simp) <;> (first | exact ⟨⟨rfl, rfl⟩, rfl⟩ | exact ⟨rfl, rfl⟩ | with_reducible rfl)) ?_
      exact J.s3 rfl
    case o4 =>
      intro L v W J hL hd
      have h1 := J.e1 (hd 1 (by decide))
      obtain ⟨b0, b1, b2, b3, b4, _⟩ := J.bp.y
      simp only at b0 b1 b2 b3 b4
      refine opw_valG 1 18 true rfl rfl rfl (by decide) (by rfl) h1 rfl (by decide) (by simp only [frm, List.foldl_cons, List.foldl_nil, List.setIfInBounds_toArray, List.set_cons_zero, List.set_cons_succ]; (go_simp) <;> (first | exact ⟨⟨rfl, rfl⟩, rfl⟩ | exact ⟨rfl, rfl⟩ | with_reducible rfl)) ?_
      exact J.s4 rfl
    case o5 =>
      intro L v W J hL hd
      have h1 := J.e1 (hd 1 (by decide))
      have h2 := J.e2 (hd 2 (by decide))
      have h3 := J.e3 (hd 3 (by decide))
      simp only [Cv.v, vv] at h3
      have h4 := J.e4 (hd 4 (by decide))
      simp only [Cv.v, vv] at h4
      refine opw_callG 1 18 true rfl rfl rfl (by decide) (by rfl) h1 rfl (by decide) (by simp only [frm, List.foldl_cons, List.foldl_nil, List.setIfInBounds_toArray, List.set_cons_zero, List.set_cons_succ]; (go_simp) <;> (first | exact ⟨⟨rfl, rfl⟩, rfl⟩ | exact ⟨rfl, rfl⟩ | with_reducible rfl)) ?_
      refine (HB.out _ J.bp.q).mono ?_
      rintro e W1 ⟨rfl, q1⟩
      exact ⟨_, rfl, (J.on q1).s5 rfl⟩
    case o6 =>
      intro L v W J hL hd
      have h1 := J.e1 (hd 1 (by decide))
      refine opw_valG 1 18 true rfl rfl rfl (by decide) (by rfl) h1 rfl (by decide) (by simp only [frm, List.foldl_cons, List.foldl_nil, List.setIfInBounds_toArray, List.set_cons_zero, List.set_cons_succ]; (go_simp) <;> (first | exact ⟨⟨rfl, rfl⟩, rfl⟩ | exact ⟨rfl, rfl⟩ | with_reducible rfl)) ?_
      exact J.s6 rfl
    case o7 =>
      intro L v W J hL hd
      have h1 := J.e1 (hd 1 (by decide))
      obtain ⟨b0, b1, b2, b3, b4, _⟩ := J.bp.x
      simp only at b0 b1 b2 b3 b4
      refine opw_valG 1 18 true rfl rfl rfl (by decide) (by rfl) h1 rfl (by decide) (by simp only [frm, List.foldl_cons, List.foldl_nil, List.setIfInBounds_toArray, List.set_cons_zero, List.set_cons_succ]; (go_simp) <;> (first | exact ⟨⟨rfl, rfl⟩, rfl⟩ | exact ⟨rfl, rfl⟩ | with_reducible rfl)) ?_
      exact J.s7 rfl
    case o8 =>
      intro L v W J hL hd
      have h1 := J.e1 (hd 1 (by decide))
      obtain ⟨b0, b1, b2, b3, b4, _⟩ := J.bp.y
      simp only at b0 b1 b2 b3 b4
      refine opw_valG 1 18 true rfl rfl rfl (by decide) (by rfl) h1 rfl (by decide) (by simp only [frm, List.foldl_cons, List.foldl_nil, List.setIfInBounds_toArray, List.set_cons_zero, List.set_cons_succ]; (go_simp) <;> (first | exact ⟨⟨rfl, rfl⟩, rfl⟩ | exact ⟨rfl, rfl⟩ | with_reducible rfl)) ?_
      exact J.s8 rfl
    case o9 =>
      intro L v W J hL hd
      have h1 := J.e1 (hd 1 (by decide))
      have h6 := J.e6 (hd 6 (by decide))
      have h7 := J.e7 (hd 7 (by decide))
      simp only [Cv.v, vv] at h7
      have h8 := J.e8 (hd 8 (by decide))
      simp only [Cv.v, vv] at h8
      refine opw_callG 1 18 true rfl rfl rfl (by decide) (by rfl) h1 rfl (by decide) (by simp only [frm, List.foldl_cons, List.foldl_nil, List.setIfInBounds_toArray, List.set_cons_zero, List.set_cons_succ]; (go_simp) <;> (first | exact ⟨⟨rfl, rfl⟩, rfl⟩ | exact ⟨rfl, rfl⟩ | with_reducible rfl)) ?_
      refine (HRB.out _).mono ?_
      rintro e W1 ⟨rfl, q1⟩
      exact ⟨_, rfl, (J.on q1).s9 rfl⟩
    case o10 =>
      intro L v W J hL hd
      have h1 := J.e1 (hd 1 (by decide))
      have h5 := J.e5 (hd 5 (by decide))
      simp only [Cv.v, vv] at h5
      have h9 := J.e9 (hd 9 (by decide))
      simp only [Cv.v, vv] at h9
      refine opw_callG 1 18 true rfl rfl rfl (by decide) (by rfl) h1 rfl (by decide) (by simp only [frm, List.foldl_cons, List.foldl_nil, List.setIfInBounds_toArray, List.set_cons_zero, List.set_cons_succ]; (go_simp) <;> (first | exact ⟨⟨rfl, rfl⟩, rfl⟩ | exact ⟨rfl, rfl⟩ | with_reducible rfl)) ?_
      refine (HE1.out _).mono ?_
      rintro e W1 ⟨rfl, q1⟩
      exact ⟨_, rfl, (J.on q1).s10 rfl⟩
    case o11 =>
      intro L v W J hL hd
      have h1 := J.e1 (hd 1 (by decide))
      have h10 := J.e10 (hd 10 (by decide))
      refine opw_val rfl rfl rfl (by decide) (by simp only [frm, List.foldl_cons, List.foldl_nil, List.setIfInBounds_toArray, List.set_cons_zero, List.set_cons_succ]; (go_simp) <;> (first | exact ⟨⟨rfl, rfl⟩, rfl⟩ | exact ⟨rfl, rfl⟩ | with_reducible rfl)) ?_
      exact J.s11 rfl
    case o12 =>
      intro L v W J hL hd
      have h11 := J.e11 (hd 11 (by decide))
      refine opw_val rfl rfl rfl (by decide) (by simp only [frm, List.foldl_cons, List.foldl_nil, List.setIfInBounds_toArray, List.set_cons_zero, List.set_cons_succ]; (go_simp) <;> (first | exact ⟨⟨rfl, rfl⟩, rfl⟩ | exact ⟨rfl, rfl⟩ | with_reducible rfl)) ?_
      exact J.s12 rfl
    case o13 =>
      intro L v W J hL hd
      have h12 := J.e12 (hd 12 (by decide))
      obtain ⟨b0, b1, b2, b3, b4, _⟩ := J.bp.x
      simp only at b0 b1 b2 b3 b4
      refine opw_valG 12 29 true rfl rfl rfl (by decide) (by rfl) h12 rfl (by decide) (by simp only [frm, List.foldl_cons, List.foldl_nil, List.setIfInBounds_toArray, List.set_cons_zero, List.set_cons_succ]; (go_simp) <;> (first | exact ⟨⟨rfl, rfl⟩, rfl⟩ | exact ⟨rfl, rfl⟩ | with_reducible rfl)) ?_
      exact J.s13 rfl
    case o14 =>
      intro L v W J hL hd
      have h12 := J.e12 (hd 12 (by decide))
      have h13 := J.e13 (hd 13 (by decide))
      simp only [Cv.v, vv] at h13
      refine opw_callG 12 29 true rfl rfl rfl (by decide) (by rfl) h12 rfl (by decide) (by simp only [frm, List.foldl_cons, List.foldl_nil, List.setIfInBounds_toArray, List.set_cons_zero, List.set_cons_succ]; (go_simp) <;> (first | exact ⟨⟨rfl, rfl⟩, rfl⟩ | exact ⟨rfl, rfl⟩ | with_reducible rfl)) ?_
      refine (HN.out _ J.bp.q).mono ?_
      rintro e W1 ⟨rfl, q1⟩
      exact ⟨_, rfl, (J.on q1).s14 rfl⟩
    case o15 =>
      intro L v W J hL hd
      have h12 := J.e12 (hd 12 (by decide))
      obtain ⟨b0, b1, b2, b3, b4, _⟩ := J.bp.x
      simp only at b0 b1 b2 b3 b4
      refine opw_valG 12 29 true rfl rfl rfl (by decide) (by rfl) h12 rfl (by decide) (by simp only [frm, List.foldl_cons, List.foldl_nil, List.setIfInBounds_toArray, List.set_cons_zero, List.set_cons_succ]; (go_simp) <;> (first | exact ⟨⟨rfl, rfl⟩, rfl⟩ | exact ⟨rfl, rfl⟩ | with_reducible rfl)) ?_
      exact J.s15 rfl
    case o16 =>
      intro L v W J hL hd
      have h12 := J.e12 (hd 12 (by decide))
      have h15 := J.e15 (hd 15 (by decide))
      simp only [Cv.v, vv] at h15
      refine opw_callG 12 29 true rfl rfl rfl (by decide) (by rfl) h12 rfl (by decide) (by simp only [frm, List.foldl_cons, List.foldl_nil, List.setIfInBounds_toArray, List.set_cons_zero, List.set_cons_succ]; (go_simp) <;> (first | exact ⟨⟨rfl, rfl⟩, rfl⟩ | exact ⟨rfl, rfl⟩ | with_reducible rfl)) ?_
      refine (HRN.out _).mono ?_
      rintro e W1 ⟨rfl, q1⟩
      exact ⟨_, rfl, (J.on q1).s16 rfl⟩
    case o17 =>
      intro L v W J hL hd
      have h12 := J.e12 (hd 12 (by decide))
      have h14 := J.e14 (hd 14 (by decide))
      simp only [Cv.v, vv] at h14
      have h16 := J.e16 (hd 16 (by decide))
      simp only [Cv.v, vv] at h16
      refine opw_callG 12 29 true rfl rfl rfl (by decide) (by rfl) h12 rfl (by decide) (by simp only [frm, List.foldl_cons, List.foldl_nil, List.setIfInBounds_toArray, List.set_cons_zero, List.set_cons_succ]; (go_simp) <;> (first | exact ⟨⟨rfl, rfl⟩, rfl⟩ | exact ⟨rfl, rfl⟩ | with_reducible rfl)) ?_
      refine (HE2.out _).mono ?_
      rintro e W1 ⟨rfl, q1⟩
      exact ⟨_, rfl, (J.on q1).s17 rfl⟩
    case o18 =>
      intro L v W J hL hd
      have h12 := J.e12 (hd 12 (by decide))
      have h17 := J.e17 (hd 17 (by decide))
      refine opw_val rfl rfl rfl (by decide) (by simp only [frm, List.foldl_cons, List.foldl_nil, List.setIfInBounds_toArray, List.set_cons_zero, List.set_cons_succ]; (go_simp) <;> (first | exact ⟨⟨rfl, rfl⟩, rfl⟩ | exact ⟨rfl, rfl⟩ | with_reducible rfl)) ?_
      exact J.s18 rfl
    case o19 =>
      intro L v W J hL hd
      have h18 := J.e18 (hd 18 (by decide))
      refine opw_val rfl rfl rfl (by decide) (by simp only [frm, List.foldl_cons, List.foldl_nil, List.setIfInBounds_toArray, List.set_cons_zero, List.set_cons_succ]; (go_simp) <;> (first | exact ⟨⟨rfl, rfl⟩, rfl⟩ | exact ⟨rfl, rfl⟩ | with_reducible rfl)) ?_
      exact J.s19 rfl
    intro L v W hall J
    have h19 := J.e19 (hall 19 (by decide))
    have h20 := J.bp.q
    simp only [frm, List.foldl_cons, List.foldl_nil, List.setIfInBounds_toArray, List.set_cons_zero, List.set_cons_succ]
    rw [h19]
    clear h19 hall J
    go_wp2_with fail
    go_ret
    exact ⟨rfl, h20⟩
end Go.Proofs.YtfjpdopmojfchaaGreatDoor
