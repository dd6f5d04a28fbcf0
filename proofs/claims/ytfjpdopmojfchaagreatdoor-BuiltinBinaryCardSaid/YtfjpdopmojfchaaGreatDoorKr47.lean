/- builtin.Binary: texts put together. -/
import Derived.Test.YtfjpdopmojfchaaGreatDoorKr24
import Derived.Test.YtfjpdopmojfchaaGreatDoorKr34
import Derived.Test.YtfjpdopmojfchaaGreatDoorKr16
import Derived.Test.YtfjpdopmojfchaaGreatDoorKr18
set_option linter.unusedVariables false
set_option linter.unusedSimpArgs false
namespace Go.Proofs.YtfjpdopmojfchaaGreatDoor
open Go.RowKit
structure I12 (w : World) (x z y : Cv) (L : Nat → Bool) (v : Nat → Value) (W : World) : Prop where
  q : Q w W
  bx : Bx W w.heap.size (.int .i64 x.k) (.int .i64 x.n) (.string x.t) (.bool x.b) (.int .i64 x.e)
  by' : Bx W (w.heap.size + 1) (.int .i64 z.k) (.int .i64 z.n) (.string z.t) (.bool z.b) (.int .i64 z.e)
  bz : L 5 = false → Bx W (w.heap.size + 2) (.int .i64 0) (.int .i64 0) (.string ⟨#[]⟩) (.bool false) (.int .i64 0)
  bY : L 5 = true → Bx W (w.heap.size + 2) (.int .i64 y.k) (.int .i64 y.n) (.string y.t) (.bool y.b) (.int .i64 y.e)
  e0 : L 0 = true → L 4 = false → ∃ p r, v 32 = .func (.func 86) #[] #[.pointer (some ⟨p, 0, none⟩), .pointer (some ⟨r, 0, none⟩)] ∧ W.cell? ⟨p, 0, none⟩ = some (.func (.func 41) #[] #[]) ∧ W.cell? ⟨r, 0, none⟩ = some (.func (.func 42) #[] #[])
  e1 : L 1 = true → v 33 = x.v
  e2 : L 2 = true → v 34 = z.v
  e3 : L 3 = true → L 4 = false → ∃ sl, v 35 = sl ∧ Sl Cv.cells 5 W sl [x, z]
  e4 : L 4 = true → v 36 = y.v
theorem I12.on {W' : World} {w W : World} {x z y : Cv} {L : Nat → Bool} {v : Nat → Value} (J : I12 w x z y L v W) (g : Q W W') : I12 w x z y L v W' :=
  ⟨J.q.trans g, J.bx.on g, J.by'.on g, fun a => (J.bz a).on g, fun a => (J.bY a).on g, fun a b => by obtain ⟨p, r, h, h1, h2⟩ := J.e0 a b; exact ⟨p, r, h, fcell h1 g, fcell h2 g⟩, J.e1, J.e2, fun a b => by obtain ⟨sl, h, h1⟩ := J.e3 a b; exact ⟨sl, h, h1.on g⟩, J.e4⟩
theorem I12.s0 {w W : World} {x z y : Cv} {L : Nat → Bool} {v : Nat → Value} {u : Value} (J : I12 w x z y L v W) (e : ∃ p r, u = .func (.func 86) #[] #[.pointer (some ⟨p, 0, none⟩), .pointer (some ⟨r, 0, none⟩)] ∧ W.cell? ⟨p, 0, none⟩ = some (.func (.func 41) #[] #[]) ∧ W.cell? ⟨r, 0, none⟩ = some (.func (.func 42) #[] #[])) : I12 w x z y (ul L 0) (up v 32 u) W :=
  ⟨(J.q), (J.bx), (J.by'), (J.bz), (J.bY), (by intro _ _; rw [up_same]; exact e), (J.e1), (J.e2), (J.e3), (J.e4)⟩
theorem I12.s1 {w W : World} {x z y : Cv} {L : Nat → Bool} {v : Nat → Value} {u : Value} (J : I12 w x z y L v W) (e : u = x.v) : I12 w x z y (ul L 1) (up v 33 u) W :=
  ⟨(J.q), (J.bx), (J.by'), (J.bz), (J.bY), (J.e0), (by intro _; rw [up_same]; exact e), (J.e2), (J.e3), (J.e4)⟩
theorem I12.s2 {w W : World} {x z y : Cv} {L : Nat → Bool} {v : Nat → Value} {u : Value} (J : I12 w x z y L v W) (e : u = z.v) : I12 w x z y (ul L 2) (up v 34 u) W :=
  ⟨(J.q), (J.bx), (J.by'), (J.bz), (J.bY), (J.e0), (J.e1), (by intro _; rw [up_same]; exact e), (J.e3), (J.e4)⟩
theorem I12.s3 {w W : World} {x z y : Cv} {L : Nat → Bool} {v : Nat → Value} {u : Value} (J : I12 w x z y L v W) (e : ∃ sl, u = sl ∧ Sl Cv.cells 5 W sl [x, z]) : I12 w x z y (ul L 3) (up v 35 u) W :=
  ⟨(J.q), (J.bx), (J.by'), (J.bz), (J.bY), (J.e0), (J.e1), (J.e2), (by intro _ _; rw [up_same]; exact e), (J.e4)⟩
theorem I12.s4 {w W : World} {x z y : Cv} {L : Nat → Bool} {v : Nat → Value} {u : Value} (J : I12 w x z y L v W) (e : u = y.v) : I12 w x z y (ul L 4) (up v 36 u) W :=
  ⟨(J.q), (J.bx), (J.by'), (J.bz), (J.bY), (fun _ h => by rw [ul_same] at h; cases h), (J.e1), (J.e2), (fun _ h => by rw [ul_same] at h; cases h), (by intro _; rw [up_same]; exact e)⟩
theorem I12.s5 {w W : World} {x z y : Cv} {L : Nat → Bool} {v : Nat → Value} (J : I12 w x z y L v W) (l4 : L 4 = true) (l5 : L 5 = false) : I12 w x z y (ul L 5) v (set5 W (w.heap.size + 2) (.int .i64 y.k) (.int .i64 y.n) (.string y.t) (.bool y.b) (.int .i64 y.e)) :=
  ⟨J.q.set5 (by omega), J.bx.far5 (by omega), J.by'.far5 (by omega), (fun h => by rw [ul_same] at h; cases h), (fun _ => (J.bz l5).set5), (fun _ h => by rw [ul_ne (by decide), l4] at h; cases h), J.e1, J.e2, (fun _ h => by rw [ul_ne (by decide), l4] at h; cases h), J.e4⟩
theorem two_lit (W : World) (x z : Cv) : Sl Cv.cells 5 (W.alloc (.cells #[.int .i64 x.k, .int .i64 x.n, .string x.t, .bool x.b, .int .i64 x.e, .int .i64 z.k, .int .i64 z.n, .string z.t, .bool z.b, .int .i64 z.e] 37)) (.slice (some ⟨W.heap.size, 0, none⟩) 2 2) [x, z] := sl_lit Cv.len W [x, z] 2 rfl (by omega) 37
set_option maxRecDepth 100000 in
set_option maxHeartbeats 8000000 in
theorem bin_amp (a b x z y : Cv) (w : World) (hw : Std2 w) (ha : a.sm) (hb : b.sm) (hx : ctd a = x) (hz : ctd b = z) (he : worst [x, z] = 0) (HC : ∀ W p r sl, Q w W → W.cell? ⟨p, 0, none⟩ = some (.func (.func 41) #[] #[]) → W.cell? ⟨r, 0, none⟩ = some (.func (.func 42) #[] #[]) → Sl Cv.cells 5 W sl [x, z] → Calls Tryz.prog 86 #[sl, .pointer (some ⟨p, 0, none⟩), .pointer (some ⟨r, 0, none⟩)] W fun r W' => r = .returned y.v ∧ Q W W') :
    Calls Tryz.prog 18 #[.string ⟨#[38]⟩, a.v, b.v] w fun r w' => r = .returned y.v ∧ Q w w' := by
  have J := bb3_new w a b
  have HU := hid (fun W (q : Q w W) => counted_any a W (hw.on q) ha)
  have HU' := hid (fun W (q : Q w W) => counted_any b W (hw.on q) hb)
  have hxs := ctd_sm ha
  have hzs := ctd_sm hb
  rw [hx] at HU hxs
  rw [hz] at HU' hzs
  have HWo := hid (worst2_any x z w hw hxs hzs)
  rw [he] at HWo
  have HC' := hid HC
  have HK := hid (fun W => mk_str (.func 41) #[] #[] (.func 42) #[] #[] W)
  clear HC he
  obtain ⟨yk, yn, yt, yb, ye⟩ := y
  clear hw ha hb hx hz hxs hzs
  obtain ⟨ak, an, at', ab, ae⟩ := a
  obtain ⟨bk, bn, bt, bb, be⟩ := b
  have HS := hid (fun W (J : Bb3 w ⟨ak, an, at', ab, ae⟩ ⟨bk, bn, bt, bb, be⟩ W) => J.setTwo x z)
  obtain ⟨xk, xn, xt, xb, xe⟩ := x
  obtain ⟨zk, zn, zt, zb, ze⟩ := z
  simp only [Cv.v, vv] at *
  go_enter Tryz.func18, Tryz.ntmps18
  go_upto_region 1 with fail
  go_cut [] from 8 to 11 (fun W => Bb3 w ⟨xk, xn, xt, xb, xe⟩ ⟨zk, zn, zt, zb, ze⟩ W)
  case first =>
    have ix0 := J.x.c0
    have ix1 := J.x.c1
    have ix2 := J.x.c2
    have ix3 := J.x.c3
    have ix4 := J.x.c4
    have iy0 := J.y.c0
    have iy1 := J.y.c1
    have iy2 := J.y.c2
    have iy3 := J.y.c3
    have iy4 := J.y.c4
    go_region_with (first
      | (go_at_call_of 37 at'; refine (HU.out _ J.drew.q).mono ?_; rintro x w2 ⟨rfl, q2⟩; replace J := (J.drew).on q2; clear q2; have px0 := J.x.c0; have px1 := J.x.c1; have px2 := J.x.c2; have px3 := J.x.c3; have px4 := J.x.c4; have py0 := J.y.c0; have py1 := J.y.c1; have py2 := J.y.c2; have py3 := J.y.c3; have py4 := J.y.c4)
      | (go_at_call_of 37 bt; refine (HU'.out _ J.q).mono ?_; rintro x w3 ⟨rfl, q2⟩; replace J := J.on q2; clear q2; have sx0 := J.x.c0; have sx1 := J.x.c1; have sx2 := J.x.c2; have sx3 := J.x.c3; have sx4 := J.x.c4; have sy0 := J.y.c0; have sy1 := J.y.c1; have sy2 := J.y.c2; have sy3 := J.y.c3; have sy4 := J.y.c4; have sfx0 := J.x.f0; have sfx1 := J.x.f1; have sfx2 := J.x.f2; have sfx3 := J.x.f3; have sfx4 := J.x.f4; have sfy0 := J.y.f0; have sfy1 := J.y.f1; have sfy2 := J.y.f2; have sfy3 := J.y.f3; have sfy4 := J.y.f4))
    all_goals
      go_wp2_with fail
      go_meet
      case rel => exact HS.out _ J
  case rest =>
    have J := hcut
    clear hcut
    have tx0 := J.x.c0
    have tx1 := J.x.c1
    have tx2 := J.x.c2
    have tx3 := J.x.c3
    have tx4 := J.x.c4
    have ty0 := J.y.c0
    have ty1 := J.y.c1
    have ty2 := J.y.c2
    have ty3 := J.y.c3
    have ty4 := J.y.c4
    go_upto_region 12 with (go_at_call 38; refine (HWo.out _ J.q).mono ?_; rintro r w4 ⟨rfl, q2⟩; replace J := J.on q2; clear q2; have ux0 := J.x.c0; have ux1 := J.x.c1; have ux2 := J.x.c2; have ux3 := J.x.c3; have ux4 := J.x.c4; have uy0 := J.y.c0; have uy1 := J.y.c1; have uy2 := J.y.c2; have uy3 := J.y.c3; have uy4 := J.y.c4)
    clear tx0 tx1 tx2 tx3 tx4 ty0 ty1 ty2 ty3 ty4 ux0 ux1 ux2 ux3 ux4 uy0 uy1 uy2 uy3 uy4
    refine wp_region_inv (by kernel_rfl) [32, 33, 34, 35, 36] (I12 w ⟨xk, xn, xt, xb, xe⟩ ⟨zk, zn, zt, zb, ze⟩ ⟨yk, yn, yt, yb, ye⟩) (by kernel_rfl) (steps_list ⟨?o0, ?o1, ?o2, ?o3, ?o4, ?o5, trivial⟩) ?_ ?_
    case o0 =>
      intro L v W J hL hd
      refine op_call rfl rfl rfl (by decide) (by simp only [frm, List.foldl_cons, List.foldl_nil, List.setIfInBounds_toArray, List.set_cons_zero, List.set_cons_succ]; (go_simp) <;> (first | exact ⟨⟨rfl, rfl⟩, rfl⟩ | exact ⟨rfl, rfl⟩ | with_reducible rfl)) ?_
      refine (HK.out _).mono ?_
      rintro e W1 ⟨rfl, c1, c2, _, q1⟩
      exact ⟨_, rfl, (J.on q1).s0 ⟨_, _, rfl, c1, c2⟩⟩
    case o1 =>
      intro L v W J hL hd
      obtain ⟨b0, b1, b2, b3, b4, _⟩ := J.bx
      simp only at b0 b1 b2 b3 b4
      refine op_val rfl rfl rfl (by decide) (by simp only [frm, List.foldl_cons, List.foldl_nil, List.setIfInBounds_toArray, List.set_cons_zero, List.set_cons_succ]; (go_simp) <;> (first | exact ⟨⟨rfl, rfl⟩, rfl⟩ | exact ⟨rfl, rfl⟩ | with_reducible rfl)) ?_
      exact J.s1 rfl
    case o2 =>
      intro L v W J hL hd
      obtain ⟨b0, b1, b2, b3, b4, _⟩ := J.by'
      simp only at b0 b1 b2 b3 b4
      refine op_val rfl rfl rfl (by decide) (by simp only [frm, List.foldl_cons, List.foldl_nil, List.setIfInBounds_toArray, List.set_cons_zero, List.set_cons_succ]; (go_simp) <;> (first | exact ⟨⟨rfl, rfl⟩, rfl⟩ | exact ⟨rfl, rfl⟩ | with_reducible rfl)) ?_
      exact J.s2 rfl
    case o3 =>
      intro L v W J hL hd
      have h1 := J.e1 (hd 1 (by decide))
      have h2 := J.e2 (hd 2 (by decide))
      simp only [Cv.v, vv] at h1 h2
      refine op_val rfl rfl rfl (by decide) (by simp only [frm, List.foldl_cons, List.foldl_nil, List.setIfInBounds_toArray, List.set_cons_zero, List.set_cons_succ]; (go_simp) <;> (first | exact ⟨⟨rfl, rfl⟩, rfl⟩ | exact ⟨rfl, rfl⟩ | with_reducible rfl)) ?_
      exact (J.on ((Q.refl _).alloc _)).s3 ⟨_, rfl, two_lit _ _ _⟩
    case o4 =>
      intro L v W J hL hd
      obtain ⟨p, r, h1, c1, c2⟩ := J.e0 (hd 0 (by decide)) hL
      obtain ⟨sl, h2, hsl⟩ := J.e3 (hd 3 (by decide)) hL
      refine op_call rfl rfl rfl (by decide) (by simp only [frm, List.foldl_cons, List.foldl_nil, List.setIfInBounds_toArray, List.set_cons_zero, List.set_cons_succ]; (go_simp) <;> (first | exact ⟨⟨rfl, rfl⟩, rfl⟩ | exact ⟨rfl, rfl⟩ | with_reducible rfl)) ?_
      refine (HC'.out _ _ _ _ J.q c1 c2 hsl).mono ?_
      rintro e W1 ⟨rfl, q1⟩
      exact ⟨_, rfl, (J.on q1).s4 rfl⟩
    case o5 =>
      intro L v W J hL hd
      have l4 := hd 4 (by decide)
      have h8 := J.e4 l4
      simp only [Cv.v, vv] at h8
      obtain ⟨b0, b1, b2, b3, b4, f0, f1, f2, f3, f4, _⟩ := J.bz hL
      refine op_non rfl rfl rfl (by simp only [frm, List.foldl_cons, List.foldl_nil, List.setIfInBounds_toArray, List.set_cons_zero, List.set_cons_succ]; (go_simp) <;> (first | exact ⟨⟨rfl, rfl⟩, rfl⟩ | exact ⟨rfl, rfl⟩ | with_reducible rfl)) ?_
      exact J.s5 l4 hL
    · have J5 := J.drew
      exact ⟨J5.q, J5.x, J5.y, fun _ => J5.z, fun h => (by cases h), fun h _ => (by cases h), fun h => (by cases h), fun h => (by cases h), fun h _ => (by cases h), fun h => (by cases h)⟩
    · intro L v W hall J
      have h5 := J.q
      obtain ⟨rz0, rz1, rz2, rz3, rz4, _⟩ := J.bY (hall 5 (by decide))
      simp only at rz0 rz1 rz2 rz3 rz4
      simp only [frm, List.foldl_cons, List.foldl_nil, List.setIfInBounds_toArray, List.set_cons_zero, List.set_cons_succ]
      clear J hall
      go_wp2_with fail
      exact bodyPost_ret (v := .agg #[.int .i64 yk, .int .i64 yn, .string yt, .bool yb, .int .i64 ye]) (by simp [results, Tryz.results18, go_sem, rz0, rz1, rz2, rz3, rz4]) rfl ⟨rfl, h5⟩
end Go.Proofs.YtfjpdopmojfchaaGreatDoor
