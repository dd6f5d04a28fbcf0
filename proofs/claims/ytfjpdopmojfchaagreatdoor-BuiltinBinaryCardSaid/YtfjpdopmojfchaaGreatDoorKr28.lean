/- builtin.Binary of what is no operator; the reference's small functions. -/
import Derived.Test.YtfjpdopmojfchaaGreatDoorKr24
set_option linter.unusedVariables false
set_option linter.unusedSimpArgs false
namespace Go.Proofs.YtfjpdopmojfchaaGreatDoor
open Go.RowKit
set_option maxRecDepth 100000 in
set_option maxHeartbeats 8000000 in
theorem bin_other (a b x z : Cv) (w : World) (hw : Std2 w) (ha : a.sm) (hb : b.sm) (hx : ctd a = x) (hz : ctd b = z) (op : ByteArray) (he : worst [x, z] = 0) (h0 : op.toList ≠ [43]) (h1 : op.toList ≠ [45]) (h2 : op.toList ≠ [42]) (h3 : op.toList ≠ [47]) (h4 : op.toList ≠ [38]) (h5 : op.toList ≠ [61]) (h6 : op.toList ≠ [60, 62]) (h7 : op.toList ≠ [60]) (h8 : op.toList ≠ [60, 61]) (h9 : op.toList ≠ [62]) (h10 : op.toList ≠ [62, 61]) :
    Calls Tryz.prog 18 #[.string op, a.v, b.v] w fun r w' => r = .returned (er 5).v ∧ Q w w' := by
  have J := bb3_new w a b
  have HU := hid (fun W (q : Q w W) => counted_any a W (hw.on q) ha)
  have HU' := hid (fun W (q : Q w W) => counted_any b W (hw.on q) hb)
  have hxs := ctd_sm ha
  have hzs := ctd_sm hb
  rw [hx] at HU hxs
  rw [hz] at HU' hzs
  have HWo := hid (worst2_any x z w hw hxs hzs)
  rw [he] at HWo
  have g0 : (op.toList == [43]) = false := by simpa using h0
  have g1 : (op.toList == [45]) = false := by simpa using h1
  have g2 : (op.toList == [42]) = false := by simpa using h2
  have g3 : (op.toList == [47]) = false := by simpa using h3
  have g4 : (op.toList == [38]) = false := by simpa using h4
  have g5 : (op.toList == [61]) = false := by simpa using h5
  have g6 : (op.toList == [60, 62]) = false := by simpa using h6
  have g7 : (op.toList == [60]) = false := by simpa using h7
  have g8 : (op.toList == [60, 61]) = false := by simpa using h8
  have g9 : (op.toList == [62]) = false := by simpa using h9
  have g10 : (op.toList == [62, 61]) = false := by simpa using h10
  have HF := hid (fun W => failure_any 5 W)
  simp only [er] at HF ⊢
  clear he h0 h1 h2 h3 h4 h5 h6 h7 h8 h9 h10
  clear hw ha hb hx hz hxs hzs
  obtain ⟨ak, an, at', ab, ae⟩ := a
  obtain ⟨bk, bn, bt, bb, be⟩ := b
  have HS := hid (fun W (J : Bb3 w ⟨ak, an, at', ab, ae⟩ ⟨bk, bn, bt, bb, be⟩ W) => J.setTwo x z)
  obtain ⟨xk, xn, xt, xb, xe⟩ := x
  obtain ⟨zk, zn, zt, zb, ze⟩ := z
  simp only [Cv.v, vv] at *
  go_enter Tryz.func18, Tryz.ntmps18
  go_upto_region 1 with fail
  go_cut [] from 8 to 11 (fun W => Bb3 w ⟨xk, xn, xt, xb, xe⟩ ⟨zk, zn, zt, zb, ze⟩ W)
  case first =>
    have ix0 := J.x.c0
    have ix1 := J.x.c1
    have ix2 := J.x.c2
    have ix3 := J.x.c3
    have ix4 := J.x.c4
    have iy0 := J.y.c0
    have iy1 := J.y.c1
    have iy2 := J.y.c2
    have iy3 := J.y.c3
    have iy4 := J.y.c4
    go_region_with (first
      | (go_at_call_of 37 at'; refine (HU.out _ J.drew.q).mono ?_; rintro x w2 ⟨rfl, q2⟩; replace J := (J.drew).on q2; clear q2; have px0 := J.x.c0; have px1 := J.x.c1; have px2 := J.x.c2; have px3 := J.x.c3; have px4 := J.x.c4; have py0 := J.y.c0; have py1 := J.y.c1; have py2 := J.y.c2; have py3 := J.y.c3; have py4 := J.y.c4)
      | (go_at_call_of 37 bt; refine (HU'.out _ J.q).mono ?_; rintro x w3 ⟨rfl, q2⟩; replace J := J.on q2; clear q2; have sx0 := J.x.c0; have sx1 := J.x.c1; have sx2 := J.x.c2; have sx3 := J.x.c3; have sx4 := J.x.c4; have sy0 := J.y.c0; have sy1 := J.y.c1; have sy2 := J.y.c2; have sy3 := J.y.c3; have sy4 := J.y.c4; have sfx0 := J.x.f0; have sfx1 := J.x.f1; have sfx2 := J.x.f2; have sfx3 := J.x.f3; have sfx4 := J.x.f4; have sfy0 := J.y.f0; have sfy1 := J.y.f1; have sfy2 := J.y.f2; have sfy3 := J.y.f3; have sfy4 := J.y.f4))
    all_goals
      go_wp2_with fail
      go_meet
      case rel => exact HS.out _ J
  case rest =>
    have J := hcut
    clear hcut
    have tx0 := J.x.c0
    have tx1 := J.x.c1
    have tx2 := J.x.c2
    have tx3 := J.x.c3
    have tx4 := J.x.c4
    have ty0 := J.y.c0
    have ty1 := J.y.c1
    have ty2 := J.y.c2
    have ty3 := J.y.c3
    have ty4 := J.y.c4
    go_wp2_with (first
      | (go_at_call 38; refine (HWo.out _ J.q).mono ?_; rintro r w4 ⟨rfl, q2⟩; replace J := J.on q2; clear q2; have ux0 := J.x.c0; have ux1 := J.x.c1; have ux2 := J.x.c2; have ux3 := J.x.c3; have ux4 := J.x.c4; have uy0 := J.y.c0; have uy1 := J.y.c1; have uy2 := J.y.c2; have uy3 := J.y.c3; have uy4 := J.y.c4)
      | (go_at_call 30; refine (HF.out _).mono ?_; rintro r w5 ⟨rfl, q2⟩; replace J := J.on q2; clear q2; have rz0 := J.z.c0; have rz1 := J.z.c1; have rz2 := J.z.c2; have rz3 := J.z.c3; have rz4 := J.z.c4; have rfz0 := J.z.f0; have rfz1 := J.z.f1; have rfz2 := J.z.f2; have rfz3 := J.z.f3; have rfz4 := J.z.f4))
    exact bodyPost_ret (v := .agg #[.int .i64 4, .int .i64 0, .string ⟨#[]⟩, .bool false, .int .i64 5]) (by simp [results, Tryz.results18, go_sem, rz0, rz1, rz2, rz3, rz4]) rfl ⟨rfl, Q5 J.q (by omega)⟩
set_option maxHeartbeats 1000000 in
theorem rnum_any (n : Int) (b : Bool) (w : World) : Calls Tryz.prog 54 #[.int .i64 n, .bool b] w fun x w' => x = .returned (if b = true then nu n else er 4).v ∧ Q w w' := by
  have HB := hid (bxz w)
  cases b
  · have HC := hid (fun W => err_any 4 W)
    simp only [Cv.v, vv, er, Bool.false_eq_true, if_false] at *
    go_enter Tryz.func54, Tryz.ntmps54
    go_wp2_with (go_at_call 26; refine (HC.out _).mono ?_; rintro x w1 ⟨rfl, q1⟩; have B1 := HB.out.on q1; have Q1 : Hid (Q w w1) := hid (((Q.refl _).alloc _).trans q1); clear q1; obtain ⟨d0, d1, d2, d3, d4, y0, y1, y2, y3, y4, _⟩ := B1)
    exact bodyPost_ret (v := (er 4).v) (by simp [results, Tryz.results54, go_sem, vv, Cv.v, er, d0, d1, d2, d3, d4]) rfl ⟨rfl, Q5 Q1.out (Nat.le_refl _)⟩
  · have HC := hid (fun W => num_any n W)
    simp only [Cv.v, vv, nu, if_true] at *
    go_enter Tryz.func54, Tryz.ntmps54
    go_wp2_with (go_at_call 27; refine (HC.out _).mono ?_; rintro x w1 ⟨rfl, q1⟩; have B1 := HB.out.on q1; have Q1 : Hid (Q w w1) := hid (((Q.refl _).alloc _).trans q1); clear q1; obtain ⟨d0, d1, d2, d3, d4, y0, y1, y2, y3, y4, _⟩ := B1)
    exact bodyPost_ret (v := (nu n).v) (by simp [results, Tryz.results54, go_sem, vv, Cv.v, nu, d0, d1, d2, d3, d4]) rfl ⟨rfl, Q5 Q1.out (Nat.le_refl _)⟩
end Go.Proofs.YtfjpdopmojfchaaGreatDoor
