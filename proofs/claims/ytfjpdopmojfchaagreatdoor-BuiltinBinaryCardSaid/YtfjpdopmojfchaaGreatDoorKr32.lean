/- builtin.Binary: one operator. -/
import Derived.Test.YtfjpdopmojfchaaGreatDoorKr24
set_option linter.unusedVariables false
set_option linter.unusedSimpArgs false
namespace Go.Proofs.YtfjpdopmojfchaaGreatDoor
open Go.RowKit
set_option maxRecDepth 100000 in
set_option maxHeartbeats 8000000 in
theorem bin_lt (a b x z : Cv) (w : World) (hw : Std2 w) (ha : a.sm) (hb : b.sm) (hx : ctd a = x) (hz : ctd b = z) (he : worst [x, z] = 0) (c : Int) (hc : cvC (lk x z) (lk z x) = c) :
    Calls Tryz.prog 18 #[.string ⟨#[60]⟩, a.v, b.v] w fun r w' => r = .returned (bo (decide (c < 0))).v ∧ Q w w' := by
  have J := bb3_new w a b
  have HU := hid (fun W (q : Q w W) => counted_any a W (hw.on q) ha)
  have HU' := hid (fun W (q : Q w W) => counted_any b W (hw.on q) hb)
  have hxs := ctd_sm ha
  have hzs := ctd_sm hb
  rw [hx] at HU hxs
  rw [hz] at HU' hzs
  have HWo := hid (worst2_any x z w hw hxs hzs)
  rw [he] at HWo
  have HC := hid (fun W (q : Q w W) => bcompare_any x z W (hw.on q) hxs hzs)
  rw [hc] at HC
  have HH := hid (fun W => holds_lt c W)
  have HT := hid (fun W => btruth_any (decide (c < 0)) W)
  generalize decide (c < 0) = rr at *
  simp only [bo] at HT ⊢
  clear he hc
  clear hw ha hb hx hz hxs hzs
  obtain ⟨ak, an, at', ab, ae⟩ := a
  obtain ⟨bk, bn, bt, bb, be⟩ := b
  have HS := hid (fun W (J : Bb3 w ⟨ak, an, at', ab, ae⟩ ⟨bk, bn, bt, bb, be⟩ W) => J.setTwo x z)
  obtain ⟨xk, xn, xt, xb, xe⟩ := x
  obtain ⟨zk, zn, zt, zb, ze⟩ := z
  simp only [Cv.v, vv] at *
  go_enter Tryz.func18, Tryz.ntmps18
  go_upto_region 1 with fail
  go_cut [] from 8 to 11 (fun W => Bb3 w ⟨xk, xn, xt, xb, xe⟩ ⟨zk, zn, zt, zb, ze⟩ W)
  case first =>
    have ix0 := J.x.c0
    have ix1 := J.x.c1
    have ix2 := J.x.c2
    have ix3 := J.x.c3
    have ix4 := J.x.c4
    have iy0 := J.y.c0
    have iy1 := J.y.c1
    have iy2 := J.y.c2
    have iy3 := J.y.c3
    have iy4 := J.y.c4
    go_region_with (first
      | (go_at_call_of 37 at'; refine (HU.out _ J.drew.q).mono ?_; rintro x w2 ⟨rfl, q2⟩; replace J := (J.drew).on q2; clear q2; have px0 := J.x.c0; have px1 := J.x.c1; have px2 := J.x.c2; have px3 := J.x.c3; have px4 := J.x.c4; have py0 := J.y.c0; have py1 := J.y.c1; have py2 := J.y.c2; have py3 := J.y.c3; have py4 := J.y.c4)
      | (go_at_call_of 37 bt; refine (HU'.out _ J.q).mono ?_; rintro x w3 ⟨rfl, q2⟩; replace J := J.on q2; clear q2; have sx0 := J.x.c0; have sx1 := J.x.c1; have sx2 := J.x.c2; have sx3 := J.x.c3; have sx4 := J.x.c4; have sy0 := J.y.c0; have sy1 := J.y.c1; have sy2 := J.y.c2; have sy3 := J.y.c3; have sy4 := J.y.c4; have sfx0 := J.x.f0; have sfx1 := J.x.f1; have sfx2 := J.x.f2; have sfx3 := J.x.f3; have sfx4 := J.x.f4; have sfy0 := J.y.f0; have sfy1 := J.y.f1; have sfy2 := J.y.f2; have sfy3 := J.y.f3; have sfy4 := J.y.f4))
    all_goals
      go_wp2_with fail
      go_meet
      case rel => exact HS.out _ J
  case rest =>
    have J := hcut
    clear hcut
    have tx0 := J.x.c0
    have tx1 := J.x.c1
    have tx2 := J.x.c2
    have tx3 := J.x.c3
    have tx4 := J.x.c4
    have ty0 := J.y.c0
    have ty1 := J.y.c1
    have ty2 := J.y.c2
    have ty3 := J.y.c3
    have ty4 := J.y.c4
    go_wp2_with (first
      | (go_at_call 38; refine (HWo.out _ J.q).mono ?_; rintro r w4 ⟨rfl, q2⟩; replace J := J.on q2; clear q2; have ux0 := J.x.c0; have ux1 := J.x.c1; have ux2 := J.x.c2; have ux3 := J.x.c3; have ux4 := J.x.c4; have uy0 := J.y.c0; have uy1 := J.y.c1; have uy2 := J.y.c2; have uy3 := J.y.c3; have uy4 := J.y.c4)
      | (go_at_call 45; refine (HC.out _ J.q).mono ?_; rintro r w5 ⟨rfl, q2⟩; replace J := J.on q2; clear q2)
      | (go_at_call 44; refine (HH.out _).mono ?_; rintro r w6 ⟨rfl, h6⟩; replace h6 := h6.symm; subst h6)
      | (go_at_call 43; refine (HT.out _).mono ?_; rintro r w7 ⟨rfl, q2⟩; replace J := J.on q2; clear q2; have rz0 := J.z.c0; have rz1 := J.z.c1; have rz2 := J.z.c2; have rz3 := J.z.c3; have rz4 := J.z.c4; have rfz0 := J.z.f0; have rfz1 := J.z.f1; have rfz2 := J.z.f2; have rfz3 := J.z.f3; have rfz4 := J.z.f4))
    exact bodyPost_ret (v := .agg #[.int .i64 3, .int .i64 0, .string ⟨#[]⟩, .bool rr, .int .i64 0]) (by simp [results, Tryz.results18, go_sem, rz0, rz1, rz2, rz3, rz4]) rfl ⟨rfl, Q5 J.q (by omega)⟩
end Go.Proofs.YtfjpdopmojfchaaGreatDoor
