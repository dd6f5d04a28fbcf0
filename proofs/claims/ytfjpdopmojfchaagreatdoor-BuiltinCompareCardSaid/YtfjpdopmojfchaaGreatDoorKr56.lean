/- BuiltinCompare: the walk. -/
import Derived.Test.YtfjpdopmojfchaaGreatDoorKr34
import Derived.Test.YtfjpdopmojfchaaGreatDoorKr32
import Derived.Test.YtfjpdopmojfchaaGreatDoorKr33
import Derived.Test.YtfjpdopmojfchaaGreatDoorKr27
import Derived.Test.YtfjpdopmojfchaaGreatDoorKr26
import Derived.Test.YtfjpdopmojfchaaGreatDoorKr31
import Derived.Test.YtfjpdopmojfchaaGreatDoorKr25
import Derived.Deep.CutBlock
set_option linter.unusedVariables false
set_option linter.unusedSimpArgs false
namespace Go.Proofs.YtfjpdopmojfchaaGreatDoor
open Go.RowKit
theorem Bp.set5' {w W : World} {a b : Cv} (J : Bp w a b W) {g : Nat} (hg : w.heap.size + 1 < g) {s0 s1 s2 s3 s4 : Value} : Bp w a b (((((W.setCell ⟨g, 0, none⟩ s0).setCell ⟨g, 1, none⟩ s1).setCell ⟨g, 2, none⟩ s2).setCell ⟨g, 3, none⟩ s3).setCell ⟨g, 4, none⟩ s4) :=
  ⟨Q5 J.q (by omega), J.x.far5 (by omega), J.y.far5 (by omega)⟩
theorem Bp.set1 {w W : World} {a b : Cv} (J : Bp w a b W) {g i : Nat} (hg : w.heap.size + 1 < g) {s0 : Value} : Bp w a b (W.setCell ⟨g, i, none⟩ s0) :=
  ⟨J.q.setCell (by omega) _, J.x.far (by omega), J.y.far (by omega)⟩
/-- what the six comparisons answer -/
def fc (c : Int) (j : Nat) : Bool := match j with | 0 => decide (c < 0) | 1 => c == 0 | 2 => decide (0 < c) | 3 => decide (c ≤ 0) | 4 => c != 0 | _ => decide (0 ≤ c)
def opT (j : Nat) : ByteArray := match j with | 0 => ⟨#[60]⟩ | 1 => ⟨#[61]⟩ | 2 => ⟨#[62]⟩ | 3 => ⟨#[60, 61]⟩ | 4 => ⟨#[60, 62]⟩ | _ => ⟨#[62, 61]⟩
/-- the truths that are told so far -/
structure Tb (c : Int) (W : World) (g i : Nat) : Prop where
  c : ∀ j, j < 6 → W.cell? ⟨g, j, none⟩ = some (.bool (if j < i then fc c j else false))
  f : ∀ j, W.frozen? ⟨g, j, none⟩ = false
  l : g < W.heap.size
theorem Tb.on {c : Int} {W W' : World} {g i : Nat} (h : Tb c W g i) (q : Q W W') : Tb c W' g i := ⟨fun j hj => (q.cell h.l).trans (h.c j hj), fun j => (Below.frozen q (p := ⟨g, j, none⟩) h.l).trans (h.f j), q.lt h.l⟩
theorem Tb.set {c : Int} {W : World} {g i : Nat} (h : Tb c W g i) (hi : i < 6) : Tb c (W.setCell ⟨g, i, none⟩ (.bool (fc c i))) g (i + 1) := by
  refine ⟨fun j hj => ?_, fun j => by rw [World.frozen?_setCell]; exact h.f j, by rw [World.size_setCell]; exact h.l⟩
  by_cases e : j = i
  · subst e
    rw [World.cell?_setCell_same _ _ _ (h.c j hj), if_pos (by omega)]
  · rw [World.cell?_setCell_other _ _ _ _ (by simp; try omega), h.c j hj]
    by_cases h1 : j < i
    · rw [if_pos h1, if_pos (by omega)]
    · rw [if_neg h1, if_neg (by omega)]
theorem Tb.far5 {c : Int} {W : World} {g i g' : Nat} (h : Tb c W g i) (hg : g' ≠ g) {s0 s1 s2 s3 s4 : Value} : Tb c (((((W.setCell ⟨g', 0, none⟩ s0).setCell ⟨g', 1, none⟩ s1).setCell ⟨g', 2, none⟩ s2).setCell ⟨g', 3, none⟩ s3).setCell ⟨g', 4, none⟩ s4) g i := by
  refine ⟨fun j hj => ?_, fun j => ?_, ?_⟩
  · rw [World.cell?_setCell_far _ _ _ _ hg, World.cell?_setCell_far _ _ _ _ hg, World.cell?_setCell_far _ _ _ _ hg, World.cell?_setCell_far _ _ _ _ hg, World.cell?_setCell_far _ _ _ _ hg]
    exact h.c j hj
  · rw [World.frozen?_setCell, World.frozen?_setCell, World.frozen?_setCell, World.frozen?_setCell, World.frozen?_setCell]
    exact h.f j
  · rw [World.size_setCell, World.size_setCell, World.size_setCell, World.size_setCell, World.size_setCell]
    exact h.l
theorem tb_new (c : Int) (W : World) : Tb c (W.alloc (.cells #[.bool false, .bool false, .bool false, .bool false, .bool false, .bool false] 52)) W.heap.size 0 := by
  refine ⟨fun j hj => ?_, fun j => by simp [World.frozen?_alloc_new], by simp⟩
  rw [World.cell?_alloc_at _ _ _ _ rfl]
  rcases (by omega : j = 0 ∨ j = 1 ∨ j = 2 ∨ j = 3 ∨ j = 4 ∨ j = 5) with rfl | rfl | rfl | rfl | rfl | rfl <;> rfl
/-- the six operators' texts -/
structure Op6 (W : World) (g : Nat) : Prop where
  c : ∀ j, j < 6 → W.cell? ⟨g, j, none⟩ = some (.string (opT j))
  l : g < W.heap.size
theorem Op6.on {W W' : World} {g : Nat} (h : Op6 W g) (q : Q W W') : Op6 W' g := ⟨fun j hj => (q.cell h.l).trans (h.c j hj), q.lt h.l⟩
theorem Op6.far {W : World} {g g' k : Nat} {v : Value} (h : Op6 W g) (hg : g' ≠ g) : Op6 (W.setCell ⟨g', k, none⟩ v) g := ⟨fun j hj => by rw [World.cell?_setCell_far _ _ _ _ hg]; exact h.c j hj, by rw [World.size_setCell]; exact h.l⟩
theorem op6_new (W : World) : Op6 (W.alloc (.cells #[.string ⟨#[60]⟩, .string ⟨#[61]⟩, .string ⟨#[62]⟩, .string ⟨#[60, 61]⟩, .string ⟨#[60, 62]⟩, .string ⟨#[62, 61]⟩] 9)) W.heap.size := by
  refine ⟨fun j hj => ?_, by simp⟩
  rw [World.cell?_alloc_at _ _ _ _ rfl]
  rcases (by omega : j = 0 ∨ j = 1 ∨ j = 2 ∨ j = 3 ∨ j = 4 ∨ j = 5) with rfl | rfl | rfl | rfl | rfl | rfl <;> rfl
theorem worst_none {x z : Cv} (hx : x.k ≠ 4) (hz : z.k ≠ 4) : worst [x, z] = 0 := by
  show wstep (wstep 0 x) z = 0
  rw [wstep_mn 0 x (by omega), zero_mn]
  have e1 : ev x = 0 := by unfold ev; rw [if_neg (fun h => hx h.1)]
  have e2 : ev z = 0 := by unfold ev; rw [if_neg (fun h => hz h.1)]
  rw [e1, wstep_mn 0 z (by omega), e2]
  rfl
/-- one of the six comparisons -/
theorem bin6 (j : Nat) (hj : j < 6) (x z : Cv) (c : Int) (hc : cvC (lk x z) (lk z x) = c) (mx : x.may = true) (mz : z.may = true) (sx : x.sm) (sz : z.sm) (kx : x.k ≠ 4) (kz : z.k ≠ 4) (w : World) (hw : Std2 w) :
    Calls Tryz.prog 18 #[.string (opT j), x.v, z.v] w fun r w' => r = .returned (bo (fc c j)).v ∧ Q w w' := by
  rcases (by omega : j = 0 ∨ j = 1 ∨ j = 2 ∨ j = 3 ∨ j = 4 ∨ j = 5) with rfl | rfl | rfl | rfl | rfl | rfl
  · exact bin_lt x z x z w hw sx sz (ctd_may mx) (ctd_may mz) (worst_none kx kz) c hc
  · exact bin_eq x z x z w hw sx sz (ctd_may mx) (ctd_may mz) (worst_none kx kz) c hc
  · exact bin_gt x z x z w hw sx sz (ctd_may mx) (ctd_may mz) (worst_none kx kz) c hc
  · exact bin_le x z x z w hw sx sz (ctd_may mx) (ctd_may mz) (worst_none kx kz) c hc
  · exact bin_ne x z x z w hw sx sz (ctd_may mx) (ctd_may mz) (worst_none kx kz) c hc
  · exact bin_ge x z x z w hw sx sz (ctd_may mx) (ctd_may mz) (worst_none kx kz) c hc
set_option maxRecDepth 100000 in
set_option maxHeartbeats 16000000 in
theorem cmp_walk (a b : Cv) (w : World) (hw : Std2 w) : Calls Tryz.prog 7 #[a.v, b.v] w fun r w' => r = .returned (.bool true) ∧ Q w w' := by
  have J := bp_new w a b
  have HBg := hid (fun W (q : Q w W) => bbegun_any W (hw.on q))
  have HU := hid (fun W => cutv_any a W)
  have HU' := hid (fun W => cutv_any b W)
  have hxs := cut_sm' a
  have hzs := cut_sm' b
  obtain ⟨x, hx⟩ : ∃ x, a.cut = x := ⟨_, rfl⟩
  obtain ⟨z, hz⟩ : ∃ z, b.cut = z := ⟨_, rfl⟩
  rw [hx] at HU hxs
  rw [hz] at HU' hzs
  have HM := hid (fun W => rmayv_any x W hxs)
  have HM' := hid (fun W => rmayv_any z W hzs)
  obtain ⟨c, hc⟩ : ∃ c, cvC (lk x z) (lk z x) = c := ⟨_, rfl⟩
  have HBI := hid (fun (mx : x.may = true) (mz : z.may = true) (kx : x.k ≠ 4) (kz : z.k ≠ 4) (j : Nat) (hj : j < 6) (V : World) (q : Q w V) => bin6 j hj x z c hc mx mz hxs hzs kx kz V (hw.on q))
  clear hw hx hz hxs hzs hc
  obtain ⟨ak, an, at', ab, ae⟩ := a
  obtain ⟨bk, bn, bt, bb, be⟩ := b
  have HS := hid (fun W (J : Bp w ⟨ak, an, at', ab, ae⟩ ⟨bk, bn, bt, bb, be⟩ W) => J.setTwo x z)
  obtain ⟨mx, hmx⟩ : ∃ m, x.may = m := ⟨_, rfl⟩
  obtain ⟨mz, hmz⟩ : ∃ m, z.may = m := ⟨_, rfl⟩
  rw [hmx] at HM
  rw [hmz] at HM'
  have HMX := hid (And.intro hmx hmz)
  clear hmx hmz
  obtain ⟨xk, xn, xt, xb, xe⟩ := x
  obtain ⟨zk, zn, zt, zb, ze⟩ := z
  simp only [Cv.v, vv, bo] at *
  go_enter Tryz.func7, Tryz.ntmps7
  go_wp2_with (go_at_call 9; refine (HBg.out _ J.q).mono ?_; rintro e w1 ⟨rfl, q1⟩; replace J := J.on q1; clear q1)
  go_upto_region 4 with fail
  go_cut [] from 15 to 18 (fun W => Bp w ⟨xk, xn, xt, xb, xe⟩ ⟨zk, zn, zt, zb, ze⟩ W)
  case first =>
    have ix0 := J.x.c0
    have ix1 := J.x.c1
    have ix2 := J.x.c2
    have ix3 := J.x.c3
    have ix4 := J.x.c4
    have iy0 := J.y.c0
    have iy1 := J.y.c1
    have iy2 := J.y.c2
    have iy3 := J.y.c3
    have iy4 := J.y.c4
    go_region_with (first
      | (go_at_call_of 17 at'; refine (HU.out _).mono ?_; rintro x w2 ⟨rfl, q2⟩; replace J := (J.drew).on q2; clear q2; have px0 := J.x.c0; have px1 := J.x.c1; have px2 := J.x.c2; have px3 := J.x.c3; have px4 := J.x.c4; have py0 := J.y.c0; have py1 := J.y.c1; have py2 := J.y.c2; have py3 := J.y.c3; have py4 := J.y.c4)
      | (go_at_call_of 17 bt; refine (HU'.out _).mono ?_; rintro x w3 ⟨rfl, q2⟩; replace J := J.on q2; clear q2; have sx0 := J.x.c0; have sx1 := J.x.c1; have sx2 := J.x.c2; have sx3 := J.x.c3; have sx4 := J.x.c4; have sy0 := J.y.c0; have sy1 := J.y.c1; have sy2 := J.y.c2; have sy3 := J.y.c3; have sy4 := J.y.c4; have sfx0 := J.x.f0; have sfx1 := J.x.f1; have sfx2 := J.x.f2; have sfx3 := J.x.f3; have sfx4 := J.x.f4; have sfy0 := J.y.f0; have sfy1 := J.y.f1; have sfy2 := J.y.f2; have sfy3 := J.y.f3; have sfy4 := J.y.f4))
    all_goals
      go_wp2_with fail
      go_meet
      case rel => exact HS.out _ J
  case rest =>
    have J := hcut
    clear hcut HS HU HU' HBg
    have tx0 := J.x.c0
    have tx1 := J.x.c1
    have tx2 := J.x.c2
    have tx3 := J.x.c3
    have tx4 := J.x.c4
    have ty0 := J.y.c0
    have ty1 := J.y.c1
    have ty2 := J.y.c2
    have ty3 := J.y.c3
    have ty4 := J.y.c4
    cases mx
    · go_wp2_with (go_at_call_of 23 xt; refine (HM.out _).mono ?_; rintro r w4 ⟨rfl, q2⟩; replace J := J.on q2; clear q2)
      go_ret
      exact ⟨rfl, J.q⟩
    cases mz
    · go_wp2_with (first
        | (go_at_call_of 23 xt; refine (HM.out _).mono ?_; rintro r w4 ⟨rfl, q2⟩; replace J := J.on q2; clear q2; have ux0 := J.x.c0; have ux1 := J.x.c1; have ux2 := J.x.c2; have ux3 := J.x.c3; have ux4 := J.x.c4; have uy0 := J.y.c0; have uy1 := J.y.c1; have uy2 := J.y.c2; have uy3 := J.y.c3; have uy4 := J.y.c4)
        | (go_at_call_of 23 zt; refine (HM'.out _).mono ?_; rintro r w5 ⟨rfl, q2⟩; replace J := J.on q2; clear q2))
      go_ret
      exact ⟨rfl, J.q⟩
    by_cases hk4 : xk = 4
    · subst hk4
      go_wp2_with (first
        | (go_at_call_of 23 xt; refine (HM.out _).mono ?_; rintro r w4 ⟨rfl, q2⟩; replace J := J.on q2; clear q2; have ux0 := J.x.c0; have ux1 := J.x.c1; have ux2 := J.x.c2; have ux3 := J.x.c3; have ux4 := J.x.c4; have uy0 := J.y.c0; have uy1 := J.y.c1; have uy2 := J.y.c2; have uy3 := J.y.c3; have uy4 := J.y.c4)
        | (go_at_call_of 23 zt; refine (HM'.out _).mono ?_; rintro r w5 ⟨rfl, q2⟩; replace J := J.on q2; clear q2; have qx0 := J.x.c0; have qx1 := J.x.c1; have qx2 := J.x.c2; have qx3 := J.x.c3; have qx4 := J.x.c4; have qy0 := J.y.c0; have qy1 := J.y.c1; have qy2 := J.y.c2; have qy3 := J.y.c3; have qy4 := J.y.c4))
      go_ret
      exact ⟨rfl, J.q⟩
    have hk4b : (xk == 4) = false := beq_eq_false_iff_ne.2 hk4
    by_cases hz4 : zk = 4
    · subst hz4
      go_wp2_with (first
        | (go_at_call_of 23 xt; refine (HM.out _).mono ?_; rintro r w4 ⟨rfl, q2⟩; replace J := J.on q2; clear q2; have ux0 := J.x.c0; have ux1 := J.x.c1; have ux2 := J.x.c2; have ux3 := J.x.c3; have ux4 := J.x.c4; have uy0 := J.y.c0; have uy1 := J.y.c1; have uy2 := J.y.c2; have uy3 := J.y.c3; have uy4 := J.y.c4)
        | (go_at_call_of 23 zt; refine (HM'.out _).mono ?_; rintro r w5 ⟨rfl, q2⟩; replace J := J.on q2; clear q2; have qx0 := J.x.c0; have qx1 := J.x.c1; have qx2 := J.x.c2; have qx3 := J.x.c3; have qx4 := J.x.c4; have qy0 := J.y.c0; have qy1 := J.y.c1; have qy2 := J.y.c2; have qy3 := J.y.c3; have qy4 := J.y.c4))
      go_ret
      exact ⟨rfl, J.q⟩
    have hz4b : (zk == 4) = false := beq_eq_false_iff_ne.2 hz4
    have HB6 := hid (HBI.out HMX.out.1 HMX.out.2 hk4 hz4)
    clear HBI HMX hk4 hz4
    go_wp2_with (first
      | (go_at_call_of 23 xt; refine (HM.out _).mono ?_; rintro r w4 ⟨rfl, q2⟩; replace J := J.on q2; clear q2; have ux0 := J.x.c0; have ux1 := J.x.c1; have ux2 := J.x.c2; have ux3 := J.x.c3; have ux4 := J.x.c4; have uy0 := J.y.c0; have uy1 := J.y.c1; have uy2 := J.y.c2; have uy3 := J.y.c3; have uy4 := J.y.c4)
      | (go_at_call_of 23 zt; refine (HM'.out _).mono ?_; rintro r w5 ⟨rfl, q2⟩; replace J := J.on q2; clear q2; have qx0 := J.x.c0; have qx1 := J.x.c1; have qx2 := J.x.c2; have qx3 := J.x.c3; have qx4 := J.x.c4; have qy0 := J.y.c0; have qy1 := J.y.c1; have qy2 := J.y.c2; have qy3 := J.y.c3; have qy4 := J.y.c4))
    clear tx0 tx1 tx2 tx3 tx4 ty0 ty1 ty2 ty3 ty4 ux0 ux1 ux2 ux3 ux4 uy0 uy1 uy2 uy3 uy4 qx0 qx1 qx2 qx3 qx4 qy0 qy1 qy2 qy3 qy4
    have J0 := hid (J.on (((Q.refl w5).alloc (.cells #[.string ⟨#[60]⟩, .string ⟨#[61]⟩, .string ⟨#[62]⟩, .string ⟨#[60, 61]⟩, .string ⟨#[60, 62]⟩, .string ⟨#[62, 61]⟩] 9)).alloc (.cells #[.bool false, .bool false, .bool false, .bool false, .bool false, .bool false] 52)))
    have O0 := hid ((op6_new w5).on ((Q.refl _).alloc (.cells #[.bool false, .bool false, .bool false, .bool false, .bool false, .bool false] 52)))
    have T0 : Hid (Tb c ((w5.alloc (.cells #[.string ⟨#[60]⟩, .string ⟨#[61]⟩, .string ⟨#[62]⟩, .string ⟨#[60, 61]⟩, .string ⟨#[60, 62]⟩, .string ⟨#[62, 61]⟩] 9)).alloc (.cells #[.bool false, .bool false, .bool false, .bool false, .bool false, .bool false] 52)) (w5.heap.size + 1) 0) := hid (by have h := tb_new c (w5.alloc (.cells #[.string ⟨#[60]⟩, .string ⟨#[61]⟩, .string ⟨#[62]⟩, .string ⟨#[60, 61]⟩, .string ⟨#[60, 62]⟩, .string ⟨#[62, 61]⟩] 9)); rw [World.size_alloc] at h; exact h)
    have hbig := J.y.big
    clear J HM HM'
    go_loopw [4, 8] (fun r i W => ∃ j : Nat, j ≤ 6 ∧ i = .int .i64 j ∧ r = .bool false ∧ Bp w ⟨xk, xn, xt, xb, xe⟩ ⟨zk, zn, zt, zb, ze⟩ W ∧ Op6 W w5.heap.size ∧ Tb c W (w5.heap.size + 1) j) (fun _ i _ => 6 - (intOf i).toNat)
    case atStart => exact ⟨0, by omega, rfl, rfl, J0.out, O0.out, T0.out⟩
    case round =>
      obtain ⟨j, hj, rfl, rfl, J, O, T⟩ := hrel
      clear J0 O0 T0
      by_cases hlt : j < 6
      · have hjl : (j : Int) < 6 := by omega
        have hop := O.c j hlt
        have HB := hid (HB6.out j hlt)
        generalize opT j = op at hop HB
        obtain ⟨r, hr⟩ : ∃ r, fc c j = r := ⟨_, rfl⟩
        rw [hr] at HB
        have HTS : Hid (∀ W, Tb c W (w5.heap.size + 1) j → Tb c (W.setCell ⟨w5.heap.size + 1, j, none⟩ (.bool r)) (w5.heap.size + 1) (j + 1)) := hid (fun W h => by have := h.set hlt; rw [hr] at this; exact this)
        clear hr
        have JJ := hid J
        have OO := hid O
        have TT := hid T
        obtain ⟨V0, hV0⟩ : ∃ V0, V0 = wr := ⟨_, rfl⟩
        subst hV0
        have mx0 := J.x.c0
        have mx1 := J.x.c1
        have mx2 := J.x.c2
        have mx3 := J.x.c3
        have mx4 := J.x.c4
        have my0 := J.y.c0
        have my1 := J.y.c1
        have my2 := J.y.c2
        have my3 := J.y.c3
        have my4 := J.y.c4
        have gx := J.x.big
        have gy := J.y.big
        have go' := O.l
        have gx' : w.heap.size ≠ V0.heap.size := by omega
        have gy' : w.heap.size + 1 ≠ V0.heap.size := by omega
        have go2 : w5.heap.size ≠ V0.heap.size := by omega
        clear J O T
        go_upto_region 12 with fail
        go_cut [9] from 43 to 49 (fun p W => ∃ g, p = .pointer (some ⟨g, 0, none⟩) ∧ V0.heap.size ≤ g ∧ Bp w ⟨xk, xn, xt, xb, xe⟩ ⟨zk, zn, zt, zb, ze⟩ W ∧ Op6 W w5.heap.size ∧ Tb c W (w5.heap.size + 1) j ∧ Bx W g (.int .i64 3) (.int .i64 0) (.string ⟨#[]⟩) (.bool r) (.int .i64 0))
        case first =>
          go_region_with (go_at_call 18; refine (HB.out _ (by first | with_reducible exact JJ.out.q.drew | with_reducible exact (JJ.out.q.alloc _).drew)).mono ?_; rintro e v1 ⟨rfl, q1⟩; have qq : Hid (Q V0 v1) := hid (by first | with_reducible exact (Q.refl _).drew.trans q1 | with_reducible exact ((Q.refl _).alloc _).drew.trans q1); (first | (have Z9 : Hid (Bx v1 V0.heap.size (.int .i64 0) (.int .i64 0) (.string ⟨#[]⟩) (.bool false) (.int .i64 0)) := hid (by with_reducible exact bz_on ((Q.refl _).drew.trans q1)); have d0 := Z9.out.c0; have d1 := Z9.out.c1; have d2 := Z9.out.c2; have d3 := Z9.out.c3; have d4 := Z9.out.c4; have y0 := Z9.out.f0; have y1 := Z9.out.f1; have y2 := Z9.out.f2; have y3 := Z9.out.f3; have y4 := Z9.out.f4; clear q1) | (clear q1)))
          all_goals
            go_wp2_with fail
            go_meet
            case rel => first
              | exact ⟨_, rfl, qq.out.size, (JJ.out.on qq.out).on ((Q.refl _).alloc _), (OO.out.on qq.out).on ((Q.refl _).alloc _), (TT.out.on qq.out).on ((Q.refl _).alloc _), bx_new _ _ _ _ _ _⟩
              | (have h1 := JJ.out.y.big; have h2 := OO.out.l; have h3 := TT.out.l; exact ⟨_, rfl, Nat.le_refl _, (JJ.out.on qq.out).set5' (by omega), (((((OO.out.on qq.out).far (by omega)).far (by omega)).far (by omega)).far (by omega)).far (by omega), (TT.out.on qq.out).far5 (by omega), Z9.out.set5⟩)
        case rest =>
          obtain ⟨g, rfl, hg, J, O, T, B⟩ := hcut
          have b0 := B.c0
          have b3 := B.c3
          have tf := T.f j
          have tc := T.c j hlt
          have h1 := JJ.out.y.big
          have h2 := TT.out.l
          have h3 := OO.out.l
          go_wp2_with fail
          go_roundw
          case rel => exact ⟨j + 1, by omega, by go_num, rfl, J.set1 (by omega), O.far (by omega), HTS.out _ T⟩
          case measure => simp [intOf]; omega
      · have hj6 : j = 6 := by omega
        subst hj6
        have tc0 := T.c 0 (by omega)
        have tc1 := T.c 1 (by omega)
        have tc2 := T.c 2 (by omega)
        have tc3 := T.c 3 (by omega)
        have tc4 := T.c 4 (by omega)
        have tc5 := T.c 5 (by omega)
        have JQ := hid J.q
        clear J O T HB6 hlt hj
        simp only [fc] at tc0 tc1 tc2 tc3 tc4 tc5
        rcases Int.lt_trichotomy c 0 with hc | hc | hc
        · have e0 : decide (c < 0) = true := by simp; omega
          have e1 : (c == 0) = false := by simp; omega
          have e2 : decide (0 < c) = false := by simp; omega
          have e3 : decide (c ≤ 0) = true := by simp; omega
          have e4 : (c != 0) = true := by simp; omega
          have e5 : decide (0 ≤ c) = false := by simp; omega
          simp [e0, e1, e2, e3, e4, e5] at tc0 tc1 tc2 tc3 tc4 tc5
          clear e0 e1 e2 e3 e4 e5 hc
          go_wp2_with fail
          refine wp_loop_rounds 4 ?_
          rw [rounds_succ]
          go_wp2_with fail
          rw [rounds_succ]
          go_wp2_with fail
          rw [rounds_succ]
          go_wp2_with fail
          rw [rounds_succ]
          go_wp2_with fail
          go_ret
          exact ⟨rfl, JQ.out⟩
        · subst hc
          simp at tc0 tc1 tc2 tc3 tc4 tc5
          go_wp2_with fail
          refine wp_loop_rounds 4 ?_
          rw [rounds_succ]
          go_wp2_with fail
          rw [rounds_succ]
          go_wp2_with fail
          rw [rounds_succ]
          go_wp2_with fail
          rw [rounds_succ]
          go_wp2_with fail
          go_ret
          exact ⟨rfl, JQ.out⟩
        · have e0 : decide (c < 0) = false := by simp; omega
          have e1 : (c == 0) = false := by simp; omega
          have e2 : decide (0 < c) = true := by simp; omega
          have e3 : decide (c ≤ 0) = false := by simp; omega
          have e4 : (c != 0) = true := by simp; omega
          have e5 : decide (0 ≤ c) = true := by simp; omega
          simp [e0, e1, e2, e3, e4, e5] at tc0 tc1 tc2 tc3 tc4 tc5
          clear e0 e1 e2 e3 e4 e5 hc
          go_wp2_with fail
          refine wp_loop_rounds 4 ?_
          rw [rounds_succ]
          go_wp2_with fail
          rw [rounds_succ]
          go_wp2_with fail
          rw [rounds_succ]
          go_wp2_with fail
          rw [rounds_succ]
          go_wp2_with fail
          go_ret
          exact ⟨rfl, JQ.out⟩
end Go.Proofs.YtfjpdopmojfchaaGreatDoor
