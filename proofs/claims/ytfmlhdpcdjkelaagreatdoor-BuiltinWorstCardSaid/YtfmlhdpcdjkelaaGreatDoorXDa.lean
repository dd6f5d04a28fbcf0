/- builtin.Binary: one operator. -/
/- slices.Min and Max of numbers; least, greatest, count, average. -/
/- Package builtin: aggregates called. -/
/- BuiltinWorst: the walk. -/
import Derived.Test.YtfmlhdpcdjkelaaGreatDoorBj
import Derived.Test.YtfmlhdpcdjkelaaGreatDoorXb
import Derived.Deep.CutBlock
namespace Go.Proofs.YtfmlhdpcdjkelaaGreatDoor
open Go.RowKit
set_option linter.unusedVariables false
set_option linter.unusedSimpArgs false

set_option maxRecDepth 100000 in
set_option maxHeartbeats 8000000 in
theorem bin_err (a b x z : Cv) (w : World) (hw : Std2 w) (ha : a.sm) (hb : b.sm) (hx : ctd a = x) (hz : ctd b = z) (op : ByteArray) (e : Int) (he : worst [x, z] = e) (hne : e ≠ 0) :
    Calls Tryz.prog 12 #[.string op, a.v, b.v] w fun r w' => r = .returned (er e).v ∧ Q w w' := by
  have J := bb3_new w a b
  have HU := hid (fun W (q : Q w W) => counted_any a W (hw.on q) ha)
  have HU' := hid (fun W (q : Q w W) => counted_any b W (hw.on q) hb)
  have hxs := ctd_sm ha
  have hzs := ctd_sm hb
  rw [hx] at HU hxs
  rw [hz] at HU' hzs
  have HWo := hid (worst2_any x z w hw hxs hzs)
  rw [he] at HWo
  have hne' : (e != 0) = true := bne_iff_ne.2 hne
  have HF := hid (fun W => failure_any e W)
  simp only [er] at HF ⊢
  clear he hne
  clear hw ha hb hx hz hxs hzs
  obtain ⟨ak, an, at', ab, ae⟩ := a
  obtain ⟨bk, bn, bt, bb, be⟩ := b
  have HS := hid (fun W (J : Bb3 w ⟨ak, an, at', ab, ae⟩ ⟨bk, bn, bt, bb, be⟩ W) => J.setTwo x z)
  obtain ⟨xk, xn, xt, xb, xe⟩ := x
  obtain ⟨zk, zn, zt, zb, ze⟩ := z
  simp only [Cv.v, vv] at *
  go_enter Tryz.func12, Tryz.ntmps12
  go_upto_region 1 with fail
  go_cut [] from 8 to 11 (fun W => Bb3 w ⟨xk, xn, xt, xb, xe⟩ ⟨zk, zn, zt, zb, ze⟩ W)
  case first =>
    have ix0 := J.x.c0
    have ix1 := J.x.c1
    have ix2 := J.x.c2
    have ix3 := J.x.c3
    have ix4 := J.x.c4
    have iy0 := J.y.c0
    have iy1 := J.y.c1
    have iy2 := J.y.c2
    have iy3 := J.y.c3
    have iy4 := J.y.c4
    go_region_with (first
      | (go_at_call_of 26 at'; refine (HU.out _ J.drew.q).mono ?_; rintro x w2 ⟨rfl, q2⟩; replace J := (J.drew).on q2; clear q2; have px0 := J.x.c0; have px1 := J.x.c1; have px2 := J.x.c2; have px3 := J.x.c3; have px4 := J.x.c4; have py0 := J.y.c0; have py1 := J.y.c1; have py2 := J.y.c2; have py3 := J.y.c3; have py4 := J.y.c4)
      | (go_at_call_of 26 bt; refine (HU'.out _ J.q).mono ?_; rintro x w3 ⟨rfl, q2⟩; replace J := J.on q2; clear q2; have sx0 := J.x.c0; have sx1 := J.x.c1; have sx2 := J.x.c2; have sx3 := J.x.c3; have sx4 := J.x.c4; have sy0 := J.y.c0; have sy1 := J.y.c1; have sy2 := J.y.c2; have sy3 := J.y.c3; have sy4 := J.y.c4; have sfx0 := J.x.f0; have sfx1 := J.x.f1; have sfx2 := J.x.f2; have sfx3 := J.x.f3; have sfx4 := J.x.f4; have sfy0 := J.y.f0; have sfy1 := J.y.f1; have sfy2 := J.y.f2; have sfy3 := J.y.f3; have sfy4 := J.y.f4))
    all_goals
      go_wp2_with fail
      go_meet
      case rel => exact HS.out _ J
  case rest =>
    have J := hcut
    clear hcut
    have tx0 := J.x.c0
    have tx1 := J.x.c1
    have tx2 := J.x.c2
    have tx3 := J.x.c3
    have tx4 := J.x.c4
    have ty0 := J.y.c0
    have ty1 := J.y.c1
    have ty2 := J.y.c2
    have ty3 := J.y.c3
    have ty4 := J.y.c4
    go_wp2_with (first
      | (go_at_call 27; refine (HWo.out _ J.q).mono ?_; rintro r w4 ⟨rfl, q2⟩; replace J := J.on q2; clear q2; have ux0 := J.x.c0; have ux1 := J.x.c1; have ux2 := J.x.c2; have ux3 := J.x.c3; have ux4 := J.x.c4; have uy0 := J.y.c0; have uy1 := J.y.c1; have uy2 := J.y.c2; have uy3 := J.y.c3; have uy4 := J.y.c4)
      | (go_at_call 28; refine (HF.out _).mono ?_; rintro r w5 ⟨rfl, q2⟩; replace J := J.on q2; clear q2; have rz0 := J.z.c0; have rz1 := J.z.c1; have rz2 := J.z.c2; have rz3 := J.z.c3; have rz4 := J.z.c4; have rfz0 := J.z.f0; have rfz1 := J.z.f1; have rfz2 := J.z.f2; have rfz3 := J.z.f3; have rfz4 := J.z.f4))
    exact bodyPost_ret (v := .agg #[.int .i64 4, .int .i64 0, .string ⟨#[]⟩, .bool false, .int .i64 e]) (by simp [results, Tryz.results12, go_sem, rz0, rz1, rz2, rz3, rz4]) rfl ⟨rfl, Q5 J.q (by omega)⟩
end Go.Proofs.YtfmlhdpcdjkelaaGreatDoor
namespace Go.Proofs.YtfmlhdpcdjkelaaGreatDoor
open Go.RowKit
set_option linter.unusedVariables false
set_option linter.unusedSimpArgs false

def mnS (a x : Int) : Int := if x < a then x else a
def mxS (a x : Int) : Int := if a < x then x else a
def mnL (l : List Int) : Int := l.tail.foldl mnS (l.getD 0 0)
def mxL (l : List Int) : Int := l.tail.foldl mxS (l.getD 0 0)
theorem take1_tail (l : List Int) : (l.take 1).tail = [] := by
  cases l with
  | nil => rfl
  | cons a l => rfl
theorem tail_take (l : List Int) (k : Nat) (h0 : 0 < k) (hk : k < l.length) : (l.take (k + 1)).tail = (l.take k).tail ++ [l[k]] := by
  rw [List.take_succ_eq_append_getElem hk, List.tail_append_of_ne_nil (by intro h; have h2 : (l.take k).length = 0 := (by rw [h]; rfl); rw [List.length_take] at h2; omega)]

set_option maxHeartbeats 2000000 in
theorem smin_sl (l : List Int) (v : Value) (w : World) (h : Sl encN 1 w v l) (hm : l.length ≤ 1000000) (h0 : 0 < l.length) :
    Calls Tryz.prog 109 #[v] w fun e w' => e = .returned (.int .i64 (mnL l)) ∧ w' = w := by
  obtain ⟨ao, cap, rfl, h1, h2, h3⟩ := h
  obtain ⟨b, off, rfl, hc⟩ := h3 h0
  have HC : Hid (∀ i (hi : i < l.length), w.cell? ⟨b, off + i, none⟩ = some (.int .i64 l[i])) := hid (fun i hi => by have := hc i hi 0 _ rfl; simpa using this)
  have c0 : w.cell? ⟨b, off, none⟩ = some (.int .i64 l[0]) := by have := HC.out 0 h0; simpa using this
  obtain ⟨n, hn⟩ : ∃ n, l.length = n := ⟨_, rfl⟩
  have HN := hid hn
  have hz : Hid (mnL l = l.tail.foldl mnS l[0]) := hid (by unfold mnL; rw [List.getD_eq_getElem?_getD, List.getElem?_eq_getElem h0]; rfl)
  obtain ⟨T, hT⟩ : ∃ T, mnL l = T := ⟨_, rfl⟩
  have HT := hid (hz.out.symm.trans hT)
  rw [hT, hn]
  rw [hn] at h1 hm
  have hn1 : ¬ (n : Int) < 1 := by omega
  clear hc h3 hT hz
  generalize hl0 : l[0] = z0 at c0 HT
  have hst : Hid (z0 = ((l.take 1).tail).foldl mnS z0) := hid (by rw [take1_tail]; rfl)
  clear hl0 hn
  have hnpos : 0 < n := by have := HN.out; omega
  clear h0
  go_enter Tryz.func109, Tryz.ntmps109
  go_wp2
  go_loop [3, 4] (fun a i => ∃ (k : Nat) (z : Int), 1 ≤ k ∧ k ≤ n ∧ i = .int .i64 k ∧ a = .int .i64 z ∧ Hid (z = ((l.take k).tail).foldl mnS z0)) (fun _ i => n - (intOf i).toNat)
  case atStart => exact ⟨1, z0, by omega, by omega, rfl, rfl, hst⟩
  case round =>
    obtain ⟨k, z, hk1, hk, rfl, rfl, hzz⟩ := hrel
    by_cases hlt : k < n
    · have hkp : k < l.length := by have := HN.out; omega
      have cc := HC.out k hkp
      have hS : Hid (((l.take (k + 1)).tail).foldl mnS z0 = mnS z l[k]) := hid (by rw [tail_take l k (by omega) hkp, List.foldl_append, ← hzz.out]; rfl)
      generalize l[k] = x at cc hS
      have hkl : (k : Int) < (n : Int) := by omega
      by_cases hx : x < z
      · have HZ : Hid (x = ((l.take (k + 1)).tail).foldl mnS z0) := hid (by rw [hS.out]; unfold mnS; rw [if_pos hx])
        have hmin : min z x = x := by omega
        clear hS
        go_wp2
        go_round
        case rel => exact ⟨k + 1, x, by omega, by omega, by go_num, rfl, HZ⟩
        case measure => simp [intOf]; omega
      · have HZ : Hid (z = ((l.take (k + 1)).tail).foldl mnS z0) := hid (by rw [hS.out]; unfold mnS; rw [if_neg hx])
        have hmin : min z x = z := by omega
        clear hS
        go_wp2
        go_round
        case rel => exact ⟨k + 1, z, by omega, by omega, by go_num, rfl, HZ⟩
        case measure => simp [intOf]; omega
    · have hkn : k = n := by omega
      subst hkn
      have HE : Hid (z = T) := hid (by rw [hzz.out, List.take_of_length_le (by have := HN.out; omega)]; exact HT.out)
      have hkl : ¬ (k : Int) < (k : Int) := by omega
      go_wp2
      go_ret
      exact ⟨ret_int HE.out, rfl⟩

set_option maxHeartbeats 2000000 in
theorem smax_sl (l : List Int) (v : Value) (w : World) (h : Sl encN 1 w v l) (hm : l.length ≤ 1000000) (h0 : 0 < l.length) :
    Calls Tryz.prog 110 #[v] w fun e w' => e = .returned (.int .i64 (mxL l)) ∧ w' = w := by
  obtain ⟨ao, cap, rfl, h1, h2, h3⟩ := h
  obtain ⟨b, off, rfl, hc⟩ := h3 h0
  have HC : Hid (∀ i (hi : i < l.length), w.cell? ⟨b, off + i, none⟩ = some (.int .i64 l[i])) := hid (fun i hi => by have := hc i hi 0 _ rfl; simpa using this)
  have c0 : w.cell? ⟨b, off, none⟩ = some (.int .i64 l[0]) := by have := HC.out 0 h0; simpa using this
  obtain ⟨n, hn⟩ : ∃ n, l.length = n := ⟨_, rfl⟩
  have HN := hid hn
  have hz : Hid (mxL l = l.tail.foldl mxS l[0]) := hid (by unfold mxL; rw [List.getD_eq_getElem?_getD, List.getElem?_eq_getElem h0]; rfl)
  obtain ⟨T, hT⟩ : ∃ T, mxL l = T := ⟨_, rfl⟩
  have HT := hid (hz.out.symm.trans hT)
  rw [hT, hn]
  rw [hn] at h1 hm
  have hn1 : ¬ (n : Int) < 1 := by omega
  clear hc h3 hT hz
  generalize hl0 : l[0] = z0 at c0 HT
  have hst : Hid (z0 = ((l.take 1).tail).foldl mxS z0) := hid (by rw [take1_tail]; rfl)
  clear hl0 hn
  have hnpos : 0 < n := by have := HN.out; omega
  clear h0
  go_enter Tryz.func110, Tryz.ntmps110
  go_wp2
  go_loop [3, 4] (fun a i => ∃ (k : Nat) (z : Int), 1 ≤ k ∧ k ≤ n ∧ i = .int .i64 k ∧ a = .int .i64 z ∧ Hid (z = ((l.take k).tail).foldl mxS z0)) (fun _ i => n - (intOf i).toNat)
  case atStart => exact ⟨1, z0, by omega, by omega, rfl, rfl, hst⟩
  case round =>
    obtain ⟨k, z, hk1, hk, rfl, rfl, hzz⟩ := hrel
    by_cases hlt : k < n
    · have hkp : k < l.length := by have := HN.out; omega
      have cc := HC.out k hkp
      have hS : Hid (((l.take (k + 1)).tail).foldl mxS z0 = mxS z l[k]) := hid (by rw [tail_take l k (by omega) hkp, List.foldl_append, ← hzz.out]; rfl)
      generalize l[k] = x at cc hS
      have hkl : (k : Int) < (n : Int) := by omega
      by_cases hx : z < x
      · have HZ : Hid (x = ((l.take (k + 1)).tail).foldl mxS z0) := hid (by rw [hS.out]; unfold mxS; rw [if_pos hx])
        have hmin : max z x = x := by omega
        clear hS
        go_wp2
        go_round
        case rel => exact ⟨k + 1, x, by omega, by omega, by go_num, rfl, HZ⟩
        case measure => simp [intOf]; omega
      · have HZ : Hid (z = ((l.take (k + 1)).tail).foldl mxS z0) := hid (by rw [hS.out]; unfold mxS; rw [if_neg hx])
        have hmin : max z x = z := by omega
        clear hS
        go_wp2
        go_round
        case rel => exact ⟨k + 1, z, by omega, by omega, by go_num, rfl, HZ⟩
        case measure => simp [intOf]; omega
    · have hkn : k = n := by omega
      subst hkn
      have HE : Hid (z = T) := hid (by rw [hzz.out, List.take_of_length_le (by have := HN.out; omega)]; exact HT.out)
      have hkl : ¬ (k : Int) < (k : Int) := by omega
      go_wp2
      go_ret
      exact ⟨ret_int HE.out, rfl⟩

/-- least, greatest of numbers -/
def leV (l : List Int) : Cv := nu (if l.length = 0 then 0 else mnL l)
def grV (l : List Int) : Cv := nu (if l.length = 0 then 0 else mxL l)

set_option maxHeartbeats 1000000 in
theorem bmin_any (l : List Int) (v : Value) (w : World) (h : Sl encN 1 w v l) (hm : l.length ≤ 1000000) : Calls Tryz.prog 70 #[v] w fun r w' => r = .returned (leV l).v ∧ Q w w' := by
  have HB := hid (bxz w)
  have HS := hid (fun (h0 : 0 < l.length) W (q : Q w W) => smin_sl l v W (h.on q) hm h0)
  obtain ⟨ao, cap, rfl, _, _⟩ := h.len
  unfold leV
  rcases Nat.eq_zero_or_pos l.length with h0 | h0
  · rw [if_pos h0]
    have HN := hid (fun W => number_any 0 W)
    have e : ((l.length : Nat) : Int) = 0 := by omega
    rw [h0]
    clear h HS hm h0 e
    simp only [Cv.v, vv, nu] at *
    go_enter Tryz.func70, Tryz.ntmps70
    go_wp2_with (go_at_call 43; refine (HN.out _).mono ?_; rintro x w2 ⟨rfl, q1⟩; have B2 := HB.out.on q1; have Q2 : Hid (Q w w2) := hid (((Q.refl _).alloc _).trans q1); clear q1; obtain ⟨d0, d1, d2, d3, d4, y0, y1, y2, y3, y4, _⟩ := B2)
    exact bodyPost_ret (v := .agg #[.int .i64 1, .int .i64 0, .string ⟨#[]⟩, .bool false, .int .i64 0]) (by simp [results, Tryz.results70, go_sem, d0, d1, d2, d3, d4]) rfl ⟨rfl, Q5 Q2.out (Nat.le_refl _)⟩
  · rw [if_neg (by omega)]
    have HS' := hid (HS.out h0)
    have HN := hid (fun W => number_any (mnL l) W)
    generalize mnL l = m at *
    generalize l.length = n at *
    have hn0 : ((n : Int) == 0) = false := by simp; omega
    clear h HS hm
    simp only [Cv.v, vv, nu] at *
    go_enter Tryz.func70, Tryz.ntmps70
    go_wp2_with (first
      | (go_at_call 109; refine (HS'.out _ ((Q.refl _).alloc _)).mono ?_; rintro x w1 ⟨rfl, h3⟩; replace h3 := h3.symm; subst h3)
      | (go_at_call 43; refine (HN.out _).mono ?_; rintro x w2 ⟨rfl, q1⟩; have B2 := HB.out.on q1; have Q2 : Hid (Q w w2) := hid (((Q.refl _).alloc _).trans q1); clear q1; obtain ⟨d0, d1, d2, d3, d4, y0, y1, y2, y3, y4, _⟩ := B2))
    exact bodyPost_ret (v := .agg #[.int .i64 1, .int .i64 m, .string ⟨#[]⟩, .bool false, .int .i64 0]) (by simp [results, Tryz.results70, go_sem, d0, d1, d2, d3, d4]) rfl ⟨rfl, Q5 Q2.out (Nat.le_refl _)⟩

set_option maxHeartbeats 1000000 in
theorem bmax_any (l : List Int) (v : Value) (w : World) (h : Sl encN 1 w v l) (hm : l.length ≤ 1000000) : Calls Tryz.prog 71 #[v] w fun r w' => r = .returned (grV l).v ∧ Q w w' := by
  have HB := hid (bxz w)
  have HS := hid (fun (h0 : 0 < l.length) W (q : Q w W) => smax_sl l v W (h.on q) hm h0)
  obtain ⟨ao, cap, rfl, _, _⟩ := h.len
  unfold grV
  rcases Nat.eq_zero_or_pos l.length with h0 | h0
  · rw [if_pos h0]
    have HN := hid (fun W => number_any 0 W)
    have e : ((l.length : Nat) : Int) = 0 := by omega
    rw [h0]
    clear h HS hm h0 e
    simp only [Cv.v, vv, nu] at *
    go_enter Tryz.func71, Tryz.ntmps71
    go_wp2_with (go_at_call 43; refine (HN.out _).mono ?_; rintro x w2 ⟨rfl, q1⟩; have B2 := HB.out.on q1; have Q2 : Hid (Q w w2) := hid (((Q.refl _).alloc _).trans q1); clear q1; obtain ⟨d0, d1, d2, d3, d4, y0, y1, y2, y3, y4, _⟩ := B2)
    exact bodyPost_ret (v := .agg #[.int .i64 1, .int .i64 0, .string ⟨#[]⟩, .bool false, .int .i64 0]) (by simp [results, Tryz.results71, go_sem, d0, d1, d2, d3, d4]) rfl ⟨rfl, Q5 Q2.out (Nat.le_refl _)⟩
  · rw [if_neg (by omega)]
    have HS' := hid (HS.out h0)
    have HN := hid (fun W => number_any (mxL l) W)
    generalize mxL l = m at *
    generalize l.length = n at *
    have hn0 : ((n : Int) == 0) = false := by simp; omega
    clear h HS hm
    simp only [Cv.v, vv, nu] at *
    go_enter Tryz.func71, Tryz.ntmps71
    go_wp2_with (first
      | (go_at_call 110; refine (HS'.out _ ((Q.refl _).alloc _)).mono ?_; rintro x w1 ⟨rfl, h3⟩; replace h3 := h3.symm; subst h3)
      | (go_at_call 43; refine (HN.out _).mono ?_; rintro x w2 ⟨rfl, q1⟩; have B2 := HB.out.on q1; have Q2 : Hid (Q w w2) := hid (((Q.refl _).alloc _).trans q1); clear q1; obtain ⟨d0, d1, d2, d3, d4, y0, y1, y2, y3, y4, _⟩ := B2))
    exact bodyPost_ret (v := .agg #[.int .i64 1, .int .i64 m, .string ⟨#[]⟩, .bool false, .int .i64 0]) (by simp [results, Tryz.results71, go_sem, d0, d1, d2, d3, d4]) rfl ⟨rfl, Q5 Q2.out (Nat.le_refl _)⟩

set_option maxHeartbeats 1000000 in
theorem whole_any (n : Int) (w : World) (hn : Fx n) : Calls Tryz.prog 111 #[.int .i64 n] w fun r w' => r = .returned (resV (n * 10000)).v ∧ Q w w' := by
  have HB := hid (bxz w)
  have HI := hid (fun W => int_any n W hn)
  have HR := hid (fun W => result_any (keep (n * 10000)) (fitB (n * 10000)) W)
  unfold resV
  generalize (if fitB (n * 10000) = true then nu (keep (n * 10000)) else er 4) = y at *
  generalize keep (n * 10000) = c1 at *
  generalize fitB (n * 10000) = c2 at *
  obtain ⟨yk, yn, yt, yb, ye⟩ := y
  clear hn
  simp only [Cv.v, vv] at *
  go_enter Tryz.func111, Tryz.ntmps111
  go_wp2_with (first
    | (go_at_call 129; refine (HI.out _).mono ?_; rintro x w1 ⟨rfl, h3⟩; replace h3 := h3.symm; subst h3)
    | (go_at_call 48; refine (HR.out _).mono ?_; rintro x w2 ⟨rfl, q1⟩; have B2 := HB.out.on q1; have Q2 : Hid (Q w w2) := hid (((Q.refl _).alloc _).trans q1); clear q1; obtain ⟨d0, d1, d2, d3, d4, y0, y1, y2, y3, y4, _⟩ := B2))
  exact bodyPost_ret (v := .agg #[.int .i64 yk, .int .i64 yn, .string yt, .bool yb, .int .i64 ye]) (by simp [results, Tryz.results111, go_sem, d0, d1, d2, d3, d4]) rfl ⟨rfl, Q5 Q2.out (Nat.le_refl _)⟩
/-- how many -/
def coV (l : List Int) : Cv := resV ((l.length : Int) * 10000)
set_option maxHeartbeats 1000000 in
theorem bcount_any (l : List Int) (v : Value) (w : World) (h : Sl encN 1 w v l) (hm : l.length ≤ 1000000) : Calls Tryz.prog 72 #[v] w fun r w' => r = .returned (coV l).v ∧ Q w w' := by
  have HB := hid (bxz w)
  have HW := hid (fun W => whole_any (l.length : Int) W ⟨by omega, by omega⟩)
  obtain ⟨ao, cap, rfl, _, _⟩ := h.len
  unfold coV
  generalize resV ((l.length : Int) * 10000) = y at *
  generalize l.length = n at *
  obtain ⟨yk, yn, yt, yb, ye⟩ := y
  clear h
  simp only [Cv.v, vv] at *
  go_enter Tryz.func72, Tryz.ntmps72
  go_wp2_with (go_at_call 111; refine (HW.out _).mono ?_; rintro x w2 ⟨rfl, q1⟩; have B2 := HB.out.on q1; have Q2 : Hid (Q w w2) := hid (((Q.refl _).alloc _).trans q1); clear q1; obtain ⟨d0, d1, d2, d3, d4, y0, y1, y2, y3, y4, _⟩ := B2)
  exact bodyPost_ret (v := .agg #[.int .i64 yk, .int .i64 yn, .string yt, .bool yb, .int .i64 ye]) (by simp [results, Tryz.results72, go_sem, d0, d1, d2, d3, d4]) rfl ⟨rfl, Q5 Q2.out (Nat.le_refl _)⟩
/-- the average -/
def avV (l : List Int) : Cv := if fitB l.sum = true then (if l.length = 0 then er 3 else resV (divV (keep l.sum) ((l.length : Int) * 10000))) else er 4
theorem keep_fx (r : Int) : Fx (keep r) := by
  unfold keep
  split
  · rename_i h; exact fit_of h
  · exact ⟨by omega, by omega⟩
theorem coV_nu (l : List Int) (hm : l.length ≤ 1000000) : coV l = nu ((l.length : Int) * 10000) := resV_yes ⟨by omega, by omega⟩
theorem avg_bin (l : List Int) (hm : l.length ≤ 1000000) (w : World) (hw : Std2 w) : Calls Tryz.prog 12 #[.string ⟨#[47]⟩, (sumV l).v, (coV l).v] w fun r w' => r = .returned (avV l).v ∧ Q w w' := by
  rw [coV_nu l hm]
  unfold sumV avV
  by_cases hf : fitB l.sum = true
  · rw [if_pos hf, if_pos hf]
    by_cases h0 : l.length = 0
    · rw [if_pos h0]
      refine bin_div (nu (keep l.sum)) (nu ((l.length : Int) * 10000)) (nu (keep l.sum)) (nu ((l.length : Int) * 10000)) (er 3) w hw nil_sm nil_sm (ctd_may (nu_may _)) (ctd_may (nu_may _)) rfl (fun W q => ?_)
      exact calc_div0 ⟨#[47]⟩ _ _ (keep l.sum) ((l.length : Int) * 10000) 0 0 W (fun V g => number_nu _ V (hw.on (q.trans g))) (fun V g => number_nu _ V (hw.on (q.trans g))) (by omega)
    · rw [if_neg h0]
      refine bin_div (nu (keep l.sum)) (nu ((l.length : Int) * 10000)) (nu (keep l.sum)) (nu ((l.length : Int) * 10000)) _ w hw nil_sm nil_sm (ctd_may (nu_may _)) (ctd_may (nu_may _)) rfl (fun W q => ?_)
      exact calc_div _ _ (keep l.sum) ((l.length : Int) * 10000) W (fun V g => number_nu _ V (hw.on (q.trans g))) (fun V g => number_nu _ V (hw.on (q.trans g))) (keep_fx _) ⟨by omega, by omega⟩ (beq_eq_false_iff_ne.2 (by omega))
  · rw [if_neg hf, if_neg hf]
    exact bin_err (er 4) (nu ((l.length : Int) * 10000)) (er 4) (nu ((l.length : Int) * 10000)) w hw nil_sm nil_sm (ctd_may (er_may 4 (by omega) (by omega))) (ctd_may (nu_may _)) ⟨#[47]⟩ 4 (by
      show wstep (wstep 0 (er 4)) (nu ((l.length : Int) * 10000)) = 4
      rw [wstep_mn 0 _ (by omega), zero_mn, show ev (er 4) = 4 from (by unfold ev; rw [if_pos ⟨rfl, er_may 4 (by omega) (by omega)⟩]; rfl), wstep_mn 4 _ (by omega), show ev (nu ((l.length : Int) * 10000)) = 0 from (by unfold ev; rw [if_neg (fun h => absurd (show (1 : Int) = 4 from h.1) (by decide))])]
      rfl) (by omega)
set_option maxHeartbeats 1000000 in
theorem baverage_any (l : List Int) (v : Value) (w : World) (hw : Std2 w) (h : Sl encN 1 w v l) (hm : l.length ≤ 1000000) (hf : ∀ x ∈ l, Fx x) : Calls Tryz.prog 73 #[v] w fun r w' => r = .returned (avV l).v ∧ Q w w' := by
  have HB := hid (bxz w)
  have HS := hid (fun W (q : Q w W) => bsum_any l v W (h.on q) hm hf)
  have HC := hid (fun W (q : Q w W) => bcount_any l v W (h.on q) hm)
  have HD := hid (fun W (q : Q w W) => avg_bin l hm W (hw.on q))
  obtain ⟨ao, cap, rfl, _, _⟩ := h.len
  generalize sumV l = a at *
  generalize coV l = b at *
  generalize avV l = y at *
  obtain ⟨ak, an, at', ab, ae⟩ := a
  obtain ⟨bk, bn, bt, bb, be⟩ := b
  obtain ⟨yk, yn, yt, yb, ye⟩ := y
  generalize l.length = n at *
  clear h hf hw
  simp only [Cv.v, vv] at *
  go_enter Tryz.func73, Tryz.ntmps73
  go_wp2_with (first
    | (go_at_call 69; refine (HS.out _ ((Q.refl _).alloc _)).mono ?_; rintro x w1 ⟨rfl, q1⟩; have B1 := HB.out.on q1; have Q1 : Hid (Q w w1) := hid (((Q.refl _).alloc _).trans q1); clear q1)
    | (go_at_call 72; refine (HC.out _ Q1.out).mono ?_; rintro x w2 ⟨rfl, q1⟩; have B2 := B1.on q1; have Q2 : Hid (Q w w2) := hid (Q1.out.trans q1); clear q1)
    | (go_at_call 12; refine (HD.out _ Q2.out).mono ?_; rintro x w3 ⟨rfl, q1⟩; have Q3 : Hid (Q w w3) := hid (Q2.out.trans q1); obtain ⟨d0, d1, d2, d3, d4, y0, y1, y2, y3, y4, _⟩ := B2.on q1; clear q1))
  exact bodyPost_ret (v := .agg #[.int .i64 yk, .int .i64 yn, .string yt, .bool yb, .int .i64 ye]) (by simp [results, Tryz.results73, go_sem, d0, d1, d2, d3, d4]) rfl ⟨rfl, Q5 Q3.out (Nat.le_refl _)⟩
end Go.Proofs.YtfmlhdpcdjkelaaGreatDoor
namespace Go.Proofs.YtfmlhdpcdjkelaaGreatDoor
open Go.RowKit
set_option linter.unusedVariables false
set_option linter.unusedSimpArgs false

set_option maxHeartbeats 2000000 in
theorem agg70 (p : Nat) (A : List Ag) (v : Value) (y : Cv) (w : World) (hw : Std2 w) (hp : w.cell? ⟨p, 0, none⟩ = some (.func (.func 70) #[] #[])) (h : Args w v A) (hm : A.length ≤ 1000) (hs : ∀ a ∈ A, a.l.length ≤ 1000 ∧ ∀ x ∈ a.l, x.sm) (hz : worst (A.flatMap (·.l)) = 0)
    (HG : ∀ W s, Q w W → Sl encN 1 W s (nums (A.flatMap (·.l))) → Calls Tryz.prog 70 #[s] W fun r W' => r = .returned y.v ∧ Q W W') :
    Calls Tryz.prog 105 #[v, .pointer (some ⟨p, 0, none⟩)] w fun r w' => r = .returned y.v ∧ Q w w' := by
  have HB := hid (bxz w)
  have HW := hid (fun W (g : Q w W) => aworst_any A v W (hw.on g) (h.on g) hm hs)
  have HN := hid (fun W (g : Q w W) => numbers_any A v W (hw.on g) (h.on g) hm hs)
  have HG' := hid HG
  rw [hz] at HW
  have HP := hid (fun W (g : Q w W) => fcell hp g)
  have hpl := World.block_lt_of_cell? w _ hp
  obtain ⟨ao, cap, rfl, _, _⟩ := h.sl.len
  generalize A.length = ln at *
  obtain ⟨yk, yn, yt, yb, ye⟩ := y
  clear hw hp h hm hs hz HG
  simp only [Cv.v, vv] at *
  go_enter Tryz.func105, Tryz.ntmps105
  go_wp2_with (go_at_call 106; refine (HW.out _ ((Q.refl _).alloc _)).mono ?_; rintro x w1 ⟨rfl, q1⟩; have B1 := hid (HB.out.on q1); have Q1 : Hid (Q w w1) := hid (((Q.refl _).alloc _).trans q1); clear q1; have cp := HP.out _ Q1.out; have cpd := HP.out _ (Q1.out.drew))
  go_region_with (first
    | (go_at_call 107; first | (refine (HN.out _ Q1.out).mono ?_; rintro x w2 ⟨s, rfl, S2, q2⟩; have SS := hid S2; have B2 := hid (B1.out.on q2); have Q2 := hid (Q1.out.trans q2); clear S2 q2; have cp2 := HP.out _ Q2.out; have cp2d := HP.out _ (Q2.out.drew)) | (refine (HN.out _ Q1.out.drew).mono ?_; rintro x w2 ⟨s, rfl, S2, q2⟩; have SS := hid S2; have B2 := hid ((B1.out.on ((Q.refl _).drew)).on q2); have Q2 := hid (Q1.out.drew.trans q2); clear S2 q2; have cp2 := HP.out _ Q2.out; have cp2d := HP.out _ (Q2.out.drew)))
    | (go_at_call 70; first | (refine (HG'.out _ _ Q2.out SS.out).mono ?_; rintro x w3 ⟨rfl, q3⟩; have Q3 := hid (Q2.out.trans q3); obtain ⟨d0, d1, d2, d3, d4, y0, y1, y2, y3, y4, _⟩ := B2.out.on q3; clear q3) | (refine (HG'.out _ _ Q2.out.drew (SS.out.on ((Q.refl _).drew))).mono ?_; rintro x w3 ⟨rfl, q3⟩; have Q3 := hid (Q2.out.drew.trans q3); obtain ⟨d0, d1, d2, d3, d4, y0, y1, y2, y3, y4, _⟩ := (B2.out.on ((Q.refl _).drew)).on q3; clear q3)))
  all_goals try go_wp2
  all_goals exact bodyPost_ret (v := .agg #[.int .i64 yk, .int .i64 yn, .string yt, .bool yb, .int .i64 ye]) (by simp [results, Tryz.results105, go_sem, d0, d1, d2, d3, d4]) rfl ⟨rfl, Q5 Q3.out (Nat.le_refl _)⟩

set_option maxHeartbeats 2000000 in
theorem agg71 (p : Nat) (A : List Ag) (v : Value) (y : Cv) (w : World) (hw : Std2 w) (hp : w.cell? ⟨p, 0, none⟩ = some (.func (.func 71) #[] #[])) (h : Args w v A) (hm : A.length ≤ 1000) (hs : ∀ a ∈ A, a.l.length ≤ 1000 ∧ ∀ x ∈ a.l, x.sm) (hz : worst (A.flatMap (·.l)) = 0)
    (HG : ∀ W s, Q w W → Sl encN 1 W s (nums (A.flatMap (·.l))) → Calls Tryz.prog 71 #[s] W fun r W' => r = .returned y.v ∧ Q W W') :
    Calls Tryz.prog 105 #[v, .pointer (some ⟨p, 0, none⟩)] w fun r w' => r = .returned y.v ∧ Q w w' := by
  have HB := hid (bxz w)
  have HW := hid (fun W (g : Q w W) => aworst_any A v W (hw.on g) (h.on g) hm hs)
  have HN := hid (fun W (g : Q w W) => numbers_any A v W (hw.on g) (h.on g) hm hs)
  have HG' := hid HG
  rw [hz] at HW
  have HP := hid (fun W (g : Q w W) => fcell hp g)
  have hpl := World.block_lt_of_cell? w _ hp
  obtain ⟨ao, cap, rfl, _, _⟩ := h.sl.len
  generalize A.length = ln at *
  obtain ⟨yk, yn, yt, yb, ye⟩ := y
  clear hw hp h hm hs hz HG
  simp only [Cv.v, vv] at *
  go_enter Tryz.func105, Tryz.ntmps105
  go_wp2_with (go_at_call 106; refine (HW.out _ ((Q.refl _).alloc _)).mono ?_; rintro x w1 ⟨rfl, q1⟩; have B1 := hid (HB.out.on q1); have Q1 : Hid (Q w w1) := hid (((Q.refl _).alloc _).trans q1); clear q1; have cp := HP.out _ Q1.out; have cpd := HP.out _ (Q1.out.drew))
  go_region_with (first
    | (go_at_call 107; first | (refine (HN.out _ Q1.out).mono ?_; rintro x w2 ⟨s, rfl, S2, q2⟩; have SS := hid S2; have B2 := hid (B1.out.on q2); have Q2 := hid (Q1.out.trans q2); clear S2 q2; have cp2 := HP.out _ Q2.out; have cp2d := HP.out _ (Q2.out.drew)) | (refine (HN.out _ Q1.out.drew).mono ?_; rintro x w2 ⟨s, rfl, S2, q2⟩; have SS := hid S2; have B2 := hid ((B1.out.on ((Q.refl _).drew)).on q2); have Q2 := hid (Q1.out.drew.trans q2); clear S2 q2; have cp2 := HP.out _ Q2.out; have cp2d := HP.out _ (Q2.out.drew)))
    | (go_at_call 71; first | (refine (HG'.out _ _ Q2.out SS.out).mono ?_; rintro x w3 ⟨rfl, q3⟩; have Q3 := hid (Q2.out.trans q3); obtain ⟨d0, d1, d2, d3, d4, y0, y1, y2, y3, y4, _⟩ := B2.out.on q3; clear q3) | (refine (HG'.out _ _ Q2.out.drew (SS.out.on ((Q.refl _).drew))).mono ?_; rintro x w3 ⟨rfl, q3⟩; have Q3 := hid (Q2.out.drew.trans q3); obtain ⟨d0, d1, d2, d3, d4, y0, y1, y2, y3, y4, _⟩ := (B2.out.on ((Q.refl _).drew)).on q3; clear q3)))
  all_goals try go_wp2
  all_goals exact bodyPost_ret (v := .agg #[.int .i64 yk, .int .i64 yn, .string yt, .bool yb, .int .i64 ye]) (by simp [results, Tryz.results105, go_sem, d0, d1, d2, d3, d4]) rfl ⟨rfl, Q5 Q3.out (Nat.le_refl _)⟩

set_option maxHeartbeats 2000000 in
theorem agg72 (p : Nat) (A : List Ag) (v : Value) (y : Cv) (w : World) (hw : Std2 w) (hp : w.cell? ⟨p, 0, none⟩ = some (.func (.func 72) #[] #[])) (h : Args w v A) (hm : A.length ≤ 1000) (hs : ∀ a ∈ A, a.l.length ≤ 1000 ∧ ∀ x ∈ a.l, x.sm) (hz : worst (A.flatMap (·.l)) = 0)
    (HG : ∀ W s, Q w W → Sl encN 1 W s (nums (A.flatMap (·.l))) → Calls Tryz.prog 72 #[s] W fun r W' => r = .returned y.v ∧ Q W W') :
    Calls Tryz.prog 105 #[v, .pointer (some ⟨p, 0, none⟩)] w fun r w' => r = .returned y.v ∧ Q w w' := by
  have HB := hid (bxz w)
  have HW := hid (fun W (g : Q w W) => aworst_any A v W (hw.on g) (h.on g) hm hs)
  have HN := hid (fun W (g : Q w W) => numbers_any A v W (hw.on g) (h.on g) hm hs)
  have HG' := hid HG
  rw [hz] at HW
  have HP := hid (fun W (g : Q w W) => fcell hp g)
  have hpl := World.block_lt_of_cell? w _ hp
  obtain ⟨ao, cap, rfl, _, _⟩ := h.sl.len
  generalize A.length = ln at *
  obtain ⟨yk, yn, yt, yb, ye⟩ := y
  clear hw hp h hm hs hz HG
  simp only [Cv.v, vv] at *
  go_enter Tryz.func105, Tryz.ntmps105
  go_wp2_with (go_at_call 106; refine (HW.out _ ((Q.refl _).alloc _)).mono ?_; rintro x w1 ⟨rfl, q1⟩; have B1 := hid (HB.out.on q1); have Q1 : Hid (Q w w1) := hid (((Q.refl _).alloc _).trans q1); clear q1; have cp := HP.out _ Q1.out; have cpd := HP.out _ (Q1.out.drew))
  go_region_with (first
    | (go_at_call 107; first | (refine (HN.out _ Q1.out).mono ?_; rintro x w2 ⟨s, rfl, S2, q2⟩; have SS := hid S2; have B2 := hid (B1.out.on q2); have Q2 := hid (Q1.out.trans q2); clear S2 q2; have cp2 := HP.out _ Q2.out; have cp2d := HP.out _ (Q2.out.drew)) | (refine (HN.out _ Q1.out.drew).mono ?_; rintro x w2 ⟨s, rfl, S2, q2⟩; have SS := hid S2; have B2 := hid ((B1.out.on ((Q.refl _).drew)).on q2); have Q2 := hid (Q1.out.drew.trans q2); clear S2 q2; have cp2 := HP.out _ Q2.out; have cp2d := HP.out _ (Q2.out.drew)))
    | (go_at_call 72; first | (refine (HG'.out _ _ Q2.out SS.out).mono ?_; rintro x w3 ⟨rfl, q3⟩; have Q3 := hid (Q2.out.trans q3); obtain ⟨d0, d1, d2, d3, d4, y0, y1, y2, y3, y4, _⟩ := B2.out.on q3; clear q3) | (refine (HG'.out _ _ Q2.out.drew (SS.out.on ((Q.refl _).drew))).mono ?_; rintro x w3 ⟨rfl, q3⟩; have Q3 := hid (Q2.out.drew.trans q3); obtain ⟨d0, d1, d2, d3, d4, y0, y1, y2, y3, y4, _⟩ := (B2.out.on ((Q.refl _).drew)).on q3; clear q3)))
  all_goals try go_wp2
  all_goals exact bodyPost_ret (v := .agg #[.int .i64 yk, .int .i64 yn, .string yt, .bool yb, .int .i64 ye]) (by simp [results, Tryz.results105, go_sem, d0, d1, d2, d3, d4]) rfl ⟨rfl, Q5 Q3.out (Nat.le_refl _)⟩

set_option maxHeartbeats 2000000 in
theorem agg73 (p : Nat) (A : List Ag) (v : Value) (y : Cv) (w : World) (hw : Std2 w) (hp : w.cell? ⟨p, 0, none⟩ = some (.func (.func 73) #[] #[])) (h : Args w v A) (hm : A.length ≤ 1000) (hs : ∀ a ∈ A, a.l.length ≤ 1000 ∧ ∀ x ∈ a.l, x.sm) (hz : worst (A.flatMap (·.l)) = 0)
    (HG : ∀ W s, Q w W → Sl encN 1 W s (nums (A.flatMap (·.l))) → Calls Tryz.prog 73 #[s] W fun r W' => r = .returned y.v ∧ Q W W') :
    Calls Tryz.prog 105 #[v, .pointer (some ⟨p, 0, none⟩)] w fun r w' => r = .returned y.v ∧ Q w w' := by
  have HB := hid (bxz w)
  have HW := hid (fun W (g : Q w W) => aworst_any A v W (hw.on g) (h.on g) hm hs)
  have HN := hid (fun W (g : Q w W) => numbers_any A v W (hw.on g) (h.on g) hm hs)
  have HG' := hid HG
  rw [hz] at HW
  have HP := hid (fun W (g : Q w W) => fcell hp g)
  have hpl := World.block_lt_of_cell? w _ hp
  obtain ⟨ao, cap, rfl, _, _⟩ := h.sl.len
  generalize A.length = ln at *
  obtain ⟨yk, yn, yt, yb, ye⟩ := y
  clear hw hp h hm hs hz HG
  simp only [Cv.v, vv] at *
  go_enter Tryz.func105, Tryz.ntmps105
  go_wp2_with (go_at_call 106; refine (HW.out _ ((Q.refl _).alloc _)).mono ?_; rintro x w1 ⟨rfl, q1⟩; have B1 := hid (HB.out.on q1); have Q1 : Hid (Q w w1) := hid (((Q.refl _).alloc _).trans q1); clear q1; have cp := HP.out _ Q1.out; have cpd := HP.out _ (Q1.out.drew))
  go_region_with (first
    | (go_at_call 107; first | (refine (HN.out _ Q1.out).mono ?_; rintro x w2 ⟨s, rfl, S2, q2⟩; have SS := hid S2; have B2 := hid (B1.out.on q2); have Q2 := hid (Q1.out.trans q2); clear S2 q2; have cp2 := HP.out _ Q2.out; have cp2d := HP.out _ (Q2.out.drew)) | (refine (HN.out _ Q1.out.drew).mono ?_; rintro x w2 ⟨s, rfl, S2, q2⟩; have SS := hid S2; have B2 := hid ((B1.out.on ((Q.refl _).drew)).on q2); have Q2 := hid (Q1.out.drew.trans q2); clear S2 q2; have cp2 := HP.out _ Q2.out; have cp2d := HP.out _ (Q2.out.drew)))
    | (go_at_call 73; first | (refine (HG'.out _ _ Q2.out SS.out).mono ?_; rintro x w3 ⟨rfl, q3⟩; have Q3 := hid (Q2.out.trans q3); obtain ⟨d0, d1, d2, d3, d4, y0, y1, y2, y3, y4, _⟩ := B2.out.on q3; clear q3) | (refine (HG'.out _ _ Q2.out.drew (SS.out.on ((Q.refl _).drew))).mono ?_; rintro x w3 ⟨rfl, q3⟩; have Q3 := hid (Q2.out.drew.trans q3); obtain ⟨d0, d1, d2, d3, d4, y0, y1, y2, y3, y4, _⟩ := (B2.out.on ((Q.refl _).drew)).on q3; clear q3)))
  all_goals try go_wp2
  all_goals exact bodyPost_ret (v := .agg #[.int .i64 yk, .int .i64 yn, .string yt, .bool yb, .int .i64 ye]) (by simp [results, Tryz.results105, go_sem, d0, d1, d2, d3, d4]) rfl ⟨rfl, Q5 Q3.out (Nat.le_refl _)⟩

/-- what an aggregate answers: of all values -/
def aggY (i : Nat) (l : List Cv) : Cv := if worst l = 0 then (match i with | 0 => sumV (nums l) | 1 => leV (nums l) | 2 => grV (nums l) | 3 => coV (nums l) | _ => avV (nums l)) else er (worst l)
def agT (i : Nat) : ByteArray := match i with | 0 => ⟨#[83, 85, 77]⟩ | 1 => ⟨#[77, 73, 78]⟩ | 2 => ⟨#[77, 65, 88]⟩ | 3 => ⟨#[67, 79, 85, 78, 84]⟩ | _ => ⟨#[65, 86, 69, 82, 65, 71, 69]⟩
theorem nums_len (l : List Cv) : (nums l).length ≤ l.length := List.length_filterMap_le _ _
theorem nums_fx {l : List Cv} (h : ∀ x ∈ l, Fx x.n) : ∀ z ∈ nums l, Fx z := fun z hz => by
  obtain ⟨x, hx, e⟩ := List.mem_filterMap.1 hz
  unfold nf at e
  split at e
  · cases e; exact h x hx
  · cases e
theorem aggcall (i : Nat) (hi : i < 5) (A : List Ag) (ao : Option Addr) (n cap : Nat) (w : World) (hw : Std2 w) (h : Args w (.slice ao n cap) A) (hn : n ≤ 1000) (hm : A.length ≤ 1000) (hs : ∀ a ∈ A, a.l.length ≤ 1000 ∧ ∀ x ∈ a.l, x.sm) (hl : (A.flatMap (·.l)).length ≤ 1000000) (hf : ∀ x ∈ A.flatMap (·.l), Fx x.n) :
    Calls Tryz.prog 18 #[.string (agT i), .slice ao n cap] w fun r w' => r = .returned (aggY i (A.flatMap (·.l))).v ∧ Q w w' := by
  have hnl : (nums (A.flatMap (·.l))).length ≤ 1000000 := Nat.le_trans (nums_len _) hl
  have hnf := nums_fx hf
  by_cases hz : worst (A.flatMap (·.l)) = 0
  · rcases (by omega : i = 0 ∨ i = 1 ∨ i = 2 ∨ i = 3 ∨ i = 4) with rfl | rfl | rfl | rfl | rfl
    · have e : aggY 0 (A.flatMap (·.l)) = sumV (nums (A.flatMap (·.l))) := by unfold aggY; rw [if_pos hz]; rfl
      rw [e]
      exact call_sum ao n cap _ w (by omega) (by omega) (fun W f p hf q hv => agg69 p A _ _ W (hw.on q) (bag hf hv) (h.on q) hm hs hz (fun W' s g hs' => bsum_any _ s W' hs' hnl hnf))
    · have e : aggY 1 (A.flatMap (·.l)) = leV (nums (A.flatMap (·.l))) := by unfold aggY; rw [if_pos hz]; rfl
      rw [e]
      exact call_min ao n cap _ w (by omega) (by omega) (fun W f p hf q hv => agg70 p A _ _ W (hw.on q) (bag hf hv) (h.on q) hm hs hz (fun W' s g hs' => bmin_any _ s W' hs' hnl))
    · have e : aggY 2 (A.flatMap (·.l)) = grV (nums (A.flatMap (·.l))) := by unfold aggY; rw [if_pos hz]; rfl
      rw [e]
      exact call_max ao n cap _ w (by omega) (by omega) (fun W f p hf q hv => agg71 p A _ _ W (hw.on q) (bag hf hv) (h.on q) hm hs hz (fun W' s g hs' => bmax_any _ s W' hs' hnl))
    · have e : aggY 3 (A.flatMap (·.l)) = coV (nums (A.flatMap (·.l))) := by unfold aggY; rw [if_pos hz]; rfl
      rw [e]
      exact call_count ao n cap _ w (by omega) (by omega) (fun W f p hf q hv => agg72 p A _ _ W (hw.on q) (bag hf hv) (h.on q) hm hs hz (fun W' s g hs' => bcount_any _ s W' hs' hnl))
    · have e : aggY 4 (A.flatMap (·.l)) = avV (nums (A.flatMap (·.l))) := by unfold aggY; rw [if_pos hz]; rfl
      rw [e]
      exact call_average ao n cap _ w (by omega) (by omega) (fun W f p hf q hv => agg73 p A _ _ W (hw.on q) (bag hf hv) (h.on q) hm hs hz (fun W' s g hs' => baverage_any _ s W' (hw.on (q.trans g)) hs' hnl hnf))
  · have e : aggY i (A.flatMap (·.l)) = er (worst (A.flatMap (·.l))) := by unfold aggY; rw [if_neg hz]
    rw [e]
    rcases (by omega : i = 0 ∨ i = 1 ∨ i = 2 ∨ i = 3 ∨ i = 4) with rfl | rfl | rfl | rfl | rfl
    · exact call_sum ao n cap _ w (by omega) (by omega) (fun W f p hf q hv => agg_err p _ A _ W (hw.on q) (bag hf hv) (h.on q) hm hs hz)
    · exact call_min ao n cap _ w (by omega) (by omega) (fun W f p hf q hv => agg_err p _ A _ W (hw.on q) (bag hf hv) (h.on q) hm hs hz)
    · exact call_max ao n cap _ w (by omega) (by omega) (fun W f p hf q hv => agg_err p _ A _ W (hw.on q) (bag hf hv) (h.on q) hm hs hz)
    · exact call_count ao n cap _ w (by omega) (by omega) (fun W f p hf q hv => agg_err p _ A _ W (hw.on q) (bag hf hv) (h.on q) hm hs hz)
    · exact call_average ao n cap _ w (by omega) (by omega) (fun W f p hf q hv => agg_err p _ A _ W (hw.on q) (bag hf hv) (h.on q) hm hs hz)
end Go.Proofs.YtfmlhdpcdjkelaaGreatDoor
namespace Go.Proofs.YtfmlhdpcdjkelaaGreatDoor
open Go.RowKit
set_option linter.unusedVariables false
set_option linter.unusedSimpArgs false

theorem sl_take0 {W : World} {g n cap c : Nat} {X : List Cv} (h : Sl Cv.cells 5 W (.slice (some ⟨g, 0, none⟩) n cap) X) (hc : c ≤ X.length) : Sl Cv.cells 5 W (.slice (some ⟨g, 0, none⟩) c cap) (X.take c) := by
  obtain ⟨ao', cap', hv, h1, h2, h3⟩ := h
  simp only [Value.slice.injEq] at hv
  obtain ⟨rfl, rfl, rfl⟩ := hv
  refine ⟨_, cap, by rw [List.length_take, Nat.min_eq_left hc], by simp; omega, h2, fun hl => ⟨g, 0, rfl, fun i hi => ?_⟩⟩
  have hi' : i < c := by simp at hi; omega
  obtain ⟨b, off, e, hcc⟩ := h3 (by omega)
  simp only [Option.some.injEq, Addr.mk.injEq] at e
  obtain ⟨rfl, rfl, _⟩ := e
  have := hcc i (by omega)
  simpa using this
theorem sl_drop0 {W : World} {g n cap c : Nat} {X : List Cv} (h : Sl Cv.cells 5 W (.slice (some ⟨g, 0, none⟩) n cap) X) (hc : c ≤ X.length) : Sl Cv.cells 5 W (.slice (some ⟨g, c * 5, none⟩) (n - c) (cap - c)) (X.drop c) := by
  obtain ⟨ao', cap', hv, h1, h2, h3⟩ := h
  simp only [Value.slice.injEq] at hv
  obtain ⟨rfl, rfl, rfl⟩ := hv
  refine ⟨_, cap - c, by rw [List.length_drop], by simp; omega, by omega, fun hl => ⟨g, c * 5, rfl, fun i hi => ?_⟩⟩
  have hi' : c + i < X.length := by simp at hi; omega
  obtain ⟨b, off, e, hcc⟩ := h3 (by omega)
  simp only [Option.some.injEq, Addr.mk.injEq] at e
  obtain ⟨rfl, rfl, _⟩ := e
  have := hcc (c + i) hi'
  rw [show 0 + (c + i) * 5 = c * 5 + i * 5 by omega] at this
  simpa using this
theorem sl_empty {W : World} {ao : Option Addr} {cap : Nat} (h : cap ≤ maxLen) : Sl Cv.cells 5 W (.slice ao 0 cap) [] := ⟨ao, cap, rfl, Nat.zero_le _, h, fun hl => absurd hl (by simp)⟩
theorem cutAll_none (ao : Option Addr) (cap : Nat) (w : World) : Calls Tryz.prog 16 #[.slice ao 0 cap, .int .i64 12] w fun e w' => e = .returned (.slice none 0 0) ∧ w' = w := by
  go_enter Tryz.func16, Tryz.ntmps16
  go_wp2
  refine wp_loop_rounds 1 ?_
  rw [rounds_succ]
  go_wp2
  go_ret
  exact ⟨rfl, rfl⟩
theorem aggY_err {j : Nat} {X : List Cv} {e : Int} (h : worst X = e) (he : e ≠ 0) : aggY j X = er e := by unfold aggY; rw [h, if_neg he]
end Go.Proofs.YtfmlhdpcdjkelaaGreatDoor
