/- The reference's Binary, of values that may be; The reference's Binary, of values that may be; The reference's Binary, of values that may be; The reference's Binary, of values that may be; The reference's Binary, of values that may be; The reference's Binary, of values that may be; The reference's Binary, of values that may be; The reference's Binary, of values that may be; The reference's Binary, of values that may be; The reference's Binary, of values that may be; The reference's Binary, of values that may be; The reference's Binary, of values that may be. -/
import Derived.Test.YtfjpdopmojfchaaGreatDoorKr28
import Derived.Test.YtfjpdopmojfchaaGreatDoorKr34
import Derived.Test.YtfjpdopmojfchaaGreatDoorKr14
import Derived.Test.YtfjpdopmojfchaaGreatDoorKr09
import Derived.Deep.CutBlock
import Derived.Deep.RegionWith
set_option linter.unusedVariables false
set_option linter.unusedSimpArgs false
namespace Go.Proofs.YtfjpdopmojfchaaGreatDoor
open Go.RowKit
theorem rworst2_any (x z : Cv) (hx : x.sm) (hz : z.sm) : ∀ W, Calls Tryz.prog 22 #[.slice (some ⟨W.heap.size, 0, none⟩) 2 2] (W.alloc (.cells #[.int .i64 x.k, .int .i64 x.n, .string x.t, .bool x.b, .int .i64 x.e, .int .i64 z.k, .int .i64 z.n, .string z.t, .bool z.b, .int .i64 z.e] 37)) fun r W' => r = .returned (.int .i64 (worst [x, z])) ∧ Q W W' := fun W =>
  (rworst_sl [x, z] _ _ (sl_lit Cv.len W [x, z] 2 rfl (by omega) 37) (by simp) (fun y hy => by simp at hy; rcases hy with rfl | rfl; exact hx; exact hz)).mono fun r W' h => ⟨h.1, ((Q.refl _).alloc _).trans h.2⟩
set_option maxRecDepth 100000 in
set_option maxHeartbeats 8000000 in
theorem rbin_mul (a b : Cv) (w : World) (ha : a.sm) (hb : b.sm) (ma : a.may = true) (mb : b.may = true) (he : worst [a, b] = 0) (m n : Int) (HA : ∀ W, Calls Tryz.prog 49 #[a.v] W fun x W' => x = .returned (.tuple #[.int .i64 m, .int .i64 0]) ∧ Q W W') (HB : ∀ W, Calls Tryz.prog 49 #[b.v] W fun x W' => x = .returned (.tuple #[.int .i64 n, .int .i64 0]) ∧ Q W W') (hm : Fx m) (hn : Fx n) :
    Calls Tryz.prog 19 #[.string ⟨#[42]⟩, a.v, b.v] w fun r w' => r = .returned (resV (mulV m n)).v ∧ Q w w' := by
  have J := bb3_new w a b
  have HM := hid (fun W => rmayv_any a W ha)
  have HM' := hid (fun W => rmayv_any b W hb)
  rw [ma] at HM
  rw [mb] at HM'
  have HWo := hid (rworst2_any a b ha hb)
  rw [he] at HWo
  have HO := hid (fun W => rmul_any m n W hm hn)
  have HR := hid (fun W => rnum_any (keep (mulV m n)) (fitB (mulV m n)) W)
  have HA' := hid HA
  have HB' := hid HB
  unfold resV
  generalize (if fitB (mulV m n) = true then nu (keep (mulV m n)) else er 4) = y at *
  generalize keep (mulV m n) = c1 at *
  generalize fitB (mulV m n) = c2 at *
  obtain ⟨yk, yn, yt, yb, ye⟩ := y
  clear HA HB hm hn he
  clear ha hb ma mb
  obtain ⟨ak, an, at', ab, ae⟩ := a
  obtain ⟨bk, bn, bt, bb, be⟩ := b
  simp only [Cv.v, vv] at *
  go_enter Tryz.func19, Tryz.ntmps19
  go_wp2_with (first
    | (go_at_call_of 23 at'; refine (HM.out _).mono ?_; rintro r w1 ⟨rfl, q2⟩; replace J := J.on q2; clear q2; have px0 := J.x.c0; have px1 := J.x.c1; have px2 := J.x.c2; have px3 := J.x.c3; have px4 := J.x.c4; have py0 := J.y.c0; have py1 := J.y.c1; have py2 := J.y.c2; have py3 := J.y.c3; have py4 := J.y.c4)
    | (go_at_call_of 23 bt; refine (HM'.out _).mono ?_; rintro r w2 ⟨rfl, q2⟩; replace J := J.on q2; clear q2; have sx0 := J.x.c0; have sx1 := J.x.c1; have sx2 := J.x.c2; have sx3 := J.x.c3; have sx4 := J.x.c4; have sy0 := J.y.c0; have sy1 := J.y.c1; have sy2 := J.y.c2; have sy3 := J.y.c3; have sy4 := J.y.c4)
    | (go_at_call 22; refine (HWo.out _).mono ?_; rintro r w4 ⟨rfl, q2⟩; replace J := J.on q2; clear q2; have ux0 := J.x.c0; have ux1 := J.x.c1; have ux2 := J.x.c2; have ux3 := J.x.c3; have ux4 := J.x.c4; have uy0 := J.y.c0; have uy1 := J.y.c1; have uy2 := J.y.c2; have uy3 := J.y.c3; have uy4 := J.y.c4)
    | (go_at_call_of 49 at'; refine (HA'.out _).mono ?_; rintro r w5 ⟨rfl, q2⟩; replace J := J.on q2; clear q2; have vy0 := J.y.c0; have vy1 := J.y.c1; have vy2 := J.y.c2; have vy3 := J.y.c3; have vy4 := J.y.c4)
    | (go_at_call_of 49 bt; refine (HB'.out _).mono ?_; rintro r w6 ⟨rfl, q2⟩; replace J := J.on q2; clear q2)
    | (go_at_call 52; refine (HO.out _).mono ?_; rintro r w7 ⟨rfl, q2⟩; replace J := J.on q2; clear q2)
    | (go_at_call 54; refine (HR.out _).mono ?_; rintro r w8 ⟨rfl, q2⟩; replace J := J.on q2; clear q2; have rz0 := J.z.c0; have rz1 := J.z.c1; have rz2 := J.z.c2; have rz3 := J.z.c3; have rz4 := J.z.c4; have rfz0 := J.z.f0; have rfz1 := J.z.f1; have rfz2 := J.z.f2; have rfz3 := J.z.f3; have rfz4 := J.z.f4))
  exact bodyPost_ret (v := .agg #[.int .i64 yk, .int .i64 yn, .string yt, .bool yb, .int .i64 ye]) (by simp [results, Tryz.results19, go_sem, rz0, rz1, rz2, rz3, rz4]) rfl ⟨rfl, Q5 J.q (by omega)⟩
set_option maxRecDepth 100000 in
set_option maxHeartbeats 8000000 in
theorem rbin_div0 (a b : Cv) (w : World) (ha : a.sm) (hb : b.sm) (ma : a.may = true) (mb : b.may = true) (he : worst [a, b] = 0) (m : Int) (HA : ∀ W, Calls Tryz.prog 49 #[a.v] W fun x W' => x = .returned (.tuple #[.int .i64 m, .int .i64 0]) ∧ Q W W') (HB : ∀ W, Calls Tryz.prog 49 #[b.v] W fun x W' => x = .returned (.tuple #[.int .i64 0, .int .i64 0]) ∧ Q W W') :
    Calls Tryz.prog 19 #[.string ⟨#[47]⟩, a.v, b.v] w fun r w' => r = .returned (er 3).v ∧ Q w w' := by
  have J := bb3_new w a b
  have HM := hid (fun W => rmayv_any a W ha)
  have HM' := hid (fun W => rmayv_any b W hb)
  rw [ma] at HM
  rw [mb] at HM'
  have HWo := hid (rworst2_any a b ha hb)
  rw [he] at HWo
  have HF := hid (fun W => err_any 3 W)
  have HA' := hid HA
  have HB' := hid HB
  simp only [er] at HF ⊢
  clear HA HB he
  clear ha hb ma mb
  obtain ⟨ak, an, at', ab, ae⟩ := a
  obtain ⟨bk, bn, bt, bb, be⟩ := b
  simp only [Cv.v, vv] at *
  go_enter Tryz.func19, Tryz.ntmps19
  go_wp2_with (first
    | (go_at_call_of 23 at'; refine (HM.out _).mono ?_; rintro r w1 ⟨rfl, q2⟩; replace J := J.on q2; clear q2; have px0 := J.x.c0; have px1 := J.x.c1; have px2 := J.x.c2; have px3 := J.x.c3; have px4 := J.x.c4; have py0 := J.y.c0; have py1 := J.y.c1; have py2 := J.y.c2; have py3 := J.y.c3; have py4 := J.y.c4)
    | (go_at_call_of 23 bt; refine (HM'.out _).mono ?_; rintro r w2 ⟨rfl, q2⟩; replace J := J.on q2; clear q2; have sx0 := J.x.c0; have sx1 := J.x.c1; have sx2 := J.x.c2; have sx3 := J.x.c3; have sx4 := J.x.c4; have sy0 := J.y.c0; have sy1 := J.y.c1; have sy2 := J.y.c2; have sy3 := J.y.c3; have sy4 := J.y.c4)
    | (go_at_call 22; refine (HWo.out _).mono ?_; rintro r w4 ⟨rfl, q2⟩; replace J := J.on q2; clear q2; have ux0 := J.x.c0; have ux1 := J.x.c1; have ux2 := J.x.c2; have ux3 := J.x.c3; have ux4 := J.x.c4; have uy0 := J.y.c0; have uy1 := J.y.c1; have uy2 := J.y.c2; have uy3 := J.y.c3; have uy4 := J.y.c4)
    | (go_at_call_of 49 at'; refine (HA'.out _).mono ?_; rintro r w5 ⟨rfl, q2⟩; replace J := J.on q2; clear q2; have vy0 := J.y.c0; have vy1 := J.y.c1; have vy2 := J.y.c2; have vy3 := J.y.c3; have vy4 := J.y.c4)
    | (go_at_call_of 49 bt; refine (HB'.out _).mono ?_; rintro r w6 ⟨rfl, q2⟩; replace J := J.on q2; clear q2)
    | (go_at_call 26; refine (HF.out _).mono ?_; rintro r w8 ⟨rfl, q2⟩; replace J := J.on q2; clear q2; have rz0 := J.z.c0; have rz1 := J.z.c1; have rz2 := J.z.c2; have rz3 := J.z.c3; have rz4 := J.z.c4; have rfz0 := J.z.f0; have rfz1 := J.z.f1; have rfz2 := J.z.f2; have rfz3 := J.z.f3; have rfz4 := J.z.f4))
  exact bodyPost_ret (v := .agg #[.int .i64 4, .int .i64 0, .string ⟨#[]⟩, .bool false, .int .i64 3]) (by simp [results, Tryz.results19, go_sem, rz0, rz1, rz2, rz3, rz4]) rfl ⟨rfl, Q5 J.q (by omega)⟩
set_option maxRecDepth 100000 in
set_option maxHeartbeats 8000000 in
theorem rbin_err (a b : Cv) (w : World) (ha : a.sm) (hb : b.sm) (ma : a.may = true) (mb : b.may = true) (op : ByteArray) (e : Int) (he : worst [a, b] = e) (hne : 0 < e) :
    Calls Tryz.prog 19 #[.string op, a.v, b.v] w fun r w' => r = .returned (er e).v ∧ Q w w' := by
  have J := bb3_new w a b
  have HM := hid (fun W => rmayv_any a W ha)
  have HM' := hid (fun W => rmayv_any b W hb)
  rw [ma] at HM
  rw [mb] at HM'
  have HWo := hid (rworst2_any a b ha hb)
  rw [he] at HWo
  have HF := hid (fun W => err_any e W)
  simp only [er] at HF ⊢
  clear he
  clear ha hb ma mb
  obtain ⟨ak, an, at', ab, ae⟩ := a
  obtain ⟨bk, bn, bt, bb, be⟩ := b
  simp only [Cv.v, vv] at *
  go_enter Tryz.func19, Tryz.ntmps19
  go_wp2_with (first
    | (go_at_call_of 23 at'; refine (HM.out _).mono ?_; rintro r w1 ⟨rfl, q2⟩; replace J := J.on q2; clear q2; have px0 := J.x.c0; have px1 := J.x.c1; have px2 := J.x.c2; have px3 := J.x.c3; have px4 := J.x.c4; have py0 := J.y.c0; have py1 := J.y.c1; have py2 := J.y.c2; have py3 := J.y.c3; have py4 := J.y.c4)
    | (go_at_call_of 23 bt; refine (HM'.out _).mono ?_; rintro r w2 ⟨rfl, q2⟩; replace J := J.on q2; clear q2; have sx0 := J.x.c0; have sx1 := J.x.c1; have sx2 := J.x.c2; have sx3 := J.x.c3; have sx4 := J.x.c4; have sy0 := J.y.c0; have sy1 := J.y.c1; have sy2 := J.y.c2; have sy3 := J.y.c3; have sy4 := J.y.c4)
    | (go_at_call 22; refine (HWo.out _).mono ?_; rintro r w4 ⟨rfl, q2⟩; replace J := J.on q2; clear q2; have ux0 := J.x.c0; have ux1 := J.x.c1; have ux2 := J.x.c2; have ux3 := J.x.c3; have ux4 := J.x.c4; have uy0 := J.y.c0; have uy1 := J.y.c1; have uy2 := J.y.c2; have uy3 := J.y.c3; have uy4 := J.y.c4)
    | (go_at_call 26; refine (HF.out _).mono ?_; rintro r w5 ⟨rfl, q2⟩; replace J := J.on q2; clear q2; have rz0 := J.z.c0; have rz1 := J.z.c1; have rz2 := J.z.c2; have rz3 := J.z.c3; have rz4 := J.z.c4; have rfz0 := J.z.f0; have rfz1 := J.z.f1; have rfz2 := J.z.f2; have rfz3 := J.z.f3; have rfz4 := J.z.f4))
  exact bodyPost_ret (v := .agg #[.int .i64 4, .int .i64 0, .string ⟨#[]⟩, .bool false, .int .i64 e]) (by simp [results, Tryz.results19, go_sem, rz0, rz1, rz2, rz3, rz4]) rfl ⟨rfl, Q5 J.q (by omega)⟩
set_option maxRecDepth 100000 in
set_option maxHeartbeats 8000000 in
theorem rbin_no1 (a b : Cv) (w : World) (ha : a.sm) (hb : b.sm) (ma : a.may = true) (mb : b.may = true) (op : ByteArray) (he : worst [a, b] = 0) (m n ea eb : Int) (HA : ∀ W, Calls Tryz.prog 49 #[a.v] W fun x W' => x = .returned (.tuple #[.int .i64 m, .int .i64 ea]) ∧ Q W W') (HB : ∀ W, Calls Tryz.prog 49 #[b.v] W fun x W' => x = .returned (.tuple #[.int .i64 n, .int .i64 eb]) ∧ Q W W') (hx : 0 < ea) (h0 : op.toList ≠ [38]) (h1 : op.toList ≠ [61]) (h2 : op.toList ≠ [60, 62]) (h3 : op.toList ≠ [60]) (h4 : op.toList ≠ [60, 61]) (h5 : op.toList ≠ [62]) (h6 : op.toList ≠ [62, 61]) :
    Calls Tryz.prog 19 #[.string op, a.v, b.v] w fun r w' => r = .returned (er 5).v ∧ Q w w' := by
  have J := bb3_new w a b
  have HM := hid (fun W => rmayv_any a W ha)
  have HM' := hid (fun W => rmayv_any b W hb)
  rw [ma] at HM
  rw [mb] at HM'
  have HWo := hid (rworst2_any a b ha hb)
  rw [he] at HWo
  have HF := hid (fun W => err_any 5 W)
  have HA' := hid HA
  have HB' := hid HB
  simp only [er] at HF ⊢
  have g0 : (op.toList == [38]) = false := by simpa using h0
  have g1 : (op.toList == [61]) = false := by simpa using h1
  have g2 : (op.toList == [60, 62]) = false := by simpa using h2
  have g3 : (op.toList == [60]) = false := by simpa using h3
  have g4 : (op.toList == [60, 61]) = false := by simpa using h4
  have g5 : (op.toList == [62]) = false := by simpa using h5
  have g6 : (op.toList == [62, 61]) = false := by simpa using h6
  clear HA HB he h0 h1 h2 h3 h4 h5 h6
  clear ha hb ma mb
  obtain ⟨ak, an, at', ab, ae⟩ := a
  obtain ⟨bk, bn, bt, bb, be⟩ := b
  simp only [Cv.v, vv] at *
  go_enter Tryz.func19, Tryz.ntmps19
  go_wp2_with (first
    | (go_at_call_of 23 at'; refine (HM.out _).mono ?_; rintro r w1 ⟨rfl, q2⟩; replace J := J.on q2; clear q2; have px0 := J.x.c0; have px1 := J.x.c1; have px2 := J.x.c2; have px3 := J.x.c3; have px4 := J.x.c4; have py0 := J.y.c0; have py1 := J.y.c1; have py2 := J.y.c2; have py3 := J.y.c3; have py4 := J.y.c4)
    | (go_at_call_of 23 bt; refine (HM'.out _).mono ?_; rintro r w2 ⟨rfl, q2⟩; replace J := J.on q2; clear q2; have sx0 := J.x.c0; have sx1 := J.x.c1; have sx2 := J.x.c2; have sx3 := J.x.c3; have sx4 := J.x.c4; have sy0 := J.y.c0; have sy1 := J.y.c1; have sy2 := J.y.c2; have sy3 := J.y.c3; have sy4 := J.y.c4)
    | (go_at_call 22; refine (HWo.out _).mono ?_; rintro r w4 ⟨rfl, q2⟩; replace J := J.on q2; clear q2; have ux0 := J.x.c0; have ux1 := J.x.c1; have ux2 := J.x.c2; have ux3 := J.x.c3; have ux4 := J.x.c4; have uy0 := J.y.c0; have uy1 := J.y.c1; have uy2 := J.y.c2; have uy3 := J.y.c3; have uy4 := J.y.c4)
    | (go_at_call_of 49 at'; refine (HA'.out _).mono ?_; rintro r w5 ⟨rfl, q2⟩; replace J := J.on q2; clear q2; have vy0 := J.y.c0; have vy1 := J.y.c1; have vy2 := J.y.c2; have vy3 := J.y.c3; have vy4 := J.y.c4)
    | (go_at_call_of 49 bt; refine (HB'.out _).mono ?_; rintro r w6 ⟨rfl, q2⟩; replace J := J.on q2; clear q2)
    | (go_at_call 26; refine (HF.out _).mono ?_; rintro r w8 ⟨rfl, q2⟩; replace J := J.on q2; clear q2; have rz0 := J.z.c0; have rz1 := J.z.c1; have rz2 := J.z.c2; have rz3 := J.z.c3; have rz4 := J.z.c4; have rfz0 := J.z.f0; have rfz1 := J.z.f1; have rfz2 := J.z.f2; have rfz3 := J.z.f3; have rfz4 := J.z.f4))
  exact bodyPost_ret (v := .agg #[.int .i64 4, .int .i64 0, .string ⟨#[]⟩, .bool false, .int .i64 5]) (by simp [results, Tryz.results19, go_sem, rz0, rz1, rz2, rz3, rz4]) rfl ⟨rfl, Q5 J.q (by omega)⟩
set_option maxRecDepth 100000 in
set_option maxHeartbeats 8000000 in
theorem rbin_no2 (a b : Cv) (w : World) (ha : a.sm) (hb : b.sm) (ma : a.may = true) (mb : b.may = true) (op : ByteArray) (he : worst [a, b] = 0) (m n ea eb : Int) (HA : ∀ W, Calls Tryz.prog 49 #[a.v] W fun x W' => x = .returned (.tuple #[.int .i64 m, .int .i64 ea]) ∧ Q W W') (HB : ∀ W, Calls Tryz.prog 49 #[b.v] W fun x W' => x = .returned (.tuple #[.int .i64 n, .int .i64 eb]) ∧ Q W W') (hx1 : ea = 0) (hx : 0 < eb) (h0 : op.toList ≠ [38]) (h1 : op.toList ≠ [61]) (h2 : op.toList ≠ [60, 62]) (h3 : op.toList ≠ [60]) (h4 : op.toList ≠ [60, 61]) (h5 : op.toList ≠ [62]) (h6 : op.toList ≠ [62, 61]) :
    Calls Tryz.prog 19 #[.string op, a.v, b.v] w fun r w' => r = .returned (er 5).v ∧ Q w w' := by
  have J := bb3_new w a b
  have HM := hid (fun W => rmayv_any a W ha)
  have HM' := hid (fun W => rmayv_any b W hb)
  rw [ma] at HM
  rw [mb] at HM'
  have HWo := hid (rworst2_any a b ha hb)
  rw [he] at HWo
  have HF := hid (fun W => err_any 5 W)
  have HA' := hid HA
  have HB' := hid HB
  simp only [er] at HF ⊢
  have g0 : (op.toList == [38]) = false := by simpa using h0
  have g1 : (op.toList == [61]) = false := by simpa using h1
  have g2 : (op.toList == [60, 62]) = false := by simpa using h2
  have g3 : (op.toList == [60]) = false := by simpa using h3
  have g4 : (op.toList == [60, 61]) = false := by simpa using h4
  have g5 : (op.toList == [62]) = false := by simpa using h5
  have g6 : (op.toList == [62, 61]) = false := by simpa using h6
  have hx0 : ¬ (0 : Int) < ea := by omega
  clear HA HB he h0 h1 h2 h3 h4 h5 h6
  clear ha hb ma mb
  obtain ⟨ak, an, at', ab, ae⟩ := a
  obtain ⟨bk, bn, bt, bb, be⟩ := b
  simp only [Cv.v, vv] at *
  go_enter Tryz.func19, Tryz.ntmps19
  go_wp2_with (first
    | (go_at_call_of 23 at'; refine (HM.out _).mono ?_; rintro r w1 ⟨rfl, q2⟩; replace J := J.on q2; clear q2; have px0 := J.x.c0; have px1 := J.x.c1; have px2 := J.x.c2; have px3 := J.x.c3; have px4 := J.x.c4; have py0 := J.y.c0; have py1 := J.y.c1; have py2 := J.y.c2; have py3 := J.y.c3; have py4 := J.y.c4)
    | (go_at_call_of 23 bt; refine (HM'.out _).mono ?_; rintro r w2 ⟨rfl, q2⟩; replace J := J.on q2; clear q2; have sx0 := J.x.c0; have sx1 := J.x.c1; have sx2 := J.x.c2; have sx3 := J.x.c3; have sx4 := J.x.c4; have sy0 := J.y.c0; have sy1 := J.y.c1; have sy2 := J.y.c2; have sy3 := J.y.c3; have sy4 := J.y.c4)
    | (go_at_call 22; refine (HWo.out _).mono ?_; rintro r w4 ⟨rfl, q2⟩; replace J := J.on q2; clear q2; have ux0 := J.x.c0; have ux1 := J.x.c1; have ux2 := J.x.c2; have ux3 := J.x.c3; have ux4 := J.x.c4; have uy0 := J.y.c0; have uy1 := J.y.c1; have uy2 := J.y.c2; have uy3 := J.y.c3; have uy4 := J.y.c4)
    | (go_at_call_of 49 at'; refine (HA'.out _).mono ?_; rintro r w5 ⟨rfl, q2⟩; replace J := J.on q2; clear q2; have vy0 := J.y.c0; have vy1 := J.y.c1; have vy2 := J.y.c2; have vy3 := J.y.c3; have vy4 := J.y.c4)
    | (go_at_call_of 49 bt; refine (HB'.out _).mono ?_; rintro r w6 ⟨rfl, q2⟩; replace J := J.on q2; clear q2)
    | (go_at_call 26; refine (HF.out _).mono ?_; rintro r w8 ⟨rfl, q2⟩; replace J := J.on q2; clear q2; have rz0 := J.z.c0; have rz1 := J.z.c1; have rz2 := J.z.c2; have rz3 := J.z.c3; have rz4 := J.z.c4; have rfz0 := J.z.f0; have rfz1 := J.z.f1; have rfz2 := J.z.f2; have rfz3 := J.z.f3; have rfz4 := J.z.f4))
  exact bodyPost_ret (v := .agg #[.int .i64 4, .int .i64 0, .string ⟨#[]⟩, .bool false, .int .i64 5]) (by simp [results, Tryz.results19, go_sem, rz0, rz1, rz2, rz3, rz4]) rfl ⟨rfl, Q5 J.q (by omega)⟩
theorem vk_may {x : Cv} (h : x.may = true) : Vk x.k x.n x.t x.b x.e := vk_of h
def bl : Cv := ⟨0, 0, ⟨#[]⟩, false, 0⟩
theorem may_blank {x : Cv} (h : x.may = true) (hk : x.k = 0) : x = bl := by
  have hv := vk_may h
  obtain ⟨k, n, t, b, e⟩ := x
  simp only at hk
  subst hk
  rcases hv with ⟨_, h1, h2, h3, h4⟩ | ⟨h0, _⟩ | ⟨h0, _⟩ | ⟨h0, _⟩ | ⟨h0, _⟩
  · simp only at h1 h2 h3 h4
    subst h1 h2 h3 h4
    rfl
  all_goals (simp at h0)
theorem may_kind {x : Cv} (h : x.may = true) (h4 : x.k ≠ 4) : x.k = 0 ∨ x.k = 1 ∨ x.k = 2 ∨ x.k = 3 := by
  rcases vk_may h with ⟨h0, _⟩ | ⟨h0, _⟩ | ⟨h0, _⟩ | ⟨h0, _⟩ | ⟨h0, _⟩
  · exact .inl h0
  · exact .inr (.inl h0)
  · exact .inr (.inr (.inl h0))
  · exact .inr (.inr (.inr h0))
  · exact absurd h0 h4
set_option maxHeartbeats 2000000 in
theorem rlike_some (a b : Cv) (w : World) (hk : a.k ≠ 0) : Calls Tryz.prog 48 #[a.v, b.v] w fun r w' => r = .returned a.v ∧ Q w w' := by
  have J := bb3_new w a b
  obtain ⟨ak, an, at', ab, ae⟩ := a
  obtain ⟨bk, bn, bt, bb, be⟩ := b
  simp only [Cv.v, vv] at *
  have hk' : (ak != 0) = true := bne_iff_ne.2 hk
  clear hk
  go_enter Tryz.func48, Tryz.ntmps48
  go_wp2
  exact bodyPost_ret (v := .agg #[.int .i64 ak, .int .i64 an, .string at', .bool ab, .int .i64 ae]) (by simp [results, Tryz.results48, go_sem]) rfl ⟨rfl, (((Q.refl _).alloc _).alloc _).alloc _⟩
set_option maxHeartbeats 2000000 in
theorem rlike_1 (b : Cv) (w : World) (hk : b.k = 1) : Calls Tryz.prog 48 #[bl.v, b.v] w fun r w' => r = .returned (lk bl b).v ∧ Q w w' := by
  have J := bb3_new w bl b
  have HM := hid (fun W => rmayv_any bl W nil_sm)
  rw [show bl.may = true from Vk.blank.may] at HM
  have HF := hid (fun W => num_any 0 W)
  obtain ⟨bk, bn, bt, bb, be⟩ := b
  simp only at hk
  subst hk
  simp only [Cv.v, vv, bl, lk, if_true] at *
  go_enter Tryz.func48, Tryz.ntmps48
  go_wp2_with (first
    | (go_at_call 23; refine (HM.out _).mono ?_; rintro r w1 ⟨rfl, q2⟩; replace J := J.on q2; clear q2; have px0 := J.x.c0; have px1 := J.x.c1; have px2 := J.x.c2; have px3 := J.x.c3; have px4 := J.x.c4; have py0 := J.y.c0; have py1 := J.y.c1; have py2 := J.y.c2; have py3 := J.y.c3; have py4 := J.y.c4)
    | (go_at_call 27; refine (HF.out _).mono ?_; rintro r w2 ⟨rfl, q2⟩; replace J := J.on q2; clear q2; have rz0 := J.z.c0; have rz1 := J.z.c1; have rz2 := J.z.c2; have rz3 := J.z.c3; have rz4 := J.z.c4; have rfz0 := J.z.f0; have rfz1 := J.z.f1; have rfz2 := J.z.f2; have rfz3 := J.z.f3; have rfz4 := J.z.f4))
  exact bodyPost_ret (v := .agg #[.int .i64 1, .int .i64 0, .string ⟨#[]⟩, .bool false, .int .i64 0]) (by simp [results, Tryz.results48, go_sem, rz0, rz1, rz2, rz3, rz4]) rfl ⟨rfl, Q5 J.q (by omega)⟩
set_option maxHeartbeats 2000000 in
theorem rlike_2 (b : Cv) (w : World) (hk : b.k = 2) : Calls Tryz.prog 48 #[bl.v, b.v] w fun r w' => r = .returned (lk bl b).v ∧ Q w w' := by
  have J := bb3_new w bl b
  have HM := hid (fun W => rmayv_any bl W nil_sm)
  rw [show bl.may = true from Vk.blank.may] at HM
  have HF := hid (fun W => txt_any ⟨#[]⟩ W)
  obtain ⟨bk, bn, bt, bb, be⟩ := b
  simp only at hk
  subst hk
  simp only [Cv.v, vv, bl, lk, if_true] at *
  go_enter Tryz.func48, Tryz.ntmps48
  go_wp2_with (first
    | (go_at_call 23; refine (HM.out _).mono ?_; rintro r w1 ⟨rfl, q2⟩; replace J := J.on q2; clear q2; have px0 := J.x.c0; have px1 := J.x.c1; have px2 := J.x.c2; have px3 := J.x.c3; have px4 := J.x.c4; have py0 := J.y.c0; have py1 := J.y.c1; have py2 := J.y.c2; have py3 := J.y.c3; have py4 := J.y.c4)
    | (go_at_call 28; refine (HF.out _).mono ?_; rintro r w2 ⟨rfl, q2⟩; replace J := J.on q2; clear q2; have rz0 := J.z.c0; have rz1 := J.z.c1; have rz2 := J.z.c2; have rz3 := J.z.c3; have rz4 := J.z.c4; have rfz0 := J.z.f0; have rfz1 := J.z.f1; have rfz2 := J.z.f2; have rfz3 := J.z.f3; have rfz4 := J.z.f4))
  exact bodyPost_ret (v := .agg #[.int .i64 2, .int .i64 0, .string ⟨#[]⟩, .bool false, .int .i64 0]) (by simp [results, Tryz.results48, go_sem, rz0, rz1, rz2, rz3, rz4]) rfl ⟨rfl, Q5 J.q (by omega)⟩
set_option maxHeartbeats 2000000 in
theorem rlike_3 (b : Cv) (w : World) (hk : b.k = 3) : Calls Tryz.prog 48 #[bl.v, b.v] w fun r w' => r = .returned (lk bl b).v ∧ Q w w' := by
  have J := bb3_new w bl b
  have HM := hid (fun W => rmayv_any bl W nil_sm)
  rw [show bl.may = true from Vk.blank.may] at HM
  have HF := hid (fun W => boo_any false W)
  obtain ⟨bk, bn, bt, bb, be⟩ := b
  simp only at hk
  subst hk
  simp only [Cv.v, vv, bl, lk, if_true] at *
  go_enter Tryz.func48, Tryz.ntmps48
  go_wp2_with (first
    | (go_at_call 23; refine (HM.out _).mono ?_; rintro r w1 ⟨rfl, q2⟩; replace J := J.on q2; clear q2; have px0 := J.x.c0; have px1 := J.x.c1; have px2 := J.x.c2; have px3 := J.x.c3; have px4 := J.x.c4; have py0 := J.y.c0; have py1 := J.y.c1; have py2 := J.y.c2; have py3 := J.y.c3; have py4 := J.y.c4)
    | (go_at_call 25; refine (HF.out _).mono ?_; rintro r w2 ⟨rfl, q2⟩; replace J := J.on q2; clear q2; have rz0 := J.z.c0; have rz1 := J.z.c1; have rz2 := J.z.c2; have rz3 := J.z.c3; have rz4 := J.z.c4; have rfz0 := J.z.f0; have rfz1 := J.z.f1; have rfz2 := J.z.f2; have rfz3 := J.z.f3; have rfz4 := J.z.f4))
  exact bodyPost_ret (v := .agg #[.int .i64 3, .int .i64 0, .string ⟨#[]⟩, .bool false, .int .i64 0]) (by simp [results, Tryz.results48, go_sem, rz0, rz1, rz2, rz3, rz4]) rfl ⟨rfl, Q5 J.q (by omega)⟩
set_option maxHeartbeats 2000000 in
theorem rlike_0 (b : Cv) (w : World) (hk : b.k = 0) : Calls Tryz.prog 48 #[bl.v, b.v] w fun r w' => r = .returned (lk bl b).v ∧ Q w w' := by
  have J := bb3_new w bl b
  have HM := hid (fun W => rmayv_any bl W nil_sm)
  rw [show bl.may = true from Vk.blank.may] at HM
  obtain ⟨bk, bn, bt, bb, be⟩ := b
  simp only at hk
  subst hk
  simp only [Cv.v, vv, bl, lk, if_true] at *
  go_enter Tryz.func48, Tryz.ntmps48
  go_wp2_with (first
    | (go_at_call 23; refine (HM.out _).mono ?_; rintro r w1 ⟨rfl, q2⟩; replace J := J.on q2; clear q2; have px0 := J.x.c0; have px1 := J.x.c1; have px2 := J.x.c2; have px3 := J.x.c3; have px4 := J.x.c4; have py0 := J.y.c0; have py1 := J.y.c1; have py2 := J.y.c2; have py3 := J.y.c3; have py4 := J.y.c4; have rz0 := J.z.c0; have rz1 := J.z.c1; have rz2 := J.z.c2; have rz3 := J.z.c3; have rz4 := J.z.c4; have rfz0 := J.z.f0; have rfz1 := J.z.f1; have rfz2 := J.z.f2; have rfz3 := J.z.f3; have rfz4 := J.z.f4))
  exact bodyPost_ret (v := .agg #[.int .i64 0, .int .i64 0, .string ⟨#[]⟩, .bool false, .int .i64 0]) (by simp [results, Tryz.results48, go_sem, rz0, rz1, rz2, rz3, rz4]) rfl ⟨rfl, Q5 J.q (by omega)⟩
theorem rlike_any (a b : Cv) (w : World) (ma : a.may = true) (mb : b.may = true) (h4 : b.k ≠ 4) : Calls Tryz.prog 48 #[a.v, b.v] w fun r w' => r = .returned (lk a b).v ∧ Q w w' := by
  by_cases hk : a.k = 0
  · obtain rfl := may_blank ma hk
    rcases may_kind mb h4 with h | h | h | h
    · exact rlike_0 b w h
    · exact rlike_1 b w h
    · exact rlike_2 b w h
    · exact rlike_3 b w h
  · have e : lk a b = a := by unfold lk; rw [if_neg hk]
    rw [e]
    exact rlike_some a b w hk
theorem rcmpC_any (a b : Cv) (w : World) (ha : a.sm) (hb : b.sm) : Calls Tryz.prog 47 #[a.v, b.v] w fun x w' => x = .returned (.int .i64 (cvC a b)) ∧ Q w w' := rcompare_any _ _ _ _ _ _ _ _ _ _ w ha hb
theorem bb3_setX {w W : World} {a b : Cv} (J : Bb3 w a b W) (x : Cv) : Bb3 w x b (set5 W w.heap.size (.int .i64 x.k) (.int .i64 x.n) (.string x.t) (.bool x.b) (.int .i64 x.e)) := ⟨J.q.set5 (Nat.le_refl _), J.x.set5, J.y.far5 (by omega), J.z.far5 (by omega)⟩
theorem bb3_setY {w W : World} {a b : Cv} (J : Bb3 w a b W) (x : Cv) : Bb3 w a x (set5 W (w.heap.size + 1) (.int .i64 x.k) (.int .i64 x.n) (.string x.t) (.bool x.b) (.int .i64 x.e)) := ⟨J.q.set5 (by omega), J.x.far5 (by omega), J.y.set5, J.z.far5 (by omega)⟩
set_option maxRecDepth 100000 in
set_option maxHeartbeats 8000000 in
theorem rbin_nn (a b : Cv) (w : World) (ha : a.sm) (hb : b.sm) (ma : a.may = false) (mb : b.may = false) (op : ByteArray) (e : Int) (he : worst [er 5, er 5] = e) (hne : 0 < e) :
    Calls Tryz.prog 19 #[.string op, a.v, b.v] w fun r w' => r = .returned (er e).v ∧ Q w w' := by
  have J := bb3_new w a b
  have HM := hid (fun W => rmayv_any a W ha)
  have HM' := hid (fun W => rmayv_any b W hb)
  rw [ma] at HM
  rw [mb] at HM'
  have HWo := hid (rworst2_any (er 5) (er 5) nil_sm nil_sm)
  rw [he] at HWo
  have HF := hid (fun W => err_any e W)
  have HG := hid (fun W => err_any 5 W)
  simp only [er] at HF HG HWo ⊢
  clear he
  clear ha hb ma mb
  obtain ⟨ak, an, at', ab, ae⟩ := a
  obtain ⟨bk, bn, bt, bb, be⟩ := b
  simp only [Cv.v, vv] at *
  go_enter Tryz.func19, Tryz.ntmps19
  go_upto_region 2 with (go_at_call_of 23 at'; refine (HM.out _).mono ?_; rintro r w1 ⟨rfl, q2⟩; replace J := J.on q2; clear q2; have px0 := J.x.c0; have px1 := J.x.c1; have px2 := J.x.c2; have px3 := J.x.c3; have px4 := J.x.c4; have py0 := J.y.c0; have py1 := J.y.c1; have py2 := J.y.c2; have py3 := J.y.c3; have py4 := J.y.c4)
  go_cut [] from 22 to 22 (fun W => Bb3 w ⟨4, 0, ⟨#[]⟩, false, 5⟩ ⟨bk, bn, bt, bb, be⟩ W)
  case first =>
    go_wp2_with (go_at_call 26; refine (HG.out _).mono ?_; rintro r w2 ⟨rfl, q2⟩; replace J := J.on q2; clear q2; have pfx0 := J.x.f0; have pfx1 := J.x.f1; have pfx2 := J.x.f2; have pfx3 := J.x.f3; have pfx4 := J.x.f4; have qx0 := J.x.c0; have qx1 := J.x.c1; have qx2 := J.x.c2; have qx3 := J.x.c3; have qx4 := J.x.c4)
    go_meet
    case rel => exact bb3_setX (a := ⟨ak, an, at', ab, ae⟩) (b := ⟨bk, bn, bt, bb, be⟩) J ⟨4, 0, ⟨#[]⟩, false, 5⟩
  case rest =>
  have J := hcut
  clear hcut
  have sx0 := J.x.c0
  have sx1 := J.x.c1
  have sx2 := J.x.c2
  have sx3 := J.x.c3
  have sx4 := J.x.c4
  have sy0 := J.y.c0
  have sy1 := J.y.c1
  have sy2 := J.y.c2
  have sy3 := J.y.c3
  have sy4 := J.y.c4
  go_upto_region 3 with fail
  go_upto_region 4 with (go_at_call_of 23 bt; refine (HM'.out _).mono ?_; rintro r w3 ⟨rfl, q2⟩; replace J := J.on q2; clear q2; have tx0 := J.x.c0; have tx1 := J.x.c1; have tx2 := J.x.c2; have tx3 := J.x.c3; have tx4 := J.x.c4; have ty0 := J.y.c0; have ty1 := J.y.c1; have ty2 := J.y.c2; have ty3 := J.y.c3; have ty4 := J.y.c4)
  go_cut [] from 26 to 26 (fun W => Bb3 w ⟨4, 0, ⟨#[]⟩, false, 5⟩ ⟨4, 0, ⟨#[]⟩, false, 5⟩ W)
  case first =>
    go_wp2_with (go_at_call 26; refine (HG.out _).mono ?_; rintro r w4 ⟨rfl, q2⟩; replace J := J.on q2; clear q2; have vfy0 := J.y.f0; have vfy1 := J.y.f1; have vfy2 := J.y.f2; have vfy3 := J.y.f3; have vfy4 := J.y.f4; have vy0 := J.y.c0; have vy1 := J.y.c1; have vy2 := J.y.c2; have vy3 := J.y.c3; have vy4 := J.y.c4)
    go_meet
    case rel => exact bb3_setY (a := ⟨4, 0, ⟨#[]⟩, false, 5⟩) (b := ⟨bk, bn, bt, bb, be⟩) J ⟨4, 0, ⟨#[]⟩, false, 5⟩
  case rest =>
  have J := hcut
  clear hcut
  have ux0 := J.x.c0
  have ux1 := J.x.c1
  have ux2 := J.x.c2
  have ux3 := J.x.c3
  have ux4 := J.x.c4
  have uy0 := J.y.c0
  have uy1 := J.y.c1
  have uy2 := J.y.c2
  have uy3 := J.y.c3
  have uy4 := J.y.c4
  go_wp2_with (first
    | (go_at_call 22; refine (HWo.out _).mono ?_; rintro r w5 ⟨rfl, q2⟩; replace J := J.on q2; clear q2)
    | (go_at_call 26; refine (HF.out _).mono ?_; rintro r w6 ⟨rfl, q2⟩; replace J := J.on q2; clear q2; have rz0 := J.z.c0; have rz1 := J.z.c1; have rz2 := J.z.c2; have rz3 := J.z.c3; have rz4 := J.z.c4; have rfz0 := J.z.f0; have rfz1 := J.z.f1; have rfz2 := J.z.f2; have rfz3 := J.z.f3; have rfz4 := J.z.f4))
  exact bodyPost_ret (v := .agg #[.int .i64 4, .int .i64 0, .string ⟨#[]⟩, .bool false, .int .i64 e]) (by simp [results, Tryz.results19, go_sem, rz0, rz1, rz2, rz3, rz4]) rfl ⟨rfl, Q5 J.q (by omega)⟩
set_option maxRecDepth 100000 in
set_option maxHeartbeats 8000000 in
theorem rbin_ny (a b : Cv) (w : World) (ha : a.sm) (hb : b.sm) (ma : a.may = false) (mb : b.may = true) (op : ByteArray) (e : Int) (he : worst [er 5, b] = e) (hne : 0 < e) :
    Calls Tryz.prog 19 #[.string op, a.v, b.v] w fun r w' => r = .returned (er e).v ∧ Q w w' := by
  have J := bb3_new w a b
  have HM := hid (fun W => rmayv_any a W ha)
  have HM' := hid (fun W => rmayv_any b W hb)
  rw [ma] at HM
  rw [mb] at HM'
  have HWo := hid (rworst2_any (er 5) (b) nil_sm hb)
  rw [he] at HWo
  have HF := hid (fun W => err_any e W)
  have HG := hid (fun W => err_any 5 W)
  simp only [er] at HF HG HWo ⊢
  clear he
  clear ha hb ma mb
  obtain ⟨ak, an, at', ab, ae⟩ := a
  obtain ⟨bk, bn, bt, bb, be⟩ := b
  simp only [Cv.v, vv] at *
  go_enter Tryz.func19, Tryz.ntmps19
  go_upto_region 2 with (go_at_call_of 23 at'; refine (HM.out _).mono ?_; rintro r w1 ⟨rfl, q2⟩; replace J := J.on q2; clear q2; have px0 := J.x.c0; have px1 := J.x.c1; have px2 := J.x.c2; have px3 := J.x.c3; have px4 := J.x.c4; have py0 := J.y.c0; have py1 := J.y.c1; have py2 := J.y.c2; have py3 := J.y.c3; have py4 := J.y.c4)
  go_cut [] from 22 to 22 (fun W => Bb3 w ⟨4, 0, ⟨#[]⟩, false, 5⟩ ⟨bk, bn, bt, bb, be⟩ W)
  case first =>
    go_wp2_with (go_at_call 26; refine (HG.out _).mono ?_; rintro r w2 ⟨rfl, q2⟩; replace J := J.on q2; clear q2; have pfx0 := J.x.f0; have pfx1 := J.x.f1; have pfx2 := J.x.f2; have pfx3 := J.x.f3; have pfx4 := J.x.f4; have qx0 := J.x.c0; have qx1 := J.x.c1; have qx2 := J.x.c2; have qx3 := J.x.c3; have qx4 := J.x.c4)
    go_meet
    case rel => exact bb3_setX (a := ⟨ak, an, at', ab, ae⟩) (b := ⟨bk, bn, bt, bb, be⟩) J ⟨4, 0, ⟨#[]⟩, false, 5⟩
  case rest =>
  have J := hcut
  clear hcut
  have sx0 := J.x.c0
  have sx1 := J.x.c1
  have sx2 := J.x.c2
  have sx3 := J.x.c3
  have sx4 := J.x.c4
  have sy0 := J.y.c0
  have sy1 := J.y.c1
  have sy2 := J.y.c2
  have sy3 := J.y.c3
  have sy4 := J.y.c4
  go_upto_region 3 with fail
  go_wp2_with (first
    | (go_at_call_of 23 bt; refine (HM'.out _).mono ?_; rintro r w3 ⟨rfl, q2⟩; replace J := J.on q2; clear q2; have tx0 := J.x.c0; have tx1 := J.x.c1; have tx2 := J.x.c2; have tx3 := J.x.c3; have tx4 := J.x.c4; have ty0 := J.y.c0; have ty1 := J.y.c1; have ty2 := J.y.c2; have ty3 := J.y.c3; have ty4 := J.y.c4)
    | (go_at_call 22; refine (HWo.out _).mono ?_; rintro r w5 ⟨rfl, q2⟩; replace J := J.on q2; clear q2)
    | (go_at_call 26; refine (HF.out _).mono ?_; rintro r w6 ⟨rfl, q2⟩; replace J := J.on q2; clear q2; have rz0 := J.z.c0; have rz1 := J.z.c1; have rz2 := J.z.c2; have rz3 := J.z.c3; have rz4 := J.z.c4; have rfz0 := J.z.f0; have rfz1 := J.z.f1; have rfz2 := J.z.f2; have rfz3 := J.z.f3; have rfz4 := J.z.f4))
  exact bodyPost_ret (v := .agg #[.int .i64 4, .int .i64 0, .string ⟨#[]⟩, .bool false, .int .i64 e]) (by simp [results, Tryz.results19, go_sem, rz0, rz1, rz2, rz3, rz4]) rfl ⟨rfl, Q5 J.q (by omega)⟩
set_option maxRecDepth 100000 in
set_option maxHeartbeats 8000000 in
theorem rbin_yn (a b : Cv) (w : World) (ha : a.sm) (hb : b.sm) (ma : a.may = true) (mb : b.may = false) (op : ByteArray) (e : Int) (he : worst [a, er 5] = e) (hne : 0 < e) :
    Calls Tryz.prog 19 #[.string op, a.v, b.v] w fun r w' => r = .returned (er e).v ∧ Q w w' := by
  have J := bb3_new w a b
  have HM := hid (fun W => rmayv_any a W ha)
  have HM' := hid (fun W => rmayv_any b W hb)
  rw [ma] at HM
  rw [mb] at HM'
  have HWo := hid (rworst2_any (a) (er 5) ha nil_sm)
  rw [he] at HWo
  have HF := hid (fun W => err_any e W)
  have HG := hid (fun W => err_any 5 W)
  simp only [er] at HF HG HWo ⊢
  clear he
  clear ha hb ma mb
  obtain ⟨ak, an, at', ab, ae⟩ := a
  obtain ⟨bk, bn, bt, bb, be⟩ := b
  simp only [Cv.v, vv] at *
  go_enter Tryz.func19, Tryz.ntmps19
  go_upto_region 3 with (go_at_call_of 23 at'; refine (HM.out _).mono ?_; rintro r w1 ⟨rfl, q2⟩; replace J := J.on q2; clear q2; have px0 := J.x.c0; have px1 := J.x.c1; have px2 := J.x.c2; have px3 := J.x.c3; have px4 := J.x.c4; have py0 := J.y.c0; have py1 := J.y.c1; have py2 := J.y.c2; have py3 := J.y.c3; have py4 := J.y.c4)
  go_upto_region 4 with (go_at_call_of 23 bt; refine (HM'.out _).mono ?_; rintro r w3 ⟨rfl, q2⟩; replace J := J.on q2; clear q2; have tx0 := J.x.c0; have tx1 := J.x.c1; have tx2 := J.x.c2; have tx3 := J.x.c3; have tx4 := J.x.c4; have ty0 := J.y.c0; have ty1 := J.y.c1; have ty2 := J.y.c2; have ty3 := J.y.c3; have ty4 := J.y.c4)
  go_cut [] from 26 to 26 (fun W => Bb3 w ⟨ak, an, at', ab, ae⟩ ⟨4, 0, ⟨#[]⟩, false, 5⟩ W)
  case first =>
    go_wp2_with (go_at_call 26; refine (HG.out _).mono ?_; rintro r w4 ⟨rfl, q2⟩; replace J := J.on q2; clear q2; have vfy0 := J.y.f0; have vfy1 := J.y.f1; have vfy2 := J.y.f2; have vfy3 := J.y.f3; have vfy4 := J.y.f4; have vy0 := J.y.c0; have vy1 := J.y.c1; have vy2 := J.y.c2; have vy3 := J.y.c3; have vy4 := J.y.c4)
    go_meet
    case rel => exact bb3_setY (a := ⟨ak, an, at', ab, ae⟩) (b := ⟨bk, bn, bt, bb, be⟩) J ⟨4, 0, ⟨#[]⟩, false, 5⟩
  case rest =>
  have J := hcut
  clear hcut
  have ux0 := J.x.c0
  have ux1 := J.x.c1
  have ux2 := J.x.c2
  have ux3 := J.x.c3
  have ux4 := J.x.c4
  have uy0 := J.y.c0
  have uy1 := J.y.c1
  have uy2 := J.y.c2
  have uy3 := J.y.c3
  have uy4 := J.y.c4
  go_wp2_with (first
    | (go_at_call 22; refine (HWo.out _).mono ?_; rintro r w5 ⟨rfl, q2⟩; replace J := J.on q2; clear q2)
    | (go_at_call 26; refine (HF.out _).mono ?_; rintro r w6 ⟨rfl, q2⟩; replace J := J.on q2; clear q2; have rz0 := J.z.c0; have rz1 := J.z.c1; have rz2 := J.z.c2; have rz3 := J.z.c3; have rz4 := J.z.c4; have rfz0 := J.z.f0; have rfz1 := J.z.f1; have rfz2 := J.z.f2; have rfz3 := J.z.f3; have rfz4 := J.z.f4))
  exact bodyPost_ret (v := .agg #[.int .i64 4, .int .i64 0, .string ⟨#[]⟩, .bool false, .int .i64 e]) (by simp [results, Tryz.results19, go_sem, rz0, rz1, rz2, rz3, rz4]) rfl ⟨rfl, Q5 J.q (by omega)⟩
theorem rtx_any (t : ByteArray) (w : World) : Calls Tryz.prog 28 #[.string t] w fun x w' => x = .returned (tx t).v ∧ Q w w' := by
  go_enter Tryz.func28, Tryz.ntmps28
  go_wp2
  exact bodyPost_ret (v := (tx t).v) (by simp [results, Tryz.results28, go_sem, vv, Cv.v, tx]) rfl ⟨rfl, (Q.refl _).alloc _⟩
set_option maxRecDepth 100000 in
set_option maxHeartbeats 8000000 in
theorem rbin_amp (a b : Cv) (w : World) (ha : a.sm) (hb : b.sm) (ma : a.may = true) (mb : b.may = true) (he : worst [a, b] = 0) (m n : ByteArray) (ea eb : Int) (HA : ∀ W, Calls Tryz.prog 46 #[a.v] W fun x W' => x = .returned (.tuple #[.string m, .int .i64 ea]) ∧ Q W W') (HB : ∀ W, Calls Tryz.prog 46 #[b.v] W fun x W' => x = .returned (.tuple #[.string n, .int .i64 eb]) ∧ Q W W') (hm : m.size ≤ 100000) (hn : n.size ≤ 100000) (hs : m.size + n.size ≤ 200) :
    Calls Tryz.prog 19 #[.string ⟨#[38]⟩, a.v, b.v] w fun r w' => r = .returned (tx (m ++ n)).v ∧ Q w w' := by
  have J := bb3_new w a b
  have HM := hid (fun W => rmayv_any a W ha)
  have HM' := hid (fun W => rmayv_any b W hb)
  rw [ma] at HM
  rw [mb] at HM'
  have HWo := hid (rworst2_any a b ha hb)
  rw [he] at HWo
  have HA' := hid HA
  have HB' := hid HB
  have HG := hid (fun W => err_any 5 W)
  have HT := hid (fun W => rtx_any (m ++ n) W)
  have hwp : IntKind.i64.wrap ((m.size : Int) + (n.size : Int)) = (m.size : Int) + (n.size : Int) := by rw [IntKind.wrap_i64]; omega
  have hgt : ¬ (200 : Int) < (m.size : Int) + (n.size : Int) := by omega
  have hno : ¬ 9223372036854775807 < m.size + n.size := by omega
  simp only [er, tx] at HG HT ⊢
  clear HA HB hm hn he hs
  clear ha hb ma mb
  obtain ⟨ak, an, at', ab, ae⟩ := a
  obtain ⟨bk, bn, bt, bb, be⟩ := b
  simp only [Cv.v, vv] at *
  obtain ⟨mn, hmn⟩ : ∃ x, m ++ n = x := ⟨_, rfl⟩
  rw [hmn] at HT ⊢
  go_enter Tryz.func19, Tryz.ntmps19
  go_wp2_with (first
    | (go_at_call_of 23 at'; refine (HM.out _).mono ?_; rintro r w1 ⟨rfl, q2⟩; replace J := J.on q2; clear q2; have px0 := J.x.c0; have px1 := J.x.c1; have px2 := J.x.c2; have px3 := J.x.c3; have px4 := J.x.c4; have py0 := J.y.c0; have py1 := J.y.c1; have py2 := J.y.c2; have py3 := J.y.c3; have py4 := J.y.c4)
    | (go_at_call_of 23 bt; refine (HM'.out _).mono ?_; rintro r w2 ⟨rfl, q2⟩; replace J := J.on q2; clear q2; have sx0 := J.x.c0; have sx1 := J.x.c1; have sx2 := J.x.c2; have sx3 := J.x.c3; have sx4 := J.x.c4; have sy0 := J.y.c0; have sy1 := J.y.c1; have sy2 := J.y.c2; have sy3 := J.y.c3; have sy4 := J.y.c4)
    | (go_at_call 22; refine (HWo.out _).mono ?_; rintro r w4 ⟨rfl, q2⟩; replace J := J.on q2; clear q2; have ux0 := J.x.c0; have ux1 := J.x.c1; have ux2 := J.x.c2; have ux3 := J.x.c3; have ux4 := J.x.c4; have uy0 := J.y.c0; have uy1 := J.y.c1; have uy2 := J.y.c2; have uy3 := J.y.c3; have uy4 := J.y.c4)
    | (go_at_call_of 46 at'; refine (HA'.out _).mono ?_; rintro r w5 ⟨rfl, q2⟩; replace J := J.on q2; clear q2; have vy0 := J.y.c0; have vy1 := J.y.c1; have vy2 := J.y.c2; have vy3 := J.y.c3; have vy4 := J.y.c4)
    | (go_at_call_of 46 bt; refine (HB'.out _).mono ?_; rintro r w6 ⟨rfl, q2⟩; replace J := J.on q2; clear q2)
    | (go_at_call 28; refine (HT.out _).mono ?_; rintro r w8 ⟨rfl, q2⟩; replace J := J.on q2; clear q2; have rz0 := J.z.c0; have rz1 := J.z.c1; have rz2 := J.z.c2; have rz3 := J.z.c3; have rz4 := J.z.c4; have rfz0 := J.z.f0; have rfz1 := J.z.f1; have rfz2 := J.z.f2; have rfz3 := J.z.f3; have rfz4 := J.z.f4))
  exact bodyPost_ret (v := .agg #[.int .i64 2, .int .i64 0, .string mn, .bool false, .int .i64 0]) (by simp [results, Tryz.results19, go_sem, rz0, rz1, rz2, rz3, rz4]) rfl ⟨rfl, Q5 J.q (by omega)⟩
set_option maxRecDepth 100000 in
set_option maxHeartbeats 8000000 in
theorem rbin_ampb (a b : Cv) (w : World) (ha : a.sm) (hb : b.sm) (ma : a.may = true) (mb : b.may = true) (he : worst [a, b] = 0) (m n : ByteArray) (ea eb : Int) (HA : ∀ W, Calls Tryz.prog 46 #[a.v] W fun x W' => x = .returned (.tuple #[.string m, .int .i64 ea]) ∧ Q W W') (HB : ∀ W, Calls Tryz.prog 46 #[b.v] W fun x W' => x = .returned (.tuple #[.string n, .int .i64 eb]) ∧ Q W W') (hm : m.size ≤ 100000) (hn : n.size ≤ 100000) (hs : 200 < m.size + n.size) :
    Calls Tryz.prog 19 #[.string ⟨#[38]⟩, a.v, b.v] w fun r w' => r = .returned (er 5).v ∧ Q w w' := by
  have J := bb3_new w a b
  have HM := hid (fun W => rmayv_any a W ha)
  have HM' := hid (fun W => rmayv_any b W hb)
  rw [ma] at HM
  rw [mb] at HM'
  have HWo := hid (rworst2_any a b ha hb)
  rw [he] at HWo
  have HA' := hid HA
  have HB' := hid HB
  have HG := hid (fun W => err_any 5 W)
  have HT := hid (fun W => rtx_any (m ++ n) W)
  have hwp : IntKind.i64.wrap ((m.size : Int) + (n.size : Int)) = (m.size : Int) + (n.size : Int) := by rw [IntKind.wrap_i64]; omega
  have hgt : (200 : Int) < (m.size : Int) + (n.size : Int) := by omega
  have hno : ¬ 9223372036854775807 < m.size + n.size := by omega
  simp only [er, tx] at HG HT ⊢
  clear HA HB hm hn he hs
  clear ha hb ma mb
  obtain ⟨ak, an, at', ab, ae⟩ := a
  obtain ⟨bk, bn, bt, bb, be⟩ := b
  simp only [Cv.v, vv] at *
  obtain ⟨mn, hmn⟩ : ∃ x, m ++ n = x := ⟨_, rfl⟩
  rw [hmn] at HT 
  go_enter Tryz.func19, Tryz.ntmps19
  go_wp2_with (first
    | (go_at_call_of 23 at'; refine (HM.out _).mono ?_; rintro r w1 ⟨rfl, q2⟩; replace J := J.on q2; clear q2; have px0 := J.x.c0; have px1 := J.x.c1; have px2 := J.x.c2; have px3 := J.x.c3; have px4 := J.x.c4; have py0 := J.y.c0; have py1 := J.y.c1; have py2 := J.y.c2; have py3 := J.y.c3; have py4 := J.y.c4)
    | (go_at_call_of 23 bt; refine (HM'.out _).mono ?_; rintro r w2 ⟨rfl, q2⟩; replace J := J.on q2; clear q2; have sx0 := J.x.c0; have sx1 := J.x.c1; have sx2 := J.x.c2; have sx3 := J.x.c3; have sx4 := J.x.c4; have sy0 := J.y.c0; have sy1 := J.y.c1; have sy2 := J.y.c2; have sy3 := J.y.c3; have sy4 := J.y.c4)
    | (go_at_call 22; refine (HWo.out _).mono ?_; rintro r w4 ⟨rfl, q2⟩; replace J := J.on q2; clear q2; have ux0 := J.x.c0; have ux1 := J.x.c1; have ux2 := J.x.c2; have ux3 := J.x.c3; have ux4 := J.x.c4; have uy0 := J.y.c0; have uy1 := J.y.c1; have uy2 := J.y.c2; have uy3 := J.y.c3; have uy4 := J.y.c4)
    | (go_at_call_of 46 at'; refine (HA'.out _).mono ?_; rintro r w5 ⟨rfl, q2⟩; replace J := J.on q2; clear q2; have vy0 := J.y.c0; have vy1 := J.y.c1; have vy2 := J.y.c2; have vy3 := J.y.c3; have vy4 := J.y.c4)
    | (go_at_call_of 46 bt; refine (HB'.out _).mono ?_; rintro r w6 ⟨rfl, q2⟩; replace J := J.on q2; clear q2)
    | (go_at_call 26; refine (HG.out _).mono ?_; rintro r w8 ⟨rfl, q2⟩; replace J := J.on q2; clear q2; have rz0 := J.z.c0; have rz1 := J.z.c1; have rz2 := J.z.c2; have rz3 := J.z.c3; have rz4 := J.z.c4; have rfz0 := J.z.f0; have rfz1 := J.z.f1; have rfz2 := J.z.f2; have rfz3 := J.z.f3; have rfz4 := J.z.f4))
  exact bodyPost_ret (v := .agg #[.int .i64 4, .int .i64 0, .string ⟨#[]⟩, .bool false, .int .i64 5]) (by simp [results, Tryz.results19, go_sem, rz0, rz1, rz2, rz3, rz4]) rfl ⟨rfl, Q5 J.q (by omega)⟩
end Go.Proofs.YtfjpdopmojfchaaGreatDoor
