/- The reference's Binary, of values that may be; The reference's Binary, of values that may be; The reference's Binary, of values that may be. -/
import Derived.Test.YtfjpdopmojfchaaGreatDoorKr35
set_option linter.unusedVariables false
set_option linter.unusedSimpArgs false
namespace Go.Proofs.YtfjpdopmojfchaaGreatDoor
open Go.RowKit
set_option maxRecDepth 100000 in
set_option maxHeartbeats 8000000 in
theorem rbin_add (a b : Cv) (w : World) (ha : a.sm) (hb : b.sm) (ma : a.may = true) (mb : b.may = true) (he : worst [a, b] = 0) (m n : Int) (HA : ∀ W, Calls Tryz.prog 49 #[a.v] W fun x W' => x = .returned (.tuple #[.int .i64 m, .int .i64 0]) ∧ Q W W') (HB : ∀ W, Calls Tryz.prog 49 #[b.v] W fun x W' => x = .returned (.tuple #[.int .i64 n, .int .i64 0]) ∧ Q W W') (hm : Fx m) (hn : Fx n) :
    Calls Tryz.prog 19 #[.string ⟨#[43]⟩, a.v, b.v] w fun r w' => r = .returned (resV (m + n)).v ∧ Q w w' := by
  have J := bb3_new w a b
  have HM := hid (fun W => rmayv_any a W ha)
  have HM' := hid (fun W => rmayv_any b W hb)
  rw [ma] at HM
  rw [mb] at HM'
  have HWo := hid (rworst2_any a b ha hb)
  rw [he] at HWo
  have HO := hid (fun W => radd_any m n W hm hn)
  have HR := hid (fun W => rnum_any (keep (m + n)) (fitB (m + n)) W)
  have HA' := hid HA
  have HB' := hid HB
  unfold resV
  generalize (if fitB (m + n) = true then nu (keep (m + n)) else er 4) = y at *
  generalize keep (m + n) = c1 at *
  generalize fitB (m + n) = c2 at *
  obtain ⟨yk, yn, yt, yb, ye⟩ := y
  clear HA HB hm hn he
  clear ha hb ma mb
  obtain ⟨ak, an, at', ab, ae⟩ := a
  obtain ⟨bk, bn, bt, bb, be⟩ := b
  simp only [Cv.v, vv] at *
  go_enter Tryz.func19, Tryz.ntmps19
  go_wp2_with (first
    | (go_at_call_of 23 at'; refine (HM.out _).mono ?_; rintro r w1 ⟨rfl, q2⟩; replace J := J.on q2; clear q2; have px0 := J.x.c0; have px1 := J.x.c1; have px2 := J.x.c2; have px3 := J.x.c3; have px4 := J.x.c4; have py0 := J.y.c0; have py1 := J.y.c1; have py2 := J.y.c2; have py3 := J.y.c3; have py4 := J.y.c4)
    | (go_at_call_of 23 bt; refine (HM'.out _).mono ?_; rintro r w2 ⟨rfl, q2⟩; replace J := J.on q2; clear q2; have sx0 := J.x.c0; have sx1 := J.x.c1; have sx2 := J.x.c2; have sx3 := J.x.c3; have sx4 := J.x.c4; have sy0 := J.y.c0; have sy1 := J.y.c1; have sy2 := J.y.c2; have sy3 := J.y.c3; have sy4 := J.y.c4)
    | (go_at_call 22; refine (HWo.out _).mono ?_; rintro r w4 ⟨rfl, q2⟩; replace J := J.on q2; clear q2; have ux0 := J.x.c0; have ux1 := J.x.c1; have ux2 := J.x.c2; have ux3 := J.x.c3; have ux4 := J.x.c4; have uy0 := J.y.c0; have uy1 := J.y.c1; have uy2 := J.y.c2; have uy3 := J.y.c3; have uy4 := J.y.c4)
    | (go_at_call_of 49 at'; refine (HA'.out _).mono ?_; rintro r w5 ⟨rfl, q2⟩; replace J := J.on q2; clear q2; have vy0 := J.y.c0; have vy1 := J.y.c1; have vy2 := J.y.c2; have vy3 := J.y.c3; have vy4 := J.y.c4)
    | (go_at_call_of 49 bt; refine (HB'.out _).mono ?_; rintro r w6 ⟨rfl, q2⟩; replace J := J.on q2; clear q2)
    | (go_at_call 50; refine (HO.out _).mono ?_; rintro r w7 ⟨rfl, q2⟩; replace J := J.on q2; clear q2)
    | (go_at_call 54; refine (HR.out _).mono ?_; rintro r w8 ⟨rfl, q2⟩; replace J := J.on q2; clear q2; have rz0 := J.z.c0; have rz1 := J.z.c1; have rz2 := J.z.c2; have rz3 := J.z.c3; have rz4 := J.z.c4; have rfz0 := J.z.f0; have rfz1 := J.z.f1; have rfz2 := J.z.f2; have rfz3 := J.z.f3; have rfz4 := J.z.f4))
  exact bodyPost_ret (v := .agg #[.int .i64 yk, .int .i64 yn, .string yt, .bool yb, .int .i64 ye]) (by simp [results, Tryz.results19, go_sem, rz0, rz1, rz2, rz3, rz4]) rfl ⟨rfl, Q5 J.q (by omega)⟩
set_option maxRecDepth 100000 in
set_option maxHeartbeats 8000000 in
theorem rbin_sub (a b : Cv) (w : World) (ha : a.sm) (hb : b.sm) (ma : a.may = true) (mb : b.may = true) (he : worst [a, b] = 0) (m n : Int) (HA : ∀ W, Calls Tryz.prog 49 #[a.v] W fun x W' => x = .returned (.tuple #[.int .i64 m, .int .i64 0]) ∧ Q W W') (HB : ∀ W, Calls Tryz.prog 49 #[b.v] W fun x W' => x = .returned (.tuple #[.int .i64 n, .int .i64 0]) ∧ Q W W') (hm : Fx m) (hn : Fx n) :
    Calls Tryz.prog 19 #[.string ⟨#[45]⟩, a.v, b.v] w fun r w' => r = .returned (resV (m - n)).v ∧ Q w w' := by
  have J := bb3_new w a b
  have HM := hid (fun W => rmayv_any a W ha)
  have HM' := hid (fun W => rmayv_any b W hb)
  rw [ma] at HM
  rw [mb] at HM'
  have HWo := hid (rworst2_any a b ha hb)
  rw [he] at HWo
  have HO := hid (fun W => rsub_any m n W hm hn)
  have HR := hid (fun W => rnum_any (keep (m - n)) (fitB (m - n)) W)
  have HA' := hid HA
  have HB' := hid HB
  unfold resV
  generalize (if fitB (m - n) = true then nu (keep (m - n)) else er 4) = y at *
  generalize keep (m - n) = c1 at *
  generalize fitB (m - n) = c2 at *
  obtain ⟨yk, yn, yt, yb, ye⟩ := y
  clear HA HB hm hn he
  clear ha hb ma mb
  obtain ⟨ak, an, at', ab, ae⟩ := a
  obtain ⟨bk, bn, bt, bb, be⟩ := b
  simp only [Cv.v, vv] at *
  go_enter Tryz.func19, Tryz.ntmps19
  go_wp2_with (first
    | (go_at_call_of 23 at'; refine (HM.out _).mono ?_; rintro r w1 ⟨rfl, q2⟩; replace J := J.on q2; clear q2; have px0 := J.x.c0; have px1 := J.x.c1; have px2 := J.x.c2; have px3 := J.x.c3; have px4 := J.x.c4; have py0 := J.y.c0; have py1 := J.y.c1; have py2 := J.y.c2; have py3 := J.y.c3; have py4 := J.y.c4)
    | (go_at_call_of 23 bt; refine (HM'.out _).mono ?_; rintro r w2 ⟨rfl, q2⟩; replace J := J.on q2; clear q2; have sx0 := J.x.c0; have sx1 := J.x.c1; have sx2 := J.x.c2; have sx3 := J.x.c3; have sx4 := J.x.c4; have sy0 := J.y.c0; have sy1 := J.y.c1; have sy2 := J.y.c2; have sy3 := J.y.c3; have sy4 := J.y.c4)
    | (go_at_call 22; refine (HWo.out _).mono ?_; rintro r w4 ⟨rfl, q2⟩; replace J := J.on q2; clear q2; have ux0 := J.x.c0; have ux1 := J.x.c1; have ux2 := J.x.c2; have ux3 := J.x.c3; have ux4 := J.x.c4; have uy0 := J.y.c0; have uy1 := J.y.c1; have uy2 := J.y.c2; have uy3 := J.y.c3; have uy4 := J.y.c4)
    | (go_at_call_of 49 at'; refine (HA'.out _).mono ?_; rintro r w5 ⟨rfl, q2⟩; replace J := J.on q2; clear q2; have vy0 := J.y.c0; have vy1 := J.y.c1; have vy2 := J.y.c2; have vy3 := J.y.c3; have vy4 := J.y.c4)
    | (go_at_call_of 49 bt; refine (HB'.out _).mono ?_; rintro r w6 ⟨rfl, q2⟩; replace J := J.on q2; clear q2)
    | (go_at_call 51; refine (HO.out _).mono ?_; rintro r w7 ⟨rfl, q2⟩; replace J := J.on q2; clear q2)
    | (go_at_call 54; refine (HR.out _).mono ?_; rintro r w8 ⟨rfl, q2⟩; replace J := J.on q2; clear q2; have rz0 := J.z.c0; have rz1 := J.z.c1; have rz2 := J.z.c2; have rz3 := J.z.c3; have rz4 := J.z.c4; have rfz0 := J.z.f0; have rfz1 := J.z.f1; have rfz2 := J.z.f2; have rfz3 := J.z.f3; have rfz4 := J.z.f4))
  exact bodyPost_ret (v := .agg #[.int .i64 yk, .int .i64 yn, .string yt, .bool yb, .int .i64 ye]) (by simp [results, Tryz.results19, go_sem, rz0, rz1, rz2, rz3, rz4]) rfl ⟨rfl, Q5 J.q (by omega)⟩
set_option maxRecDepth 100000 in
set_option maxHeartbeats 8000000 in
theorem rbin_oth (a b : Cv) (w : World) (ha : a.sm) (hb : b.sm) (ma : a.may = true) (mb : b.may = true) (op : ByteArray) (he : worst [a, b] = 0) (m n ea eb : Int) (HA : ∀ W, Calls Tryz.prog 49 #[a.v] W fun x W' => x = .returned (.tuple #[.int .i64 m, .int .i64 0]) ∧ Q W W') (HB : ∀ W, Calls Tryz.prog 49 #[b.v] W fun x W' => x = .returned (.tuple #[.int .i64 n, .int .i64 0]) ∧ Q W W')  (h0 : op.toList ≠ [38]) (h1 : op.toList ≠ [61]) (h2 : op.toList ≠ [60, 62]) (h3 : op.toList ≠ [60]) (h4 : op.toList ≠ [60, 61]) (h5 : op.toList ≠ [62]) (h6 : op.toList ≠ [62, 61]) (h7 : op.toList ≠ [43]) (h8 : op.toList ≠ [45]) (h9 : op.toList ≠ [42]) (h10 : op.toList ≠ [47]) :
    Calls Tryz.prog 19 #[.string op, a.v, b.v] w fun r w' => r = .returned (er 5).v ∧ Q w w' := by
  have J := bb3_new w a b
  have HM := hid (fun W => rmayv_any a W ha)
  have HM' := hid (fun W => rmayv_any b W hb)
  rw [ma] at HM
  rw [mb] at HM'
  have HWo := hid (rworst2_any a b ha hb)
  rw [he] at HWo
  have HF := hid (fun W => err_any 5 W)
  have HA' := hid HA
  have HB' := hid HB
  simp only [er] at HF ⊢
  have g0 : (op.toList == [38]) = false := by simpa using h0
  have g1 : (op.toList == [61]) = false := by simpa using h1
  have g2 : (op.toList == [60, 62]) = false := by simpa using h2
  have g3 : (op.toList == [60]) = false := by simpa using h3
  have g4 : (op.toList == [60, 61]) = false := by simpa using h4
  have g5 : (op.toList == [62]) = false := by simpa using h5
  have g6 : (op.toList == [62, 61]) = false := by simpa using h6
  have g7 : (op.toList == [43]) = false := by simpa using h7
  have g8 : (op.toList == [45]) = false := by simpa using h8
  have g9 : (op.toList == [42]) = false := by simpa using h9
  have g10 : (op.toList == [47]) = false := by simpa using h10
  clear HA HB he h0 h1 h2 h3 h4 h5 h6 h7 h8 h9 h10
  clear ha hb ma mb
  obtain ⟨ak, an, at', ab, ae⟩ := a
  obtain ⟨bk, bn, bt, bb, be⟩ := b
  simp only [Cv.v, vv] at *
  go_enter Tryz.func19, Tryz.ntmps19
  go_wp2_with (first
    | (go_at_call_of 23 at'; refine (HM.out _).mono ?_; rintro r w1 ⟨rfl, q2⟩; replace J := J.on q2; clear q2; have px0 := J.x.c0; have px1 := J.x.c1; have px2 := J.x.c2; have px3 := J.x.c3; have px4 := J.x.c4; have py0 := J.y.c0; have py1 := J.y.c1; have py2 := J.y.c2; have py3 := J.y.c3; have py4 := J.y.c4)
    | (go_at_call_of 23 bt; refine (HM'.out _).mono ?_; rintro r w2 ⟨rfl, q2⟩; replace J := J.on q2; clear q2; have sx0 := J.x.c0; have sx1 := J.x.c1; have sx2 := J.x.c2; have sx3 := J.x.c3; have sx4 := J.x.c4; have sy0 := J.y.c0; have sy1 := J.y.c1; have sy2 := J.y.c2; have sy3 := J.y.c3; have sy4 := J.y.c4)
    | (go_at_call 22; refine (HWo.out _).mono ?_; rintro r w4 ⟨rfl, q2⟩; replace J := J.on q2; clear q2; have ux0 := J.x.c0; have ux1 := J.x.c1; have ux2 := J.x.c2; have ux3 := J.x.c3; have ux4 := J.x.c4; have uy0 := J.y.c0; have uy1 := J.y.c1; have uy2 := J.y.c2; have uy3 := J.y.c3; have uy4 := J.y.c4)
    | (go_at_call_of 49 at'; refine (HA'.out _).mono ?_; rintro r w5 ⟨rfl, q2⟩; replace J := J.on q2; clear q2; have vy0 := J.y.c0; have vy1 := J.y.c1; have vy2 := J.y.c2; have vy3 := J.y.c3; have vy4 := J.y.c4)
    | (go_at_call_of 49 bt; refine (HB'.out _).mono ?_; rintro r w6 ⟨rfl, q2⟩; replace J := J.on q2; clear q2)
    | (go_at_call 26; refine (HF.out _).mono ?_; rintro r w8 ⟨rfl, q2⟩; replace J := J.on q2; clear q2; have rz0 := J.z.c0; have rz1 := J.z.c1; have rz2 := J.z.c2; have rz3 := J.z.c3; have rz4 := J.z.c4; have rfz0 := J.z.f0; have rfz1 := J.z.f1; have rfz2 := J.z.f2; have rfz3 := J.z.f3; have rfz4 := J.z.f4))
  exact bodyPost_ret (v := .agg #[.int .i64 4, .int .i64 0, .string ⟨#[]⟩, .bool false, .int .i64 5]) (by simp [results, Tryz.results19, go_sem, rz0, rz1, rz2, rz3, rz4]) rfl ⟨rfl, Q5 J.q (by omega)⟩
end Go.Proofs.YtfjpdopmojfchaaGreatDoor
