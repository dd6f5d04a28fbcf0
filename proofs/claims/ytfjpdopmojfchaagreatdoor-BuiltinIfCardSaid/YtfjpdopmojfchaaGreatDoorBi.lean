/- Package builtin: reckoning. -/
import Derived.Test.YtfjpdopmojfchaaGreatDoorBh
import Derived.Test.YtfjpdopmojfchaaGreatDoorF
namespace Go.Proofs.YtfjpdopmojfchaaGreatDoor
open Go.RowKit
set_option linter.unusedVariables false
set_option linter.unusedSimpArgs false
/-- two values and a result, in their boxes -/
abbrev Bb3 (w : World) (a b : Cv) (W : World) : Prop := B3 w a.k a.n a.t a.b a.e b.k b.n b.t b.b b.e 0 0 ⟨#[]⟩ false 0 W
theorem bb3_new (w : World) (a b : Cv) : Bb3 w a b (((w.alloc (.cells #[.int .i64 a.k, .int .i64 a.n, .string a.t, .bool a.b, .int .i64 a.e] 37)).alloc (.cells #[.int .i64 b.k, .int .i64 b.n, .string b.t, .bool b.b, .int .i64 b.e] 37)).alloc (.cells #[.int .i64 0, .int .i64 0, .string ⟨#[]⟩, .bool false, .int .i64 0] 37)) := b3_new w _ _ _ _ _ _ _ _ _ _ _ _ _ _ _
/-- what a reckoning answers -/
def resV (r : Int) : Cv := if fitB r = true then nu (keep r) else er 4
set_option maxRecDepth 100000 in
set_option maxHeartbeats 4000000 in
theorem calc_add (a b : Cv) (m n : Int) (w : World) (HA : ∀ W, Q w W → Calls Tryz.prog 71 #[a.v] W fun x W' => x = .returned (.tuple #[.int .i64 m, .int .i64 0]) ∧ Q W W') (HB : ∀ W, Q w W → Calls Tryz.prog 71 #[b.v] W fun x W' => x = .returned (.tuple #[.int .i64 n, .int .i64 0]) ∧ Q W W') (hm : Fx m) (hn : Fx n) :
    Calls Tryz.prog 39 #[.string ⟨#[43]⟩, a.v, b.v] w fun r w' => r = .returned (resV (m + n)).v ∧ Q w w' := by
  have J := bb3_new w a b
  have HO := hid (fun W => add_any m n W hm hn)
  have HR := hid (fun W => result_any (keep (m + n)) (fitB (m + n)) W)
  have HA' := hid HA
  have HB' := hid HB
  unfold resV
  generalize (if fitB (m + n) = true then nu (keep (m + n)) else er 4) = y at *
  generalize keep (m + n) = c1 at *
  generalize fitB (m + n) = c2 at *
  obtain ⟨yk, yn, yt, yb, ye⟩ := y
  obtain ⟨ak, an, at', ab, ae⟩ := a
  obtain ⟨bk, bn, bt, bb, be⟩ := b
  clear HA HB hm hn
  simp only [Cv.v, vv] at *
  go_enter Tryz.func39, Tryz.ntmps39
  go_wp2_with (first
    | (go_at_call_of 71 at'; refine (HA'.out _ J.q).mono ?_; rintro x w1 ⟨rfl, q1⟩; replace J := J.on q1; clear q1; have py0 := J.y.c0; have py1 := J.y.c1; have py2 := J.y.c2; have py3 := J.y.c3; have py4 := J.y.c4)
    | (go_at_call_of 71 bt; refine (HB'.out _ J.q).mono ?_; rintro x w2 ⟨rfl, q1⟩; replace J := J.on q1; clear q1)
    | (go_at_call 82; refine (HO.out _).mono ?_; rintro x w3 ⟨rfl, h3⟩; replace h3 := h3.symm; subst h3)
    | (go_at_call 81; refine (HR.out _).mono ?_; rintro x w4 ⟨rfl, q1⟩; replace J := J.on q1; clear q1; have rz0 := J.z.c0; have rz1 := J.z.c1; have rz2 := J.z.c2; have rz3 := J.z.c3; have rz4 := J.z.c4; have rf0 := J.z.f0; have rf1 := J.z.f1; have rf2 := J.z.f2; have rf3 := J.z.f3; have rf4 := J.z.f4))
  exact bodyPost_ret (v := .agg #[.int .i64 yk, .int .i64 yn, .string yt, .bool yb, .int .i64 ye]) (by simp [results, Tryz.results39, go_sem, rz0, rz1, rz2, rz3, rz4]) rfl ⟨rfl, Q5 J.q (by omega)⟩
set_option maxRecDepth 100000 in
set_option maxHeartbeats 4000000 in
theorem calc_sub (a b : Cv) (m n : Int) (w : World) (HA : ∀ W, Q w W → Calls Tryz.prog 71 #[a.v] W fun x W' => x = .returned (.tuple #[.int .i64 m, .int .i64 0]) ∧ Q W W') (HB : ∀ W, Q w W → Calls Tryz.prog 71 #[b.v] W fun x W' => x = .returned (.tuple #[.int .i64 n, .int .i64 0]) ∧ Q W W') (hm : Fx m) (hn : Fx n) :
    Calls Tryz.prog 39 #[.string ⟨#[45]⟩, a.v, b.v] w fun r w' => r = .returned (resV (m - n)).v ∧ Q w w' := by
  have J := bb3_new w a b
  have HO := hid (fun W => sub_any m n W hm hn)
  have HR := hid (fun W => result_any (keep (m - n)) (fitB (m - n)) W)
  have HA' := hid HA
  have HB' := hid HB
  unfold resV
  generalize (if fitB (m - n) = true then nu (keep (m - n)) else er 4) = y at *
  generalize keep (m - n) = c1 at *
  generalize fitB (m - n) = c2 at *
  obtain ⟨yk, yn, yt, yb, ye⟩ := y
  obtain ⟨ak, an, at', ab, ae⟩ := a
  obtain ⟨bk, bn, bt, bb, be⟩ := b
  clear HA HB hm hn
  simp only [Cv.v, vv] at *
  go_enter Tryz.func39, Tryz.ntmps39
  go_wp2_with (first
    | (go_at_call_of 71 at'; refine (HA'.out _ J.q).mono ?_; rintro x w1 ⟨rfl, q1⟩; replace J := J.on q1; clear q1; have py0 := J.y.c0; have py1 := J.y.c1; have py2 := J.y.c2; have py3 := J.y.c3; have py4 := J.y.c4)
    | (go_at_call_of 71 bt; refine (HB'.out _ J.q).mono ?_; rintro x w2 ⟨rfl, q1⟩; replace J := J.on q1; clear q1)
    | (go_at_call 83; refine (HO.out _).mono ?_; rintro x w3 ⟨rfl, h3⟩; replace h3 := h3.symm; subst h3)
    | (go_at_call 81; refine (HR.out _).mono ?_; rintro x w4 ⟨rfl, q1⟩; replace J := J.on q1; clear q1; have rz0 := J.z.c0; have rz1 := J.z.c1; have rz2 := J.z.c2; have rz3 := J.z.c3; have rz4 := J.z.c4; have rf0 := J.z.f0; have rf1 := J.z.f1; have rf2 := J.z.f2; have rf3 := J.z.f3; have rf4 := J.z.f4))
  exact bodyPost_ret (v := .agg #[.int .i64 yk, .int .i64 yn, .string yt, .bool yb, .int .i64 ye]) (by simp [results, Tryz.results39, go_sem, rz0, rz1, rz2, rz3, rz4]) rfl ⟨rfl, Q5 J.q (by omega)⟩
set_option maxRecDepth 100000 in
set_option maxHeartbeats 4000000 in
theorem calc_no1 (op : ByteArray) (a b : Cv) (m n ea eb : Int) (w : World) (HA : ∀ W, Q w W → Calls Tryz.prog 71 #[a.v] W fun x W' => x = .returned (.tuple #[.int .i64 m, .int .i64 ea]) ∧ Q W W') (HB : ∀ W, Q w W → Calls Tryz.prog 71 #[b.v] W fun x W' => x = .returned (.tuple #[.int .i64 n, .int .i64 eb]) ∧ Q W W') (h : ea ≠ 0) :
    Calls Tryz.prog 39 #[.string (op), a.v, b.v] w fun r w' => r = .returned (er 5).v ∧ Q w w' := by
  have J := bb3_new w a b
  have HR := hid (fun W => failure_any 5 W)
  have HA' := hid HA
  have HB' := hid HB
  have h1 : (ea != 0) = true := bne_iff_ne.2 h
  obtain ⟨ak, an, at', ab, ae⟩ := a
  obtain ⟨bk, bn, bt, bb, be⟩ := b
  clear HA HB
  simp only [Cv.v, vv, er] at *
  go_enter Tryz.func39, Tryz.ntmps39
  go_wp2_with (first
    | (go_at_call_of 71 at'; refine (HA'.out _ J.q).mono ?_; rintro x w1 ⟨rfl, q1⟩; replace J := J.on q1; clear q1; have py0 := J.y.c0; have py1 := J.y.c1; have py2 := J.y.c2; have py3 := J.y.c3; have py4 := J.y.c4)
    | (go_at_call_of 71 bt; refine (HB'.out _ J.q).mono ?_; rintro x w2 ⟨rfl, q1⟩; replace J := J.on q1; clear q1)
    | (go_at_call 30; refine (HR.out _).mono ?_; rintro x w4 ⟨rfl, q1⟩; replace J := J.on q1; clear q1; have rz0 := J.z.c0; have rz1 := J.z.c1; have rz2 := J.z.c2; have rz3 := J.z.c3; have rz4 := J.z.c4; have rf0 := J.z.f0; have rf1 := J.z.f1; have rf2 := J.z.f2; have rf3 := J.z.f3; have rf4 := J.z.f4))
  exact bodyPost_ret (v := .agg #[.int .i64 4, .int .i64 0, .string ⟨#[]⟩, .bool false, .int .i64 5]) (by simp [results, Tryz.results39, go_sem, rz0, rz1, rz2, rz3, rz4]) rfl ⟨rfl, Q5 J.q (by omega)⟩
set_option maxRecDepth 100000 in
set_option maxHeartbeats 4000000 in
theorem calc_no2 (op : ByteArray) (a b : Cv) (m n ea eb : Int) (w : World) (HA : ∀ W, Q w W → Calls Tryz.prog 71 #[a.v] W fun x W' => x = .returned (.tuple #[.int .i64 m, .int .i64 0]) ∧ Q W W') (HB : ∀ W, Q w W → Calls Tryz.prog 71 #[b.v] W fun x W' => x = .returned (.tuple #[.int .i64 n, .int .i64 eb]) ∧ Q W W') (h : eb ≠ 0) :
    Calls Tryz.prog 39 #[.string (op), a.v, b.v] w fun r w' => r = .returned (er 5).v ∧ Q w w' := by
  have J := bb3_new w a b
  have HR := hid (fun W => failure_any 5 W)
  have HA' := hid HA
  have HB' := hid HB
  have h1 : (eb != 0) = true := bne_iff_ne.2 h
  obtain ⟨ak, an, at', ab, ae⟩ := a
  obtain ⟨bk, bn, bt, bb, be⟩ := b
  clear HA HB
  simp only [Cv.v, vv, er] at *
  go_enter Tryz.func39, Tryz.ntmps39
  go_wp2_with (first
    | (go_at_call_of 71 at'; refine (HA'.out _ J.q).mono ?_; rintro x w1 ⟨rfl, q1⟩; replace J := J.on q1; clear q1; have py0 := J.y.c0; have py1 := J.y.c1; have py2 := J.y.c2; have py3 := J.y.c3; have py4 := J.y.c4)
    | (go_at_call_of 71 bt; refine (HB'.out _ J.q).mono ?_; rintro x w2 ⟨rfl, q1⟩; replace J := J.on q1; clear q1)
    | (go_at_call 30; refine (HR.out _).mono ?_; rintro x w4 ⟨rfl, q1⟩; replace J := J.on q1; clear q1; have rz0 := J.z.c0; have rz1 := J.z.c1; have rz2 := J.z.c2; have rz3 := J.z.c3; have rz4 := J.z.c4; have rf0 := J.z.f0; have rf1 := J.z.f1; have rf2 := J.z.f2; have rf3 := J.z.f3; have rf4 := J.z.f4))
  exact bodyPost_ret (v := .agg #[.int .i64 4, .int .i64 0, .string ⟨#[]⟩, .bool false, .int .i64 5]) (by simp [results, Tryz.results39, go_sem, rz0, rz1, rz2, rz3, rz4]) rfl ⟨rfl, Q5 J.q (by omega)⟩
set_option maxRecDepth 100000 in
set_option maxHeartbeats 4000000 in
theorem calc_div0 (op : ByteArray) (a b : Cv) (m n ea eb : Int) (w : World) (HA : ∀ W, Q w W → Calls Tryz.prog 71 #[a.v] W fun x W' => x = .returned (.tuple #[.int .i64 m, .int .i64 0]) ∧ Q W W') (HB : ∀ W, Q w W → Calls Tryz.prog 71 #[b.v] W fun x W' => x = .returned (.tuple #[.int .i64 n, .int .i64 0]) ∧ Q W W') (h : n = 0) :
    Calls Tryz.prog 39 #[.string ⟨#[47]⟩, a.v, b.v] w fun r w' => r = .returned (er 3).v ∧ Q w w' := by
  have J := bb3_new w a b
  have HR := hid (fun W => failure_any 3 W)
  have HA' := hid HA
  have HB' := hid HB
  subst h
  obtain ⟨ak, an, at', ab, ae⟩ := a
  obtain ⟨bk, bn, bt, bb, be⟩ := b
  clear HA HB
  simp only [Cv.v, vv, er] at *
  go_enter Tryz.func39, Tryz.ntmps39
  go_wp2_with (first
    | (go_at_call_of 71 at'; refine (HA'.out _ J.q).mono ?_; rintro x w1 ⟨rfl, q1⟩; replace J := J.on q1; clear q1; have py0 := J.y.c0; have py1 := J.y.c1; have py2 := J.y.c2; have py3 := J.y.c3; have py4 := J.y.c4)
    | (go_at_call_of 71 bt; refine (HB'.out _ J.q).mono ?_; rintro x w2 ⟨rfl, q1⟩; replace J := J.on q1; clear q1)
    | (go_at_call 30; refine (HR.out _).mono ?_; rintro x w4 ⟨rfl, q1⟩; replace J := J.on q1; clear q1; have rz0 := J.z.c0; have rz1 := J.z.c1; have rz2 := J.z.c2; have rz3 := J.z.c3; have rz4 := J.z.c4; have rf0 := J.z.f0; have rf1 := J.z.f1; have rf2 := J.z.f2; have rf3 := J.z.f3; have rf4 := J.z.f4))
  exact bodyPost_ret (v := .agg #[.int .i64 4, .int .i64 0, .string ⟨#[]⟩, .bool false, .int .i64 3]) (by simp [results, Tryz.results39, go_sem, rz0, rz1, rz2, rz3, rz4]) rfl ⟨rfl, Q5 J.q (by omega)⟩
set_option maxRecDepth 100000 in
set_option maxHeartbeats 4000000 in
theorem calc_mul (a b : Cv) (m n : Int) (w : World) (HA : ∀ W, Q w W → Calls Tryz.prog 71 #[a.v] W fun x W' => x = .returned (.tuple #[.int .i64 m, .int .i64 0]) ∧ Q W W') (HB : ∀ W, Q w W → Calls Tryz.prog 71 #[b.v] W fun x W' => x = .returned (.tuple #[.int .i64 n, .int .i64 0]) ∧ Q W W') (hm : Fx m) (hn : Fx n) :
    Calls Tryz.prog 39 #[.string ⟨#[42]⟩, a.v, b.v] w fun r w' => r = .returned (resV (mulV m n)).v ∧ Q w w' := by
  have J := bb3_new w a b
  have HO := hid (fun W => mul_any m n W hm hn)
  have HR := hid (fun W => result_any (keep (mulV m n)) (fitB (mulV m n)) W)
  have HA' := hid HA
  have HB' := hid HB
  unfold resV
  generalize (if fitB (mulV m n) = true then nu (keep (mulV m n)) else er 4) = y at *
  generalize keep (mulV m n) = c1 at *
  generalize fitB (mulV m n) = c2 at *
  obtain ⟨yk, yn, yt, yb, ye⟩ := y
  obtain ⟨ak, an, at', ab, ae⟩ := a
  obtain ⟨bk, bn, bt, bb, be⟩ := b
  clear HA HB hm hn
  simp only [Cv.v, vv] at *
  go_enter Tryz.func39, Tryz.ntmps39
  go_wp2_with (first
    | (go_at_call_of 71 at'; refine (HA'.out _ J.q).mono ?_; rintro x w1 ⟨rfl, q1⟩; replace J := J.on q1; clear q1; have py0 := J.y.c0; have py1 := J.y.c1; have py2 := J.y.c2; have py3 := J.y.c3; have py4 := J.y.c4)
    | (go_at_call_of 71 bt; refine (HB'.out _ J.q).mono ?_; rintro x w2 ⟨rfl, q1⟩; replace J := J.on q1; clear q1)
    | (go_at_call 84; refine (HO.out _).mono ?_; rintro x w3 ⟨rfl, q3⟩; replace J := J.on q3; clear q3)
    | (go_at_call 81; refine (HR.out _).mono ?_; rintro x w4 ⟨rfl, q1⟩; replace J := J.on q1; clear q1; have rz0 := J.z.c0; have rz1 := J.z.c1; have rz2 := J.z.c2; have rz3 := J.z.c3; have rz4 := J.z.c4; have rf0 := J.z.f0; have rf1 := J.z.f1; have rf2 := J.z.f2; have rf3 := J.z.f3; have rf4 := J.z.f4))
  exact bodyPost_ret (v := .agg #[.int .i64 yk, .int .i64 yn, .string yt, .bool yb, .int .i64 ye]) (by simp [results, Tryz.results39, go_sem, rz0, rz1, rz2, rz3, rz4]) rfl ⟨rfl, Q5 J.q (by omega)⟩
set_option maxRecDepth 100000 in
set_option maxHeartbeats 4000000 in
theorem calc_div (a b : Cv) (m n : Int) (w : World) (HA : ∀ W, Q w W → Calls Tryz.prog 71 #[a.v] W fun x W' => x = .returned (.tuple #[.int .i64 m, .int .i64 0]) ∧ Q W W') (HB : ∀ W, Q w W → Calls Tryz.prog 71 #[b.v] W fun x W' => x = .returned (.tuple #[.int .i64 n, .int .i64 0]) ∧ Q W W') (hm : Fx m) (hn : Fx n) (hz : (n == 0) = false) :
    Calls Tryz.prog 39 #[.string ⟨#[47]⟩, a.v, b.v] w fun r w' => r = .returned (resV (divV m n)).v ∧ Q w w' := by
  have J := bb3_new w a b
  have HO := hid (fun W => div_any m n W hm hn hz)
  have HR := hid (fun W => result_any (keep (divV m n)) (fitB (divV m n)) W)
  have HA' := hid HA
  have HB' := hid HB
  unfold resV
  generalize (if fitB (divV m n) = true then nu (keep (divV m n)) else er 4) = y at *
  generalize keep (divV m n) = c1 at *
  generalize fitB (divV m n) = c2 at *
  obtain ⟨yk, yn, yt, yb, ye⟩ := y
  obtain ⟨ak, an, at', ab, ae⟩ := a
  obtain ⟨bk, bn, bt, bb, be⟩ := b
  clear HA HB hm hn
  simp only [Cv.v, vv] at *
  go_enter Tryz.func39, Tryz.ntmps39
  go_wp2_with (first
    | (go_at_call_of 71 at'; refine (HA'.out _ J.q).mono ?_; rintro x w1 ⟨rfl, q1⟩; replace J := J.on q1; clear q1; have py0 := J.y.c0; have py1 := J.y.c1; have py2 := J.y.c2; have py3 := J.y.c3; have py4 := J.y.c4)
    | (go_at_call_of 71 bt; refine (HB'.out _ J.q).mono ?_; rintro x w2 ⟨rfl, q1⟩; replace J := J.on q1; clear q1)
    | (go_at_call 85; refine (HO.out _).mono ?_; rintro x w3 ⟨rfl, q3⟩; replace J := J.on q3; clear q3)
    | (go_at_call 81; refine (HR.out _).mono ?_; rintro x w4 ⟨rfl, q1⟩; replace J := J.on q1; clear q1; have rz0 := J.z.c0; have rz1 := J.z.c1; have rz2 := J.z.c2; have rz3 := J.z.c3; have rz4 := J.z.c4; have rf0 := J.z.f0; have rf1 := J.z.f1; have rf2 := J.z.f2; have rf3 := J.z.f3; have rf4 := J.z.f4))
  exact bodyPost_ret (v := .agg #[.int .i64 yk, .int .i64 yn, .string yt, .bool yb, .int .i64 ye]) (by simp [results, Tryz.results39, go_sem, rz0, rz1, rz2, rz3, rz4]) rfl ⟨rfl, Q5 J.q (by omega)⟩
end Go.Proofs.YtfjpdopmojfchaaGreatDoor
