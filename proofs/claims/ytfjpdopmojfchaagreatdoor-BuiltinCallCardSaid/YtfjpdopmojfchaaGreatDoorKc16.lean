/- builtin.Call of functions of s. -/
import Derived.Test.YtfjpdopmojfchaaGreatDoorKc13
set_option linter.unusedVariables false
set_option linter.unusedSimpArgs false
set_option maxRecDepth 100000
set_option maxHeartbeats 8000000
namespace Go.Proofs.YtfjpdopmojfchaaGreatDoor
open Go.RowKit
theorem bz_on {w W : World} (q : Q (w.alloc (.cells #[.int .i64 0, .int .i64 0, .string ⟨#[]⟩, .bool false, .int .i64 0] 37)) W) : Bx W w.heap.size (.int .i64 0) (.int .i64 0) (.string ⟨#[]⟩) (.bool false) (.int .i64 0) := (bxz w).on q
theorem AggV.sh {W : World} {f : Value} {F : Nat} (h : AggV W f F) : ∃ p, f = .func (.func 103) #[] #[.pointer (some ⟨p, 0, none⟩)] := by
  obtain ⟨p, h, _⟩ := h
  exact ⟨p, h⟩
theorem SinV.sh {W : World} {f : Value} {F : Nat} (h : SinV W f F) : ∃ p, f = .func (.func 110) #[] #[.pointer (some ⟨p, 0, none⟩)] := by
  obtain ⟨p, h, _⟩ := h
  exact ⟨p, h⟩
theorem TakV.sh {W : World} {f : Value} {K G F : Nat} (h : TakV W f K G F) : ∃ p, f = .func (.func 110) #[] #[.pointer (some ⟨p, 0, none⟩)] := by
  obtain ⟨p, _, _, h, _⟩ := h
  exact ⟨p, h⟩
theorem bz_q {w W : World} (q : Q (w.alloc (.cells #[.int .i64 0, .int .i64 0, .string ⟨#[]⟩, .bool false, .int .i64 0] 37)) W) : Q w W := ((Q.refl _).alloc _).trans q
set_option maxHeartbeats 1000000 in
theorem call_sum (ao : Option Addr) (n cap : Nat) (y : Cv) (w : World) (h0 : 0 ≤ (n : Int)) (h1 : (n : Int) ≤ 9223372036854775807)
    (HG : ∀ W f p, f = .func (.func 103) #[] #[.pointer (some ⟨p, 0, none⟩)] → Q w W → AggV W f 58 → Calls Tryz.prog 103 #[.slice ao n cap, .pointer (some ⟨p, 0, none⟩)] W fun r W' => r = .returned y.v ∧ Q W W') :
    Calls Tryz.prog 13 #[.string ⟨#[83, 85, 77]⟩, .slice ao n cap] w fun r w' => r = .returned y.v ∧ Q w w' := by
  have HF := hid (fun W => find_sum W)
  have HG' := hid HG
  have hn0 : ¬ (n : Int) < 0 := by omega
  have hn1 : ¬ (9223372036854775807 : Int) < (n : Int) := by omega
  obtain ⟨yk, yn, yt, yb, ye⟩ := y
  clear HG
  simp only [Cv.v, vv] at *
  go_enter Tryz.func13, Tryz.ntmps13
  go_wp2_with (first
    | (go_at_call 29; refine (HF.out _).mono ?_; rintro x w1 ⟨f, rfl, hv, q1⟩; obtain ⟨p, hfp⟩ := hv.sh; subst hfp; have HV := hid hv; have Q1 := hid q1; clear hv q1)
    | (go_at_call 103; refine (HG'.out _ _ _ rfl ((bz_q Q1.out).alloc _) (HV.out.on ((Q.refl _).alloc _))).mono ?_; rintro x w2 ⟨rfl, q2⟩; have Q2 := hid ((Q1.out.alloc _).trans q2); clear q2; obtain ⟨d0, d1, d2, d3, d4, y0, y1, y2, y3, y4, _⟩ := bz_on Q2.out))
  exact bodyPost_ret (v := .agg #[.int .i64 yk, .int .i64 yn, .string yt, .bool yb, .int .i64 ye]) (by simp [results, Tryz.results13, go_sem, d0, d1, d2, d3, d4]) rfl ⟨rfl, Q5 (bz_q Q2.out) (Nat.le_refl _)⟩
set_option maxHeartbeats 1000000 in
theorem call_min (ao : Option Addr) (n cap : Nat) (y : Cv) (w : World) (h0 : 0 ≤ (n : Int)) (h1 : (n : Int) ≤ 9223372036854775807)
    (HG : ∀ W f p, f = .func (.func 103) #[] #[.pointer (some ⟨p, 0, none⟩)] → Q w W → AggV W f 59 → Calls Tryz.prog 103 #[.slice ao n cap, .pointer (some ⟨p, 0, none⟩)] W fun r W' => r = .returned y.v ∧ Q W W') :
    Calls Tryz.prog 13 #[.string ⟨#[77, 73, 78]⟩, .slice ao n cap] w fun r w' => r = .returned y.v ∧ Q w w' := by
  have HF := hid (fun W => find_min W)
  have HG' := hid HG
  have hn0 : ¬ (n : Int) < 0 := by omega
  have hn1 : ¬ (9223372036854775807 : Int) < (n : Int) := by omega
  obtain ⟨yk, yn, yt, yb, ye⟩ := y
  clear HG
  simp only [Cv.v, vv] at *
  go_enter Tryz.func13, Tryz.ntmps13
  go_wp2_with (first
    | (go_at_call 29; refine (HF.out _).mono ?_; rintro x w1 ⟨f, rfl, hv, q1⟩; obtain ⟨p, hfp⟩ := hv.sh; subst hfp; have HV := hid hv; have Q1 := hid q1; clear hv q1)
    | (go_at_call 103; refine (HG'.out _ _ _ rfl ((bz_q Q1.out).alloc _) (HV.out.on ((Q.refl _).alloc _))).mono ?_; rintro x w2 ⟨rfl, q2⟩; have Q2 := hid ((Q1.out.alloc _).trans q2); clear q2; obtain ⟨d0, d1, d2, d3, d4, y0, y1, y2, y3, y4, _⟩ := bz_on Q2.out))
  exact bodyPost_ret (v := .agg #[.int .i64 yk, .int .i64 yn, .string yt, .bool yb, .int .i64 ye]) (by simp [results, Tryz.results13, go_sem, d0, d1, d2, d3, d4]) rfl ⟨rfl, Q5 (bz_q Q2.out) (Nat.le_refl _)⟩
set_option maxHeartbeats 1000000 in
theorem call_max (ao : Option Addr) (n cap : Nat) (y : Cv) (w : World) (h0 : 0 ≤ (n : Int)) (h1 : (n : Int) ≤ 9223372036854775807)
    (HG : ∀ W f p, f = .func (.func 103) #[] #[.pointer (some ⟨p, 0, none⟩)] → Q w W → AggV W f 60 → Calls Tryz.prog 103 #[.slice ao n cap, .pointer (some ⟨p, 0, none⟩)] W fun r W' => r = .returned y.v ∧ Q W W') :
    Calls Tryz.prog 13 #[.string ⟨#[77, 65, 88]⟩, .slice ao n cap] w fun r w' => r = .returned y.v ∧ Q w w' := by
  have HF := hid (fun W => find_max W)
  have HG' := hid HG
  have hn0 : ¬ (n : Int) < 0 := by omega
  have hn1 : ¬ (9223372036854775807 : Int) < (n : Int) := by omega
  obtain ⟨yk, yn, yt, yb, ye⟩ := y
  clear HG
  simp only [Cv.v, vv] at *
  go_enter Tryz.func13, Tryz.ntmps13
  go_wp2_with (first
    | (go_at_call 29; refine (HF.out _).mono ?_; rintro x w1 ⟨f, rfl, hv, q1⟩; obtain ⟨p, hfp⟩ := hv.sh; subst hfp; have HV := hid hv; have Q1 := hid q1; clear hv q1)
    | (go_at_call 103; refine (HG'.out _ _ _ rfl ((bz_q Q1.out).alloc _) (HV.out.on ((Q.refl _).alloc _))).mono ?_; rintro x w2 ⟨rfl, q2⟩; have Q2 := hid ((Q1.out.alloc _).trans q2); clear q2; obtain ⟨d0, d1, d2, d3, d4, y0, y1, y2, y3, y4, _⟩ := bz_on Q2.out))
  exact bodyPost_ret (v := .agg #[.int .i64 yk, .int .i64 yn, .string yt, .bool yb, .int .i64 ye]) (by simp [results, Tryz.results13, go_sem, d0, d1, d2, d3, d4]) rfl ⟨rfl, Q5 (bz_q Q2.out) (Nat.le_refl _)⟩
set_option maxHeartbeats 1000000 in
theorem call_count (ao : Option Addr) (n cap : Nat) (y : Cv) (w : World) (h0 : 0 ≤ (n : Int)) (h1 : (n : Int) ≤ 9223372036854775807)
    (HG : ∀ W f p, f = .func (.func 103) #[] #[.pointer (some ⟨p, 0, none⟩)] → Q w W → AggV W f 61 → Calls Tryz.prog 103 #[.slice ao n cap, .pointer (some ⟨p, 0, none⟩)] W fun r W' => r = .returned y.v ∧ Q W W') :
    Calls Tryz.prog 13 #[.string ⟨#[67, 79, 85, 78, 84]⟩, .slice ao n cap] w fun r w' => r = .returned y.v ∧ Q w w' := by
  have HF := hid (fun W => find_count W)
  have HG' := hid HG
  have hn0 : ¬ (n : Int) < 0 := by omega
  have hn1 : ¬ (9223372036854775807 : Int) < (n : Int) := by omega
  obtain ⟨yk, yn, yt, yb, ye⟩ := y
  clear HG
  simp only [Cv.v, vv] at *
  go_enter Tryz.func13, Tryz.ntmps13
  go_wp2_with (first
    | (go_at_call 29; refine (HF.out _).mono ?_; rintro x w1 ⟨f, rfl, hv, q1⟩; obtain ⟨p, hfp⟩ := hv.sh; subst hfp; have HV := hid hv; have Q1 := hid q1; clear hv q1)
    | (go_at_call 103; refine (HG'.out _ _ _ rfl ((bz_q Q1.out).alloc _) (HV.out.on ((Q.refl _).alloc _))).mono ?_; rintro x w2 ⟨rfl, q2⟩; have Q2 := hid ((Q1.out.alloc _).trans q2); clear q2; obtain ⟨d0, d1, d2, d3, d4, y0, y1, y2, y3, y4, _⟩ := bz_on Q2.out))
  exact bodyPost_ret (v := .agg #[.int .i64 yk, .int .i64 yn, .string yt, .bool yb, .int .i64 ye]) (by simp [results, Tryz.results13, go_sem, d0, d1, d2, d3, d4]) rfl ⟨rfl, Q5 (bz_q Q2.out) (Nat.le_refl _)⟩
set_option maxHeartbeats 1000000 in
theorem call_average (ao : Option Addr) (n cap : Nat) (y : Cv) (w : World) (h0 : 0 ≤ (n : Int)) (h1 : (n : Int) ≤ 9223372036854775807)
    (HG : ∀ W f p, f = .func (.func 103) #[] #[.pointer (some ⟨p, 0, none⟩)] → Q w W → AggV W f 62 → Calls Tryz.prog 103 #[.slice ao n cap, .pointer (some ⟨p, 0, none⟩)] W fun r W' => r = .returned y.v ∧ Q W W') :
    Calls Tryz.prog 13 #[.string ⟨#[65, 86, 69, 82, 65, 71, 69]⟩, .slice ao n cap] w fun r w' => r = .returned y.v ∧ Q w w' := by
  have HF := hid (fun W => find_average W)
  have HG' := hid HG
  have hn0 : ¬ (n : Int) < 0 := by omega
  have hn1 : ¬ (9223372036854775807 : Int) < (n : Int) := by omega
  obtain ⟨yk, yn, yt, yb, ye⟩ := y
  clear HG
  simp only [Cv.v, vv] at *
  go_enter Tryz.func13, Tryz.ntmps13
  go_wp2_with (first
    | (go_at_call 29; refine (HF.out _).mono ?_; rintro x w1 ⟨f, rfl, hv, q1⟩; obtain ⟨p, hfp⟩ := hv.sh; subst hfp; have HV := hid hv; have Q1 := hid q1; clear hv q1)
    | (go_at_call 103; refine (HG'.out _ _ _ rfl ((bz_q Q1.out).alloc _) (HV.out.on ((Q.refl _).alloc _))).mono ?_; rintro x w2 ⟨rfl, q2⟩; have Q2 := hid ((Q1.out.alloc _).trans q2); clear q2; obtain ⟨d0, d1, d2, d3, d4, y0, y1, y2, y3, y4, _⟩ := bz_on Q2.out))
  exact bodyPost_ret (v := .agg #[.int .i64 yk, .int .i64 yn, .string yt, .bool yb, .int .i64 ye]) (by simp [results, Tryz.results13, go_sem, d0, d1, d2, d3, d4]) rfl ⟨rfl, Q5 (bz_q Q2.out) (Nat.le_refl _)⟩
set_option maxHeartbeats 1000000 in
theorem call_if (ao : Option Addr) (n cap : Nat) (y : Cv) (w : World) (h0 : 2 ≤ (n : Int)) (h1 : (n : Int) ≤ 3)
    (HG : ∀ W f p, f = .func (.func 110) #[] #[.pointer (some ⟨p, 0, none⟩)] → Q w W → SinV W f 64 → Calls Tryz.prog 110 #[.slice ao n cap, .pointer (some ⟨p, 0, none⟩)] W fun r W' => r = .returned y.v ∧ Q W W') :
    Calls Tryz.prog 13 #[.string ⟨#[73, 70]⟩, .slice ao n cap] w fun r w' => r = .returned y.v ∧ Q w w' := by
  have HF := hid (fun W => find_if W)
  have HG' := hid HG
  have hn0 : ¬ (n : Int) < 2 := by omega
  have hn1 : ¬ (3 : Int) < (n : Int) := by omega
  obtain ⟨yk, yn, yt, yb, ye⟩ := y
  clear HG
  simp only [Cv.v, vv] at *
  go_enter Tryz.func13, Tryz.ntmps13
  go_wp2_with (first
    | (go_at_call 29; refine (HF.out _).mono ?_; rintro x w1 ⟨f, rfl, hv, q1⟩; obtain ⟨p, hfp⟩ := hv.sh; subst hfp; have HV := hid hv; have Q1 := hid q1; clear hv q1)
    | (go_at_call 110; refine (HG'.out _ _ _ rfl ((bz_q Q1.out).alloc _) (HV.out.on ((Q.refl _).alloc _))).mono ?_; rintro x w2 ⟨rfl, q2⟩; have Q2 := hid ((Q1.out.alloc _).trans q2); clear q2; obtain ⟨d0, d1, d2, d3, d4, y0, y1, y2, y3, y4, _⟩ := bz_on Q2.out))
  exact bodyPost_ret (v := .agg #[.int .i64 yk, .int .i64 yn, .string yt, .bool yb, .int .i64 ye]) (by simp [results, Tryz.results13, go_sem, d0, d1, d2, d3, d4]) rfl ⟨rfl, Q5 (bz_q Q2.out) (Nat.le_refl _)⟩
set_option maxHeartbeats 1000000 in
theorem call_and (ao : Option Addr) (n cap : Nat) (y : Cv) (w : World) (h0 : 1 ≤ (n : Int)) (h1 : (n : Int) ≤ 9223372036854775807)
    (HG : ∀ W f p, f = .func (.func 110) #[] #[.pointer (some ⟨p, 0, none⟩)] → Q w W → TakV W f 112 66 67 → Calls Tryz.prog 110 #[.slice ao n cap, .pointer (some ⟨p, 0, none⟩)] W fun r W' => r = .returned y.v ∧ Q W W') :
    Calls Tryz.prog 13 #[.string ⟨#[65, 78, 68]⟩, .slice ao n cap] w fun r w' => r = .returned y.v ∧ Q w w' := by
  have HF := hid (fun W => find_and W)
  have HG' := hid HG
  have hn0 : ¬ (n : Int) < 1 := by omega
  have hn1 : ¬ (9223372036854775807 : Int) < (n : Int) := by omega
  obtain ⟨yk, yn, yt, yb, ye⟩ := y
  clear HG
  simp only [Cv.v, vv] at *
  go_enter Tryz.func13, Tryz.ntmps13
  go_wp2_with (first
    | (go_at_call 29; refine (HF.out _).mono ?_; rintro x w1 ⟨f, rfl, hv, q1⟩; obtain ⟨p, hfp⟩ := hv.sh; subst hfp; have HV := hid hv; have Q1 := hid q1; clear hv q1)
    | (go_at_call 110; refine (HG'.out _ _ _ rfl ((bz_q Q1.out).alloc _) (HV.out.on ((Q.refl _).alloc _))).mono ?_; rintro x w2 ⟨rfl, q2⟩; have Q2 := hid ((Q1.out.alloc _).trans q2); clear q2; obtain ⟨d0, d1, d2, d3, d4, y0, y1, y2, y3, y4, _⟩ := bz_on Q2.out))
  exact bodyPost_ret (v := .agg #[.int .i64 yk, .int .i64 yn, .string yt, .bool yb, .int .i64 ye]) (by simp [results, Tryz.results13, go_sem, d0, d1, d2, d3, d4]) rfl ⟨rfl, Q5 (bz_q Q2.out) (Nat.le_refl _)⟩
set_option maxHeartbeats 1000000 in
theorem call_or (ao : Option Addr) (n cap : Nat) (y : Cv) (w : World) (h0 : 1 ≤ (n : Int)) (h1 : (n : Int) ≤ 9223372036854775807)
    (HG : ∀ W f p, f = .func (.func 110) #[] #[.pointer (some ⟨p, 0, none⟩)] → Q w W → TakV W f 112 66 68 → Calls Tryz.prog 110 #[.slice ao n cap, .pointer (some ⟨p, 0, none⟩)] W fun r W' => r = .returned y.v ∧ Q W W') :
    Calls Tryz.prog 13 #[.string ⟨#[79, 82]⟩, .slice ao n cap] w fun r w' => r = .returned y.v ∧ Q w w' := by
  have HF := hid (fun W => find_or W)
  have HG' := hid HG
  have hn0 : ¬ (n : Int) < 1 := by omega
  have hn1 : ¬ (9223372036854775807 : Int) < (n : Int) := by omega
  obtain ⟨yk, yn, yt, yb, ye⟩ := y
  clear HG
  simp only [Cv.v, vv] at *
  go_enter Tryz.func13, Tryz.ntmps13
  go_wp2_with (first
    | (go_at_call 29; refine (HF.out _).mono ?_; rintro x w1 ⟨f, rfl, hv, q1⟩; obtain ⟨p, hfp⟩ := hv.sh; subst hfp; have HV := hid hv; have Q1 := hid q1; clear hv q1)
    | (go_at_call 110; refine (HG'.out _ _ _ rfl ((bz_q Q1.out).alloc _) (HV.out.on ((Q.refl _).alloc _))).mono ?_; rintro x w2 ⟨rfl, q2⟩; have Q2 := hid ((Q1.out.alloc _).trans q2); clear q2; obtain ⟨d0, d1, d2, d3, d4, y0, y1, y2, y3, y4, _⟩ := bz_on Q2.out))
  exact bodyPost_ret (v := .agg #[.int .i64 yk, .int .i64 yn, .string yt, .bool yb, .int .i64 ye]) (by simp [results, Tryz.results13, go_sem, d0, d1, d2, d3, d4]) rfl ⟨rfl, Q5 (bz_q Q2.out) (Nat.le_refl _)⟩
set_option maxHeartbeats 1000000 in
theorem call_not (ao : Option Addr) (n cap : Nat) (y : Cv) (w : World) (h0 : 1 ≤ (n : Int)) (h1 : (n : Int) ≤ 1)
    (HG : ∀ W f p, f = .func (.func 110) #[] #[.pointer (some ⟨p, 0, none⟩)] → Q w W → TakV W f 112 66 69 → Calls Tryz.prog 110 #[.slice ao n cap, .pointer (some ⟨p, 0, none⟩)] W fun r W' => r = .returned y.v ∧ Q W W') :
    Calls Tryz.prog 13 #[.string ⟨#[78, 79, 84]⟩, .slice ao n cap] w fun r w' => r = .returned y.v ∧ Q w w' := by
  have HF := hid (fun W => find_not W)
  have HG' := hid HG
  have hn0 : ¬ (n : Int) < 1 := by omega
  have hn1 : ¬ (1 : Int) < (n : Int) := by omega
  obtain ⟨yk, yn, yt, yb, ye⟩ := y
  clear HG
  simp only [Cv.v, vv] at *
  go_enter Tryz.func13, Tryz.ntmps13
  go_wp2_with (first
    | (go_at_call 29; refine (HF.out _).mono ?_; rintro x w1 ⟨f, rfl, hv, q1⟩; obtain ⟨p, hfp⟩ := hv.sh; subst hfp; have HV := hid hv; have Q1 := hid q1; clear hv q1)
    | (go_at_call 110; refine (HG'.out _ _ _ rfl ((bz_q Q1.out).alloc _) (HV.out.on ((Q.refl _).alloc _))).mono ?_; rintro x w2 ⟨rfl, q2⟩; have Q2 := hid ((Q1.out.alloc _).trans q2); clear q2; obtain ⟨d0, d1, d2, d3, d4, y0, y1, y2, y3, y4, _⟩ := bz_on Q2.out))
  exact bodyPost_ret (v := .agg #[.int .i64 yk, .int .i64 yn, .string yt, .bool yb, .int .i64 ye]) (by simp [results, Tryz.results13, go_sem, d0, d1, d2, d3, d4]) rfl ⟨rfl, Q5 (bz_q Q2.out) (Nat.le_refl _)⟩
set_option maxHeartbeats 1000000 in
theorem call_abs (ao : Option Addr) (n cap : Nat) (y : Cv) (w : World) (h0 : 1 ≤ (n : Int)) (h1 : (n : Int) ≤ 1)
    (HG : ∀ W f p, f = .func (.func 110) #[] #[.pointer (some ⟨p, 0, none⟩)] → Q w W → TakV W f 115 71 72 → Calls Tryz.prog 110 #[.slice ao n cap, .pointer (some ⟨p, 0, none⟩)] W fun r W' => r = .returned y.v ∧ Q W W') :
    Calls Tryz.prog 13 #[.string ⟨#[65, 66, 83]⟩, .slice ao n cap] w fun r w' => r = .returned y.v ∧ Q w w' := by
  have HF := hid (fun W => find_abs W)
  have HG' := hid HG
  have hn0 : ¬ (n : Int) < 1 := by omega
  have hn1 : ¬ (1 : Int) < (n : Int) := by omega
  obtain ⟨yk, yn, yt, yb, ye⟩ := y
  clear HG
  simp only [Cv.v, vv] at *
  go_enter Tryz.func13, Tryz.ntmps13
  go_wp2_with (first
    | (go_at_call 29; refine (HF.out _).mono ?_; rintro x w1 ⟨f, rfl, hv, q1⟩; obtain ⟨p, hfp⟩ := hv.sh; subst hfp; have HV := hid hv; have Q1 := hid q1; clear hv q1)
    | (go_at_call 110; refine (HG'.out _ _ _ rfl ((bz_q Q1.out).alloc _) (HV.out.on ((Q.refl _).alloc _))).mono ?_; rintro x w2 ⟨rfl, q2⟩; have Q2 := hid ((Q1.out.alloc _).trans q2); clear q2; obtain ⟨d0, d1, d2, d3, d4, y0, y1, y2, y3, y4, _⟩ := bz_on Q2.out))
  exact bodyPost_ret (v := .agg #[.int .i64 yk, .int .i64 yn, .string yt, .bool yb, .int .i64 ye]) (by simp [results, Tryz.results13, go_sem, d0, d1, d2, d3, d4]) rfl ⟨rfl, Q5 (bz_q Q2.out) (Nat.le_refl _)⟩
set_option maxHeartbeats 1000000 in
theorem call_len (ao : Option Addr) (n cap : Nat) (y : Cv) (w : World) (h0 : 1 ≤ (n : Int)) (h1 : (n : Int) ≤ 1)
    (HG : ∀ W f p, f = .func (.func 110) #[] #[.pointer (some ⟨p, 0, none⟩)] → Q w W → TakV W f 86 41 73 → Calls Tryz.prog 110 #[.slice ao n cap, .pointer (some ⟨p, 0, none⟩)] W fun r W' => r = .returned y.v ∧ Q W W') :
    Calls Tryz.prog 13 #[.string ⟨#[76, 69, 78]⟩, .slice ao n cap] w fun r w' => r = .returned y.v ∧ Q w w' := by
  have HF := hid (fun W => find_len W)
  have HG' := hid HG
  have hn0 : ¬ (n : Int) < 1 := by omega
  have hn1 : ¬ (1 : Int) < (n : Int) := by omega
  obtain ⟨yk, yn, yt, yb, ye⟩ := y
  clear HG
  simp only [Cv.v, vv] at *
  go_enter Tryz.func13, Tryz.ntmps13
  go_wp2_with (first
    | (go_at_call 29; refine (HF.out _).mono ?_; rintro x w1 ⟨f, rfl, hv, q1⟩; obtain ⟨p, hfp⟩ := hv.sh; subst hfp; have HV := hid hv; have Q1 := hid q1; clear hv q1)
    | (go_at_call 110; refine (HG'.out _ _ _ rfl ((bz_q Q1.out).alloc _) (HV.out.on ((Q.refl _).alloc _))).mono ?_; rintro x w2 ⟨rfl, q2⟩; have Q2 := hid ((Q1.out.alloc _).trans q2); clear q2; obtain ⟨d0, d1, d2, d3, d4, y0, y1, y2, y3, y4, _⟩ := bz_on Q2.out))
  exact bodyPost_ret (v := .agg #[.int .i64 yk, .int .i64 yn, .string yt, .bool yb, .int .i64 ye]) (by simp [results, Tryz.results13, go_sem, d0, d1, d2, d3, d4]) rfl ⟨rfl, Q5 (bz_q Q2.out) (Nat.le_refl _)⟩
set_option maxHeartbeats 1000000 in
theorem call_concat (ao : Option Addr) (n cap : Nat) (y : Cv) (w : World) (h0 : 0 ≤ (n : Int)) (h1 : (n : Int) ≤ 9223372036854775807)
    (HG : ∀ W f p, f = .func (.func 110) #[] #[.pointer (some ⟨p, 0, none⟩)] → Q w W → TakV W f 86 41 42 → Calls Tryz.prog 110 #[.slice ao n cap, .pointer (some ⟨p, 0, none⟩)] W fun r W' => r = .returned y.v ∧ Q W W') :
    Calls Tryz.prog 13 #[.string ⟨#[67, 79, 78, 67, 65, 84]⟩, .slice ao n cap] w fun r w' => r = .returned y.v ∧ Q w w' := by
  have HF := hid (fun W => find_concat W)
  have HG' := hid HG
  have hn0 : ¬ (n : Int) < 0 := by omega
  have hn1 : ¬ (9223372036854775807 : Int) < (n : Int) := by omega
  obtain ⟨yk, yn, yt, yb, ye⟩ := y
  clear HG
  simp only [Cv.v, vv] at *
  go_enter Tryz.func13, Tryz.ntmps13
  go_wp2_with (first
    | (go_at_call 29; refine (HF.out _).mono ?_; rintro x w1 ⟨f, rfl, hv, q1⟩; obtain ⟨p, hfp⟩ := hv.sh; subst hfp; have HV := hid hv; have Q1 := hid q1; clear hv q1)
    | (go_at_call 110; refine (HG'.out _ _ _ rfl ((bz_q Q1.out).alloc _) (HV.out.on ((Q.refl _).alloc _))).mono ?_; rintro x w2 ⟨rfl, q2⟩; have Q2 := hid ((Q1.out.alloc _).trans q2); clear q2; obtain ⟨d0, d1, d2, d3, d4, y0, y1, y2, y3, y4, _⟩ := bz_on Q2.out))
  exact bodyPost_ret (v := .agg #[.int .i64 yk, .int .i64 yn, .string yt, .bool yb, .int .i64 ye]) (by simp [results, Tryz.results13, go_sem, d0, d1, d2, d3, d4]) rfl ⟨rfl, Q5 (bz_q Q2.out) (Nat.le_refl _)⟩
set_option maxHeartbeats 1000000 in
theorem call_iserror (ao : Option Addr) (n cap : Nat) (y : Cv) (w : World) (h0 : 1 ≤ (n : Int)) (h1 : (n : Int) ≤ 1)
    (HG : ∀ W f p, f = .func (.func 110) #[] #[.pointer (some ⟨p, 0, none⟩)] → Q w W → SinV W f 74 → Calls Tryz.prog 110 #[.slice ao n cap, .pointer (some ⟨p, 0, none⟩)] W fun r W' => r = .returned y.v ∧ Q W W') :
    Calls Tryz.prog 13 #[.string ⟨#[73, 83, 69, 82, 82, 79, 82]⟩, .slice ao n cap] w fun r w' => r = .returned y.v ∧ Q w w' := by
  have HF := hid (fun W => find_iserror W)
  have HG' := hid HG
  have hn0 : ¬ (n : Int) < 1 := by omega
  have hn1 : ¬ (1 : Int) < (n : Int) := by omega
  obtain ⟨yk, yn, yt, yb, ye⟩ := y
  clear HG
  simp only [Cv.v, vv] at *
  go_enter Tryz.func13, Tryz.ntmps13
  go_wp2_with (first
    | (go_at_call 29; refine (HF.out _).mono ?_; rintro x w1 ⟨f, rfl, hv, q1⟩; obtain ⟨p, hfp⟩ := hv.sh; subst hfp; have HV := hid hv; have Q1 := hid q1; clear hv q1)
    | (go_at_call 110; refine (HG'.out _ _ _ rfl ((bz_q Q1.out).alloc _) (HV.out.on ((Q.refl _).alloc _))).mono ?_; rintro x w2 ⟨rfl, q2⟩; have Q2 := hid ((Q1.out.alloc _).trans q2); clear q2; obtain ⟨d0, d1, d2, d3, d4, y0, y1, y2, y3, y4, _⟩ := bz_on Q2.out))
  exact bodyPost_ret (v := .agg #[.int .i64 yk, .int .i64 yn, .string yt, .bool yb, .int .i64 ye]) (by simp [results, Tryz.results13, go_sem, d0, d1, d2, d3, d4]) rfl ⟨rfl, Q5 (bz_q Q2.out) (Nat.le_refl _)⟩
end Go.Proofs.YtfjpdopmojfchaaGreatDoor
