/- What the statements of layer 12 begin with: parts. -/
import Derived.Test.YtfjpdopmojfchaaGreatDoorBjsub
import Derived.Test.YtfjpdopmojfchaaGreatDoorBjdiv
namespace Go.Proofs.YtfjpdopmojfchaaGreatDoor
open Go.RowKit
set_option linter.unusedVariables false
set_option linter.unusedSimpArgs false
theorem nu_may (n : Int) : (nu n).may = true := (Vk.num n).may
theorem bo_may (b : Bool) : (bo b).may = true := (Vk.bool b).may
theorem er_may (e : Int) (h1 : 1 ≤ e) (h7 : e ≤ 7) : (er e).may = true := (Vk.err e h1 h7).may
theorem ctd_may {x : Cv} (h : x.may = true) : ctd x = x := by unfold ctd; rw [if_pos h]
theorem nil_sm {k n e : Int} {b : Bool} : Cv.sm ⟨k, n, ⟨#[]⟩, b, e⟩ := by show (((⟨#[]⟩ : ByteArray).size : Nat) : Int) ≤ _; decide
theorem number_nu (n : Int) (w : World) (hw : Std2 w) : Calls Tryz.prog 71 #[(nu n).v] w fun x w' => x = .returned (.tuple #[.int .i64 n, .int .i64 0]) ∧ Q w w' :=
  number_vk 1 n ⟨#[]⟩ false 0 w hw (by decide) (Vk.num n)
theorem resV_yes {r : Int} (h : Fx r) : resV r = nu r := by
  unfold resV
  have := fitB_yes h.lo h.hi
  rw [if_pos this, keep_yes this]
set_option maxHeartbeats 1000000 in
theorem neg_any (a y : Cv) (w : World) (HB : ∀ W, Q w W → Calls Tryz.prog 18 #[.string ⟨#[45]⟩, (nu 0).v, a.v] W fun r W' => r = .returned y.v ∧ Q W W') : Calls Tryz.prog 20 #[a.v] w fun r w' => r = .returned y.v ∧ Q w w' := by
  have HA := hid (bx_new w (.int .i64 a.k) (.int .i64 a.n) (.string a.t) (.bool a.b) (.int .i64 a.e))
  have HZ : Hid (Bx ((w.alloc (.cells #[.int .i64 a.k, .int .i64 a.n, .string a.t, .bool a.b, .int .i64 a.e] 37)).alloc (.cells #[.int .i64 0, .int .i64 0, .string ⟨#[]⟩, .bool false, .int .i64 0] 37)) (w.heap.size + 1) (.int .i64 0) (.int .i64 0) (.string ⟨#[]⟩) (.bool false) (.int .i64 0)) := by
    show Bx _ _ _ _ _ _ _
    have h := bxz (w.alloc (.cells #[.int .i64 a.k, .int .i64 a.n, .string a.t, .bool a.b, .int .i64 a.e] 37))
    rw [World.size_alloc] at h
    exact h
  have HN := hid (fun W => number_any 0 W)
  have HB' := hid HB
  obtain ⟨yk, yn, yt, yb, ye⟩ := y
  obtain ⟨ak, an, at', ab, ae⟩ := a
  clear HB
  simp only [Cv.v, vv, nu] at *
  have q0 : Hid (Q w ((w.alloc (.cells #[.int .i64 ak, .int .i64 an, .string at', .bool ab, .int .i64 ae] 37)).alloc (.cells #[.int .i64 0, .int .i64 0, .string ⟨#[]⟩, .bool false, .int .i64 0] 37))) := hid (((Q.refl _).alloc _).alloc _)
  have A0 := hid (HA.out.on ((Q.refl _).alloc (.cells #[.int .i64 0, .int .i64 0, .string ⟨#[]⟩, .bool false, .int .i64 0] 37)))
  go_enter Tryz.func20, Tryz.ntmps20
  go_upto_region 1 with fail
  go_region_with (first
    | (go_at_call 55; refine (HN.out _).mono ?_; rintro x w2 ⟨rfl, q2⟩; first | (have A1 := hid (A0.out.on q2); have B1 := hid (HZ.out.on q2); have Q1 := hid (q0.out.trans q2)) | (have A1 := hid ((A0.out.on ((Q.refl _).drew)).on q2); have B1 := hid ((HZ.out.on ((Q.refl _).drew)).on q2); have Q1 := hid (q0.out.drew.trans q2)); clear q2; obtain ⟨a0, a1, a2, a3, a4, _⟩ := A1.out)
    | (go_at_call 18; refine (HB'.out _ Q1.out).mono ?_; rintro x w3 ⟨rfl, q3⟩; have B2 := (B1.out.on q3); have Q2 := hid (Q1.out.trans q3); clear q3; have d0 := B2.c0; have d1 := B2.c1; have d2 := B2.c2; have d3 := B2.c3; have d4 := B2.c4; have y0 := B2.f0; have y1 := B2.f1; have y2 := B2.f2; have y3 := B2.f3; have y4 := B2.f4; clear B2 B1 A1 HA HB' HZ A0 q0 HN))
  all_goals try go_wp2
  all_goals exact bodyPost_ret (v := .agg #[.int .i64 yk, .int .i64 yn, .string yt, .bool yb, .int .i64 ye]) (by simp [results, Tryz.results20, go_sem, d0, d1, d2, d3, d4]) rfl ⟨rfl, Q5 Q2.out (by omega)⟩
theorem known_if (w : World) : Calls Tryz.prog 15 #[.string ⟨#[73, 70]⟩] w fun e w' => e = .returned (.bool true) ∧ Q w w' := by
  have HF := hid (fun W => find_if W)
  go_enter Tryz.func15, Tryz.ntmps15
  go_wp2_with (go_at_call 29; refine (HF.out _).mono ?_; rintro x w1 ⟨f, rfl, hv, q1⟩; obtain ⟨p, hfp⟩ := hv.sh; subst hfp; clear hv)
  go_ret
  exact ⟨rfl, q1.alloc _⟩
theorem known_no (w : World) : Calls Tryz.prog 15 #[.string ⟨#[105, 102]⟩] w fun e w' => e = .returned (.bool false) ∧ Q w w' := by
  have HF := hid (fun W => find_no W)
  go_enter Tryz.func15, Tryz.ntmps15
  go_wp2_with (go_at_call 29; refine (HF.out _).mono ?_; rintro x w1 ⟨rfl, q1⟩)
  go_ret
  exact ⟨rfl, q1.alloc _⟩
theorem bag {W : World} {p F : Nat} {f : Value} (hf : f = .func (.func 103) #[] #[.pointer (some ⟨p, 0, none⟩)]) (h : AggV W f F) : W.cell? ⟨p, 0, none⟩ = some (.func (.func F) #[] #[]) := by
  obtain ⟨p', e, c⟩ := h
  rw [hf] at e
  simp at e
  subst e
  exact c
theorem worst_small : worst [nu 10000, tx ⟨#[120]⟩, nu 5000] = 0 := by rfl
theorem nums_small : nums [nu 10000, tx ⟨#[120]⟩, nu 5000] = [10000, 5000] := by
  rw [show [nu 10000, tx ⟨#[120]⟩, nu 5000] = [nu 10000] ++ ([tx ⟨#[120]⟩] ++ [nu 5000]) from rfl, nums_append, nums_append, nums_one _ rfl (nu_may _), nums_one _ rfl (nu_may _), nums_none _ (.inl (by decide))]
  rfl
theorem beg_sum (w W2 W3 : World) (hw : Std2 w) (q2 : Q w W2) (q3 : Q (W2.alloc (.cells #[.int .i64 1, .int .i64 10000, .string ⟨#[]⟩, .bool false, .int .i64 0, .int .i64 2, .int .i64 0, .string ⟨#[120]⟩, .bool false, .int .i64 0] 37)) W3) :
    Calls Tryz.prog 13 #[.string ⟨#[83, 85, 77]⟩, .slice (some ⟨W3.heap.size + 1, 0, none⟩) 2 2] ((W3.alloc (.cells #[.int .i64 1, .int .i64 5000, .string ⟨#[]⟩, .bool false, .int .i64 0] 37)).alloc (.cells #[.bool true, .slice (some ⟨W2.heap.size, 0, none⟩) 2 2, .bool false, .slice (some ⟨W3.heap.size, 0, none⟩) 1 1] 32)) fun r W' => r = .returned (nu 15000).v ∧ Q W3 W' := by
  have hq : Q w ((W3.alloc (.cells #[.int .i64 1, .int .i64 5000, .string ⟨#[]⟩, .bool false, .int .i64 0] 37)).alloc (.cells #[.bool true, .slice (some ⟨W2.heap.size, 0, none⟩) 2 2, .bool false, .slice (some ⟨W3.heap.size, 0, none⟩) 1 1] 32)) := (((q2.alloc _).trans q3).alloc _).alloc _
  have hA : Args ((W3.alloc (.cells #[.int .i64 1, .int .i64 5000, .string ⟨#[]⟩, .bool false, .int .i64 0] 37)).alloc (.cells #[.bool true, .slice (some ⟨W2.heap.size, 0, none⟩) 2 2, .bool false, .slice (some ⟨W3.heap.size, 0, none⟩) 1 1] 32)) (.slice (some ⟨W3.heap.size + 1, 0, none⟩) 2 2) [⟨true, .slice (some ⟨W2.heap.size, 0, none⟩) 2 2, [nu 10000, tx ⟨#[120]⟩]⟩, ⟨false, .slice (some ⟨W3.heap.size, 0, none⟩) 1 1, [nu 5000]⟩] := by
    constructor
    · have h := sl_lit Ag.len (W3.alloc (.cells #[.int .i64 1, .int .i64 5000, .string ⟨#[]⟩, .bool false, .int .i64 0] 37)) [⟨true, .slice (some ⟨W2.heap.size, 0, none⟩) 2 2, [nu 10000, tx ⟨#[120]⟩]⟩, ⟨false, .slice (some ⟨W3.heap.size, 0, none⟩) 1 1, [nu 5000]⟩] 2 rfl (by omega) 32
      rw [World.size_alloc] at h
      exact h
    · intro a ha
      simp only [List.mem_cons, List.not_mem_nil, or_false] at ha
      rcases ha with rfl | rfl
      · exact (sl_lit Cv.len W2 [nu 10000, tx ⟨#[120]⟩] 2 rfl (by omega) 37).on ((q3.alloc _).alloc _)
      · exact (sl_lit Cv.len W3 [nu 5000] 1 rfl (by omega) 37).on ((Q.refl _).alloc _)
  refine (call_sum (some ⟨W3.heap.size + 1, 0, none⟩) 2 2 (nu 15000) _ (by omega) (by omega) (fun W f p hf q hv => ?_)).mono fun r W' h => ⟨h.1, (((Q.refl _).alloc _).alloc _).trans h.2⟩
  refine agg69 p _ _ (nu 15000) W (hw.on (hq.trans q)) (bag hf hv) (hA.on q) (by simp) (fun a ha => ?_) worst_small (fun W' s q' hs => ?_)
  · simp only [List.mem_cons, List.not_mem_nil, or_false] at ha
    rcases ha with rfl | rfl
    · refine ⟨by simp, fun x hx => ?_⟩
      simp only [List.mem_cons, List.not_mem_nil, or_false] at hx
      rcases hx with rfl | rfl
      · exact nil_sm
      · show (((⟨#[120]⟩ : ByteArray).size : Nat) : Int) ≤ _; decide
    · refine ⟨by simp, fun x hx => ?_⟩
      simp only [List.mem_cons, List.not_mem_nil, or_false] at hx
      subst hx
      exact nil_sm
  · have e : nums ([(⟨true, .slice (some ⟨W2.heap.size, 0, none⟩) 2 2, [nu 10000, tx ⟨#[120]⟩]⟩ : Ag), ⟨false, .slice (some ⟨W3.heap.size, 0, none⟩) 1 1, [nu 5000]⟩].flatMap (·.l)) = [10000, 5000] := nums_small
    rw [e] at hs
    exact bsum_any [10000, 5000] s W' hs (by simp) (fun x hx => by simp at hx; rcases hx with rfl | rfl; exact ⟨by omega, by omega⟩; exact ⟨by omega, by omega⟩)
theorem beg_div (w : World) (hw : Std2 w) : Calls Tryz.prog 18 #[.string ⟨#[47]⟩, (nu 1).v, (nu 0).v] w fun r w' => r = .returned (er 3).v ∧ Q w w' :=
  bin_div (nu 1) (nu 0) (nu 1) (nu 0) (er 3) w hw nil_sm nil_sm (ctd_may (nu_may _)) (ctd_may (nu_may _)) rfl (fun W q => calc_div0 ⟨#[47]⟩ (nu 1) (nu 0) 1 0 0 0 W (fun V g => number_nu 1 V (hw.on (q.trans g))) (fun V g => number_nu 0 V (hw.on (q.trans g))) rfl)
theorem beg_neg (w : World) (hw : Std2 w) : Calls Tryz.prog 20 #[(nu 3).v] w fun r w' => r = .returned (nu (-3)).v ∧ Q w w' :=
  neg_any (nu 3) (nu (-3)) w fun W q => bin_sub (nu 0) (nu 3) (nu 0) (nu 3) (nu (-3)) W (hw.on q) nil_sm nil_sm (ctd_may (nu_may _)) (ctd_may (nu_may _)) rfl (fun V g => by
    have h := calc_sub (nu 0) (nu 3) 0 3 V (fun U f => number_nu 0 U (hw.on ((q.trans g).trans f))) (fun U f => number_nu 3 U (hw.on ((q.trans g).trans f))) ⟨by omega, by omega⟩ ⟨by omega, by omega⟩
    rw [resV_yes ⟨by omega, by omega⟩] at h
    exact h)
end Go.Proofs.YtfjpdopmojfchaaGreatDoor
