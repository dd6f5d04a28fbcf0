/- What the statements of layer 1. -/
import Derived.Test.YtfjpdopmojfchaaGreatDoorKc21
import Derived.Deep.CutBlock
import Derived.Test.YtfjpdopmojfchaaGreatDoorKc17
import Derived.Test.YtfjpdopmojfchaaGreatDoorKc11
set_option linter.unusedVariables false
set_option linter.unusedSimpArgs false
set_option maxRecDepth 100000
set_option maxHeartbeats 8000000
namespace Go.Proofs.YtfjpdopmojfchaaGreatDoor
open Go.RowKit
theorem nu_may (n : Int) : (nu n).may = true := (Vk.num n).may
theorem bo_may (b : Bool) : (bo b).may = true := (Vk.bool b).may
theorem er_may (e : Int) (h1 : 1 ≤ e) (h7 : e ≤ 7) : (er e).may = true := (Vk.err e h1 h7).may
theorem ctd_may {x : Cv} (h : x.may = true) : ctd x = x := by unfold ctd; rw [if_pos h]
theorem nil_sm {k n e : Int} {b : Bool} : Cv.sm ⟨k, n, ⟨#[]⟩, b, e⟩ := by show (((⟨#[]⟩ : ByteArray).size : Nat) : Int) ≤ _; decide
theorem number_nu (n : Int) (w : World) (hw : Std2 w) : Calls Tryz.prog 71 #[(nu n).v] w fun x w' => x = .returned (.tuple #[.int .i64 n, .int .i64 0]) ∧ Q w w' :=
  number_vk 1 n ⟨#[]⟩ false 0 w hw (by decide) (Vk.num n)
theorem resV_yes {r : Int} (h : Fx r) : resV r = nu r := by
  unfold resV
  have := fitB_yes h.lo h.hi
  rw [if_pos this, keep_yes this]
set_option maxHeartbeats 1000000 in
theorem neg_any (a y : Cv) (w : World) (HB : ∀ W, Q w W → Calls Tryz.prog 18 #[.string ⟨#[45]⟩, (nu 0).v, a.v] W fun r W' => r = .returned y.v ∧ Q W W') : Calls Tryz.prog 20 #[a.v] w fun r w' => r = .returned y.v ∧ Q w w' := by
  have HA := hid (bx_new w (.int .i64 a.k) (.int .i64 a.n) (.string a.t) (.bool a.b) (.int .i64 a.e))
  have HZ : Hid (Bx ((w.alloc (.cells #[.int .i64 a.k, .int .i64 a.n, .string a.t, .bool a.b, .int .i64 a.e] 37)).alloc (.cells #[.int .i64 0, .int .i64 0, .string ⟨#[]⟩, .bool false, .int .i64 0] 37)) (w.heap.size + 1) (.int .i64 0) (.int .i64 0) (.string ⟨#[]⟩) (.bool false) (.int .i64 0)) := by
    show Bx _ _ _ _ _ _ _
    have h := bxz (w.alloc (.cells #[.int .i64 a.k, .int .i64 a.n, .string a.t, .bool a.b, .int .i64 a.e] 37))
    rw [World.size_alloc] at h
    exact h
  have HN := hid (fun W => number_any 0 W)
  have HB' := hid HB
  obtain ⟨yk, yn, yt, yb, ye⟩ := y
  obtain ⟨ak, an, at', ab, ae⟩ := a
  clear HB
  simp only [Cv.v, vv, nu] at *
  have q0 : Hid (Q w ((w.alloc (.cells #[.int .i64 ak, .int .i64 an, .string at', .bool ab, .int .i64 ae] 37)).alloc (.cells #[.int .i64 0, .int .i64 0, .string ⟨#[]⟩, .bool false, .int .i64 0] 37))) := hid (((Q.refl _).alloc _).alloc _)
  have A0 := hid (HA.out.on ((Q.refl _).alloc (.cells #[.int .i64 0, .int .i64 0, .string ⟨#[]⟩, .bool false, .int .i64 0] 37)))
  go_enter Tryz.func20, Tryz.ntmps20
  go_upto_region 1 with fail
  go_region_with (first
    | (go_at_call 55; refine (HN.out _).mono ?_; rintro x w2 ⟨rfl, q2⟩; first | (have A1 := hid (A0.out.on q2); have B1 := hid (HZ.out.on q2); have Q1 := hid (q0.out.trans q2)) | (have A1 := hid ((A0.out.on ((Q.refl _).drew)).on q2); have B1 := hid ((HZ.out.on ((Q.refl _).drew)).on q2); have Q1 := hid (q0.out.drew.trans q2)); clear q2; obtain ⟨a0, a1, a2, a3, a4, _⟩ := A1.out)
    | (go_at_call 18; refine (HB'.out _ Q1.out).mono ?_; rintro x w3 ⟨rfl, q3⟩; have B2 := (B1.out.on q3); have Q2 := hid (Q1.out.trans q3); clear q3; have d0 := B2.c0; have d1 := B2.c1; have d2 := B2.c2; have d3 := B2.c3; have d4 := B2.c4; have y0 := B2.f0; have y1 := B2.f1; have y2 := B2.f2; have y3 := B2.f3; have y4 := B2.f4; clear B2 B1 A1 HA HB' HZ A0 q0 HN))
  all_goals try go_wp2
  all_goals exact bodyPost_ret (v := .agg #[.int .i64 yk, .int .i64 yn, .string yt, .bool yb, .int .i64 ye]) (by simp [results, Tryz.results20, go_sem, d0, d1, d2, d3, d4]) rfl ⟨rfl, Q5 Q2.out (by omega)⟩
theorem known_if (w : World) : Calls Tryz.prog 15 #[.string ⟨#[73, 70]⟩] w fun e w' => e = .returned (.bool true) ∧ Q w w' := by
  have HF := hid (fun W => find_if W)
  go_enter Tryz.func15, Tryz.ntmps15
  go_wp2_with (go_at_call 29; refine (HF.out _).mono ?_; rintro x w1 ⟨f, rfl, hv, q1⟩; obtain ⟨p, hfp⟩ := hv.sh; subst hfp; clear hv)
  go_ret
  exact ⟨rfl, q1.alloc _⟩
theorem known_no (w : World) : Calls Tryz.prog 15 #[.string ⟨#[105, 102]⟩] w fun e w' => e = .returned (.bool false) ∧ Q w w' := by
  have HF := hid (fun W => find_no W)
  go_enter Tryz.func15, Tryz.ntmps15
  go_wp2_with (go_at_call 29; refine (HF.out _).mono ?_; rintro x w1 ⟨rfl, q1⟩)
  go_ret
  exact ⟨rfl, q1.alloc _⟩
theorem bag {W : World} {p F : Nat} {f : Value} (hf : f = .func (.func 103) #[] #[.pointer (some ⟨p, 0, none⟩)]) (h : AggV W f F) : W.cell? ⟨p, 0, none⟩ = some (.func (.func F) #[] #[]) := by
  obtain ⟨p', e, c⟩ := h
  rw [hf] at e
  simp at e
  subst e
  exact c
theorem worst_small : worst [nu 10000, tx ⟨#[120]⟩, nu 5000] = 0 := by rfl
theorem nums_small : nums [nu 10000, tx ⟨#[120]⟩, nu 5000] = [10000, 5000] := by
  rw [show [nu 10000, tx ⟨#[120]⟩, nu 5000] = [nu 10000] ++ ([tx ⟨#[120]⟩] ++ [nu 5000]) from rfl, nums_append, nums_append, nums_one _ rfl (nu_may _), nums_one _ rfl (nu_may _), nums_none _ (.inl (by decide))]
  rfl
theorem beg_sum (w W2 W3 : World) (hw : Std2 w) (q2 : Q w W2) (q3 : Q (W2.alloc (.cells #[.int .i64 1, .int .i64 10000, .string ⟨#[]⟩, .bool false, .int .i64 0, .int .i64 2, .int .i64 0, .string ⟨#[120]⟩, .bool false, .int .i64 0] 37)) W3) :
    Calls Tryz.prog 13 #[.string ⟨#[83, 85, 77]⟩, .slice (some ⟨W3.heap.size + 1, 0, none⟩) 2 2] ((W3.alloc (.cells #[.int .i64 1, .int .i64 5000, .string ⟨#[]⟩, .bool false, .int .i64 0] 37)).alloc (.cells #[.bool true, .slice (some ⟨W2.heap.size, 0, none⟩) 2 2, .bool false, .slice (some ⟨W3.heap.size, 0, none⟩) 1 1] 32)) fun r W' => r = .returned (nu 15000).v ∧ Q W3 W' := by
  have hq : Q w ((W3.alloc (.cells #[.int .i64 1, .int .i64 5000, .string ⟨#[]⟩, .bool false, .int .i64 0] 37)).alloc (.cells #[.bool true, .slice (some ⟨W2.heap.size, 0, none⟩) 2 2, .bool false, .slice (some ⟨W3.heap.size, 0, none⟩) 1 1] 32)) := (((q2.alloc _).trans q3).alloc _).alloc _
  have hA : Args ((W3.alloc (.cells #[.int .i64 1, .int .i64 5000, .string ⟨#[]⟩, .bool false, .int .i64 0] 37)).alloc (.cells #[.bool true, .slice (some ⟨W2.heap.size, 0, none⟩) 2 2, .bool false, .slice (some ⟨W3.heap.size, 0, none⟩) 1 1] 32)) (.slice (some ⟨W3.heap.size + 1, 0, none⟩) 2 2) [⟨true, .slice (some ⟨W2.heap.size, 0, none⟩) 2 2, [nu 10000, tx ⟨#[120]⟩]⟩, ⟨false, .slice (some ⟨W3.heap.size, 0, none⟩) 1 1, [nu 5000]⟩] := by
    constructor
    · have h := sl_lit Ag.len (W3.alloc (.cells #[.int .i64 1, .int .i64 5000, .string ⟨#[]⟩, .bool false, .int .i64 0] 37)) [⟨true, .slice (some ⟨W2.heap.size, 0, none⟩) 2 2, [nu 10000, tx ⟨#[120]⟩]⟩, ⟨false, .slice (some ⟨W3.heap.size, 0, none⟩) 1 1, [nu 5000]⟩] 2 rfl (by omega) 32
      rw [World.size_alloc] at h
      exact h
    · intro a ha
      simp only [List.mem_cons, List.not_mem_nil, or_false] at ha
      rcases ha with rfl | rfl
      · exact (sl_lit Cv.len W2 [nu 10000, tx ⟨#[120]⟩] 2 rfl (by omega) 37).on ((q3.alloc _).alloc _)
      · exact (sl_lit Cv.len W3 [nu 5000] 1 rfl (by omega) 37).on ((Q.refl _).alloc _)
  refine (call_sum (some ⟨W3.heap.size + 1, 0, none⟩) 2 2 (nu 15000) _ (by omega) (by omega) (fun W f p hf q hv => ?_)).mono fun r W' h => ⟨h.1, (((Q.refl _).alloc _).alloc _).trans h.2⟩
  refine agg69 p _ _ (nu 15000) W (hw.on (hq.trans q)) (bag hf hv) (hA.on q) (by simp) (fun a ha => ?_) worst_small (fun W' s q' hs => ?_)
  · simp only [List.mem_cons, List.not_mem_nil, or_false] at ha
    rcases ha with rfl | rfl
    · refine ⟨by simp, fun x hx => ?_⟩
      simp only [List.mem_cons, List.not_mem_nil, or_false] at hx
      rcases hx with rfl | rfl
      · exact nil_sm
      · show (((⟨#[120]⟩ : ByteArray).size : Nat) : Int) ≤ _; decide
    · refine ⟨by simp, fun x hx => ?_⟩
      simp only [List.mem_cons, List.not_mem_nil, or_false] at hx
      subst hx
      exact nil_sm
  · have e : nums ([(⟨true, .slice (some ⟨W2.heap.size, 0, none⟩) 2 2, [nu 10000, tx ⟨#[120]⟩]⟩ : Ag), ⟨false, .slice (some ⟨W3.heap.size, 0, none⟩) 1 1, [nu 5000]⟩].flatMap (·.l)) = [10000, 5000] := nums_small
    rw [e] at hs
    exact bsum_any [10000, 5000] s W' hs (by simp) (fun x hx => by simp at hx; rcases hx with rfl | rfl; exact ⟨by omega, by omega⟩; exact ⟨by omega, by omega⟩)
theorem beg_div (w : World) (hw : Std2 w) : Calls Tryz.prog 18 #[.string ⟨#[47]⟩, (nu 1).v, (nu 0).v] w fun r w' => r = .returned (er 3).v ∧ Q w w' :=
  bin_div (nu 1) (nu 0) (nu 1) (nu 0) (er 3) w hw nil_sm nil_sm (ctd_may (nu_may _)) (ctd_may (nu_may _)) rfl (fun W q => calc_div0 ⟨#[47]⟩ (nu 1) (nu 0) 1 0 0 0 W (fun V g => number_nu 1 V (hw.on (q.trans g))) (fun V g => number_nu 0 V (hw.on (q.trans g))) rfl)
theorem beg_neg (w : World) (hw : Std2 w) : Calls Tryz.prog 20 #[(nu 3).v] w fun r w' => r = .returned (nu (-3)).v ∧ Q w w' :=
  neg_any (nu 3) (nu (-3)) w fun W q => bin_sub (nu 0) (nu 3) (nu 0) (nu 3) (nu (-3)) W (hw.on q) nil_sm nil_sm (ctd_may (nu_may _)) (ctd_may (nu_may _)) rfl (fun V g => by
    have h := calc_sub (nu 0) (nu 3) 0 3 V (fun U f => number_nu 0 U (hw.on ((q.trans g).trans f))) (fun U f => number_nu 3 U (hw.on ((q.trans g).trans f))) ⟨by omega, by omega⟩ ⟨by omega, by omega⟩
    rw [resV_yes ⟨by omega, by omega⟩] at h
    exact h)
set_option maxHeartbeats 4000000 in
theorem bbegun_any (w : World) (hw : Std2 w) : Calls Tryz.prog 9 #[] w fun e w' => e = .returned (.bool true) ∧ Q w w' := by
  have HN := hid (fun n W => num_any n W)
  have HT := hid (fun W => txt_any ⟨#[120]⟩ W)
  have HS := hid (fun W2 W3 q2 q3 => beg_sum w W2 W3 hw q2 q3)
  have HD := hid (fun W (q : Q w W) => beg_div W (hw.on q))
  have HG := hid (fun W (q : Q w W) => beg_neg W (hw.on q))
  have HK := hid (fun W => known_if W)
  have HL := hid (fun W => known_no W)
  have hfd : ∀ W, (Instr.field 37 (.agg #[.int .i64 1, .int .i64 (-3), .string ⟨#[]⟩, .bool false, .int .i64 0]) 1).run Tryz.prog W = .ok (.int .i64 (-3)) W := fun W => by kernel_rfl
  have S0 : Hid True := trivial
  have S1 : Hid True := trivial
  have S2 : Hid True := trivial
  have S3 : Hid True := trivial
  simp only [vv, Cv.v, nu, er] at *
  clear hw
  go_enter Tryz.func9, Tryz.ntmps9
  go_wp2_with (first
    | (go_at_call 27; clear S0; refine (HN.out _ _).mono ?_; rintro e w1 ⟨rfl, q1⟩)
    | (go_at_call 28; refine (HT.out _).mono ?_; rintro e w2 ⟨rfl, q2⟩; have Q2 := hid (q1.trans q2); clear q2 q1)
    | (go_at_call 27; clear S1; refine (HN.out _ _).mono ?_; rintro e w3 ⟨rfl, q3⟩; have Q3 := hid q3; clear q3)
    | (go_at_call 13; refine (HS.out w2 w3 Q2.out Q3.out).mono ?_; rintro e w4 ⟨rfl, q4⟩; have Q4 := hid (((Q2.out.alloc _).trans Q3.out).trans q4); have X4 := hid (bx_new w4 (.int .i64 1) (.int .i64 15000) (.string ⟨#[]⟩) (.bool false) (.int .i64 0)); clear q4)
    | (go_at_call 27; clear S2; refine (HN.out _ _).mono ?_; rintro e w5 ⟨rfl, q5⟩; have Q5' := hid ((Q4.out.alloc _).trans q5); have X5 := hid (X4.out.on q5); clear q5)
    | (go_at_call 27; clear S3; refine (HN.out _ _).mono ?_; rintro e w6 ⟨rfl, q6⟩; have Q6 := hid (Q5'.out.trans q6); have X6 := hid (X5.out.on q6); clear q6)
    | (go_at_call 18; refine (HD.out _ Q6.out).mono ?_; rintro e w7 ⟨rfl, q7⟩; have Q7 := hid (Q6.out.trans q7); obtain ⟨x0, x1, x2, x3, x4, _, _, _, _, _, xl⟩ := X6.out.on q7; clear q7)
    | (go_at_call 15; refine (HK.out _).mono ?_; rintro e w8 ⟨rfl, q8⟩; have Q8 := hid ((Q7.out.alloc _).trans q8); clear q8 HK)
    | (go_at_call 15; refine (HL.out _).mono ?_; rintro e w9 ⟨rfl, q9⟩; have Q9 := hid (Q8.out.trans q9); clear q9)
    | (go_at_call 27; refine (HN.out _ _).mono ?_; rintro e w10 ⟨rfl, q10⟩; have Q10 := hid (Q9.out.trans q10); clear q10)
    | (go_at_call 20; refine (HG.out _ Q10.out).mono ?_; rintro e w11 ⟨rfl, q11⟩; have Q11 := hid (Q10.out.trans q11); clear q11))
  go_ret
  exact ⟨rfl, Q11.out⟩
theorem cutv_any (x : Cv) (w : World) : Calls Tryz.prog 17 #[x.v] w fun r w' => r = .returned x.cut.v ∧ Q w w' := cut_any2 x.k x.n x.t x.b x.e w
theorem cut_sm (x : Cv) : (x.cut.t.size : Int) ≤ 250 := by have := cutT_size x.t; show ((cutT x.t).size : Int) ≤ 250; omega
theorem rmayv_any (x : Cv) (w : World) (hs : x.sm) : Calls Tryz.prog 23 #[x.v] w fun r w' => r = .returned (.bool x.may) ∧ Q w w' := rmay_any x.k x.n x.t x.b x.e w hs
theorem eqv_same (x : Cv) (w : World) : Calls Tryz.prog 12 #[x.v, x.v] w fun r w' => r = .returned (.bool true) ∧ Q w w' := by
  have h := req_any x.k x.n x.t x.b x.e x.k x.n x.t x.b x.e w
  have e : eqB x.k x.n x.t.toList x.b x.e x.k x.n x.t.toList x.b x.e = true := by unfold eqB; simp
  rw [e] at h
  exact h
theorem bsin {W : World} {p F : Nat} {f : Value} (hf : f = .func (.func 110) #[] #[.pointer (some ⟨p, 0, none⟩)]) (h : SinV W f F) : W.cell? ⟨p, 0, none⟩ = some (.func (.func F) #[] #[]) := by
  obtain ⟨p', e, c⟩ := h
  rw [hf] at e
  simp at e
  subst e
  exact c
def Cv.nN (x : Cv) : Int := numN x.k x.n x.t.toList x.b
def Cv.nE (x : Cv) : Int := numE x.k x.t.toList x.e
def Cv.tT (x : Cv) : ByteArray := ⟨(txtL x.k x.n x.t.data.toList x.b).toArray⟩
def Cv.tE (x : Cv) : Int := txtE x.k x.e
structure Cv.sl (x : Cv) : Prop where
  t : (x.t.size : Int) ≤ 250
  n : Fx x.n
theorem Cv.sl.sm {x : Cv} (h : x.sl) : x.sm := by have := h.t; unfold Cv.sm; omega
theorem er_sl (e : Int) : (er e).sl := ⟨by show (((⟨#[]⟩ : ByteArray).size : Nat) : Int) ≤ 250; decide, ⟨by show (-9223372036854775808 : Int) ≤ 0; omega, by show (0 : Int) ≤ 9223372036854775807; omega⟩⟩
theorem ctd_sl {x : Cv} (h : x.sl) : (ctd x).sl := by
  unfold ctd
  split
  · exact h
  · exact er_sl 5
theorem ctd_may' (x : Cv) : (ctd x).may = true := by
  unfold ctd
  split
  · assumption
  · exact er_may 5 (by omega) (by omega)
theorem worst2 (x z : Cv) : worst [x, z] = mn (ev x) (ev z) := by
  have h1 := (ev_lo x).1
  have h2 := (ev_lo z).1
  show wstep (wstep 0 x) z = _
  rw [wstep_mn 0 x (by omega), zero_mn, wstep_mn _ z h1]
theorem mn_pos {a b : Int} (ha : 0 ≤ a) (hb : 0 ≤ b) (h : mn a b = 0) : a = 0 ∧ b = 0 := by
  unfold mn at h
  split at h
  · exact ⟨h, by assumption⟩
  · split at h <;> omega
theorem pk_fx (o : Option Int) : Fx (pk o) := by
  cases o with
  | none => exact ⟨by show (-9223372036854775808 : Int) ≤ 0; omega, by show (0 : Int) ≤ 9223372036854775807; omega⟩
  | some n =>
    show Fx (keep n)
    unfold keep
    split
    · rename_i h; exact fit_of h
    · exact ⟨by omega, by omega⟩
theorem nN_fx {x : Cv} (h : x.sl) : Fx x.nN := by
  unfold Cv.nN numN
  split
  · exact h.n
  · split
    · exact pk_fx _
    · split
      · unfold tn; split <;> exact ⟨by omega, by omega⟩
      · exact ⟨by omega, by omega⟩
theorem nE_lo {x : Cv} (hm : x.may = true) : 0 ≤ x.nE ∧ x.nE ≤ 7 := by
  unfold Cv.nE numE
  split
  · split <;> omega
  · split
    · rename_i h; have := may_err h hm; omega
    · omega
theorem tE_lo {x : Cv} (hm : x.may = true) : 0 ≤ x.tE ∧ x.tE ≤ 7 := by
  unfold Cv.tE txtE
  split
  · rename_i h; have := may_err h hm; omega
  · omega
theorem part_le5 (r : Nat) (h1 : r < 10000) : (partL r).length ≤ 5 := by
  unfold partL
  split
  · simp
  · have hlen : (Lib.decDigits (10000 + r)).length = 5 := by rw [Lib.decDigits_length]; exact Lib.nDigits_unique 4 _ (by omega) (by omega)
    have := trim_le ((Lib.decDigits (10000 + r)).drop 1) 48
    rw [List.length_drop, hlen] at this
    rw [List.length_cons]
    omega
theorem print_len (a : Int) (ha : Fx a) : (printL a).length ≤ 30 := by
  have h0 := ha.lo
  have h1 := ha.hi
  have hm : (magL a.natAbs).length ≤ 29 := by
    unfold magL
    rw [List.length_append, Lib.decDigits_length]
    have l1 := nDigits_le (a.natAbs / 10000) (by omega)
    have l2 := part_le5 (a.natAbs % 10000) (by omega)
    omega
  unfold printL
  split
  · rw [List.length_cons]; omega
  · omega
theorem tT_size {x : Cv} (h : x.sl) : x.tT.size ≤ 250 := by
  show (txtL x.k x.n x.t.data.toList x.b).toArray.size ≤ 250
  rw [List.size_toArray]
  unfold txtL
  split
  · have := print_len x.n h.n; omega
  · split
    · have h1 := h.t; have : x.t.data.toList.length = x.t.size := bytes_len x.t; omega
    · split
      · unfold ttL; split <;> decide
      · simp
theorem num_c (x : Cv) (w : World) (hw : Std2 w) (hs : x.sl) (hm : x.may = true) : ∀ W, Q w W → Calls Tryz.prog 71 #[x.v] W fun r W' => r = .returned (.tuple #[.int .i64 x.nN, .int .i64 x.nE]) ∧ Q W W' := fun W q => number_vk x.k x.n x.t x.b x.e W (hw.on q) hs.t (vk_of hm)
theorem txt_c (x : Cv) (w : World) (hw : Std2 w) (hs : x.sl) (hm : x.may = true) : ∀ W, Q w W → Calls Tryz.prog 41 #[x.v] W fun r W' => r = .returned (.tuple #[.string x.tT, .int .i64 x.tE]) ∧ Q W W' := fun W q => text_vk x.k x.n x.t x.b x.e W (hw.on q) hs.t hs.n (vk_of hm)
def Cv.tB (x : Cv) : Bool := truB x.k x.n x.t.toList x.b
def Cv.bE (x : Cv) : Int := truE x.k x.t.toList x.e
theorem bE_lo {x : Cv} (hm : x.may = true) : 0 ≤ x.bE ∧ x.bE ≤ 7 := by
  unfold Cv.bE truE
  split
  · unfold rtE; split <;> omega
  · split
    · rename_i h; have := may_err h hm; omega
    · omega
theorem tru_c (x : Cv) (w : World) (hw : Std2 w) (hs : x.sl) (hm : x.may = true) : ∀ W, Q w W → Calls Tryz.prog 66 #[x.v] W fun r W' => r = .returned (.tuple #[.bool x.tB, .int .i64 x.bE]) ∧ Q W W' := fun W q => truth_vk x.k x.n x.t x.b x.e W (hw.on q) hs.t (vk_of hm)
theorem cut_sl (x : Cv) (h : Fx x.n) : x.cut.sl := ⟨cut_sm x, h⟩
theorem rtruth_no (k n : Int) (t : ByteArray) (b : Bool) (e : Int) (w : World) (hs : (t.size : Int) ≤ 9223372036854775000) (hm : mayB k n t.toList b e = false) :
    Calls Tryz.prog 79 #[vv k n t b e] w fun x w' => x = .returned (.tuple #[.bool false, .int .i64 5]) ∧ Q w w' := by
  have HC := hid (rmay_bx k n t b e false w hs hm)
  clear hm
  unfold vv
  go_enter Tryz.func79, Tryz.ntmps79
  go_wp2_with (go_at_call 23; refine HC.out.mono ?_; rintro x w1 ⟨rfl, q1⟩)
  go_ret2
  exact ⟨rfl, q1a q1⟩
set_option maxHeartbeats 2000000 in
theorem rtruth_vk (k n : Int) (t : ByteArray) (b : Bool) (e : Int) (w : World) (hs : (t.size : Int) ≤ 250) (hk : Vk k n t b e) :
    Calls Tryz.prog 79 #[vv k n t b e] w fun x w' => x = .returned (.tuple #[.bool (truB k n t.toList b), .int .i64 (truE k t.toList e)]) ∧ Q w w' := by
  have HC := hid (rmay_bx k n t b e true w (by omega) hk.may)
  unfold vv
  rcases hk with ⟨rfl, rfl, rfl, rfl, rfl⟩ | ⟨rfl, rfl, rfl, rfl⟩ | ⟨rfl, rfl, rfl, rfl, h⟩ | ⟨rfl, rfl, rfl, rfl⟩ | ⟨rfl, rfl, rfl, rfl, h1, h7⟩
  · skip
    go_enter Tryz.func79, Tryz.ntmps79
    go_wp2_with (go_at_call 23; refine HC.out.mono ?_; rintro x w1 ⟨rfl, q1⟩; obtain ⟨g0, g1, g2, g3, g4⟩ := box0 q1)
    go_ret2
    exact ⟨rfl, q1a q1⟩
  · skip
    go_enter Tryz.func79, Tryz.ntmps79
    go_wp2_with (go_at_call 23; refine HC.out.mono ?_; rintro x w1 ⟨rfl, q1⟩; obtain ⟨g0, g1, g2, g3, g4⟩ := box0 q1)
    all_goals go_ret2
    all_goals exact ⟨vret_bi (by simp [truB, bne, *]) rfl, q1a q1⟩
  · skip
    clear h
    by_cases h1 : t.toList = [84, 82, 85, 69]
    · have H : Hid (truB 2 0 t.toList false = true ∧ truE 2 t.toList 0 = 0) := by show _ ∧ _; rw [h1]; exact ⟨rfl, rfl⟩
      go_enter Tryz.func79, Tryz.ntmps79
      go_wp2_with (go_at_call 23; refine HC.out.mono ?_; rintro x w1 ⟨rfl, q1⟩; obtain ⟨g0, g1, g2, g3, g4⟩ := box0 q1)
      go_ret2
      exact ⟨vret_bi H.out.1.symm H.out.2.symm, q1a q1⟩
    · have h1' : (t.toList == [84, 82, 85, 69]) = false := by simpa using h1
      by_cases h2 : t.toList = [70, 65, 76, 83, 69]
      · have H : Hid (truB 2 0 t.toList false = false ∧ truE 2 t.toList 0 = 0) := by show _ ∧ _; rw [h2]; exact ⟨rfl, rfl⟩
        go_enter Tryz.func79, Tryz.ntmps79
        go_wp2_with (go_at_call 23; refine HC.out.mono ?_; rintro x w1 ⟨rfl, q1⟩; obtain ⟨g0, g1, g2, g3, g4⟩ := box0 q1)
        go_ret2
        exact ⟨vret_bi H.out.1.symm H.out.2.symm, q1a q1⟩
      · have H : Hid (truB 2 0 t.toList false = false ∧ truE 2 t.toList 0 = 5) := by show _ ∧ _; exact ⟨h1', by show rtE _ = 5; unfold rtE; rw [if_neg (by rintro (h | h); exact h1 h; exact h2 h)]⟩
        have h2' : (t.toList == [70, 65, 76, 83, 69]) = false := by simpa using h2
        go_enter Tryz.func79, Tryz.ntmps79
        go_wp2_with (go_at_call 23; refine HC.out.mono ?_; rintro x w1 ⟨rfl, q1⟩; obtain ⟨g0, g1, g2, g3, g4⟩ := box0 q1)
        go_ret2
        exact ⟨vret_bi H.out.1.symm H.out.2.symm, q1a q1⟩
  · skip
    go_enter Tryz.func79, Tryz.ntmps79
    go_wp2_with (go_at_call 23; refine HC.out.mono ?_; rintro x w1 ⟨rfl, q1⟩; obtain ⟨g0, g1, g2, g3, g4⟩ := box0 q1)
    all_goals go_ret2
    all_goals exact ⟨rfl, q1a q1⟩
  · skip
    go_enter Tryz.func79, Tryz.ntmps79
    go_wp2_with (go_at_call 23; refine HC.out.mono ?_; rintro x w1 ⟨rfl, q1⟩; obtain ⟨g0, g1, g2, g3, g4⟩ := box0 q1)
    go_region
    go_wp2
    go_ret2
    exact ⟨rfl, (q1a q1).drew⟩
theorem takes_any (k : Int) (w : World) : Calls Tryz.prog 33 #[.int .i64 k] w fun e w' => e = .returned (.tuple #[.int .i64 (if k = 5 then 2 else if k = 6 ∨ k = 7 then 1 else if k = 11 ∨ k = 13 then 0 else 1), .int .i64 (if k = 5 then 3 else if k = 6 ∨ k = 7 ∨ k = 11 then 1048576 else if k = 13 then 0 else 1)]) ∧ w' = w := by
  by_cases h5 : k = 5
  · subst h5
    go_enter Tryz.func33, Tryz.ntmps33
    go_wp2
    go_ret2
    exact ⟨rfl, rfl⟩
  by_cases h6 : k = 6
  · subst h6
    go_enter Tryz.func33, Tryz.ntmps33
    go_wp2
    go_ret2
    exact ⟨rfl, rfl⟩
  by_cases h7 : k = 7
  · subst h7
    go_enter Tryz.func33, Tryz.ntmps33
    go_wp2
    go_ret2
    exact ⟨rfl, rfl⟩
  by_cases h11 : k = 11
  · subst h11
    go_enter Tryz.func33, Tryz.ntmps33
    go_wp2
    go_ret2
    exact ⟨rfl, rfl⟩
  by_cases h13 : k = 13
  · subst h13
    go_enter Tryz.func33, Tryz.ntmps33
    go_wp2
    go_ret2
    exact ⟨rfl, rfl⟩
  have b5 : (k == 5) = false := by simpa using h5
  have b6 : (k == 6) = false := by simpa using h6
  have b7 : (k == 7) = false := by simpa using h7
  have b11 : (k == 11) = false := by simpa using h11
  have b13 : (k == 13) = false := by simpa using h13
  have e1 : (if k = 5 then (2 : Int) else if k = 6 ∨ k = 7 then 1 else if k = 11 ∨ k = 13 then 0 else 1) = 1 := by simp [h5, h6, h7, h11, h13]
  have e2 : (if k = 5 then (3 : Int) else if k = 6 ∨ k = 7 ∨ k = 11 then 1048576 else if k = 13 then 0 else 1) = 1 := by simp [h5, h6, h7, h11, h13]
  rw [e1, e2]
  clear e1 e2
  go_enter Tryz.func33, Tryz.ntmps33
  go_wp2
  go_ret2
  exact ⟨rfl, rfl⟩
theorem rtru_c (x : Cv) (w : World) (hs : x.sl) : Calls Tryz.prog 79 #[x.v] w fun r w' => r = .returned (.tuple #[.bool (if x.may = true then x.tB else false), .int .i64 (if x.may = true then x.bE else 5)]) ∧ Q w w' := by
  cases hm : x.may
  · exact rtruth_no x.k x.n x.t x.b x.e w hs.sm hm
  · exact rtruth_vk x.k x.n x.t x.b x.e w hs.t (vk_of hm)
set_option maxHeartbeats 1000000 in
theorem rworst_sl (l : List Cv) (v : Value) (w : World) (h : Sl Cv.cells 5 w v l) (hm : l.length ≤ 1000) (hs : ∀ x ∈ l, x.sm) :
    Calls Tryz.prog 22 #[v] w fun e w' => e = .returned (.int .i64 (worst l)) ∧ Q w w' := by
  obtain ⟨ao, cap, rfl, h1, h2, h3⟩ := h
  rcases Nat.eq_zero_or_pos l.length with h0 | h0
  · have hl := List.eq_nil_of_length_eq_zero h0
    subst hl
    clear h3
    simp only [List.length_nil]
    go_enter Tryz.func22, Tryz.ntmps22
    go_wp2
    refine wp_loop_rounds 1 ?_
    rw [rounds_succ]
    go_wp2
    go_ret
    exact ⟨rfl, Q.refl _⟩
  · obtain ⟨b, off, rfl, hc⟩ := h3 h0
    refine rworst_row b off l.length cap l w rfl (by omega) (fun i hi => ?_) (fun i hi => ?_)
    · rw [getD_at _ hi]; exact hs _ (List.getElem_mem hi)
    · rw [getD_at _ hi]; exact at5_of (hc i hi)
theorem cut_snoc (l : List Cv) (k : Nat) (hk : k < l.length) : (l.take (k + 1)).map Cv.cut = (l.take k).map Cv.cut ++ [l[k].cut] := by
  rw [List.take_succ_eq_append_getElem hk, List.map_append]
  rfl
set_option maxHeartbeats 4000000 in
theorem cutAll_any (m n : Nat) (l : List Cv) (v : Value) (w : World) (h : Sl Cv.cells 5 w v l) (hm : m ≤ 30) (hn : (l.length ≤ m ∧ n = l.length) ∨ (m < l.length ∧ n = m)) :
    Calls Tryz.prog 11 #[v, .int .i64 m] w fun e w' => ∃ s, e = .returned s ∧ Own Cv.cells 37 5 w.heap.size w' s ((l.take n).map Cv.cut) ∧ Q w w' := by
  obtain ⟨ao, cap, rfl, h1, h2, h3⟩ := h
  obtain ⟨len, hlen⟩ : ∃ len, l.length = len := ⟨_, rfl⟩
  have HL := hid hlen
  have HC : Hid (0 < len → ∃ b off, ao = some ⟨b, off, none⟩ ∧ ∀ i (hp : i < l.length), At5 w b (off + i * 5) l[i]) := by
    intro h0
    obtain ⟨b, off, ha, hc⟩ := h3 (by omega)
    exact ⟨b, off, ha, fun i hp => at5_of (hc i hp)⟩
  have hbig : (len : Int) ≤ 9223372036854775807 := by unfold maxLen at h2; omega
  obtain ⟨i0, hi, hz0, hz1, hz2⟩ := inf_of info24
  rw [hlen] at h1 hn ⊢
  clear h3 hlen
  have hn30 : n ≤ 30 := by omega
  have hnl : n ≤ len := by omega
  go_enter Tryz.func11, Tryz.ntmps11
  go_wp2
  go_loopw [5, 6] (fun s i W => ∃ k : Nat, k ≤ n ∧ i = .int .i64 k ∧ Own Cv.cells 37 5 w.heap.size W s ((l.take k).map Cv.cut) ∧ Q w W) (fun _ i _ => n - (intOf i).toNat)
  case atStart => exact ⟨0, Nat.zero_le _, rfl, own_nil _, Q.refl _⟩
  case round =>
    obtain ⟨k, hk, rfl, hown, hq⟩ := hrel
    by_cases hlt : k < n
    · have hkl : (k : Int) < (len : Int) := by omega
      have hkm : (k : Int) < (m : Int) := by omega
      have hkp : k < l.length := by have := HL.out; omega
      obtain ⟨b, off, rfl, hc⟩ := HC.out (by omega)
      have a5 := (hc k hkp).on hq
      have hF := hid (cut_snoc l k hkp)
      have hLL : ((l.take k).map Cv.cut).length = k := by simp; omega
      clear hc
      generalize l[k] = x at *
      have HU := hid (fun W => cutv_any x W)
      obtain ⟨y, hy⟩ : ∃ y, x.cut = y := ⟨_, rfl⟩
      rw [hy] at HU
      have hF' : Hid ((l.take (k + 1)).map Cv.cut = (l.take k).map Cv.cut ++ [y]) := by show _ = _; rw [hF.out, hy]
      clear hy hF
      obtain ⟨xk, xn, xt, xb, xe⟩ := x
      obtain ⟨yk, yn, yt, yb, ye⟩ := y
      obtain ⟨c0, c1, c2, c3, c4⟩ := a5
      simp only [Cv.v, vv] at HU c0 c1 c2 c3 c4
      generalize (l.take k).map Cv.cut = L at hown hF' hLL
      have HOW := hid hown
      have HQ := hid hq
      have HLL := hid hLL
      clear hown hq hn hLL
      go_wp2_with (first
        | (go_at_call 17; refine (HU.out _).mono ?_; rintro r w2 ⟨rfl, q2⟩; have Q2 := hid q2; clear q2)
        | (at_builtin; refine wpList_append_own _ rfl _ _ 27 rfl w.heap.size 37 i0 (.agg #[.int .i64 0, .int .i64 0, .string ⟨#[]⟩, .bool false, .int .i64 0]) 5 48 Tryz.underlying27 hi hz0 hz1 hz2 rfl (by decide) _ _ _ rfl (World.ownsRow.alloc (Own.on HOW.out Q2.out) _) ⟨w2.heap.size, 0, none⟩ 1 1 [.int .i64 yk, .int .i64 yn, .string yt, .bool yb, .int .i64 ye] rfl rfl ?c1 ?c2 ?c3 ?c4 ?c5 ?_))
      case c1 => exact news_new w2 [.int .i64 yk, .int .i64 yn, .string yt, .bool yb, .int .i64 ye] 37
      case c2 =>
        intro u hu
        simp at hu
        rcases hu with rfl | rfl | rfl | rfl | rfl <;> rfl
      case c3 => have := HLL.out; unfold maxLen; omega
      case c4 => have := HLL.out; omega
      case c5 => have := (HQ.out.trans Q2.out).size; simp; omega
      · intro v' w3 hown' hgrow _
        have HO2 : Hid (Own Cv.cells 37 5 w.heap.size w3 v' ((l.take (k + 1)).map Cv.cut)) := by
          show Own _ _ _ _ _ _ _
          rw [hF'.out]
          exact own_snoc' (x := (⟨yk, yn, yt, yb, ye⟩ : Cv)) hown' rfl
        have HQ2 : Hid (Q w w3) := Below.grown ((HQ.out.trans Q2.out).alloc _) hgrow (by have := (HQ.out.trans Q2.out).size; simp; omega) (Own.blk HOW.out)
        clear hown' hgrow
        go_wp2
        go_roundw
        case rel => exact ⟨k + 1, by omega, by go_num, HO2.out, HQ2.out⟩
        case measure => simp [intOf]; omega
    · have hkn : k = n := by omega
      subst hkn
      have HOW := hid hown
      have HQ := hid hq
      clear hown hq
      rcases hn with ⟨g1, g2⟩ | ⟨g1, g2⟩
      · have hkl : ¬ (k : Int) < (len : Int) := by omega
        clear g1 g2 hn30 hnl hlt
        go_wp2
        go_ret
        exact ⟨_, rfl, (by rw [← List.map_take]; exact HOW.out), HQ.out⟩
      · have hkl : (k : Int) < (len : Int) := by omega
        have hk3 : ¬ (k : Int) < (m : Int) := by omega
        clear g1 g2 hn30 hnl hlt
        go_wp2
        go_ret
        exact ⟨_, rfl, (by rw [← List.map_take]; exact HOW.out), HQ.out⟩
set_option maxHeartbeats 8000000 in
theorem bin_err (a b x z : Cv) (w : World) (hw : Std2 w) (ha : a.sm) (hb : b.sm) (hx : ctd a = x) (hz : ctd b = z) (op : ByteArray) (e : Int) (he : worst [x, z] = e) (hne : e ≠ 0) :
    Calls Tryz.prog 18 #[.string op, a.v, b.v] w fun r w' => r = .returned (er e).v ∧ Q w w' := by
  have J := bb3_new w a b
  have HU := hid (fun W (q : Q w W) => counted_any a W (hw.on q) ha)
  have HU' := hid (fun W (q : Q w W) => counted_any b W (hw.on q) hb)
  have hxs := ctd_sm ha
  have hzs := ctd_sm hb
  rw [hx] at HU hxs
  rw [hz] at HU' hzs
  have HWo := hid (worst2_any x z w hw hxs hzs)
  rw [he] at HWo
  have hne' : (e != 0) = true := bne_iff_ne.2 hne
  have HF := hid (fun W => failure_any e W)
  simp only [er] at HF ⊢
  clear he hne
  clear hw ha hb hx hz hxs hzs
  obtain ⟨ak, an, at', ab, ae⟩ := a
  obtain ⟨bk, bn, bt, bb, be⟩ := b
  have HS := hid (fun W (J : Bb3 w ⟨ak, an, at', ab, ae⟩ ⟨bk, bn, bt, bb, be⟩ W) => J.setTwo x z)
  obtain ⟨xk, xn, xt, xb, xe⟩ := x
  obtain ⟨zk, zn, zt, zb, ze⟩ := z
  simp only [Cv.v, vv] at *
  go_enter Tryz.func18, Tryz.ntmps18
  go_upto_region 1 with fail
  go_cut [] from 8 to 11 (fun W => Bb3 w ⟨xk, xn, xt, xb, xe⟩ ⟨zk, zn, zt, zb, ze⟩ W)
  case first =>
    have ix0 := J.x.c0
    have ix1 := J.x.c1
    have ix2 := J.x.c2
    have ix3 := J.x.c3
    have ix4 := J.x.c4
    have iy0 := J.y.c0
    have iy1 := J.y.c1
    have iy2 := J.y.c2
    have iy3 := J.y.c3
    have iy4 := J.y.c4
    go_region_with (first
      | (go_at_call_of 37 at'; refine (HU.out _ J.drew.q).mono ?_; rintro x w2 ⟨rfl, q2⟩; replace J := (J.drew).on q2; clear q2; have px0 := J.x.c0; have px1 := J.x.c1; have px2 := J.x.c2; have px3 := J.x.c3; have px4 := J.x.c4; have py0 := J.y.c0; have py1 := J.y.c1; have py2 := J.y.c2; have py3 := J.y.c3; have py4 := J.y.c4)
      | (go_at_call_of 37 bt; refine (HU'.out _ J.q).mono ?_; rintro x w3 ⟨rfl, q2⟩; replace J := J.on q2; clear q2; have sx0 := J.x.c0; have sx1 := J.x.c1; have sx2 := J.x.c2; have sx3 := J.x.c3; have sx4 := J.x.c4; have sy0 := J.y.c0; have sy1 := J.y.c1; have sy2 := J.y.c2; have sy3 := J.y.c3; have sy4 := J.y.c4; have sfx0 := J.x.f0; have sfx1 := J.x.f1; have sfx2 := J.x.f2; have sfx3 := J.x.f3; have sfx4 := J.x.f4; have sfy0 := J.y.f0; have sfy1 := J.y.f1; have sfy2 := J.y.f2; have sfy3 := J.y.f3; have sfy4 := J.y.f4))
    all_goals
      go_wp2_with fail
      go_meet
      case rel => exact HS.out _ J
  case rest =>
    have J := hcut
    clear hcut
    have tx0 := J.x.c0
    have tx1 := J.x.c1
    have tx2 := J.x.c2
    have tx3 := J.x.c3
    have tx4 := J.x.c4
    have ty0 := J.y.c0
    have ty1 := J.y.c1
    have ty2 := J.y.c2
    have ty3 := J.y.c3
    have ty4 := J.y.c4
    go_wp2_with (first
      | (go_at_call 38; refine (HWo.out _ J.q).mono ?_; rintro r w4 ⟨rfl, q2⟩; replace J := J.on q2; clear q2; have ux0 := J.x.c0; have ux1 := J.x.c1; have ux2 := J.x.c2; have ux3 := J.x.c3; have ux4 := J.x.c4; have uy0 := J.y.c0; have uy1 := J.y.c1; have uy2 := J.y.c2; have uy3 := J.y.c3; have uy4 := J.y.c4)
      | (go_at_call 30; refine (HF.out _).mono ?_; rintro r w5 ⟨rfl, q2⟩; replace J := J.on q2; clear q2; have rz0 := J.z.c0; have rz1 := J.z.c1; have rz2 := J.z.c2; have rz3 := J.z.c3; have rz4 := J.z.c4; have rfz0 := J.z.f0; have rfz1 := J.z.f1; have rfz2 := J.z.f2; have rfz3 := J.z.f3; have rfz4 := J.z.f4))
    exact bodyPost_ret (v := .agg #[.int .i64 4, .int .i64 0, .string ⟨#[]⟩, .bool false, .int .i64 e]) (by simp [results, Tryz.results18, go_sem, rz0, rz1, rz2, rz3, rz4]) rfl ⟨rfl, Q5 J.q (by omega)⟩
def mnS (a x : Int) : Int := if x < a then x else a
def mxS (a x : Int) : Int := if a < x then x else a
def mnL (l : List Int) : Int := l.tail.foldl mnS (l.getD 0 0)
def mxL (l : List Int) : Int := l.tail.foldl mxS (l.getD 0 0)
theorem take1_tail (l : List Int) : (l.take 1).tail = [] := by
  cases l with
  | nil => rfl
  | cons a l => rfl
theorem tail_take (l : List Int) (k : Nat) (h0 : 0 < k) (hk : k < l.length) : (l.take (k + 1)).tail = (l.take k).tail ++ [l[k]] := by
  rw [List.take_succ_eq_append_getElem hk, List.tail_append_of_ne_nil (by intro h; have h2 : (l.take k).length = 0 := (by rw [h]; rfl); rw [List.length_take] at h2; omega)]
set_option maxHeartbeats 2000000 in
theorem smin_sl (l : List Int) (v : Value) (w : World) (h : Sl encN 1 w v l) (hm : l.length ≤ 1000000) (h0 : 0 < l.length) :
    Calls Tryz.prog 107 #[v] w fun e w' => e = .returned (.int .i64 (mnL l)) ∧ w' = w := by
  obtain ⟨ao, cap, rfl, h1, h2, h3⟩ := h
  obtain ⟨b, off, rfl, hc⟩ := h3 h0
  have HC : Hid (∀ i (hi : i < l.length), w.cell? ⟨b, off + i, none⟩ = some (.int .i64 l[i])) := hid (fun i hi => by have := hc i hi 0 _ rfl; simpa using this)
  have c0 : w.cell? ⟨b, off, none⟩ = some (.int .i64 l[0]) := by have := HC.out 0 h0; simpa using this
  obtain ⟨n, hn⟩ : ∃ n, l.length = n := ⟨_, rfl⟩
  have HN := hid hn
  have hz : Hid (mnL l = l.tail.foldl mnS l[0]) := hid (by unfold mnL; rw [List.getD_eq_getElem?_getD, List.getElem?_eq_getElem h0]; rfl)
  obtain ⟨T, hT⟩ : ∃ T, mnL l = T := ⟨_, rfl⟩
  have HT := hid (hz.out.symm.trans hT)
  rw [hT, hn]
  rw [hn] at h1 hm
  have hn1 : ¬ (n : Int) < 1 := by omega
  clear hc h3 hT hz
  generalize hl0 : l[0] = z0 at c0 HT
  have hst : Hid (z0 = ((l.take 1).tail).foldl mnS z0) := hid (by rw [take1_tail]; rfl)
  clear hl0 hn
  have hnpos : 0 < n := by have := HN.out; omega
  clear h0
  go_enter Tryz.func107, Tryz.ntmps107
  go_wp2
  go_loop [3, 4] (fun a i => ∃ (k : Nat) (z : Int), 1 ≤ k ∧ k ≤ n ∧ i = .int .i64 k ∧ a = .int .i64 z ∧ Hid (z = ((l.take k).tail).foldl mnS z0)) (fun _ i => n - (intOf i).toNat)
  case atStart => exact ⟨1, z0, by omega, by omega, rfl, rfl, hst⟩
  case round =>
    obtain ⟨k, z, hk1, hk, rfl, rfl, hzz⟩ := hrel
    by_cases hlt : k < n
    · have hkp : k < l.length := by have := HN.out; omega
      have cc := HC.out k hkp
      have hS : Hid (((l.take (k + 1)).tail).foldl mnS z0 = mnS z l[k]) := hid (by rw [tail_take l k (by omega) hkp, List.foldl_append, ← hzz.out]; rfl)
      generalize l[k] = x at cc hS
      have hkl : (k : Int) < (n : Int) := by omega
      by_cases hx : x < z
      · have HZ : Hid (x = ((l.take (k + 1)).tail).foldl mnS z0) := hid (by rw [hS.out]; unfold mnS; rw [if_pos hx])
        have hmin : min z x = x := by omega
        clear hS
        go_wp2
        go_round
        case rel => exact ⟨k + 1, x, by omega, by omega, by go_num, rfl, HZ⟩
        case measure => simp [intOf]; omega
      · have HZ : Hid (z = ((l.take (k + 1)).tail).foldl mnS z0) := hid (by rw [hS.out]; unfold mnS; rw [if_neg hx])
        have hmin : min z x = z := by omega
        clear hS
        go_wp2
        go_round
        case rel => exact ⟨k + 1, z, by omega, by omega, by go_num, rfl, HZ⟩
        case measure => simp [intOf]; omega
    · have hkn : k = n := by omega
      subst hkn
      have HE : Hid (z = T) := hid (by rw [hzz.out, List.take_of_length_le (by have := HN.out; omega)]; exact HT.out)
      have hkl : ¬ (k : Int) < (k : Int) := by omega
      go_wp2
      go_ret
      exact ⟨ret_int HE.out, rfl⟩
set_option maxHeartbeats 2000000 in
theorem smax_sl (l : List Int) (v : Value) (w : World) (h : Sl encN 1 w v l) (hm : l.length ≤ 1000000) (h0 : 0 < l.length) :
    Calls Tryz.prog 108 #[v] w fun e w' => e = .returned (.int .i64 (mxL l)) ∧ w' = w := by
  obtain ⟨ao, cap, rfl, h1, h2, h3⟩ := h
  obtain ⟨b, off, rfl, hc⟩ := h3 h0
  have HC : Hid (∀ i (hi : i < l.length), w.cell? ⟨b, off + i, none⟩ = some (.int .i64 l[i])) := hid (fun i hi => by have := hc i hi 0 _ rfl; simpa using this)
  have c0 : w.cell? ⟨b, off, none⟩ = some (.int .i64 l[0]) := by have := HC.out 0 h0; simpa using this
  obtain ⟨n, hn⟩ : ∃ n, l.length = n := ⟨_, rfl⟩
  have HN := hid hn
  have hz : Hid (mxL l = l.tail.foldl mxS l[0]) := hid (by unfold mxL; rw [List.getD_eq_getElem?_getD, List.getElem?_eq_getElem h0]; rfl)
  obtain ⟨T, hT⟩ : ∃ T, mxL l = T := ⟨_, rfl⟩
  have HT := hid (hz.out.symm.trans hT)
  rw [hT, hn]
  rw [hn] at h1 hm
  have hn1 : ¬ (n : Int) < 1 := by omega
  clear hc h3 hT hz
  generalize hl0 : l[0] = z0 at c0 HT
  have hst : Hid (z0 = ((l.take 1).tail).foldl mxS z0) := hid (by rw [take1_tail]; rfl)
  clear hl0 hn
  have hnpos : 0 < n := by have := HN.out; omega
  clear h0
  go_enter Tryz.func108, Tryz.ntmps108
  go_wp2
  go_loop [3, 4] (fun a i => ∃ (k : Nat) (z : Int), 1 ≤ k ∧ k ≤ n ∧ i = .int .i64 k ∧ a = .int .i64 z ∧ Hid (z = ((l.take k).tail).foldl mxS z0)) (fun _ i => n - (intOf i).toNat)
  case atStart => exact ⟨1, z0, by omega, by omega, rfl, rfl, hst⟩
  case round =>
    obtain ⟨k, z, hk1, hk, rfl, rfl, hzz⟩ := hrel
    by_cases hlt : k < n
    · have hkp : k < l.length := by have := HN.out; omega
      have cc := HC.out k hkp
      have hS : Hid (((l.take (k + 1)).tail).foldl mxS z0 = mxS z l[k]) := hid (by rw [tail_take l k (by omega) hkp, List.foldl_append, ← hzz.out]; rfl)
      generalize l[k] = x at cc hS
      have hkl : (k : Int) < (n : Int) := by omega
      by_cases hx : z < x
      · have HZ : Hid (x = ((l.take (k + 1)).tail).foldl mxS z0) := hid (by rw [hS.out]; unfold mxS; rw [if_pos hx])
        have hmin : max z x = x := by omega
        clear hS
        go_wp2
        go_round
        case rel => exact ⟨k + 1, x, by omega, by omega, by go_num, rfl, HZ⟩
        case measure => simp [intOf]; omega
      · have HZ : Hid (z = ((l.take (k + 1)).tail).foldl mxS z0) := hid (by rw [hS.out]; unfold mxS; rw [if_neg hx])
        have hmin : max z x = z := by omega
        clear hS
        go_wp2
        go_round
        case rel => exact ⟨k + 1, z, by omega, by omega, by go_num, rfl, HZ⟩
        case measure => simp [intOf]; omega
    · have hkn : k = n := by omega
      subst hkn
      have HE : Hid (z = T) := hid (by rw [hzz.out, List.take_of_length_le (by have := HN.out; omega)]; exact HT.out)
      have hkl : ¬ (k : Int) < (k : Int) := by omega
      go_wp2
      go_ret
      exact ⟨ret_int HE.out, rfl⟩
def leV (l : List Int) : Cv := nu (if l.length = 0 then 0 else mnL l)
def grV (l : List Int) : Cv := nu (if l.length = 0 then 0 else mxL l)
set_option maxHeartbeats 1000000 in
theorem bmin_any (l : List Int) (v : Value) (w : World) (h : Sl encN 1 w v l) (hm : l.length ≤ 1000000) : Calls Tryz.prog 59 #[v] w fun r w' => r = .returned (leV l).v ∧ Q w w' := by
  have HB := hid (bxz w)
  have HS := hid (fun (h0 : 0 < l.length) W (q : Q w W) => smin_sl l v W (h.on q) hm h0)
  obtain ⟨ao, cap, rfl, _, _⟩ := h.len
  unfold leV
  rcases Nat.eq_zero_or_pos l.length with h0 | h0
  · rw [if_pos h0]
    have HN := hid (fun W => number_any 0 W)
    have e : ((l.length : Nat) : Int) = 0 := by omega
    rw [h0]
    clear h HS hm h0 e
    simp only [Cv.v, vv, nu] at *
    go_enter Tryz.func59, Tryz.ntmps59
    go_wp2_with (go_at_call 55; refine (HN.out _).mono ?_; rintro x w2 ⟨rfl, q1⟩; have B2 := HB.out.on q1; have Q2 : Hid (Q w w2) := hid (((Q.refl _).alloc _).trans q1); clear q1; obtain ⟨d0, d1, d2, d3, d4, y0, y1, y2, y3, y4, _⟩ := B2)
    exact bodyPost_ret (v := .agg #[.int .i64 1, .int .i64 0, .string ⟨#[]⟩, .bool false, .int .i64 0]) (by simp [results, Tryz.results59, go_sem, d0, d1, d2, d3, d4]) rfl ⟨rfl, Q5 Q2.out (Nat.le_refl _)⟩
  · rw [if_neg (by omega)]
    have HS' := hid (HS.out h0)
    have HN := hid (fun W => number_any (mnL l) W)
    generalize mnL l = m at *
    generalize l.length = n at *
    have hn0 : ((n : Int) == 0) = false := by simp; omega
    clear h HS hm
    simp only [Cv.v, vv, nu] at *
    go_enter Tryz.func59, Tryz.ntmps59
    go_wp2_with (first
      | (go_at_call 107; refine (HS'.out _ ((Q.refl _).alloc _)).mono ?_; rintro x w1 ⟨rfl, h3⟩; replace h3 := h3.symm; subst h3)
      | (go_at_call 55; refine (HN.out _).mono ?_; rintro x w2 ⟨rfl, q1⟩; have B2 := HB.out.on q1; have Q2 : Hid (Q w w2) := hid (((Q.refl _).alloc _).trans q1); clear q1; obtain ⟨d0, d1, d2, d3, d4, y0, y1, y2, y3, y4, _⟩ := B2))
    exact bodyPost_ret (v := .agg #[.int .i64 1, .int .i64 m, .string ⟨#[]⟩, .bool false, .int .i64 0]) (by simp [results, Tryz.results59, go_sem, d0, d1, d2, d3, d4]) rfl ⟨rfl, Q5 Q2.out (Nat.le_refl _)⟩
set_option maxHeartbeats 1000000 in
theorem bmax_any (l : List Int) (v : Value) (w : World) (h : Sl encN 1 w v l) (hm : l.length ≤ 1000000) : Calls Tryz.prog 60 #[v] w fun r w' => r = .returned (grV l).v ∧ Q w w' := by
  have HB := hid (bxz w)
  have HS := hid (fun (h0 : 0 < l.length) W (q : Q w W) => smax_sl l v W (h.on q) hm h0)
  obtain ⟨ao, cap, rfl, _, _⟩ := h.len
  unfold grV
  rcases Nat.eq_zero_or_pos l.length with h0 | h0
  · rw [if_pos h0]
    have HN := hid (fun W => number_any 0 W)
    have e : ((l.length : Nat) : Int) = 0 := by omega
    rw [h0]
    clear h HS hm h0 e
    simp only [Cv.v, vv, nu] at *
    go_enter Tryz.func60, Tryz.ntmps60
    go_wp2_with (go_at_call 55; refine (HN.out _).mono ?_; rintro x w2 ⟨rfl, q1⟩; have B2 := HB.out.on q1; have Q2 : Hid (Q w w2) := hid (((Q.refl _).alloc _).trans q1); clear q1; obtain ⟨d0, d1, d2, d3, d4, y0, y1, y2, y3, y4, _⟩ := B2)
    exact bodyPost_ret (v := .agg #[.int .i64 1, .int .i64 0, .string ⟨#[]⟩, .bool false, .int .i64 0]) (by simp [results, Tryz.results60, go_sem, d0, d1, d2, d3, d4]) rfl ⟨rfl, Q5 Q2.out (Nat.le_refl _)⟩
  · rw [if_neg (by omega)]
    have HS' := hid (HS.out h0)
    have HN := hid (fun W => number_any (mxL l) W)
    generalize mxL l = m at *
    generalize l.length = n at *
    have hn0 : ((n : Int) == 0) = false := by simp; omega
    clear h HS hm
    simp only [Cv.v, vv, nu] at *
    go_enter Tryz.func60, Tryz.ntmps60
    go_wp2_with (first
      | (go_at_call 108; refine (HS'.out _ ((Q.refl _).alloc _)).mono ?_; rintro x w1 ⟨rfl, h3⟩; replace h3 := h3.symm; subst h3)
      | (go_at_call 55; refine (HN.out _).mono ?_; rintro x w2 ⟨rfl, q1⟩; have B2 := HB.out.on q1; have Q2 : Hid (Q w w2) := hid (((Q.refl _).alloc _).trans q1); clear q1; obtain ⟨d0, d1, d2, d3, d4, y0, y1, y2, y3, y4, _⟩ := B2))
    exact bodyPost_ret (v := .agg #[.int .i64 1, .int .i64 m, .string ⟨#[]⟩, .bool false, .int .i64 0]) (by simp [results, Tryz.results60, go_sem, d0, d1, d2, d3, d4]) rfl ⟨rfl, Q5 Q2.out (Nat.le_refl _)⟩
set_option maxHeartbeats 1000000 in
theorem whole_any (n : Int) (w : World) (hn : Fx n) : Calls Tryz.prog 109 #[.int .i64 n] w fun r w' => r = .returned (resV (n * 10000)).v ∧ Q w w' := by
  have HB := hid (bxz w)
  have HI := hid (fun W => int_any n W hn)
  have HR := hid (fun W => result_any (keep (n * 10000)) (fitB (n * 10000)) W)
  unfold resV
  generalize (if fitB (n * 10000) = true then nu (keep (n * 10000)) else er 4) = y at *
  generalize keep (n * 10000) = c1 at *
  generalize fitB (n * 10000) = c2 at *
  obtain ⟨yk, yn, yt, yb, ye⟩ := y
  clear hn
  simp only [Cv.v, vv] at *
  go_enter Tryz.func109, Tryz.ntmps109
  go_wp2_with (first
    | (go_at_call 138; refine (HI.out _).mono ?_; rintro x w1 ⟨rfl, h3⟩; replace h3 := h3.symm; subst h3)
    | (go_at_call 81; refine (HR.out _).mono ?_; rintro x w2 ⟨rfl, q1⟩; have B2 := HB.out.on q1; have Q2 : Hid (Q w w2) := hid (((Q.refl _).alloc _).trans q1); clear q1; obtain ⟨d0, d1, d2, d3, d4, y0, y1, y2, y3, y4, _⟩ := B2))
  exact bodyPost_ret (v := .agg #[.int .i64 yk, .int .i64 yn, .string yt, .bool yb, .int .i64 ye]) (by simp [results, Tryz.results109, go_sem, d0, d1, d2, d3, d4]) rfl ⟨rfl, Q5 Q2.out (Nat.le_refl _)⟩
def coV (l : List Int) : Cv := resV ((l.length : Int) * 10000)
set_option maxHeartbeats 1000000 in
theorem bcount_any (l : List Int) (v : Value) (w : World) (h : Sl encN 1 w v l) (hm : l.length ≤ 1000000) : Calls Tryz.prog 61 #[v] w fun r w' => r = .returned (coV l).v ∧ Q w w' := by
  have HB := hid (bxz w)
  have HW := hid (fun W => whole_any (l.length : Int) W ⟨by omega, by omega⟩)
  obtain ⟨ao, cap, rfl, _, _⟩ := h.len
  unfold coV
  generalize resV ((l.length : Int) * 10000) = y at *
  generalize l.length = n at *
  obtain ⟨yk, yn, yt, yb, ye⟩ := y
  clear h
  simp only [Cv.v, vv] at *
  go_enter Tryz.func61, Tryz.ntmps61
  go_wp2_with (go_at_call 109; refine (HW.out _).mono ?_; rintro x w2 ⟨rfl, q1⟩; have B2 := HB.out.on q1; have Q2 : Hid (Q w w2) := hid (((Q.refl _).alloc _).trans q1); clear q1; obtain ⟨d0, d1, d2, d3, d4, y0, y1, y2, y3, y4, _⟩ := B2)
  exact bodyPost_ret (v := .agg #[.int .i64 yk, .int .i64 yn, .string yt, .bool yb, .int .i64 ye]) (by simp [results, Tryz.results61, go_sem, d0, d1, d2, d3, d4]) rfl ⟨rfl, Q5 Q2.out (Nat.le_refl _)⟩
def avV (l : List Int) : Cv := if fitB l.sum = true then (if l.length = 0 then er 3 else resV (divV (keep l.sum) ((l.length : Int) * 10000))) else er 4
theorem keep_fx (r : Int) : Fx (keep r) := by
  unfold keep
  split
  · rename_i h; exact fit_of h
  · exact ⟨by omega, by omega⟩
theorem coV_nu (l : List Int) (hm : l.length ≤ 1000000) : coV l = nu ((l.length : Int) * 10000) := resV_yes ⟨by omega, by omega⟩
theorem avg_bin (l : List Int) (hm : l.length ≤ 1000000) (w : World) (hw : Std2 w) : Calls Tryz.prog 18 #[.string ⟨#[47]⟩, (sumV l).v, (coV l).v] w fun r w' => r = .returned (avV l).v ∧ Q w w' := by
  rw [coV_nu l hm]
  unfold sumV avV
  by_cases hf : fitB l.sum = true
  · rw [if_pos hf, if_pos hf]
    by_cases h0 : l.length = 0
    · rw [if_pos h0]
      refine bin_div (nu (keep l.sum)) (nu ((l.length : Int) * 10000)) (nu (keep l.sum)) (nu ((l.length : Int) * 10000)) (er 3) w hw nil_sm nil_sm (ctd_may (nu_may _)) (ctd_may (nu_may _)) rfl (fun W q => ?_)
      exact calc_div0 ⟨#[47]⟩ _ _ (keep l.sum) ((l.length : Int) * 10000) 0 0 W (fun V g => number_nu _ V (hw.on (q.trans g))) (fun V g => number_nu _ V (hw.on (q.trans g))) (by omega)
    · rw [if_neg h0]
      refine bin_div (nu (keep l.sum)) (nu ((l.length : Int) * 10000)) (nu (keep l.sum)) (nu ((l.length : Int) * 10000)) _ w hw nil_sm nil_sm (ctd_may (nu_may _)) (ctd_may (nu_may _)) rfl (fun W q => ?_)
      exact calc_div _ _ (keep l.sum) ((l.length : Int) * 10000) W (fun V g => number_nu _ V (hw.on (q.trans g))) (fun V g => number_nu _ V (hw.on (q.trans g))) (keep_fx _) ⟨by omega, by omega⟩ (beq_eq_false_iff_ne.2 (by omega))
  · rw [if_neg hf, if_neg hf]
    exact bin_err (er 4) (nu ((l.length : Int) * 10000)) (er 4) (nu ((l.length : Int) * 10000)) w hw nil_sm nil_sm (ctd_may (er_may 4 (by omega) (by omega))) (ctd_may (nu_may _)) ⟨#[47]⟩ 4 (by
      show wstep (wstep 0 (er 4)) (nu ((l.length : Int) * 10000)) = 4
      rw [wstep_mn 0 _ (by omega), zero_mn, show ev (er 4) = 4 from (by unfold ev; rw [if_pos ⟨rfl, er_may 4 (by omega) (by omega)⟩]; rfl), wstep_mn 4 _ (by omega), show ev (nu ((l.length : Int) * 10000)) = 0 from (by unfold ev; rw [if_neg (fun h => absurd (show (1 : Int) = 4 from h.1) (by decide))])]
      rfl) (by omega)
set_option maxHeartbeats 1000000 in
theorem baverage_any (l : List Int) (v : Value) (w : World) (hw : Std2 w) (h : Sl encN 1 w v l) (hm : l.length ≤ 1000000) (hf : ∀ x ∈ l, Fx x) : Calls Tryz.prog 62 #[v] w fun r w' => r = .returned (avV l).v ∧ Q w w' := by
  have HB := hid (bxz w)
  have HS := hid (fun W (q : Q w W) => bsum_any l v W (h.on q) hm hf)
  have HC := hid (fun W (q : Q w W) => bcount_any l v W (h.on q) hm)
  have HD := hid (fun W (q : Q w W) => avg_bin l hm W (hw.on q))
  obtain ⟨ao, cap, rfl, _, _⟩ := h.len
  generalize sumV l = a at *
  generalize coV l = b at *
  generalize avV l = y at *
  obtain ⟨ak, an, at', ab, ae⟩ := a
  obtain ⟨bk, bn, bt, bb, be⟩ := b
  obtain ⟨yk, yn, yt, yb, ye⟩ := y
  generalize l.length = n at *
  clear h hf hw
  simp only [Cv.v, vv] at *
  go_enter Tryz.func62, Tryz.ntmps62
  go_wp2_with (first
    | (go_at_call 58; refine (HS.out _ ((Q.refl _).alloc _)).mono ?_; rintro x w1 ⟨rfl, q1⟩; have B1 := HB.out.on q1; have Q1 : Hid (Q w w1) := hid (((Q.refl _).alloc _).trans q1); clear q1)
    | (go_at_call 61; refine (HC.out _ Q1.out).mono ?_; rintro x w2 ⟨rfl, q1⟩; have B2 := B1.on q1; have Q2 : Hid (Q w w2) := hid (Q1.out.trans q1); clear q1)
    | (go_at_call 18; refine (HD.out _ Q2.out).mono ?_; rintro x w3 ⟨rfl, q1⟩; have Q3 : Hid (Q w w3) := hid (Q2.out.trans q1); obtain ⟨d0, d1, d2, d3, d4, y0, y1, y2, y3, y4, _⟩ := B2.on q1; clear q1))
  exact bodyPost_ret (v := .agg #[.int .i64 yk, .int .i64 yn, .string yt, .bool yb, .int .i64 ye]) (by simp [results, Tryz.results62, go_sem, d0, d1, d2, d3, d4]) rfl ⟨rfl, Q5 Q3.out (Nat.le_refl _)⟩
end Go.Proofs.YtfjpdopmojfchaaGreatDoor
