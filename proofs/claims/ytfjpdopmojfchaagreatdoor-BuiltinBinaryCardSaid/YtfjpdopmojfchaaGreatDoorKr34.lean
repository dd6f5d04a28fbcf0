/- What the statements of layer 12 begin with: parts; What the statements of layer 12 begin with; BuiltinIf: the walk; Values of a slice, cut; the reference's worst error; an argument of one value; BuiltinIf: two regions that draw their order: what holds whatever has come up; Values as numbers, texts and truths, plainly; A drawn region whose operations all have known values: one obligation an operation; BuiltinBinary: a region that draws its order: what holds whatever has come up; Functions of single values of which one is an error; BuiltinErrors: the walk; slices.Min and Max of numbers; least, greatest, count, average. -/
import Derived.Test.YtfjpdopmojfchaaGreatDoorKr24
import Derived.Deep.CutBlock
import Derived.Test.YtfjpdopmojfchaaGreatDoorKr00
import Derived.Test.YtfjpdopmojfchaaGreatDoorKr16
import Derived.Test.YtfjpdopmojfchaaGreatDoorKr22
set_option linter.unusedVariables false
set_option linter.unusedSimpArgs false
namespace Go.Proofs.YtfjpdopmojfchaaGreatDoor
open Go.RowKit
theorem nu_may (n : Int) : (nu n).may = true := (Vk.num n).may
theorem er_may (e : Int) (h1 : 1 ≤ e) (h7 : e ≤ 7) : (er e).may = true := (Vk.err e h1 h7).may
theorem ctd_may {x : Cv} (h : x.may = true) : ctd x = x := by unfold ctd; rw [if_pos h]
theorem nil_sm {k n e : Int} {b : Bool} : Cv.sm ⟨k, n, ⟨#[]⟩, b, e⟩ := by show (((⟨#[]⟩ : ByteArray).size : Nat) : Int) ≤ _; decide
theorem number_nu (n : Int) (w : World) (hw : Std2 w) : Calls Tryz.prog 71 #[(nu n).v] w fun x w' => x = .returned (.tuple #[.int .i64 n, .int .i64 0]) ∧ Q w w' :=
  number_vk 1 n ⟨#[]⟩ false 0 w hw (by decide) (Vk.num n)
theorem resV_yes {r : Int} (h : Fx r) : resV r = nu r := by
  unfold resV
  have := fitB_yes h.lo h.hi
  rw [if_pos this, keep_yes this]
set_option maxHeartbeats 1000000 in
theorem neg_any (a y : Cv) (w : World) (HB : ∀ W, Q w W → Calls Tryz.prog 18 #[.string ⟨#[45]⟩, (nu 0).v, a.v] W fun r W' => r = .returned y.v ∧ Q W W') : Calls Tryz.prog 20 #[a.v] w fun r w' => r = .returned y.v ∧ Q w w' := by
  have HA := hid (bx_new w (.int .i64 a.k) (.int .i64 a.n) (.string a.t) (.bool a.b) (.int .i64 a.e))
  have HZ : Hid (Bx ((w.alloc (.cells #[.int .i64 a.k, .int .i64 a.n, .string a.t, .bool a.b, .int .i64 a.e] 37)).alloc (.cells #[.int .i64 0, .int .i64 0, .string ⟨#[]⟩, .bool false, .int .i64 0] 37)) (w.heap.size + 1) (.int .i64 0) (.int .i64 0) (.string ⟨#[]⟩) (.bool false) (.int .i64 0)) := by
    show Bx _ _ _ _ _ _ _
    have h := bxz (w.alloc (.cells #[.int .i64 a.k, .int .i64 a.n, .string a.t, .bool a.b, .int .i64 a.e] 37))
    rw [World.size_alloc] at h
    exact h
  have HN := hid (fun W => number_any 0 W)
  have HB' := hid HB
  obtain ⟨yk, yn, yt, yb, ye⟩ := y
  obtain ⟨ak, an, at', ab, ae⟩ := a
  clear HB
  simp only [Cv.v, vv, nu] at *
  have q0 : Hid (Q w ((w.alloc (.cells #[.int .i64 ak, .int .i64 an, .string at', .bool ab, .int .i64 ae] 37)).alloc (.cells #[.int .i64 0, .int .i64 0, .string ⟨#[]⟩, .bool false, .int .i64 0] 37))) := hid (((Q.refl _).alloc _).alloc _)
  have A0 := hid (HA.out.on ((Q.refl _).alloc (.cells #[.int .i64 0, .int .i64 0, .string ⟨#[]⟩, .bool false, .int .i64 0] 37)))
  go_enter Tryz.func20, Tryz.ntmps20
  go_upto_region 1 with fail
  go_region_with (first
    | (go_at_call 55; refine (HN.out _).mono ?_; rintro x w2 ⟨rfl, q2⟩; first | (have A1 := hid (A0.out.on q2); have B1 := hid (HZ.out.on q2); have Q1 := hid (q0.out.trans q2)) | (have A1 := hid ((A0.out.on ((Q.refl _).drew)).on q2); have B1 := hid ((HZ.out.on ((Q.refl _).drew)).on q2); have Q1 := hid (q0.out.drew.trans q2)); clear q2; obtain ⟨a0, a1, a2, a3, a4, _⟩ := A1.out)
    | (go_at_call 18; refine (HB'.out _ Q1.out).mono ?_; rintro x w3 ⟨rfl, q3⟩; have B2 := (B1.out.on q3); have Q2 := hid (Q1.out.trans q3); clear q3; have d0 := B2.c0; have d1 := B2.c1; have d2 := B2.c2; have d3 := B2.c3; have d4 := B2.c4; have y0 := B2.f0; have y1 := B2.f1; have y2 := B2.f2; have y3 := B2.f3; have y4 := B2.f4; clear B2 B1 A1 HA HB' HZ A0 q0 HN))
  all_goals try go_wp2
  all_goals exact bodyPost_ret (v := .agg #[.int .i64 yk, .int .i64 yn, .string yt, .bool yb, .int .i64 ye]) (by simp [results, Tryz.results20, go_sem, d0, d1, d2, d3, d4]) rfl ⟨rfl, Q5 Q2.out (by omega)⟩
theorem known_if (w : World) : Calls Tryz.prog 15 #[.string ⟨#[73, 70]⟩] w fun e w' => e = .returned (.bool true) ∧ Q w w' := by
  have HF := hid (fun W => find_if W)
  go_enter Tryz.func15, Tryz.ntmps15
  go_wp2_with (go_at_call 29; refine (HF.out _).mono ?_; rintro x w1 ⟨f, rfl, hv, q1⟩; obtain ⟨p, hfp⟩ := hv.sh; subst hfp; clear hv)
  go_ret
  exact ⟨rfl, q1.alloc _⟩
theorem known_no (w : World) : Calls Tryz.prog 15 #[.string ⟨#[105, 102]⟩] w fun e w' => e = .returned (.bool false) ∧ Q w w' := by
  have HF := hid (fun W => find_no W)
  go_enter Tryz.func15, Tryz.ntmps15
  go_wp2_with (go_at_call 29; refine (HF.out _).mono ?_; rintro x w1 ⟨rfl, q1⟩)
  go_ret
  exact ⟨rfl, q1.alloc _⟩
theorem bag {W : World} {p F : Nat} {f : Value} (hf : f = .func (.func 103) #[] #[.pointer (some ⟨p, 0, none⟩)]) (h : AggV W f F) : W.cell? ⟨p, 0, none⟩ = some (.func (.func F) #[] #[]) := by
  obtain ⟨p', e, c⟩ := h
  rw [hf] at e
  simp at e
  subst e
  exact c
theorem worst_small : worst [nu 10000, tx ⟨#[120]⟩, nu 5000] = 0 := by rfl
theorem nums_small : nums [nu 10000, tx ⟨#[120]⟩, nu 5000] = [10000, 5000] := by
  rw [show [nu 10000, tx ⟨#[120]⟩, nu 5000] = [nu 10000] ++ ([tx ⟨#[120]⟩] ++ [nu 5000]) from rfl, nums_append, nums_append, nums_one _ rfl (nu_may _), nums_one _ rfl (nu_may _), nums_none _ (.inl (by decide))]
  rfl
theorem beg_sum (w W2 W3 : World) (hw : Std2 w) (q2 : Q w W2) (q3 : Q (W2.alloc (.cells #[.int .i64 1, .int .i64 10000, .string ⟨#[]⟩, .bool false, .int .i64 0, .int .i64 2, .int .i64 0, .string ⟨#[120]⟩, .bool false, .int .i64 0] 37)) W3) :
    Calls Tryz.prog 13 #[.string ⟨#[83, 85, 77]⟩, .slice (some ⟨W3.heap.size + 1, 0, none⟩) 2 2] ((W3.alloc (.cells #[.int .i64 1, .int .i64 5000, .string ⟨#[]⟩, .bool false, .int .i64 0] 37)).alloc (.cells #[.bool true, .slice (some ⟨W2.heap.size, 0, none⟩) 2 2, .bool false, .slice (some ⟨W3.heap.size, 0, none⟩) 1 1] 32)) fun r W' => r = .returned (nu 15000).v ∧ Q W3 W' := by
  have hq : Q w ((W3.alloc (.cells #[.int .i64 1, .int .i64 5000, .string ⟨#[]⟩, .bool false, .int .i64 0] 37)).alloc (.cells #[.bool true, .slice (some ⟨W2.heap.size, 0, none⟩) 2 2, .bool false, .slice (some ⟨W3.heap.size, 0, none⟩) 1 1] 32)) := (((q2.alloc _).trans q3).alloc _).alloc _
  have hA : Args ((W3.alloc (.cells #[.int .i64 1, .int .i64 5000, .string ⟨#[]⟩, .bool false, .int .i64 0] 37)).alloc (.cells #[.bool true, .slice (some ⟨W2.heap.size, 0, none⟩) 2 2, .bool false, .slice (some ⟨W3.heap.size, 0, none⟩) 1 1] 32)) (.slice (some ⟨W3.heap.size + 1, 0, none⟩) 2 2) [⟨true, .slice (some ⟨W2.heap.size, 0, none⟩) 2 2, [nu 10000, tx ⟨#[120]⟩]⟩, ⟨false, .slice (some ⟨W3.heap.size, 0, none⟩) 1 1, [nu 5000]⟩] := by
    constructor
    · have h := sl_lit Ag.len (W3.alloc (.cells #[.int .i64 1, .int .i64 5000, .string ⟨#[]⟩, .bool false, .int .i64 0] 37)) [⟨true, .slice (some ⟨W2.heap.size, 0, none⟩) 2 2, [nu 10000, tx ⟨#[120]⟩]⟩, ⟨false, .slice (some ⟨W3.heap.size, 0, none⟩) 1 1, [nu 5000]⟩] 2 rfl (by omega) 32
      rw [World.size_alloc] at h
      exact h
    · intro a ha
      simp only [List.mem_cons, List.not_mem_nil, or_false] at ha
      rcases ha with rfl | rfl
      · exact (sl_lit Cv.len W2 [nu 10000, tx ⟨#[120]⟩] 2 rfl (by omega) 37).on ((q3.alloc _).alloc _)
      · exact (sl_lit Cv.len W3 [nu 5000] 1 rfl (by omega) 37).on ((Q.refl _).alloc _)
  refine (call_sum (some ⟨W3.heap.size + 1, 0, none⟩) 2 2 (nu 15000) _ (by omega) (by omega) (fun W f p hf q hv => ?_)).mono fun r W' h => ⟨h.1, (((Q.refl _).alloc _).alloc _).trans h.2⟩
  refine agg69 p _ _ (nu 15000) W (hw.on (hq.trans q)) (bag hf hv) (hA.on q) (by simp) (fun a ha => ?_) worst_small (fun W' s q' hs => ?_)
  · simp only [List.mem_cons, List.not_mem_nil, or_false] at ha
    rcases ha with rfl | rfl
    · refine ⟨by simp, fun x hx => ?_⟩
      simp only [List.mem_cons, List.not_mem_nil, or_false] at hx
      rcases hx with rfl | rfl
      · exact nil_sm
      · show (((⟨#[120]⟩ : ByteArray).size : Nat) : Int) ≤ _; decide
    · refine ⟨by simp, fun x hx => ?_⟩
      simp only [List.mem_cons, List.not_mem_nil, or_false] at hx
      subst hx
      exact nil_sm
  · have e : nums ([(⟨true, .slice (some ⟨W2.heap.size, 0, none⟩) 2 2, [nu 10000, tx ⟨#[120]⟩]⟩ : Ag), ⟨false, .slice (some ⟨W3.heap.size, 0, none⟩) 1 1, [nu 5000]⟩].flatMap (·.l)) = [10000, 5000] := nums_small
    rw [e] at hs
    exact bsum_any [10000, 5000] s W' hs (by simp) (fun x hx => by simp at hx; rcases hx with rfl | rfl; exact ⟨by omega, by omega⟩; exact ⟨by omega, by omega⟩)
theorem beg_div (w : World) (hw : Std2 w) : Calls Tryz.prog 18 #[.string ⟨#[47]⟩, (nu 1).v, (nu 0).v] w fun r w' => r = .returned (er 3).v ∧ Q w w' :=
  bin_div (nu 1) (nu 0) (nu 1) (nu 0) (er 3) w hw nil_sm nil_sm (ctd_may (nu_may _)) (ctd_may (nu_may _)) rfl (fun W q => calc_div0 ⟨#[47]⟩ (nu 1) (nu 0) 1 0 0 0 W (fun V g => number_nu 1 V (hw.on (q.trans g))) (fun V g => number_nu 0 V (hw.on (q.trans g))) rfl)
theorem beg_neg (w : World) (hw : Std2 w) : Calls Tryz.prog 20 #[(nu 3).v] w fun r w' => r = .returned (nu (-3)).v ∧ Q w w' :=
  neg_any (nu 3) (nu (-3)) w fun W q => bin_sub (nu 0) (nu 3) (nu 0) (nu 3) (nu (-3)) W (hw.on q) nil_sm nil_sm (ctd_may (nu_may _)) (ctd_may (nu_may _)) rfl (fun V g => by
    have h := calc_sub (nu 0) (nu 3) 0 3 V (fun U f => number_nu 0 U (hw.on ((q.trans g).trans f))) (fun U f => number_nu 3 U (hw.on ((q.trans g).trans f))) ⟨by omega, by omega⟩ ⟨by omega, by omega⟩
    rw [resV_yes ⟨by omega, by omega⟩] at h
    exact h)
set_option maxRecDepth 100000 in
set_option maxHeartbeats 4000000 in
theorem bbegun_any (w : World) (hw : Std2 w) : Calls Tryz.prog 9 #[] w fun e w' => e = .returned (.bool true) ∧ Q w w' := by
  have HN := hid (fun n W => num_any n W)
  have HT := hid (fun W => txt_any ⟨#[120]⟩ W)
  have HS := hid (fun W2 W3 q2 q3 => beg_sum w W2 W3 hw q2 q3)
  have HD := hid (fun W (q : Q w W) => beg_div W (hw.on q))
  have HG := hid (fun W (q : Q w W) => beg_neg W (hw.on q))
  have HK := hid (fun W => known_if W)
  have HL := hid (fun W => known_no W)
  have hfd : ∀ W, (Instr.field 37 (.agg #[.int .i64 1, .int .i64 (-3), .string ⟨#[]⟩, .bool false, .int .i64 0]) 1).run Tryz.prog W = .ok (.int .i64 (-3)) W := fun W => by kernel_rfl
  have S0 : Hid True := trivial
  have S1 : Hid True := trivial
  have S2 : Hid True := trivial
  have S3 : Hid True := trivial
  simp only [vv, Cv.v, nu, er] at *
  clear hw
  go_enter Tryz.func9, Tryz.ntmps9
  go_wp2_with (first
    | (go_at_call 27; clear S0; refine (HN.out _ _).mono ?_; rintro e w1 ⟨rfl, q1⟩)
    | (go_at_call 28; refine (HT.out _).mono ?_; rintro e w2 ⟨rfl, q2⟩; have Q2 := hid (q1.trans q2); clear q2 q1)
    | (go_at_call 27; clear S1; refine (HN.out _ _).mono ?_; rintro e w3 ⟨rfl, q3⟩; have Q3 := hid q3; clear q3)
    | (go_at_call 13; refine (HS.out w2 w3 Q2.out Q3.out).mono ?_; rintro e w4 ⟨rfl, q4⟩; have Q4 := hid (((Q2.out.alloc _).trans Q3.out).trans q4); have X4 := hid (bx_new w4 (.int .i64 1) (.int .i64 15000) (.string ⟨#[]⟩) (.bool false) (.int .i64 0)); clear q4)
    | (go_at_call 27; clear S2; refine (HN.out _ _).mono ?_; rintro e w5 ⟨rfl, q5⟩; have Q5' := hid ((Q4.out.alloc _).trans q5); have X5 := hid (X4.out.on q5); clear q5)
    | (go_at_call 27; clear S3; refine (HN.out _ _).mono ?_; rintro e w6 ⟨rfl, q6⟩; have Q6 := hid (Q5'.out.trans q6); have X6 := hid (X5.out.on q6); clear q6)
    | (go_at_call 18; refine (HD.out _ Q6.out).mono ?_; rintro e w7 ⟨rfl, q7⟩; have Q7 := hid (Q6.out.trans q7); obtain ⟨x0, x1, x2, x3, x4, _, _, _, _, _, xl⟩ := X6.out.on q7; clear q7)
    | (go_at_call 15; refine (HK.out _).mono ?_; rintro e w8 ⟨rfl, q8⟩; have Q8 := hid ((Q7.out.alloc _).trans q8); clear q8 HK)
    | (go_at_call 15; refine (HL.out _).mono ?_; rintro e w9 ⟨rfl, q9⟩; have Q9 := hid (Q8.out.trans q9); clear q9)
    | (go_at_call 27; refine (HN.out _ _).mono ?_; rintro e w10 ⟨rfl, q10⟩; have Q10 := hid (Q9.out.trans q10); clear q10)
    | (go_at_call 20; refine (HG.out _ Q10.out).mono ?_; rintro e w11 ⟨rfl, q11⟩; have Q11 := hid (Q10.out.trans q11); clear q11))
  go_ret
  exact ⟨rfl, Q11.out⟩
/-- two values in their boxes -/
structure Bp (w : World) (a b : Cv) (W : World) : Prop where
  q : Q w W
  x : Bx W w.heap.size (.int .i64 a.k) (.int .i64 a.n) (.string a.t) (.bool a.b) (.int .i64 a.e)
  y : Bx W (w.heap.size + 1) (.int .i64 b.k) (.int .i64 b.n) (.string b.t) (.bool b.b) (.int .i64 b.e)
theorem Bp.on {w W W' : World} {a b : Cv} (h : Bp w a b W) (g : Q W W') : Bp w a b W' := ⟨h.q.trans g, h.x.on g, h.y.on g⟩
theorem Bp.drew {w W : World} {a b : Cv} (h : Bp w a b W) : Bp w a b W.drew := h.on (Q.refl _).drew
theorem bp_new (w : World) (a b : Cv) : Bp w a b ((w.alloc (.cells #[.int .i64 a.k, .int .i64 a.n, .string a.t, .bool a.b, .int .i64 a.e] 37)).alloc (.cells #[.int .i64 b.k, .int .i64 b.n, .string b.t, .bool b.b, .int .i64 b.e] 37)) := by
  refine ⟨((Q.refl _).alloc _).alloc _, (bx_new w _ _ _ _ _).on ((Q.refl _).alloc _), ?_⟩
  have h := bx_new (w.alloc (.cells #[.int .i64 a.k, .int .i64 a.n, .string a.t, .bool a.b, .int .i64 a.e] 37)) (.int .i64 b.k) (.int .i64 b.n) (.string b.t) (.bool b.b) (.int .i64 b.e)
  rw [World.size_alloc] at h
  exact h
theorem Bp.setTwo {w W : World} {a b : Cv} (J : Bp w a b W) (x z : Cv) : Bp w x z (set5 (set5 W w.heap.size (.int .i64 x.k) (.int .i64 x.n) (.string x.t) (.bool x.b) (.int .i64 x.e)) (w.heap.size + 1) (.int .i64 z.k) (.int .i64 z.n) (.string z.t) (.bool z.b) (.int .i64 z.e)) :=
  ⟨(J.q.set5 (Nat.le_refl _)).set5 (by omega), J.x.set5.far5 (by omega), (J.y.far5 (by omega)).set5⟩
theorem cutv_any (x : Cv) (w : World) : Calls Tryz.prog 17 #[x.v] w fun r w' => r = .returned x.cut.v ∧ Q w w' := cut_any2 x.k x.n x.t x.b x.e w
theorem cut_sm (x : Cv) : (x.cut.t.size : Int) ≤ 250 := by have := cutT_size x.t; show ((cutT x.t).size : Int) ≤ 250; omega
theorem cut_sm' (x : Cv) : x.cut.sm := by have := cut_sm x; unfold Cv.sm; omega
theorem rmayv_any (x : Cv) (w : World) (hs : x.sm) : Calls Tryz.prog 23 #[x.v] w fun r w' => r = .returned (.bool x.may) ∧ Q w w' := rmay_any x.k x.n x.t x.b x.e w hs
theorem eqv_same (x : Cv) (w : World) : Calls Tryz.prog 12 #[x.v, x.v] w fun r w' => r = .returned (.bool true) ∧ Q w w' := by
  have h := req_any x.k x.n x.t x.b x.e x.k x.n x.t x.b x.e w
  have e : eqB x.k x.n x.t.toList x.b x.e x.k x.n x.t.toList x.b x.e = true := by unfold eqB; simp
  rw [e] at h
  exact h
theorem bsin {W : World} {p F : Nat} {f : Value} (hf : f = .func (.func 110) #[] #[.pointer (some ⟨p, 0, none⟩)]) (h : SinV W f F) : W.cell? ⟨p, 0, none⟩ = some (.func (.func F) #[] #[]) := by
  obtain ⟨p', e, c⟩ := h
  rw [hf] at e
  simp at e
  subst e
  exact c
set_option maxHeartbeats 1000000 in
theorem rworst_sl (l : List Cv) (v : Value) (w : World) (h : Sl Cv.cells 5 w v l) (hm : l.length ≤ 1000) (hs : ∀ x ∈ l, x.sm) :
    Calls Tryz.prog 22 #[v] w fun e w' => e = .returned (.int .i64 (worst l)) ∧ Q w w' := by
  obtain ⟨ao, cap, rfl, h1, h2, h3⟩ := h
  rcases Nat.eq_zero_or_pos l.length with h0 | h0
  · have hl := List.eq_nil_of_length_eq_zero h0
    subst hl
    clear h3
    simp only [List.length_nil]
    go_enter Tryz.func22, Tryz.ntmps22
    go_wp2
    refine wp_loop_rounds 1 ?_
    rw [rounds_succ]
    go_wp2
    go_ret
    exact ⟨rfl, Q.refl _⟩
  · obtain ⟨b, off, rfl, hc⟩ := h3 h0
    refine rworst_row b off l.length cap l w rfl (by omega) (fun i hi => ?_) (fun i hi => ?_)
    · rw [getD_at _ hi]; exact hs _ (List.getElem_mem hi)
    · rw [getD_at _ hi]; exact at5_of (hc i hi)
theorem cut_snoc (l : List Cv) (k : Nat) (hk : k < l.length) : (l.take (k + 1)).map Cv.cut = (l.take k).map Cv.cut ++ [l[k].cut] := by
  rw [List.take_succ_eq_append_getElem hk, List.map_append]
  rfl
set_option maxRecDepth 100000 in
set_option maxHeartbeats 4000000 in
theorem cutAll_any (m n : Nat) (l : List Cv) (v : Value) (w : World) (h : Sl Cv.cells 5 w v l) (hm : m ≤ 30) (hn : (l.length ≤ m ∧ n = l.length) ∨ (m < l.length ∧ n = m)) :
    Calls Tryz.prog 11 #[v, .int .i64 m] w fun e w' => ∃ s, e = .returned s ∧ Own Cv.cells 37 5 w.heap.size w' s ((l.take n).map Cv.cut) ∧ Q w w' := by
  obtain ⟨ao, cap, rfl, h1, h2, h3⟩ := h
  obtain ⟨len, hlen⟩ : ∃ len, l.length = len := ⟨_, rfl⟩
  have HL := hid hlen
  have HC : Hid (0 < len → ∃ b off, ao = some ⟨b, off, none⟩ ∧ ∀ i (hp : i < l.length), At5 w b (off + i * 5) l[i]) := by
    intro h0
    obtain ⟨b, off, ha, hc⟩ := h3 (by omega)
    exact ⟨b, off, ha, fun i hp => at5_of (hc i hp)⟩
  have hbig : (len : Int) ≤ 9223372036854775807 := by unfold maxLen at h2; omega
  obtain ⟨i0, hi, hz0, hz1, hz2⟩ := inf_of info24
  rw [hlen] at h1 hn ⊢
  clear h3 hlen
  have hn30 : n ≤ 30 := by omega
  have hnl : n ≤ len := by omega
  go_enter Tryz.func11, Tryz.ntmps11
  go_wp2
  go_loopw [5, 6] (fun s i W => ∃ k : Nat, k ≤ n ∧ i = .int .i64 k ∧ Own Cv.cells 37 5 w.heap.size W s ((l.take k).map Cv.cut) ∧ Q w W) (fun _ i _ => n - (intOf i).toNat)
  case atStart => exact ⟨0, Nat.zero_le _, rfl, own_nil _, Q.refl _⟩
  case round =>
    obtain ⟨k, hk, rfl, hown, hq⟩ := hrel
    by_cases hlt : k < n
    · have hkl : (k : Int) < (len : Int) := by omega
      have hkm : (k : Int) < (m : Int) := by omega
      have hkp : k < l.length := by have := HL.out; omega
      obtain ⟨b, off, rfl, hc⟩ := HC.out (by omega)
      have a5 := (hc k hkp).on hq
      have hF := hid (cut_snoc l k hkp)
      have hLL : ((l.take k).map Cv.cut).length = k := by simp; omega
      clear hc
      generalize l[k] = x at *
      have HU := hid (fun W => cutv_any x W)
      obtain ⟨y, hy⟩ : ∃ y, x.cut = y := ⟨_, rfl⟩
      rw [hy] at HU
      have hF' : Hid ((l.take (k + 1)).map Cv.cut = (l.take k).map Cv.cut ++ [y]) := by show _ = _; rw [hF.out, hy]
      clear hy hF
      obtain ⟨xk, xn, xt, xb, xe⟩ := x
      obtain ⟨yk, yn, yt, yb, ye⟩ := y
      obtain ⟨c0, c1, c2, c3, c4⟩ := a5
      simp only [Cv.v, vv] at HU c0 c1 c2 c3 c4
      generalize (l.take k).map Cv.cut = L at hown hF' hLL
      have HOW := hid hown
      have HQ := hid hq
      have HLL := hid hLL
      clear hown hq hn hLL
      go_wp2_with (first
        | (go_at_call 17; refine (HU.out _).mono ?_; rintro r w2 ⟨rfl, q2⟩; have Q2 := hid q2; clear q2)
        | (at_builtin; refine wpList_append_own _ rfl _ _ 27 rfl w.heap.size 37 i0 (.agg #[.int .i64 0, .int .i64 0, .string ⟨#[]⟩, .bool false, .int .i64 0]) 5 48 Tryz.underlying27 hi hz0 hz1 hz2 rfl (by decide) _ _ _ rfl (World.ownsRow.alloc (Own.on HOW.out Q2.out) _) ⟨w2.heap.size, 0, none⟩ 1 1 [.int .i64 yk, .int .i64 yn, .string yt, .bool yb, .int .i64 ye] rfl rfl ?c1 ?c2 ?c3 ?c4 ?c5 ?_))
      case c1 => exact news_new w2 [.int .i64 yk, .int .i64 yn, .string yt, .bool yb, .int .i64 ye] 37
      case c2 =>
        intro u hu
        simp at hu
        rcases hu with rfl | rfl | rfl | rfl | rfl <;> rfl
      case c3 => have := HLL.out; unfold maxLen; omega
      case c4 => have := HLL.out; omega
      case c5 => have := (HQ.out.trans Q2.out).size; simp; omega
      · intro v' w3 hown' hgrow _
        have HO2 : Hid (Own Cv.cells 37 5 w.heap.size w3 v' ((l.take (k + 1)).map Cv.cut)) := by
          show Own _ _ _ _ _ _ _
          rw [hF'.out]
          exact own_snoc' (x := (⟨yk, yn, yt, yb, ye⟩ : Cv)) hown' rfl
        have HQ2 : Hid (Q w w3) := Below.grown ((HQ.out.trans Q2.out).alloc _) hgrow (by have := (HQ.out.trans Q2.out).size; simp; omega) (Own.blk HOW.out)
        clear hown' hgrow
        go_wp2
        go_roundw
        case rel => exact ⟨k + 1, by omega, by go_num, HO2.out, HQ2.out⟩
        case measure => simp [intOf]; omega
    · have hkn : k = n := by omega
      subst hkn
      have HOW := hid hown
      have HQ := hid hq
      clear hown hq
      rcases hn with ⟨g1, g2⟩ | ⟨g1, g2⟩
      · have hkl : ¬ (k : Int) < (len : Int) := by omega
        clear g1 g2 hn30 hnl hlt
        go_wp2
        go_ret
        exact ⟨_, rfl, (by rw [← List.map_take]; exact HOW.out), HQ.out⟩
      · have hkl : (k : Int) < (len : Int) := by omega
        have hk3 : ¬ (k : Int) < (m : Int) := by omega
        clear g1 g2 hn30 hnl hlt
        go_wp2
        go_ret
        exact ⟨_, rfl, (by rw [← List.map_take]; exact HOW.out), HQ.out⟩
/-- a slice that reads one value of a block of its own -/
def Ob (W : World) (s : Value) (x : Cv) : Prop := ∃ g, s = .slice (some ⟨g, 0, none⟩) 1 1 ∧ W.heap[g]? = some (.cells #[.int .i64 x.k, .int .i64 x.n, .string x.t, .bool x.b, .int .i64 x.e] 37 (0, 0))
theorem lt_of_heap {W : World} {g : Nat} {o : Obj} (h : W.heap[g]? = some o) : g < W.heap.size := by
  rcases Nat.lt_or_ge g W.heap.size with h' | h'
  · exact h'
  · rw [Array.getElem?_eq_none h'] at h; cases h
theorem Ob.on {W W' : World} {s : Value} {x : Cv} (h : Ob W s x) (q : Q W W') : Ob W' s x := by
  obtain ⟨g, e, hg⟩ := h
  exact ⟨g, e, (Q.block q (lt_of_heap hg)).trans hg⟩
theorem Ob.sl {W : World} {s : Value} {x : Cv} (h : Ob W s x) : Sl Cv.cells 5 W s [x] := by
  obtain ⟨g, rfl, hg⟩ := h
  refine ⟨_, 1, rfl, Nat.le_refl _, by unfold maxLen; omega, fun _ => ⟨g, 0, rfl, fun i hi j u hu => ?_⟩⟩
  simp at hi
  subst hi
  rw [Lib.cell_of_heap hg]
  simpa [Cv.cells] using hu
theorem Ob.grown {W W' : World} {B : Nat} {v s : Value} {x : Cv} {A : List Ag} (h : Ob W s x) (ho : Own Ag.cells 32 2 B W v A) (g : W.grownBy W' v.ownBlock) : Ob W' s x := by
  obtain ⟨b, e, hb⟩ := h
  refine ⟨b, e, (g.block b (lt_of_heap hb) fun hne => ?_).trans hb⟩
  obtain ⟨_, ho⟩ := ho
  rcases ho with ⟨hv, _⟩ | ⟨g', cap, cur, hv, _, hg, _⟩
  · rw [hv] at hne; cases hne
  · rw [hv] at hne
    simp only [Value.ownBlock, Option.some.injEq] at hne
    subst hne
    rw [hg] at hb
    cases hb
theorem hp_new (w : World) (o : Obj) (g : Nat) (hg : g = w.heap.size) : (w.alloc o).heap[g]? = some o := by
  subst hg
  show (w.heap.push o)[w.heap.size]? = some o
  simp
theorem arg1_ob (x : Cv) (w : World) : Calls Tryz.prog 24 #[x.v] w fun e w' => ∃ s, e = .returned (.agg #[.bool false, s]) ∧ Ob w' s x ∧ Q w w' := by
  obtain ⟨k, n, t, b, e⟩ := x
  unfold Cv.v vv
  go_enter Tryz.func24, Tryz.ntmps24
  go_wp2
  refine bodyPost_ret (v := .agg #[.bool false, .slice (some ⟨w.heap.size + 1 + 1, 0, none⟩) 1 1]) (by simp [results, Tryz.results24, go_sem]) rfl ⟨_, rfl, ⟨_, rfl, ?_⟩, (((Q.refl _).alloc _).alloc _).alloc _⟩
  exact hp_new _ _ _ (by simp only [World.size_alloc])
/-- one after the other -/
def SL (S : Nat → Oper → Prop) : Nat → List Oper → Prop
  | _, [] => True
  | k, o :: r => S k o ∧ SL S (k + 1) r
theorem sl_get {S : Nat → Oper → Prop} : ∀ (l : List Oper) (k : Nat), SL S k l → ∀ i o, l[i]? = some o → S (k + i) o
  | [], _, _, i, o, h => by simp at h
  | a :: l, k, hs, i, o, h => by
    cases i with
    | zero => simp at h; subst h; exact hs.1
    | succ i =>
      have := sl_get l (k + 1) hs.2 i o (by simpa using h)
      rw [show k + (i + 1) = k + 1 + i by omega]
      exact this
theorem steps_list {S : Nat → Oper → Prop} {l : List Oper} (h : SL S 0 l) : ∀ i o, l.toArray[i]? = some o → S i o := fun i o ho => by
  have := sl_get l 0 h i o (by simpa using ho)
  rwa [Nat.zero_add] at this
/-- a value as a number, as a text -/
def Cv.nN (x : Cv) : Int := numN x.k x.n x.t.toList x.b
def Cv.nE (x : Cv) : Int := numE x.k x.t.toList x.e
def Cv.tT (x : Cv) : ByteArray := ⟨(txtL x.k x.n x.t.data.toList x.b).toArray⟩
def Cv.tE (x : Cv) : Int := txtE x.k x.e
/-- small: a text of at most 250 bytes, a number of 64 bits -/
structure Cv.sl (x : Cv) : Prop where
  t : (x.t.size : Int) ≤ 250
  n : Fx x.n
theorem Cv.sl.sm {x : Cv} (h : x.sl) : x.sm := by have := h.t; unfold Cv.sm; omega
theorem er_sl (e : Int) : (er e).sl := ⟨by show (((⟨#[]⟩ : ByteArray).size : Nat) : Int) ≤ 250; decide, ⟨by show (-9223372036854775808 : Int) ≤ 0; omega, by show (0 : Int) ≤ 9223372036854775807; omega⟩⟩
theorem ctd_may' (x : Cv) : (ctd x).may = true := by
  unfold ctd
  split
  · assumption
  · exact er_may 5 (by omega) (by omega)
theorem ev_pos {x : Cv} (hm : x.may = true) (hk : x.k = 4) : 0 < ev x := by
  unfold ev
  rw [if_pos ⟨hk, hm⟩]
  exact (may_err hk hm).1
theorem worst2 (x z : Cv) : worst [x, z] = mn (ev x) (ev z) := by
  have h1 := (ev_lo x).1
  have h2 := (ev_lo z).1
  show wstep (wstep 0 x) z = _
  rw [wstep_mn 0 x (by omega), zero_mn, wstep_mn _ z h1]
theorem mn_pos {a b : Int} (ha : 0 ≤ a) (hb : 0 ≤ b) (h : mn a b = 0) : a = 0 ∧ b = 0 := by
  unfold mn at h
  split at h
  · exact ⟨h, by assumption⟩
  · split at h <;> omega
theorem worst2_k {x z : Cv} (hx : x.may = true) (hz : z.may = true) (h : worst [x, z] = 0) : x.k ≠ 4 ∧ z.k ≠ 4 := by
  rw [worst2] at h
  obtain ⟨h1, h2⟩ := mn_pos (ev_lo x).1 (ev_lo z).1 h
  exact ⟨fun hk => by have := ev_pos hx hk; omega, fun hk => by have := ev_pos hz hk; omega⟩
theorem pk_fx (o : Option Int) : Fx (pk o) := by
  cases o with
  | none => exact ⟨by show (-9223372036854775808 : Int) ≤ 0; omega, by show (0 : Int) ≤ 9223372036854775807; omega⟩
  | some n =>
    show Fx (keep n)
    unfold keep
    split
    · rename_i h; exact fit_of h
    · exact ⟨by omega, by omega⟩
theorem nN_fx {x : Cv} (h : x.sl) : Fx x.nN := by
  unfold Cv.nN numN
  split
  · exact h.n
  · split
    · exact pk_fx _
    · split
      · unfold tn; split <;> exact ⟨by omega, by omega⟩
      · exact ⟨by omega, by omega⟩
theorem nE_lo {x : Cv} (hm : x.may = true) : 0 ≤ x.nE ∧ x.nE ≤ 7 := by
  unfold Cv.nE numE
  split
  · split <;> omega
  · split
    · rename_i h; have := may_err h hm; omega
    · omega
theorem tE_lo {x : Cv} (hm : x.may = true) : 0 ≤ x.tE ∧ x.tE ≤ 7 := by
  unfold Cv.tE txtE
  split
  · rename_i h; have := may_err h hm; omega
  · omega
theorem part_le5 (r : Nat) (h1 : r < 10000) : (partL r).length ≤ 5 := by
  unfold partL
  split
  · simp
  · have hlen : (Lib.decDigits (10000 + r)).length = 5 := by rw [Lib.decDigits_length]; exact Lib.nDigits_unique 4 _ (by omega) (by omega)
    have := trim_le ((Lib.decDigits (10000 + r)).drop 1) 48
    rw [List.length_drop, hlen] at this
    rw [List.length_cons]
    omega
theorem print_len (a : Int) (ha : Fx a) : (printL a).length ≤ 30 := by
  have h0 := ha.lo
  have h1 := ha.hi
  have hm : (magL a.natAbs).length ≤ 29 := by
    unfold magL
    rw [List.length_append, Lib.decDigits_length]
    have l1 := nDigits_le (a.natAbs / 10000) (by omega)
    have l2 := part_le5 (a.natAbs % 10000) (by omega)
    omega
  unfold printL
  split
  · rw [List.length_cons]; omega
  · omega
theorem tT_size {x : Cv} (h : x.sl) : x.tT.size ≤ 250 := by
  show (txtL x.k x.n x.t.data.toList x.b).toArray.size ≤ 250
  rw [List.size_toArray]
  unfold txtL
  split
  · have := print_len x.n h.n; omega
  · split
    · have h1 := h.t; have : x.t.data.toList.length = x.t.size := bytes_len x.t; omega
    · split
      · unfold ttL; split <;> decide
      · simp
theorem num_c (x : Cv) (w : World) (hw : Std2 w) (hs : x.sl) (hm : x.may = true) : ∀ W, Q w W → Calls Tryz.prog 71 #[x.v] W fun r W' => r = .returned (.tuple #[.int .i64 x.nN, .int .i64 x.nE]) ∧ Q W W' := fun W q => number_vk x.k x.n x.t x.b x.e W (hw.on q) hs.t (vk_of hm)
theorem txt_c (x : Cv) (w : World) (hw : Std2 w) (hs : x.sl) (hm : x.may = true) : ∀ W, Q w W → Calls Tryz.prog 41 #[x.v] W fun r W' => r = .returned (.tuple #[.string x.tT, .int .i64 x.tE]) ∧ Q W W' := fun W q => text_vk x.k x.n x.t x.b x.e W (hw.on q) hs.t hs.n (vk_of hm)
/-- a value as a truth -/
def Cv.tB (x : Cv) : Bool := truB x.k x.n x.t.toList x.b
def Cv.bE (x : Cv) : Int := truE x.k x.t.toList x.e
theorem bE_lo {x : Cv} (hm : x.may = true) : 0 ≤ x.bE ∧ x.bE ≤ 7 := by
  unfold Cv.bE truE
  split
  · unfold rtE; split <;> omega
  · split
    · rename_i h; have := may_err h hm; omega
    · omega
theorem tru_c (x : Cv) (w : World) (hw : Std2 w) (hs : x.sl) (hm : x.may = true) : ∀ W, Q w W → Calls Tryz.prog 66 #[x.v] W fun r W' => r = .returned (.tuple #[.bool x.tB, .int .i64 x.bE]) ∧ Q W W' := fun W q => truth_vk x.k x.n x.t x.b x.e W (hw.on q) hs.t (vk_of hm)
theorem nu_sl (n : Int) (h : Fx n) : (nu n).sl := ⟨by show (((⟨#[]⟩ : ByteArray).size : Nat) : Int) ≤ 250; decide, h⟩
theorem cut_sl (x : Cv) (h : Fx x.n) : x.cut.sl := ⟨cut_sm x, h⟩
theorem ev_er (e : Int) (h1 : 1 ≤ e) (h7 : e ≤ 7) : ev (er e) = e := by
  unfold ev
  rw [if_pos ⟨rfl, er_may e h1 h7⟩]
  rfl
/-- the errors among what is taken -/
theorem tw_eq {te : Cv → Int} : ∀ (L : List Cv), (∀ x ∈ L, te x = ev x) → tw te L = worst L := by
  have h1 : ∀ (L : List Cv), (∀ x ∈ L, te x = ev x) → ∀ a : Int, 0 ≤ a → ((fs te L).map er).foldl wstep a = L.foldl wstep a := by
    intro L
    induction L with
    | nil => intro _ a _; rfl
    | cons x L ih =>
      intro h a ha
      have hx := h x (List.mem_cons_self ..)
      have hl := ev_lo x
      have e1 : wstep a x = mn a (ev x) := wstep_mn a x ha
      by_cases hz : ev x = 0
      · have e2 : fs te (x :: L) = fs te L := by
          unfold fs
          rw [List.map_cons, List.filter_cons, hx, hz]
          rfl
        rw [e2, List.foldl_cons, e1, hz, mn_zero]
        exact ih (fun y hy => h y (List.mem_cons_of_mem _ hy)) a ha
      · have e2 : fs te (x :: L) = ev x :: fs te L := by
          unfold fs
          rw [List.map_cons, List.filter_cons, hx, if_pos (by simpa using hz)]
        have e3 : wstep a (er (ev x)) = mn a (ev x) := by
          rw [wstep_mn a _ ha, ev_er _ (by omega) (by omega)]
        rw [e2, List.map_cons, List.foldl_cons, List.foldl_cons, e3, e1]
        exact ih (fun y hy => h y (List.mem_cons_of_mem _ hy)) _ (mn_lo ha hl.1)
  intro L h
  exact h1 L h 0 (by omega)
theorem nE_ev {x : Cv} (hm : x.may = true) (hk : x.k ≠ 2) : x.nE = ev x := by
  unfold Cv.nE numE ev
  rw [if_neg hk]
  by_cases h4 : x.k = 4
  · rw [if_pos h4, if_pos ⟨h4, hm⟩]
  · rw [if_neg h4, if_neg (fun h => h4 h.1)]
theorem bE_ev {x : Cv} (hm : x.may = true) (hk : x.k ≠ 2) : x.bE = ev x := by
  unfold Cv.bE truE ev
  rw [if_neg hk]
  by_cases h4 : x.k = 4
  · rw [if_pos h4, if_pos ⟨h4, hm⟩]
  · rw [if_neg h4, if_neg (fun h => h4 h.1)]
theorem tE_ev {x : Cv} (hm : x.may = true) : x.tE = ev x := by
  unfold Cv.tE txtE ev
  by_cases h4 : x.k = 4
  · rw [if_pos h4, if_pos ⟨h4, hm⟩]
  · rw [if_neg h4, if_neg (fun h => h4 h.1)]
end Go.Proofs.YtfjpdopmojfchaaGreatDoor
namespace Go.Proofs.YtfjpdopmojfchaaGreatDoor
open Go.RowKit
set_option linter.unusedVariables false
theorem frm_get {a0 : Act} {ds : List Nat} {v : Nat → Value} {d : Nat} (hm : d ∈ ds) (hs : (a0.tmps[d]?).isSome = true) : (frm a0 ds v).tmps[d]? = some (v d) := by
  show (ds.foldl (fun t d => t.setIfInBounds d (v d)) a0.tmps)[d]? = _
  rw [fold_get, if_pos hm]
  cases h : a0.tmps[d]? with
  | none => rw [h] at hs; cases hs
  | some x => rfl
theorem wanted_of {ops : Array Oper} {a0 : Act} {ds : List Nat} {v : Nat → Value} {o : Oper} {g d : Nat} {b : Bool} (hg : o.guard = some (g, b)) (ho : (ops[g]?).bind (·.dst) = some d) (hm : d ∈ ds) (hs : (a0.tmps[d]?).isSome = true) (hv : v d = .bool b) :
    Region.wanted o (yielded ops (frm a0 ds v).tmps) = true := by
  unfold Region.wanted yielded
  rw [hg]
  simp only [ho, Option.bind_some, frm_get hm hs, hv]
  exact beq_self_eq_true _
section
variable {P : Program} {ops : Array Oper} {Q : Exit → Act → World → Prop} {a0 : Act} {ds : List Nat} {J : (Nat → Value) → World → Prop} {v : Nat → Value} {w w' w1 : World} {i : Nat} {o : Oper} {d : Nat} {u : Value}
theorem op_valg (ho : ops[i]? = some o) (hg : Region.wanted o (yielded ops (frm a0 ds v).tmps) = true) (hd : o.dst = some d) (hm : d ∈ ds) (h : (execOp (frm a0 ds v).eval o).run P w = .ok (.value u) w') (hI : J (up v d u) w') :
    wpOp P ops Q i (Ks a0 ds J) (frm a0 ds v) w := by
  refine wpOp_step ho fun K' hK => ?_
  rw [if_pos hg]
  unfold Oper.wp
  rw [h, Oper.upon_value, hd]
  exact hK _ _ ⟨up v d u, frm_put hm, hI⟩
theorem op_callg (ho : ops[i]? = some o) (hg : Region.wanted o (yielded ops (frm a0 ds v).tmps) = true) (hd : o.dst = some d) (hm : d ∈ ds) {f : FuncId} {args : Array Value} (h : (execOp (frm a0 ds v).eval o).run P w = .ok (.enter f args) w1)
    (hc : Calls P f args w1 fun e w' => ∃ u, e = .returned u ∧ J (up v d u) w') :
    wpOp P ops Q i (Ks a0 ds J) (frm a0 ds v) w := by
  refine wpOp_step ho fun K' hK => ?_
  rw [if_pos hg]
  unfold Oper.wp
  rw [h, Oper.upon_enter, hd]
  refine hc.mono ?_
  rintro e w2 ⟨u, rfl, hI⟩
  exact hK _ _ ⟨up v d u, frm_put hm, hI⟩
end
/-- a step that the elaborator does not lay open -/
structure WO (P : Program) (ops : Array Oper) (Q : Exit → Act → World → Prop) (i : Nat) (K : Act → World → Prop) (a : Act) (w : World) : Prop where
  out : wpOp P ops Q i K a w
section
variable {P : Program} {ops : Array Oper} {Q : Exit → Act → World → Prop}
def StepW (P : Program) (ops : Array Oper) (Q : Exit → Act → World → Prop) (a0 : Act) (ds : List Nat) (I : (Nat → Bool) → (Nat → Value) → World → Prop) (i : Nat) (o : Oper) : Prop :=
  ∀ L v w, I L v w → L i = false → (∀ j ∈ deps o, L j = true) → WO P ops Q i (Ks a0 ds (I (ul L i))) (frm a0 ds v) w
theorem wp_region_invw {id : Nat} {a0 : Act} {w0 : World} (hm : P.follows .mixedOrders = true) (ds : List Nat) (I : (Nat → Bool) → (Nat → Value) → World → Prop)
    (hb : Back ops = true)
    (hsteps : ∀ i o, ops[i]? = some o → StepW P ops Q a0 ds I i o)
    (h0 : I (fun _ => false) (fun d => a0.tmps.getD d undef) { w0 with drawn := w0.drawn + 1 })
    (hdone : ∀ L v w, (∀ j, j < ops.size → L j = true) → I L v w → Q .normal (frm a0 ds v) w) : (Code.region id ops true).wp P Q a0 w0 :=
  wp_region_inv hm ds I hb (fun i o ho L v w h1 h2 h3 => (hsteps i o ho L v w h1 h2 h3).out) h0 hdone
variable {a0 : Act} {ds : List Nat} {J : (Nat → Value) → World → Prop} {v : Nat → Value} {w w' w1 : World} {i : Nat} {o : Oper} {d : Nat} {u : Value}
theorem opw_val (ho : ops[i]? = some o) (hg : o.guard = none) (hd : o.dst = some d) (hm : d ∈ ds) (h : (execOp (frm a0 ds v).eval o).run P w = .ok (.value u) w') (hI : J (up v d u) w') :
    WO P ops Q i (Ks a0 ds J) (frm a0 ds v) w := ⟨op_val ho hg hd hm h hI⟩
theorem opw_valG (g dg : Nat) (b : Bool) (ho : ops[i]? = some o) (hg : o.guard = some (g, b)) (hgo : (ops[g]?).bind (·.dst) = some dg) (hgm : dg ∈ ds) (hgs : (a0.tmps[dg]?).isSome = true) (hgv : v dg = .bool b) (hd : o.dst = some d) (hm : d ∈ ds) (h : (execOp (frm a0 ds v).eval o).run P w = .ok (.value u) w') (hI : J (up v d u) w') :
    WO P ops Q i (Ks a0 ds J) (frm a0 ds v) w := ⟨op_valg ho (wanted_of hg hgo hgm hgs hgv) hd hm h hI⟩
theorem opw_callG (g dg : Nat) (b : Bool) (ho : ops[i]? = some o) (hg : o.guard = some (g, b)) (hgo : (ops[g]?).bind (·.dst) = some dg) (hgm : dg ∈ ds) (hgs : (a0.tmps[dg]?).isSome = true) (hgv : v dg = .bool b) (hd : o.dst = some d) (hm : d ∈ ds) {f : FuncId} {args : Array Value} (h : (execOp (frm a0 ds v).eval o).run P w = .ok (.enter f args) w1)
    (hc : Calls P f args w1 fun e w' => ∃ u, e = .returned u ∧ J (up v d u) w') :
    WO P ops Q i (Ks a0 ds J) (frm a0 ds v) w := ⟨op_callg ho (wanted_of hg hgo hgm hgs hgv) hd hm h hc⟩
end
end Go.Proofs.YtfjpdopmojfchaaGreatDoor
namespace Go.Proofs.YtfjpdopmojfchaaGreatDoor
open Go.RowKit
structure I6 (w : World) (op : ByteArray) (x z y Y : Cv) (L : Nat → Bool) (v : Nat → Value) (W : World) : Prop where
  bp : Bp w x z W
  e0 : L 0 = true → v 17 = .bool true
  e1 : L 1 = true → v 18 = .bool true
  e2 : L 2 = true → v 19 = .string op
  e3 : L 3 = true → v 20 = x.v
  e4 : L 4 = true → v 21 = z.v
  e5 : L 5 = true → v 22 = y.v
  e6 : L 6 = true → v 23 = .string op
  e7 : L 7 = true → v 24 = x.v
  e8 : L 8 = true → v 25 = z.v
  e9 : L 9 = true → v 26 = y.v
  e10 : L 10 = true → v 27 = .bool true
  e11 : L 11 = true → v 28 = .bool true
  e12 : L 12 = true → v 29 = .bool true
  e13 : L 13 = true → v 30 = x.v
  e14 : L 14 = true → v 31 = Y.v
  e15 : L 15 = true → v 32 = x.v
  e16 : L 16 = true → v 33 = Y.v
  e17 : L 17 = true → v 34 = .bool true
  e18 : L 18 = true → v 35 = .bool true
  e19 : L 19 = true → v 6 = .bool true
theorem I6.on {W' : World} {w W : World} {op : ByteArray} {x z y Y : Cv} {L : Nat → Bool} {v : Nat → Value} (J : I6 w op x z y Y L v W) (q : Q W W') : I6 w op x z y Y L v W' := ⟨J.bp.on q, J.e0, J.e1, J.e2, J.e3, J.e4, J.e5, J.e6, J.e7, J.e8, J.e9, J.e10, J.e11, J.e12, J.e13, J.e14, J.e15, J.e16, J.e17, J.e18, J.e19⟩
theorem I6.s0 {w W : World} {op : ByteArray} {x z y Y : Cv} {L : Nat → Bool} {v : Nat → Value} {u : Value} (J : I6 w op x z y Y L v W) (e : u = .bool true) : I6 w op x z y Y (ul L 0) (up v 17 u) W := ⟨J.bp, (by intro _; rw [up_same]; exact e), J.e1, J.e2, J.e3, J.e4, J.e5, J.e6, J.e7, J.e8, J.e9, J.e10, J.e11, J.e12, J.e13, J.e14, J.e15, J.e16, J.e17, J.e18, J.e19⟩
theorem I6.s1 {w W : World} {op : ByteArray} {x z y Y : Cv} {L : Nat → Bool} {v : Nat → Value} {u : Value} (J : I6 w op x z y Y L v W) (e : u = .bool true) : I6 w op x z y Y (ul L 1) (up v 18 u) W := ⟨J.bp, J.e0, (by intro _; rw [up_same]; exact e), J.e2, J.e3, J.e4, J.e5, J.e6, J.e7, J.e8, J.e9, J.e10, J.e11, J.e12, J.e13, J.e14, J.e15, J.e16, J.e17, J.e18, J.e19⟩
theorem I6.s2 {w W : World} {op : ByteArray} {x z y Y : Cv} {L : Nat → Bool} {v : Nat → Value} {u : Value} (J : I6 w op x z y Y L v W) (e : u = .string op) : I6 w op x z y Y (ul L 2) (up v 19 u) W := ⟨J.bp, J.e0, J.e1, (by intro _; rw [up_same]; exact e), J.e3, J.e4, J.e5, J.e6, J.e7, J.e8, J.e9, J.e10, J.e11, J.e12, J.e13, J.e14, J.e15, J.e16, J.e17, J.e18, J.e19⟩
theorem I6.s3 {w W : World} {op : ByteArray} {x z y Y : Cv} {L : Nat → Bool} {v : Nat → Value} {u : Value} (J : I6 w op x z y Y L v W) (e : u = x.v) : I6 w op x z y Y (ul L 3) (up v 20 u) W := ⟨J.bp, J.e0, J.e1, J.e2, (by intro _; rw [up_same]; exact e), J.e4, J.e5, J.e6, J.e7, J.e8, J.e9, J.e10, J.e11, J.e12, J.e13, J.e14, J.e15, J.e16, J.e17, J.e18, J.e19⟩
theorem I6.s4 {w W : World} {op : ByteArray} {x z y Y : Cv} {L : Nat → Bool} {v : Nat → Value} {u : Value} (J : I6 w op x z y Y L v W) (e : u = z.v) : I6 w op x z y Y (ul L 4) (up v 21 u) W := ⟨J.bp, J.e0, J.e1, J.e2, J.e3, (by intro _; rw [up_same]; exact e), J.e5, J.e6, J.e7, J.e8, J.e9, J.e10, J.e11, J.e12, J.e13, J.e14, J.e15, J.e16, J.e17, J.e18, J.e19⟩
theorem I6.s5 {w W : World} {op : ByteArray} {x z y Y : Cv} {L : Nat → Bool} {v : Nat → Value} {u : Value} (J : I6 w op x z y Y L v W) (e : u = y.v) : I6 w op x z y Y (ul L 5) (up v 22 u) W := ⟨J.bp, J.e0, J.e1, J.e2, J.e3, J.e4, (by intro _; rw [up_same]; exact e), J.e6, J.e7, J.e8, J.e9, J.e10, J.e11, J.e12, J.e13, J.e14, J.e15, J.e16, J.e17, J.e18, J.e19⟩
theorem I6.s6 {w W : World} {op : ByteArray} {x z y Y : Cv} {L : Nat → Bool} {v : Nat → Value} {u : Value} (J : I6 w op x z y Y L v W) (e : u = .string op) : I6 w op x z y Y (ul L 6) (up v 23 u) W := ⟨J.bp, J.e0, J.e1, J.e2, J.e3, J.e4, J.e5, (by intro _; rw [up_same]; exact e), J.e7, J.e8, J.e9, J.e10, J.e11, J.e12, J.e13, J.e14, J.e15, J.e16, J.e17, J.e18, J.e19⟩
theorem I6.s7 {w W : World} {op : ByteArray} {x z y Y : Cv} {L : Nat → Bool} {v : Nat → Value} {u : Value} (J : I6 w op x z y Y L v W) (e : u = x.v) : I6 w op x z y Y (ul L 7) (up v 24 u) W := ⟨J.bp, J.e0, J.e1, J.e2, J.e3, J.e4, J.e5, J.e6, (by intro _; rw [up_same]; exact e), J.e8, J.e9, J.e10, J.e11, J.e12, J.e13, J.e14, J.e15, J.e16, J.e17, J.e18, J.e19⟩
theorem I6.s8 {w W : World} {op : ByteArray} {x z y Y : Cv} {L : Nat → Bool} {v : Nat → Value} {u : Value} (J : I6 w op x z y Y L v W) (e : u = z.v) : I6 w op x z y Y (ul L 8) (up v 25 u) W := ⟨J.bp, J.e0, J.e1, J.e2, J.e3, J.e4, J.e5, J.e6, J.e7, (by intro _; rw [up_same]; exact e), J.e9, J.e10, J.e11, J.e12, J.e13, J.e14, J.e15, J.e16, J.e17, J.e18, J.e19⟩
theorem I6.s9 {w W : World} {op : ByteArray} {x z y Y : Cv} {L : Nat → Bool} {v : Nat → Value} {u : Value} (J : I6 w op x z y Y L v W) (e : u = y.v) : I6 w op x z y Y (ul L 9) (up v 26 u) W := ⟨J.bp, J.e0, J.e1, J.e2, J.e3, J.e4, J.e5, J.e6, J.e7, J.e8, (by intro _; rw [up_same]; exact e), J.e10, J.e11, J.e12, J.e13, J.e14, J.e15, J.e16, J.e17, J.e18, J.e19⟩
theorem I6.s10 {w W : World} {op : ByteArray} {x z y Y : Cv} {L : Nat → Bool} {v : Nat → Value} {u : Value} (J : I6 w op x z y Y L v W) (e : u = .bool true) : I6 w op x z y Y (ul L 10) (up v 27 u) W := ⟨J.bp, J.e0, J.e1, J.e2, J.e3, J.e4, J.e5, J.e6, J.e7, J.e8, J.e9, (by intro _; rw [up_same]; exact e), J.e11, J.e12, J.e13, J.e14, J.e15, J.e16, J.e17, J.e18, J.e19⟩
theorem I6.s11 {w W : World} {op : ByteArray} {x z y Y : Cv} {L : Nat → Bool} {v : Nat → Value} {u : Value} (J : I6 w op x z y Y L v W) (e : u = .bool true) : I6 w op x z y Y (ul L 11) (up v 28 u) W := ⟨J.bp, J.e0, J.e1, J.e2, J.e3, J.e4, J.e5, J.e6, J.e7, J.e8, J.e9, J.e10, (by intro _; rw [up_same]; exact e), J.e12, J.e13, J.e14, J.e15, J.e16, J.e17, J.e18, J.e19⟩
theorem I6.s12 {w W : World} {op : ByteArray} {x z y Y : Cv} {L : Nat → Bool} {v : Nat → Value} {u : Value} (J : I6 w op x z y Y L v W) (e : u = .bool true) : I6 w op x z y Y (ul L 12) (up v 29 u) W := ⟨J.bp, J.e0, J.e1, J.e2, J.e3, J.e4, J.e5, J.e6, J.e7, J.e8, J.e9, J.e10, J.e11, (by intro _; rw [up_same]; exact e), J.e13, J.e14, J.e15, J.e16, J.e17, J.e18, J.e19⟩
theorem I6.s13 {w W : World} {op : ByteArray} {x z y Y : Cv} {L : Nat → Bool} {v : Nat → Value} {u : Value} (J : I6 w op x z y Y L v W) (e : u = x.v) : I6 w op x z y Y (ul L 13) (up v 30 u) W := ⟨J.bp, J.e0, J.e1, J.e2, J.e3, J.e4, J.e5, J.e6, J.e7, J.e8, J.e9, J.e10, J.e11, J.e12, (by intro _; rw [up_same]; exact e), J.e14, J.e15, J.e16, J.e17, J.e18, J.e19⟩
theorem I6.s14 {w W : World} {op : ByteArray} {x z y Y : Cv} {L : Nat → Bool} {v : Nat → Value} {u : Value} (J : I6 w op x z y Y L v W) (e : u = Y.v) : I6 w op x z y Y (ul L 14) (up v 31 u) W := ⟨J.bp, J.e0, J.e1, J.e2, J.e3, J.e4, J.e5, J.e6, J.e7, J.e8, J.e9, J.e10, J.e11, J.e12, J.e13, (by intro _; rw [up_same]; exact e), J.e15, J.e16, J.e17, J.e18, J.e19⟩
theorem I6.s15 {w W : World} {op : ByteArray} {x z y Y : Cv} {L : Nat → Bool} {v : Nat → Value} {u : Value} (J : I6 w op x z y Y L v W) (e : u = x.v) : I6 w op x z y Y (ul L 15) (up v 32 u) W := ⟨J.bp, J.e0, J.e1, J.e2, J.e3, J.e4, J.e5, J.e6, J.e7, J.e8, J.e9, J.e10, J.e11, J.e12, J.e13, J.e14, (by intro _; rw [up_same]; exact e), J.e16, J.e17, J.e18, J.e19⟩
theorem I6.s16 {w W : World} {op : ByteArray} {x z y Y : Cv} {L : Nat → Bool} {v : Nat → Value} {u : Value} (J : I6 w op x z y Y L v W) (e : u = Y.v) : I6 w op x z y Y (ul L 16) (up v 33 u) W := ⟨J.bp, J.e0, J.e1, J.e2, J.e3, J.e4, J.e5, J.e6, J.e7, J.e8, J.e9, J.e10, J.e11, J.e12, J.e13, J.e14, J.e15, (by intro _; rw [up_same]; exact e), J.e17, J.e18, J.e19⟩
theorem I6.s17 {w W : World} {op : ByteArray} {x z y Y : Cv} {L : Nat → Bool} {v : Nat → Value} {u : Value} (J : I6 w op x z y Y L v W) (e : u = .bool true) : I6 w op x z y Y (ul L 17) (up v 34 u) W := ⟨J.bp, J.e0, J.e1, J.e2, J.e3, J.e4, J.e5, J.e6, J.e7, J.e8, J.e9, J.e10, J.e11, J.e12, J.e13, J.e14, J.e15, J.e16, (by intro _; rw [up_same]; exact e), J.e18, J.e19⟩
theorem I6.s18 {w W : World} {op : ByteArray} {x z y Y : Cv} {L : Nat → Bool} {v : Nat → Value} {u : Value} (J : I6 w op x z y Y L v W) (e : u = .bool true) : I6 w op x z y Y (ul L 18) (up v 35 u) W := ⟨J.bp, J.e0, J.e1, J.e2, J.e3, J.e4, J.e5, J.e6, J.e7, J.e8, J.e9, J.e10, J.e11, J.e12, J.e13, J.e14, J.e15, J.e16, J.e17, (by intro _; rw [up_same]; exact e), J.e19⟩
theorem I6.s19 {w W : World} {op : ByteArray} {x z y Y : Cv} {L : Nat → Bool} {v : Nat → Value} {u : Value} (J : I6 w op x z y Y L v W) (e : u = .bool true) : I6 w op x z y Y (ul L 19) (up v 6 u) W := ⟨J.bp, J.e0, J.e1, J.e2, J.e3, J.e4, J.e5, J.e6, J.e7, J.e8, J.e9, J.e10, J.e11, J.e12, J.e13, J.e14, J.e15, J.e16, J.e17, J.e18, (by intro _; rw [up_same]; exact e)⟩
theorem I6.start {w W : World} {op : ByteArray} {x z y Y : Cv} {v : Nat → Value} (bp : Bp w x z W) : I6 w op x z y Y (fun _ => false) v W := ⟨bp, (fun h => by cases h), (fun h => by cases h), (fun h => by cases h), (fun h => by cases h), (fun h => by cases h), (fun h => by cases h), (fun h => by cases h), (fun h => by cases h), (fun h => by cases h), (fun h => by cases h), (fun h => by cases h), (fun h => by cases h), (fun h => by cases h), (fun h => by cases h), (fun h => by cases h), (fun h => by cases h), (fun h => by cases h), (fun h => by cases h), (fun h => by cases h), (fun h => by cases h)⟩
theorem map_may {P : List (Value × Cv)} (h : ∀ p ∈ P, p.2.may = true) : (P.map fun p => ctd p.2) = P.map (·.2) := List.map_congr_left fun p hp => ctd_may (h p hp)
theorem scall_and (P : List (Value × Cv)) (ao : Option Addr) (n cap : Nat) (w : World) (hw : Std2 w) (h : Args w (.slice ao n cap) (sg P)) (hn : P.length = n) (hm : n ≤ 1000) (h0 : 1 ≤ (n : Int)) (h1 : (n : Int) ≤ 9223372036854775807) (hs : ∀ p ∈ P, p.2.sl) (hy : ∀ p ∈ P, p.2.may = true ∧ p.2.k ≠ 2) (hne : worst (P.map (·.2)) ≠ 0) :
    Calls Tryz.prog 13 #[.string ⟨#[65, 78, 68]⟩, .slice ao n cap] w fun r w' => r = .returned (er (worst (P.map (·.2)))).v ∧ Q w w' := by
  have hmay : ∀ p ∈ P, p.2.may = true := fun p hp => (hy p hp).1
  have htw : tw Cv.bE (P.map (·.2)) = worst (P.map (·.2)) := tw_eq _ (fun x hx => by obtain ⟨p, hp, rfl⟩ := List.mem_map.1 hx; exact bE_ev (hmay p hp) (hy p hp).2)
  refine call_and ao n cap _ w h0 h1 fun W f p hf q hv => ?_
  obtain ⟨q', r', c1, c2, c3⟩ := btak hf hv
  refine singk112 P _ _ p q' r' W (hw.on q) (h.on q) (by omega) (fun p hp => (hs p hp).sm) c1 (fun W' s g hs' => ?_)
  rw [map_may hmay] at hs'
  have hc := taken_and (P.map (·.2)) Cv.bE Cv.tB s (er 0) q' r' W' (hw.on (q.trans g)) hs' (by simp; omega) (fcell c2 g) (fcell c3 g)
    (fun x hx => by obtain ⟨p, hp, rfl⟩ := List.mem_map.1 hx; exact bE_lo (hmay p hp))
    (fun x hx => by obtain ⟨p, hp, rfl⟩ := List.mem_map.1 hx; exact tru_c p.2 W' (hw.on (q.trans g)) (hs p hp) (hmay p hp))
    (fun h0 => absurd (htw.symm.trans h0) hne)
  rw [htw, if_neg hne] at hc
  exact hc
theorem scall_or (P : List (Value × Cv)) (ao : Option Addr) (n cap : Nat) (w : World) (hw : Std2 w) (h : Args w (.slice ao n cap) (sg P)) (hn : P.length = n) (hm : n ≤ 1000) (h0 : 1 ≤ (n : Int)) (h1 : (n : Int) ≤ 9223372036854775807) (hs : ∀ p ∈ P, p.2.sl) (hy : ∀ p ∈ P, p.2.may = true ∧ p.2.k ≠ 2) (hne : worst (P.map (·.2)) ≠ 0) :
    Calls Tryz.prog 13 #[.string ⟨#[79, 82]⟩, .slice ao n cap] w fun r w' => r = .returned (er (worst (P.map (·.2)))).v ∧ Q w w' := by
  have hmay : ∀ p ∈ P, p.2.may = true := fun p hp => (hy p hp).1
  have htw : tw Cv.bE (P.map (·.2)) = worst (P.map (·.2)) := tw_eq _ (fun x hx => by obtain ⟨p, hp, rfl⟩ := List.mem_map.1 hx; exact bE_ev (hmay p hp) (hy p hp).2)
  refine call_or ao n cap _ w h0 h1 fun W f p hf q hv => ?_
  obtain ⟨q', r', c1, c2, c3⟩ := btak hf hv
  refine singk112 P _ _ p q' r' W (hw.on q) (h.on q) (by omega) (fun p hp => (hs p hp).sm) c1 (fun W' s g hs' => ?_)
  rw [map_may hmay] at hs'
  have hc := taken_or (P.map (·.2)) Cv.bE Cv.tB s (er 0) q' r' W' (hw.on (q.trans g)) hs' (by simp; omega) (fcell c2 g) (fcell c3 g)
    (fun x hx => by obtain ⟨p, hp, rfl⟩ := List.mem_map.1 hx; exact bE_lo (hmay p hp))
    (fun x hx => by obtain ⟨p, hp, rfl⟩ := List.mem_map.1 hx; exact tru_c p.2 W' (hw.on (q.trans g)) (hs p hp) (hmay p hp))
    (fun h0 => absurd (htw.symm.trans h0) hne)
  rw [htw, if_neg hne] at hc
  exact hc
theorem scall_not (P : List (Value × Cv)) (ao : Option Addr) (n cap : Nat) (w : World) (hw : Std2 w) (h : Args w (.slice ao n cap) (sg P)) (hn : P.length = n) (hm : n ≤ 1000) (h0 : 1 ≤ (n : Int)) (h1 : (n : Int) ≤ 1) (hs : ∀ p ∈ P, p.2.sl) (hy : ∀ p ∈ P, p.2.may = true ∧ p.2.k ≠ 2) (hne : worst (P.map (·.2)) ≠ 0) :
    Calls Tryz.prog 13 #[.string ⟨#[78, 79, 84]⟩, .slice ao n cap] w fun r w' => r = .returned (er (worst (P.map (·.2)))).v ∧ Q w w' := by
  have hmay : ∀ p ∈ P, p.2.may = true := fun p hp => (hy p hp).1
  have htw : tw Cv.bE (P.map (·.2)) = worst (P.map (·.2)) := tw_eq _ (fun x hx => by obtain ⟨p, hp, rfl⟩ := List.mem_map.1 hx; exact bE_ev (hmay p hp) (hy p hp).2)
  refine call_not ao n cap _ w h0 h1 fun W f p hf q hv => ?_
  obtain ⟨q', r', c1, c2, c3⟩ := btak hf hv
  refine singk112 P _ _ p q' r' W (hw.on q) (h.on q) (by omega) (fun p hp => (hs p hp).sm) c1 (fun W' s g hs' => ?_)
  rw [map_may hmay] at hs'
  have hc := taken_not (P.map (·.2)) Cv.bE Cv.tB s (er 0) q' r' W' (hw.on (q.trans g)) hs' (by simp; omega) (fcell c2 g) (fcell c3 g)
    (fun x hx => by obtain ⟨p, hp, rfl⟩ := List.mem_map.1 hx; exact bE_lo (hmay p hp))
    (fun x hx => by obtain ⟨p, hp, rfl⟩ := List.mem_map.1 hx; exact tru_c p.2 W' (hw.on (q.trans g)) (hs p hp) (hmay p hp))
    (fun h0 => absurd (htw.symm.trans h0) hne)
  rw [htw, if_neg hne] at hc
  exact hc
theorem scall_abs (P : List (Value × Cv)) (ao : Option Addr) (n cap : Nat) (w : World) (hw : Std2 w) (h : Args w (.slice ao n cap) (sg P)) (hn : P.length = n) (hm : n ≤ 1000) (h0 : 1 ≤ (n : Int)) (h1 : (n : Int) ≤ 1) (hs : ∀ p ∈ P, p.2.sl) (hy : ∀ p ∈ P, p.2.may = true ∧ p.2.k ≠ 2) (hne : worst (P.map (·.2)) ≠ 0) :
    Calls Tryz.prog 13 #[.string ⟨#[65, 66, 83]⟩, .slice ao n cap] w fun r w' => r = .returned (er (worst (P.map (·.2)))).v ∧ Q w w' := by
  have hmay : ∀ p ∈ P, p.2.may = true := fun p hp => (hy p hp).1
  have htw : tw Cv.nE (P.map (·.2)) = worst (P.map (·.2)) := tw_eq _ (fun x hx => by obtain ⟨p, hp, rfl⟩ := List.mem_map.1 hx; exact nE_ev (hmay p hp) (hy p hp).2)
  refine call_abs ao n cap _ w h0 h1 fun W f p hf q hv => ?_
  obtain ⟨q', r', c1, c2, c3⟩ := btak hf hv
  refine singk115 P _ _ p q' r' W (hw.on q) (h.on q) (by omega) (fun p hp => (hs p hp).sm) c1 (fun W' s g hs' => ?_)
  rw [map_may hmay] at hs'
  have hc := taken_abs (P.map (·.2)) Cv.nE Cv.nN s (er 0) q' r' W' (hw.on (q.trans g)) hs' (by simp; omega) (fcell c2 g) (fcell c3 g)
    (fun x hx => by obtain ⟨p, hp, rfl⟩ := List.mem_map.1 hx; exact nE_lo (hmay p hp))
    (fun x hx => by obtain ⟨p, hp, rfl⟩ := List.mem_map.1 hx; exact num_c p.2 W' (hw.on (q.trans g)) (hs p hp) (hmay p hp))
    (fun h0 => absurd (htw.symm.trans h0) hne)
  rw [htw, if_neg hne] at hc
  exact hc
theorem scall_len (P : List (Value × Cv)) (ao : Option Addr) (n cap : Nat) (w : World) (hw : Std2 w) (h : Args w (.slice ao n cap) (sg P)) (hn : P.length = n) (hm : n ≤ 1000) (h0 : 1 ≤ (n : Int)) (h1 : (n : Int) ≤ 1) (hs : ∀ p ∈ P, p.2.sl) (hy : ∀ p ∈ P, p.2.may = true) (hne : worst (P.map (·.2)) ≠ 0) :
    Calls Tryz.prog 13 #[.string ⟨#[76, 69, 78]⟩, .slice ao n cap] w fun r w' => r = .returned (er (worst (P.map (·.2)))).v ∧ Q w w' := by
  have hmay : ∀ p ∈ P, p.2.may = true := hy
  have htw : tw Cv.tE (P.map (·.2)) = worst (P.map (·.2)) := tw_eq _ (fun x hx => by obtain ⟨p, hp, rfl⟩ := List.mem_map.1 hx; exact tE_ev (hmay p hp))
  refine call_len ao n cap _ w h0 h1 fun W f p hf q hv => ?_
  obtain ⟨q', r', c1, c2, c3⟩ := btak hf hv
  refine singk86 P _ _ p q' r' W (hw.on q) (h.on q) (by omega) (fun p hp => (hs p hp).sm) c1 (fun W' s g hs' => ?_)
  rw [map_may hmay] at hs'
  have hc := taken_len (P.map (·.2)) Cv.tE Cv.tT s (er 0) q' r' W' (hw.on (q.trans g)) hs' (by simp; omega) (fcell c2 g) (fcell c3 g)
    (fun x hx => by obtain ⟨p, hp, rfl⟩ := List.mem_map.1 hx; exact tE_lo (hmay p hp))
    (fun x hx => by obtain ⟨p, hp, rfl⟩ := List.mem_map.1 hx; exact txt_c p.2 W' (hw.on (q.trans g)) (hs p hp) (hmay p hp))
    (fun h0 => absurd (htw.symm.trans h0) hne)
  rw [htw, if_neg hne] at hc
  exact hc
theorem scall_concat (P : List (Value × Cv)) (ao : Option Addr) (n cap : Nat) (w : World) (hw : Std2 w) (h : Args w (.slice ao n cap) (sg P)) (hn : P.length = n) (hm : n ≤ 1000) (h0 : 0 ≤ (n : Int)) (h1 : (n : Int) ≤ 9223372036854775807) (hs : ∀ p ∈ P, p.2.sl) (hy : ∀ p ∈ P, p.2.may = true) (hne : worst (P.map (·.2)) ≠ 0) :
    Calls Tryz.prog 13 #[.string ⟨#[67, 79, 78, 67, 65, 84]⟩, .slice ao n cap] w fun r w' => r = .returned (er (worst (P.map (·.2)))).v ∧ Q w w' := by
  have hmay : ∀ p ∈ P, p.2.may = true := hy
  have htw : tw Cv.tE (P.map (·.2)) = worst (P.map (·.2)) := tw_eq _ (fun x hx => by obtain ⟨p, hp, rfl⟩ := List.mem_map.1 hx; exact tE_ev (hmay p hp))
  refine call_concat ao n cap _ w h0 h1 fun W f p hf q hv => ?_
  obtain ⟨q', r', c1, c2, c3⟩ := btak hf hv
  refine singk86 P _ _ p q' r' W (hw.on q) (h.on q) (by omega) (fun p hp => (hs p hp).sm) c1 (fun W' s g hs' => ?_)
  rw [map_may hmay] at hs'
  have hc := taken_join (P.map (·.2)) Cv.tE Cv.tT s (er 0) q' r' W' (hw.on (q.trans g)) hs' (by simp; omega) (fcell c2 g) (fcell c3 g)
    (fun x hx => by obtain ⟨p, hp, rfl⟩ := List.mem_map.1 hx; exact tE_lo (hmay p hp))
    (fun x hx => by obtain ⟨p, hp, rfl⟩ := List.mem_map.1 hx; exact txt_c p.2 W' (hw.on (q.trans g)) (hs p hp) (hmay p hp))
    (fun h0 => absurd (htw.symm.trans h0) hne)
  rw [htw, if_neg hne] at hc
  exact hc
theorem iscall (e : Int) (h1 : 1 ≤ e) (h7 : e ≤ 7) (s : Value) (V : World) (hw : Std2 V) (h : Sl Cv.cells 5 V s [er e]) :
    Calls Tryz.prog 13 #[.string ⟨#[73, 83, 69, 82, 82, 79, 82]⟩, .slice (some ⟨V.heap.size, 0, none⟩) 1 1] (V.alloc (.cells #[.bool false, s] 32)) fun r V' => r = .returned (bo true).v ∧ Q V V' := by
  have hA : Args (V.alloc (.cells #[.bool false, s] 32)) (.slice (some ⟨V.heap.size, 0, none⟩) 1 1) (sg [(s, er e)]) := by
    refine ⟨sl_lit Ag.len V (sg [(s, er e)]) 1 rfl (by omega) 32, fun a ha => ?_⟩
    simp only [sg, List.map_cons, List.map_nil, List.mem_cons, List.not_mem_nil, or_false] at ha
    subst ha
    exact h.on ((Q.refl _).alloc _)
  refine (call_iserror (some ⟨V.heap.size, 0, none⟩) 1 1 (bo true) _ (by omega) (by omega) (fun W f p hf q hv => ?_)).mono fun r W' h => ⟨h.1, ((Q.refl _).alloc _).trans h.2⟩
  refine sing82 [(s, er e)] _ _ p W (hw.on (((Q.refl _).alloc _).trans q)) (hA.on q) (by simp) (fun p hp => ?_) (bsin hf hv) (fun W' s g hs => ?_)
  · simp only [List.mem_cons, List.not_mem_nil, or_false] at hp
    subst hp
    exact nil_sm
  · simp only [List.map_cons, List.map_nil, ctd_may (er_may e h1 h7)] at hs
    exact iserr_any (er e) s W' hs
theorem Sl.take1 {W : World} {ao : Option Addr} {n cap : Nat} {X : List Cv} (h : Sl Cv.cells 5 W (.slice ao n cap) X) (hl : 1 < X.length) : Sl Cv.cells 5 W (.slice ao 1 cap) (X.take 1) := by
  obtain ⟨ao', cap', hv, h1, h2, h3⟩ := h
  simp only [Value.slice.injEq] at hv
  obtain ⟨rfl, rfl, rfl⟩ := hv
  obtain ⟨b, off, rfl, hc⟩ := h3 (by omega)
  refine ⟨_, cap, by rw [List.length_take, Nat.min_eq_left (by omega)], by simp; omega, h2, fun _ => ⟨b, off, rfl, fun i hi => ?_⟩⟩
  have hi' : i < 1 := by simp at hi; omega
  have := hc i (by omega)
  simpa using this
/-- arguments of one value each, in blocks of their own -/
structure Ao (B : Nat) (W : World) (s : Value) (P : List (Value × Cv)) : Prop where
  own : Own Ag.cells 32 2 B W s (sg P)
  ob : ∀ p ∈ P, Ob W p.1 p.2
theorem Ao.on {B : Nat} {W W' : World} {s : Value} {P : List (Value × Cv)} (h : Ao B W s P) (q : Q W W') : Ao B W' s P := ⟨h.own.on q, fun p hp => (h.ob p hp).on q⟩
theorem Ao.args {B : Nat} {W : World} {s : Value} {P : List (Value × Cv)} (h : Ao B W s P) : Args W s (sg P) := ⟨h.own.sl Ag.len (by omega), fun a ha => by
  simp only [sg, List.mem_map] at ha
  obtain ⟨p, hp, rfl⟩ := ha
  exact (h.ob p hp).sl⟩
theorem sg_app (P : List (Value × Cv)) (p : Value × Cv) : sg (P ++ [p]) = sg P ++ [⟨false, p.1, [p.2]⟩] := by simp [sg]
theorem sg_length (P : List (Value × Cv)) : (sg P).length = P.length := by simp [sg]
theorem Ao.snoc {B : Nat} {W W' : World} {s s' : Value} {P : List (Value × Cv)} {u : Value} {x : Cv} (h : Ao B W s P) (hu : Ob W u x) (ho : W'.ownsRow B 32 2 s' ((sg P).length + 1) (flat Ag.cells (sg P) ++ [.bool false, u])) (g : W.grownBy W' s.ownBlock) : Ao B W' s' (P ++ [(u, x)]) := by
  constructor
  · rw [sg_app]
    exact own_snoc (x := (⟨false, u, [x]⟩ : Ag)) ho
  · intro p hp
    rcases List.mem_append.1 hp with hp | hp
    · exact (h.ob p hp).grown h.own g
    · simp at hp
      subst hp
      exact hu.grown h.own g
theorem infoA : (Tryz.prog.info? 32).map (fun i => (i.zero, i.size, i.bytes)) = some (some (.agg #[.bool false, .slice none 0 0]), 2, 32) := by kernel_rfl
set_option maxRecDepth 100000 in
set_option maxHeartbeats 8000000 in
theorem err_walk_3c (k : Int) (X0 : List Cv) (n : Nat) (hn : (X0.length ≤ 5 ∧ n = X0.length) ∨ (5 < X0.length ∧ n = 5)) (hX1 : 1 < ((X0.take n).map Cv.cut).length) (v : Value) (w : World) (hw : Std2 w) (h : Sl Cv.cells 5 w v X0) (hF : ∀ x ∈ X0, Fx x.n) : Calls Tryz.prog 8 #[v, .int .i64 3] w fun r w' => r = .returned (.bool true) ∧ Q w w' := by
  have HBg := hid (fun W (q : Q w W) => bbegun_any W (hw.on q))
  have HCA := hid (fun W (q : Q w W) => cutAll_any 5 n X0 v W (h.on q) (by omega) hn)
  have HW := hid hw
  obtain ⟨X, hX⟩ : ∃ X, (X0.take n).map Cv.cut = X := ⟨_, rfl⟩
  rw [hX] at HCA hX1
  have hXl : X.length ≤ 5 := by rw [← hX]; simp; omega
  have HXs : Hid (∀ x ∈ X, x.sl) := by
    intro x hx
    rw [← hX] at hx
    obtain ⟨y, hy, rfl⟩ := List.mem_map.1 hx
    exact cut_sl y (hF y (List.mem_of_mem_take hy))
  obtain ⟨ao0, cap0, rfl, _, _⟩ := h.len
  obtain ⟨lx, hlx⟩ : ∃ lx, X.length = lx := ⟨_, rfl⟩
  have HLX := hid hlx
  rw [hlx] at hXl hX1
  obtain ⟨i0, hi, hz0, hz1, hz2⟩ := inf_of infoA
  clear hX h hw hn hlx hF
  generalize X0.length = len0 at *
  go_enter Tryz.func8, Tryz.ntmps8
  go_wp2_with (first
    | (go_at_call 9; refine (HBg.out _ (Q.refl w)).mono ?_; rintro e w1 ⟨rfl, q1⟩; have Q1 := hid q1; clear q1)
    | (go_at_call 11; refine (HCA.out _ (Q1.out.alloc _)).mono ?_; rintro e w2 ⟨s0, rfl, own0, q2⟩; have Q2 := hid ((Q1.out.alloc _).trans q2); have N2 : Hid (∀ W, Q w2 W → W.heap[w1.heap.size]? = some (.cells #[.string ⟨#[65, 78, 68]⟩, .string ⟨#[79, 82]⟩, .string ⟨#[67, 79, 78, 67, 65, 84]⟩, .string ⟨#[78, 79, 84]⟩, .string ⟨#[65, 66, 83]⟩, .string ⟨#[76, 69, 78]⟩] 9 (0, 0))) := hid (fun W g => by rw [Q.block (q2.trans g) (by simp)]; exact hp_new _ _ _ rfl); have S0 := hid (own0.sl Cv.len (by omega)); clear own0 q2; obtain ⟨ao1, cap1, hs0, hcap1, hcap2⟩ := S0.out.len; rw [HLX.out] at hs0 hcap1; subst hs0; have hc1 : (1 : Int) ≤ (cap1 : Int) := (by omega); have hl1 : (1 : Int) < (lx : Int) := (by omega)))
  have SY : Hid (Sl Cv.cells 5 w2 (.slice ao1 1 cap1) (X.take 1)) := hid (S0.out.take1 (by have := HLX.out; omega))
  have HYl : Hid ((X.take 1).length = 1) := hid (by have := HLX.out; simp; omega)
  have HYs : Hid (∀ x ∈ X.take 1, x.sl) := hid (fun x hx => HXs.out x (List.mem_of_mem_take hx))
  obtain ⟨Y, hY⟩ : ∃ Y, X.take 1 = Y := ⟨_, rfl⟩
  rw [hY] at SY HYl HYs
  clear hY S0 HXs HLX HCA HBg
  clear hl1 hc1
  go_loopw [4, 7, 8] (fun r s i W => ∃ (j : Nat) (P : List (Value × Cv)), j ≤ 1 ∧ i = .int .i64 j ∧ r = .bool false ∧ Ao w2.heap.size W s P ∧ P.map (·.2) = Y.take j ∧ (∀ p ∈ P, p.2.may = true ∧ p.2.k ≠ 2) ∧ Q w2 W) (fun _ _ i _ => 1 - (intOf i).toNat)
  case atStart => exact ⟨0, [], Nat.zero_le _, rfl, rfl, ⟨own_nil _, by simp⟩, by simp, by simp, Q.refl _⟩
  case round =>
    obtain ⟨j, P, hj, rfl, rfl, hao, hPY, hPm, hq⟩ := hrel
    by_cases hlt : j < 1
    · have hjp : j < Y.length := by have := HYl.out; omega
      have hjl : (j : Int) < (1 : Int) := by omega
      obtain ⟨b, off, cap', hv, _, _, hat⟩ := SY.out.at hjp
      simp only [Value.slice.injEq] at hv
      obtain ⟨rfl, hyx, rfl⟩ := hv
      clear hyx
      have a5 := (at5_of hat).on hq
      have hsm := (HYs.out _ (List.getElem_mem hjp)).sm
      have hst : Hid (Y.take (j + 1) = Y.take j ++ [Y[j]]) := by show _ = _; rw [List.take_succ_eq_append_getElem hjp]
      have hPl : (sg P).length = j := by rw [sg_length]; have := congrArg List.length hPY; simp at this; omega
      clear hat
      generalize Y[j] = x at *
      have HM := hid (fun W => rmayv_any x W hsm)
      have HO := hid (fun W => arg1_ob x W)
      have HA5 := hid (fun W (q : Q wr W) => a5.on q)
      have HAO := hid hao
      have HQ := hid hq
      have HPP := hid (And.intro hPY hPm)
      have HPl := hid hPl
      clear hao hq hPY hPm hPl
      cases hA : x.may
      · rw [hA] at HM
        obtain ⟨xk, xn, xt, xb, xe⟩ := x
        obtain ⟨c0, c1, c2, c3, c4⟩ := a5
        simp only [Cv.v, vv] at HM c0 c1 c2 c3 c4
        clear hA hsm HO HA5
        go_wp2_with (go_at_call 23; refine (HM.out _).mono ?_; rintro r w3 ⟨rfl, q3⟩; have Q3 := hid (HQ.out.trans q3); clear q3)
        go_ret
        exact ⟨rfl, Q2.out.trans Q3.out⟩
      · rw [hA] at HM
        have hA' := hid hA
        clear hA
        by_cases hk2 : x.k = 2
        · obtain ⟨xk, xn, xt, xb, xe⟩ := x
          simp only at hk2
          subst hk2
          obtain ⟨c0, c1, c2, c3, c4⟩ := a5
          simp only [Cv.v, vv] at HM c0 c1 c2 c3 c4
          clear hsm HO
          go_wp2_with (go_at_call 23; refine (HM.out _).mono ?_; rintro r w3 ⟨rfl, q3⟩; have Q3 := hid (HQ.out.trans q3); obtain ⟨e0, e1, e2, e3, e4⟩ := HA5.out _ q3; simp only at e0 e1 e2 e3 e4; clear q3)
          go_ret
          exact ⟨rfl, Q2.out.trans Q3.out⟩
        · obtain ⟨xk, xn, xt, xb, xe⟩ := x
          simp only at hk2
          have hk2b : (xk == 2) = false := beq_eq_false_iff_ne.2 hk2
          obtain ⟨c0, c1, c2, c3, c4⟩ := a5
          simp only [Cv.v, vv] at HM HO c0 c1 c2 c3 c4
          clear hsm
          go_wp2_with (first
            | (go_at_call 23; refine (HM.out _).mono ?_; rintro r w3 ⟨rfl, q3⟩; have Q3 := hid q3; obtain ⟨e0, e1, e2, e3, e4⟩ := HA5.out _ q3; simp only at e0 e1 e2 e3 e4; clear q3)
            | (go_at_call 24; refine (HO.out _).mono ?_; rintro r w4 ⟨u, rfl, ob, q4⟩; have Q4 := hid (Q3.out.trans q4); have OB := hid ob; obtain ⟨g, hu, _⟩ := ob; subst hu; clear q4)
            | (at_builtin; refine wpList_append_own _ rfl _ _ 25 rfl w2.heap.size 32 i0 (.agg #[.bool false, .slice none 0 0]) 2 32 Tryz.underlying25 hi hz0 hz1 hz2 rfl (by decide) _ _ _ rfl (World.ownsRow.alloc ((HAO.out.on Q4.out).own) _) ⟨w4.heap.size, 0, none⟩ 1 1 [.bool false, .slice (some ⟨g, 0, none⟩) 1 1] rfl rfl ?c1 ?c2 ?c3 ?c4 ?c5 ?_))
          case c1 => exact news_new w4 [.bool false, .slice (some ⟨g, 0, none⟩) 1 1] 32
          case c2 =>
            intro u hu
            simp at hu
            rcases hu with rfl | rfl <;> rfl
          case c3 => have := HPl.out; unfold maxLen; omega
          case c4 => have := HPl.out; omega
          case c5 => have := (HQ.out.trans Q4.out).size; simp; omega
          · intro v' w5 hown' hgrow _
            have HO2 : Hid (Ao w2.heap.size w5 v' (P ++ [(.slice (some ⟨g, 0, none⟩) 1 1, ⟨xk, xn, xt, xb, xe⟩)])) := hid (Ao.snoc ((HAO.out.on Q4.out).on ((Q.refl _).alloc _)) (OB.out.on ((Q.refl _).alloc _)) hown' hgrow)
            have HQ2 : Hid (Q w2 w5) := Below.grown ((HQ.out.trans Q4.out).alloc _) hgrow (by have := (HQ.out.trans Q4.out).size; simp; omega) (Own.blk HAO.out.own)
            have HP2 : Hid ((P ++ [(Value.slice (some ⟨g, 0, none⟩) 1 1, (⟨xk, xn, xt, xb, xe⟩ : Cv))]).map (·.2) = Y.take (j + 1) ∧ ∀ p ∈ P ++ [(Value.slice (some ⟨g, 0, none⟩) 1 1, (⟨xk, xn, xt, xb, xe⟩ : Cv))], p.2.may = true ∧ p.2.k ≠ 2) := by
              refine ⟨?_, fun p hp => ?_⟩
              · rw [hst.out, List.map_append, HPP.out.1]; rfl
              · rcases List.mem_append.1 hp with hp | hp
                · exact HPP.out.2 p hp
                · simp at hp; subst hp; exact ⟨hA'.out, hk2⟩
            clear hown' hgrow
            go_wp2
            go_roundw
            case rel => exact ⟨j + 1, _, by omega, by go_num, rfl, HO2.out, HP2.out.1, HP2.out.2, HQ2.out⟩
            case measure => simp [intOf]; omega
    · have hjn : j = 1 := by omega
      subst hjn
      have hPY' : P.map (·.2) = Y := by rw [hPY, List.take_of_length_le (by have := HYl.out; omega)]
      have HR := hid (fun W (q : Q w2 W) => rworst_sl Y _ W (SY.out.on q) (by have := HYl.out; omega) (fun x hx => (HYs.out x hx).sm))
      obtain ⟨e, he⟩ : ∃ e, worst Y = e := ⟨_, rfl⟩
      have hlo := worst_lo Y
      rw [he] at HR hlo
      have HAO := hid hao
      have HQ := hid hq
      have hjl : ¬ (1 : Int) < (1 : Int) := by omega
      by_cases hz : e = 0
      · subst hz
        clear hao hq hPY hPm
        go_wp2_with (go_at_call 22; refine (HR.out _ HQ.out).mono ?_; rintro r w5 ⟨rfl, q5⟩; have Q5' := hid (HQ.out.trans q5); clear q5)
        go_ret
        exact ⟨rfl, Q2.out.trans Q5'.out⟩
      · have hzb : (e == 0) = false := beq_eq_false_iff_ne.2 hz
        have hPlen : P.length = 1 := by have := congrArg List.length hPY'; simp at this; have := HYl.out; omega
        have hpos : 0 < 1 := by
          rcases Nat.eq_zero_or_pos 1 with h0 | h0
          · exfalso
            have h1 : Y = [] := List.eq_nil_of_length_eq_zero (by have := HYl.out; omega)
            subst h1
            exact hz he.symm
          · exact h0
        obtain ⟨g7, c7, hu7, _, _, _, _⟩ := Own.shape hao.own (by rw [sg_length]; omega)
        rw [sg_length, hPlen] at hu7
        subst hu7
        have HC1 : Hid (∀ W, Q wr W → Calls Tryz.prog 13 #[.string ⟨#[78, 79, 84]⟩, .slice (some ⟨g7, 0, none⟩) 1 c7] W fun r W' => r = .returned (er e).v ∧ Q W W') := hid (fun W q => by
          have h := scall_not P (some ⟨g7, 0, none⟩) 1 c7 W (HW.out.on (Q2.out.trans (HQ.out.trans q))) (HAO.out.on q).args hPlen (by omega) (by omega) (by omega) (fun p hp => HYs.out _ (by rw [← hPY']; exact List.mem_map.2 ⟨p, hp, rfl⟩)) hPm (by rw [hPY', he]; exact hz)
          rw [hPY', he] at h
          exact h)
        have HC2 := hid (fun (s : Value) (V : World) (q : Q w V) (hs : Sl Cv.cells 5 V s [er e]) => iscall e (by omega) (by omega) s V (HW.out.on q) hs)
        have HER := hid (fun W => err_any e W)
        have HO := hid (fun W => arg1_ob (er e) W)
        have T0 : Hid True := trivial
        clear hao hq hPY hPm hPY' HAO he
        simp only [Cv.v, vv, er, bo] at HC1 HC2 HER HO
        go_wp2_with (first
          | (go_at_call 22; refine (HR.out _ HQ.out).mono ?_; rintro r w5 ⟨rfl, q5⟩; have Q5' := hid (HQ.out.trans q5); have R5 := hid q5; have cN := Lib.cell_of_heap (N2.out _ (HQ.out.trans q5)) 3; simp at cN; clear q5)
          | (go_at_call 13; clear T0; refine (HC1.out _ R5.out).mono ?_; rintro r w6 ⟨rfl, q6⟩; have Q6 := hid (Q2.out.trans (Q5'.out.trans q6)); have X6 := hid (bx_new w6 (.int .i64 4) (.int .i64 0) (.string ⟨#[]⟩) (.bool false) (.int .i64 e)); clear q6)
          | (go_at_call 26; refine (HER.out _).mono ?_; rintro r w7 ⟨rfl, q7⟩; have Q7 := hid ((Q6.out.alloc _).trans q7); have X7 := hid (X6.out.on q7); clear q7)
          | (go_at_call 24; refine (HO.out _).mono ?_; rintro r w8 ⟨u, rfl, ob, q8⟩; have Q8 := hid (Q7.out.trans q8); have X8 := hid (X7.out.on q8); have OB := hid ob; obtain ⟨g8, hu8, _⟩ := ob; subst hu8; clear q8)
          | (go_at_call 13; refine (HC2.out _ _ Q8.out OB.out.sl).mono ?_; rintro r w9 ⟨rfl, q9⟩; have Q9 := hid (Q8.out.trans q9); obtain ⟨x0, x1, x2, x3, x4, _, _, _, _, _, xl⟩ := X8.out.on q9; clear q9))
        go_ret
        exact ⟨rfl, by first | exact Q9.out.alloc _ | exact Q9.out⟩
def mnS (a x : Int) : Int := if x < a then x else a
def mxS (a x : Int) : Int := if a < x then x else a
def mnL (l : List Int) : Int := l.tail.foldl mnS (l.getD 0 0)
def mxL (l : List Int) : Int := l.tail.foldl mxS (l.getD 0 0)
theorem take1_tail (l : List Int) : (l.take 1).tail = [] := by
  cases l with
  | nil => rfl
  | cons a l => rfl
theorem tail_take (l : List Int) (k : Nat) (h0 : 0 < k) (hk : k < l.length) : (l.take (k + 1)).tail = (l.take k).tail ++ [l[k]] := by
  rw [List.take_succ_eq_append_getElem hk, List.tail_append_of_ne_nil (by intro h; have h2 : (l.take k).length = 0 := (by rw [h]; rfl); rw [List.length_take] at h2; omega)]
set_option maxHeartbeats 2000000 in
theorem smin_sl (l : List Int) (v : Value) (w : World) (h : Sl encN 1 w v l) (hm : l.length ≤ 1000000) (h0 : 0 < l.length) :
    Calls Tryz.prog 107 #[v] w fun e w' => e = .returned (.int .i64 (mnL l)) ∧ w' = w := by
  obtain ⟨ao, cap, rfl, h1, h2, h3⟩ := h
  obtain ⟨b, off, rfl, hc⟩ := h3 h0
  have HC : Hid (∀ i (hi : i < l.length), w.cell? ⟨b, off + i, none⟩ = some (.int .i64 l[i])) := hid (fun i hi => by have := hc i hi 0 _ rfl; simpa using this)
  have c0 : w.cell? ⟨b, off, none⟩ = some (.int .i64 l[0]) := by have := HC.out 0 h0; simpa using this
  obtain ⟨n, hn⟩ : ∃ n, l.length = n := ⟨_, rfl⟩
  have HN := hid hn
  have hz : Hid (mnL l = l.tail.foldl mnS l[0]) := hid (by unfold mnL; rw [List.getD_eq_getElem?_getD, List.getElem?_eq_getElem h0]; rfl)
  obtain ⟨T, hT⟩ : ∃ T, mnL l = T := ⟨_, rfl⟩
  have HT := hid (hz.out.symm.trans hT)
  rw [hT, hn]
  rw [hn] at h1 hm
  have hn1 : ¬ (n : Int) < 1 := by omega
  clear hc h3 hT hz
  generalize hl0 : l[0] = z0 at c0 HT
  have hst : Hid (z0 = ((l.take 1).tail).foldl mnS z0) := hid (by rw [take1_tail]; rfl)
  clear hl0 hn
  have hnpos : 0 < n := by have := HN.out; omega
  clear h0
  go_enter Tryz.func107, Tryz.ntmps107
  go_wp2
  go_loop [3, 4] (fun a i => ∃ (k : Nat) (z : Int), 1 ≤ k ∧ k ≤ n ∧ i = .int .i64 k ∧ a = .int .i64 z ∧ Hid (z = ((l.take k).tail).foldl mnS z0)) (fun _ i => n - (intOf i).toNat)
  case atStart => exact ⟨1, z0, by omega, by omega, rfl, rfl, hst⟩
  case round =>
    obtain ⟨k, z, hk1, hk, rfl, rfl, hzz⟩ := hrel
    by_cases hlt : k < n
    · have hkp : k < l.length := by have := HN.out; omega
      have cc := HC.out k hkp
      have hS : Hid (((l.take (k + 1)).tail).foldl mnS z0 = mnS z l[k]) := hid (by rw [tail_take l k (by omega) hkp, List.foldl_append, ← hzz.out]; rfl)
      generalize l[k] = x at cc hS
      have hkl : (k : Int) < (n : Int) := by omega
      by_cases hx : x < z
      · have HZ : Hid (x = ((l.take (k + 1)).tail).foldl mnS z0) := hid (by rw [hS.out]; unfold mnS; rw [if_pos hx])
        have hmin : min z x = x := by omega
        clear hS
        go_wp2
        go_round
        case rel => exact ⟨k + 1, x, by omega, by omega, by go_num, rfl, HZ⟩
        case measure => simp [intOf]; omega
      · have HZ : Hid (z = ((l.take (k + 1)).tail).foldl mnS z0) := hid (by rw [hS.out]; unfold mnS; rw [if_neg hx])
        have hmin : min z x = z := by omega
        clear hS
        go_wp2
        go_round
        case rel => exact ⟨k + 1, z, by omega, by omega, by go_num, rfl, HZ⟩
        case measure => simp [intOf]; omega
    · have hkn : k = n := by omega
      subst hkn
      have HE : Hid (z = T) := hid (by rw [hzz.out, List.take_of_length_le (by have := HN.out; omega)]; exact HT.out)
      have hkl : ¬ (k : Int) < (k : Int) := by omega
      go_wp2
      go_ret
      exact ⟨ret_int HE.out, rfl⟩
set_option maxHeartbeats 2000000 in
theorem smax_sl (l : List Int) (v : Value) (w : World) (h : Sl encN 1 w v l) (hm : l.length ≤ 1000000) (h0 : 0 < l.length) :
    Calls Tryz.prog 108 #[v] w fun e w' => e = .returned (.int .i64 (mxL l)) ∧ w' = w := by
  obtain ⟨ao, cap, rfl, h1, h2, h3⟩ := h
  obtain ⟨b, off, rfl, hc⟩ := h3 h0
  have HC : Hid (∀ i (hi : i < l.length), w.cell? ⟨b, off + i, none⟩ = some (.int .i64 l[i])) := hid (fun i hi => by have := hc i hi 0 _ rfl; simpa using this)
  have c0 : w.cell? ⟨b, off, none⟩ = some (.int .i64 l[0]) := by have := HC.out 0 h0; simpa using this
  obtain ⟨n, hn⟩ : ∃ n, l.length = n := ⟨_, rfl⟩
  have HN := hid hn
  have hz : Hid (mxL l = l.tail.foldl mxS l[0]) := hid (by unfold mxL; rw [List.getD_eq_getElem?_getD, List.getElem?_eq_getElem h0]; rfl)
  obtain ⟨T, hT⟩ : ∃ T, mxL l = T := ⟨_, rfl⟩
  have HT := hid (hz.out.symm.trans hT)
  rw [hT, hn]
  rw [hn] at h1 hm
  have hn1 : ¬ (n : Int) < 1 := by omega
  clear hc h3 hT hz
  generalize hl0 : l[0] = z0 at c0 HT
  have hst : Hid (z0 = ((l.take 1).tail).foldl mxS z0) := hid (by rw [take1_tail]; rfl)
  clear hl0 hn
  have hnpos : 0 < n := by have := HN.out; omega
  clear h0
  go_enter Tryz.func108, Tryz.ntmps108
  go_wp2
  go_loop [3, 4] (fun a i => ∃ (k : Nat) (z : Int), 1 ≤ k ∧ k ≤ n ∧ i = .int .i64 k ∧ a = .int .i64 z ∧ Hid (z = ((l.take k).tail).foldl mxS z0)) (fun _ i => n - (intOf i).toNat)
  case atStart => exact ⟨1, z0, by omega, by omega, rfl, rfl, hst⟩
  case round =>
    obtain ⟨k, z, hk1, hk, rfl, rfl, hzz⟩ := hrel
    by_cases hlt : k < n
    · have hkp : k < l.length := by have := HN.out; omega
      have cc := HC.out k hkp
      have hS : Hid (((l.take (k + 1)).tail).foldl mxS z0 = mxS z l[k]) := hid (by rw [tail_take l k (by omega) hkp, List.foldl_append, ← hzz.out]; rfl)
      generalize l[k] = x at cc hS
      have hkl : (k : Int) < (n : Int) := by omega
      by_cases hx : z < x
      · have HZ : Hid (x = ((l.take (k + 1)).tail).foldl mxS z0) := hid (by rw [hS.out]; unfold mxS; rw [if_pos hx])
        have hmin : max z x = x := by omega
        clear hS
        go_wp2
        go_round
        case rel => exact ⟨k + 1, x, by omega, by omega, by go_num, rfl, HZ⟩
        case measure => simp [intOf]; omega
      · have HZ : Hid (z = ((l.take (k + 1)).tail).foldl mxS z0) := hid (by rw [hS.out]; unfold mxS; rw [if_neg hx])
        have hmin : max z x = z := by omega
        clear hS
        go_wp2
        go_round
        case rel => exact ⟨k + 1, z, by omega, by omega, by go_num, rfl, HZ⟩
        case measure => simp [intOf]; omega
    · have hkn : k = n := by omega
      subst hkn
      have HE : Hid (z = T) := hid (by rw [hzz.out, List.take_of_length_le (by have := HN.out; omega)]; exact HT.out)
      have hkl : ¬ (k : Int) < (k : Int) := by omega
      go_wp2
      go_ret
      exact ⟨ret_int HE.out, rfl⟩
/-- least, greatest of numbers -/
def leV (l : List Int) : Cv := nu (if l.length = 0 then 0 else mnL l)
def grV (l : List Int) : Cv := nu (if l.length = 0 then 0 else mxL l)
set_option maxHeartbeats 1000000 in
theorem bmin_any (l : List Int) (v : Value) (w : World) (h : Sl encN 1 w v l) (hm : l.length ≤ 1000000) : Calls Tryz.prog 59 #[v] w fun r w' => r = .returned (leV l).v ∧ Q w w' := by
  have HB := hid (bxz w)
  have HS := hid (fun (h0 : 0 < l.length) W (q : Q w W) => smin_sl l v W (h.on q) hm h0)
  obtain ⟨ao, cap, rfl, _, _⟩ := h.len
  unfold leV
  rcases Nat.eq_zero_or_pos l.length with h0 | h0
  · rw [if_pos h0]
    have HN := hid (fun W => number_any 0 W)
    have e : ((l.length : Nat) : Int) = 0 := by omega
    rw [h0]
    clear h HS hm h0 e
    simp only [Cv.v, vv, nu] at *
    go_enter Tryz.func59, Tryz.ntmps59
    go_wp2_with (go_at_call 55; refine (HN.out _).mono ?_; rintro x w2 ⟨rfl, q1⟩; have B2 := HB.out.on q1; have Q2 : Hid (Q w w2) := hid (((Q.refl _).alloc _).trans q1); clear q1; obtain ⟨d0, d1, d2, d3, d4, y0, y1, y2, y3, y4, _⟩ := B2)
    exact bodyPost_ret (v := .agg #[.int .i64 1, .int .i64 0, .string ⟨#[]⟩, .bool false, .int .i64 0]) (by simp [results, Tryz.results59, go_sem, d0, d1, d2, d3, d4]) rfl ⟨rfl, Q5 Q2.out (Nat.le_refl _)⟩
  · rw [if_neg (by omega)]
    have HS' := hid (HS.out h0)
    have HN := hid (fun W => number_any (mnL l) W)
    generalize mnL l = m at *
    generalize l.length = n at *
    have hn0 : ((n : Int) == 0) = false := by simp; omega
    clear h HS hm
    simp only [Cv.v, vv, nu] at *
    go_enter Tryz.func59, Tryz.ntmps59
    go_wp2_with (first
      | (go_at_call 107; refine (HS'.out _ ((Q.refl _).alloc _)).mono ?_; rintro x w1 ⟨rfl, h3⟩; replace h3 := h3.symm; subst h3)
      | (go_at_call 55; refine (HN.out _).mono ?_; rintro x w2 ⟨rfl, q1⟩; have B2 := HB.out.on q1; have Q2 : Hid (Q w w2) := hid (((Q.refl _).alloc _).trans q1); clear q1; obtain ⟨d0, d1, d2, d3, d4, y0, y1, y2, y3, y4, _⟩ := B2))
    exact bodyPost_ret (v := .agg #[.int .i64 1, .int .i64 m, .string ⟨#[]⟩, .bool false, .int .i64 0]) (by simp [results, Tryz.results59, go_sem, d0, d1, d2, d3, d4]) rfl ⟨rfl, Q5 Q2.out (Nat.le_refl _)⟩
set_option maxHeartbeats 1000000 in
theorem bmax_any (l : List Int) (v : Value) (w : World) (h : Sl encN 1 w v l) (hm : l.length ≤ 1000000) : Calls Tryz.prog 60 #[v] w fun r w' => r = .returned (grV l).v ∧ Q w w' := by
  have HB := hid (bxz w)
  have HS := hid (fun (h0 : 0 < l.length) W (q : Q w W) => smax_sl l v W (h.on q) hm h0)
  obtain ⟨ao, cap, rfl, _, _⟩ := h.len
  unfold grV
  rcases Nat.eq_zero_or_pos l.length with h0 | h0
  · rw [if_pos h0]
    have HN := hid (fun W => number_any 0 W)
    have e : ((l.length : Nat) : Int) = 0 := by omega
    rw [h0]
    clear h HS hm h0 e
    simp only [Cv.v, vv, nu] at *
    go_enter Tryz.func60, Tryz.ntmps60
    go_wp2_with (go_at_call 55; refine (HN.out _).mono ?_; rintro x w2 ⟨rfl, q1⟩; have B2 := HB.out.on q1; have Q2 : Hid (Q w w2) := hid (((Q.refl _).alloc _).trans q1); clear q1; obtain ⟨d0, d1, d2, d3, d4, y0, y1, y2, y3, y4, _⟩ := B2)
    exact bodyPost_ret (v := .agg #[.int .i64 1, .int .i64 0, .string ⟨#[]⟩, .bool false, .int .i64 0]) (by simp [results, Tryz.results60, go_sem, d0, d1, d2, d3, d4]) rfl ⟨rfl, Q5 Q2.out (Nat.le_refl _)⟩
  · rw [if_neg (by omega)]
    have HS' := hid (HS.out h0)
    have HN := hid (fun W => number_any (mxL l) W)
    generalize mxL l = m at *
    generalize l.length = n at *
    have hn0 : ((n : Int) == 0) = false := by simp; omega
    clear h HS hm
    simp only [Cv.v, vv, nu] at *
    go_enter Tryz.func60, Tryz.ntmps60
    go_wp2_with (first
      | (go_at_call 108; refine (HS'.out _ ((Q.refl _).alloc _)).mono ?_; rintro x w1 ⟨rfl, h3⟩; replace h3 := h3.symm; subst h3)
      | (go_at_call 55; refine (HN.out _).mono ?_; rintro x w2 ⟨rfl, q1⟩; have B2 := HB.out.on q1; have Q2 : Hid (Q w w2) := hid (((Q.refl _).alloc _).trans q1); clear q1; obtain ⟨d0, d1, d2, d3, d4, y0, y1, y2, y3, y4, _⟩ := B2))
    exact bodyPost_ret (v := .agg #[.int .i64 1, .int .i64 m, .string ⟨#[]⟩, .bool false, .int .i64 0]) (by simp [results, Tryz.results60, go_sem, d0, d1, d2, d3, d4]) rfl ⟨rfl, Q5 Q2.out (Nat.le_refl _)⟩
set_option maxHeartbeats 1000000 in
theorem whole_any (n : Int) (w : World) (hn : Fx n) : Calls Tryz.prog 109 #[.int .i64 n] w fun r w' => r = .returned (resV (n * 10000)).v ∧ Q w w' := by
  have HB := hid (bxz w)
  have HI := hid (fun W => int_any n W hn)
  have HR := hid (fun W => result_any (keep (n * 10000)) (fitB (n * 10000)) W)
  unfold resV
  generalize (if fitB (n * 10000) = true then nu (keep (n * 10000)) else er 4) = y at *
  generalize keep (n * 10000) = c1 at *
  generalize fitB (n * 10000) = c2 at *
  obtain ⟨yk, yn, yt, yb, ye⟩ := y
  clear hn
  simp only [Cv.v, vv] at *
  go_enter Tryz.func109, Tryz.ntmps109
  go_wp2_with (first
    | (go_at_call 138; refine (HI.out _).mono ?_; rintro x w1 ⟨rfl, h3⟩; replace h3 := h3.symm; subst h3)
    | (go_at_call 81; refine (HR.out _).mono ?_; rintro x w2 ⟨rfl, q1⟩; have B2 := HB.out.on q1; have Q2 : Hid (Q w w2) := hid (((Q.refl _).alloc _).trans q1); clear q1; obtain ⟨d0, d1, d2, d3, d4, y0, y1, y2, y3, y4, _⟩ := B2))
  exact bodyPost_ret (v := .agg #[.int .i64 yk, .int .i64 yn, .string yt, .bool yb, .int .i64 ye]) (by simp [results, Tryz.results109, go_sem, d0, d1, d2, d3, d4]) rfl ⟨rfl, Q5 Q2.out (Nat.le_refl _)⟩
/-- how many -/
def coV (l : List Int) : Cv := resV ((l.length : Int) * 10000)
set_option maxHeartbeats 1000000 in
theorem bcount_any (l : List Int) (v : Value) (w : World) (h : Sl encN 1 w v l) (hm : l.length ≤ 1000000) : Calls Tryz.prog 61 #[v] w fun r w' => r = .returned (coV l).v ∧ Q w w' := by
  have HB := hid (bxz w)
  have HW := hid (fun W => whole_any (l.length : Int) W ⟨by omega, by omega⟩)
  obtain ⟨ao, cap, rfl, _, _⟩ := h.len
  unfold coV
  generalize resV ((l.length : Int) * 10000) = y at *
  generalize l.length = n at *
  obtain ⟨yk, yn, yt, yb, ye⟩ := y
  clear h
  simp only [Cv.v, vv] at *
  go_enter Tryz.func61, Tryz.ntmps61
  go_wp2_with (go_at_call 109; refine (HW.out _).mono ?_; rintro x w2 ⟨rfl, q1⟩; have B2 := HB.out.on q1; have Q2 : Hid (Q w w2) := hid (((Q.refl _).alloc _).trans q1); clear q1; obtain ⟨d0, d1, d2, d3, d4, y0, y1, y2, y3, y4, _⟩ := B2)
  exact bodyPost_ret (v := .agg #[.int .i64 yk, .int .i64 yn, .string yt, .bool yb, .int .i64 ye]) (by simp [results, Tryz.results61, go_sem, d0, d1, d2, d3, d4]) rfl ⟨rfl, Q5 Q2.out (Nat.le_refl _)⟩
/-- the average -/
def avV (l : List Int) : Cv := if fitB l.sum = true then (if l.length = 0 then er 3 else resV (divV (keep l.sum) ((l.length : Int) * 10000))) else er 4
theorem keep_fx (r : Int) : Fx (keep r) := by
  unfold keep
  split
  · rename_i h; exact fit_of h
  · exact ⟨by omega, by omega⟩
theorem coV_nu (l : List Int) (hm : l.length ≤ 1000000) : coV l = nu ((l.length : Int) * 10000) := resV_yes ⟨by omega, by omega⟩
theorem avg_bin (l : List Int) (hm : l.length ≤ 1000000) (w : World) (hw : Std2 w) : Calls Tryz.prog 18 #[.string ⟨#[47]⟩, (sumV l).v, (coV l).v] w fun r w' => r = .returned (avV l).v ∧ Q w w' := by
  rw [coV_nu l hm]
  unfold sumV avV
  by_cases hf : fitB l.sum = true
  · rw [if_pos hf, if_pos hf]
    by_cases h0 : l.length = 0
    · rw [if_pos h0]
      refine bin_div (nu (keep l.sum)) (nu ((l.length : Int) * 10000)) (nu (keep l.sum)) (nu ((l.length : Int) * 10000)) (er 3) w hw nil_sm nil_sm (ctd_may (nu_may _)) (ctd_may (nu_may _)) rfl (fun W q => ?_)
      exact calc_div0 ⟨#[47]⟩ _ _ (keep l.sum) ((l.length : Int) * 10000) 0 0 W (fun V g => number_nu _ V (hw.on (q.trans g))) (fun V g => number_nu _ V (hw.on (q.trans g))) (by omega)
    · rw [if_neg h0]
      refine bin_div (nu (keep l.sum)) (nu ((l.length : Int) * 10000)) (nu (keep l.sum)) (nu ((l.length : Int) * 10000)) _ w hw nil_sm nil_sm (ctd_may (nu_may _)) (ctd_may (nu_may _)) rfl (fun W q => ?_)
      exact calc_div _ _ (keep l.sum) ((l.length : Int) * 10000) W (fun V g => number_nu _ V (hw.on (q.trans g))) (fun V g => number_nu _ V (hw.on (q.trans g))) (keep_fx _) ⟨by omega, by omega⟩ (beq_eq_false_iff_ne.2 (by omega))
  · rw [if_neg hf, if_neg hf]
    exact bin_err (er 4) (nu ((l.length : Int) * 10000)) (er 4) (nu ((l.length : Int) * 10000)) w hw nil_sm nil_sm (ctd_may (er_may 4 (by omega) (by omega))) (ctd_may (nu_may _)) ⟨#[47]⟩ 4 (by
      show wstep (wstep 0 (er 4)) (nu ((l.length : Int) * 10000)) = 4
      rw [wstep_mn 0 _ (by omega), zero_mn, show ev (er 4) = 4 from (by unfold ev; rw [if_pos ⟨rfl, er_may 4 (by omega) (by omega)⟩]; rfl), wstep_mn 4 _ (by omega), show ev (nu ((l.length : Int) * 10000)) = 0 from (by unfold ev; rw [if_neg (fun h => absurd (show (1 : Int) = 4 from h.1) (by decide))])]
      rfl) (by omega)
set_option maxHeartbeats 1000000 in
theorem baverage_any (l : List Int) (v : Value) (w : World) (hw : Std2 w) (h : Sl encN 1 w v l) (hm : l.length ≤ 1000000) (hf : ∀ x ∈ l, Fx x) : Calls Tryz.prog 62 #[v] w fun r w' => r = .returned (avV l).v ∧ Q w w' := by
  have HB := hid (bxz w)
  have HS := hid (fun W (q : Q w W) => bsum_any l v W (h.on q) hm hf)
  have HC := hid (fun W (q : Q w W) => bcount_any l v W (h.on q) hm)
  have HD := hid (fun W (q : Q w W) => avg_bin l hm W (hw.on q))
  obtain ⟨ao, cap, rfl, _, _⟩ := h.len
  generalize sumV l = a at *
  generalize coV l = b at *
  generalize avV l = y at *
  obtain ⟨ak, an, at', ab, ae⟩ := a
  obtain ⟨bk, bn, bt, bb, be⟩ := b
  obtain ⟨yk, yn, yt, yb, ye⟩ := y
  generalize l.length = n at *
  clear h hf hw
  simp only [Cv.v, vv] at *
  go_enter Tryz.func62, Tryz.ntmps62
  go_wp2_with (first
    | (go_at_call 58; refine (HS.out _ ((Q.refl _).alloc _)).mono ?_; rintro x w1 ⟨rfl, q1⟩; have B1 := HB.out.on q1; have Q1 : Hid (Q w w1) := hid (((Q.refl _).alloc _).trans q1); clear q1)
    | (go_at_call 61; refine (HC.out _ Q1.out).mono ?_; rintro x w2 ⟨rfl, q1⟩; have B2 := B1.on q1; have Q2 : Hid (Q w w2) := hid (Q1.out.trans q1); clear q1)
    | (go_at_call 18; refine (HD.out _ Q2.out).mono ?_; rintro x w3 ⟨rfl, q1⟩; have Q3 : Hid (Q w w3) := hid (Q2.out.trans q1); obtain ⟨d0, d1, d2, d3, d4, y0, y1, y2, y3, y4, _⟩ := B2.on q1; clear q1))
  exact bodyPost_ret (v := .agg #[.int .i64 yk, .int .i64 yn, .string yt, .bool yb, .int .i64 ye]) (by simp [results, Tryz.results62, go_sem, d0, d1, d2, d3, d4]) rfl ⟨rfl, Q5 Q3.out (Nat.le_refl _)⟩
end Go.Proofs.YtfjpdopmojfchaaGreatDoor
