/- What the statements of layer 12 begin with. -/
import Derived.Test.YtfjpdopmojfchaaGreatDoorBm
namespace Go.Proofs.YtfjpdopmojfchaaGreatDoor
open Go.RowKit
set_option linter.unusedVariables false
set_option linter.unusedSimpArgs false
set_option maxRecDepth 100000 in
set_option maxHeartbeats 4000000 in
theorem bbegun_any (w : World) (hw : Std2 w) : Calls Tryz.prog 9 #[] w fun e w' => e = .returned (.bool true) ∧ Q w w' := by
  have HN := hid (fun n W => num_any n W)
  have HT := hid (fun W => txt_any ⟨#[120]⟩ W)
  have HS := hid (fun W2 W3 q2 q3 => beg_sum w W2 W3 hw q2 q3)
  have HD := hid (fun W (q : Q w W) => beg_div W (hw.on q))
  have HG := hid (fun W (q : Q w W) => beg_neg W (hw.on q))
  have HK := hid (fun W => known_if W)
  have HL := hid (fun W => known_no W)
  have hfd : ∀ W, (Instr.field 37 (.agg #[.int .i64 1, .int .i64 (-3), .string ⟨#[]⟩, .bool false, .int .i64 0]) 1).run Tryz.prog W = .ok (.int .i64 (-3)) W := fun W => by kernel_rfl
  have S0 : Hid True := trivial
  have S1 : Hid True := trivial
  have S2 : Hid True := trivial
  have S3 : Hid True := trivial
  simp only [vv, Cv.v, nu, er] at *
  clear hw
  go_enter Tryz.func9, Tryz.ntmps9
  go_wp2_with (first
    | (go_at_call 27; clear S0; refine (HN.out _ _).mono ?_; rintro e w1 ⟨rfl, q1⟩)
    | (go_at_call 28; refine (HT.out _).mono ?_; rintro e w2 ⟨rfl, q2⟩; have Q2 := hid (q1.trans q2); clear q2 q1)
    | (go_at_call 27; clear S1; refine (HN.out _ _).mono ?_; rintro e w3 ⟨rfl, q3⟩; have Q3 := hid q3; clear q3)
    | (go_at_call 13; refine (HS.out w2 w3 Q2.out Q3.out).mono ?_; rintro e w4 ⟨rfl, q4⟩; have Q4 := hid (((Q2.out.alloc _).trans Q3.out).trans q4); have X4 := hid (bx_new w4 (.int .i64 1) (.int .i64 15000) (.string ⟨#[]⟩) (.bool false) (.int .i64 0)); clear q4)
    | (go_at_call 27; clear S2; refine (HN.out _ _).mono ?_; rintro e w5 ⟨rfl, q5⟩; have Q5' := hid ((Q4.out.alloc _).trans q5); have X5 := hid (X4.out.on q5); clear q5)
    | (go_at_call 27; clear S3; refine (HN.out _ _).mono ?_; rintro e w6 ⟨rfl, q6⟩; have Q6 := hid (Q5'.out.trans q6); have X6 := hid (X5.out.on q6); clear q6)
    | (go_at_call 18; refine (HD.out _ Q6.out).mono ?_; rintro e w7 ⟨rfl, q7⟩; have Q7 := hid (Q6.out.trans q7); obtain ⟨x0, x1, x2, x3, x4, _, _, _, _, _, xl⟩ := X6.out.on q7; clear q7)
    | (go_at_call 15; refine (HK.out _).mono ?_; rintro e w8 ⟨rfl, q8⟩; have Q8 := hid ((Q7.out.alloc _).trans q8); clear q8 HK)
    | (go_at_call 15; refine (HL.out _).mono ?_; rintro e w9 ⟨rfl, q9⟩; have Q9 := hid (Q8.out.trans q9); clear q9)
    | (go_at_call 27; refine (HN.out _ _).mono ?_; rintro e w10 ⟨rfl, q10⟩; have Q10 := hid (Q9.out.trans q10); clear q10)
    | (go_at_call 20; refine (HG.out _ Q10.out).mono ?_; rintro e w11 ⟨rfl, q11⟩; have Q11 := hid (Q10.out.trans q11); clear q11))
  go_ret
  exact ⟨rfl, Q11.out⟩
end Go.Proofs.YtfjpdopmojfchaaGreatDoor
