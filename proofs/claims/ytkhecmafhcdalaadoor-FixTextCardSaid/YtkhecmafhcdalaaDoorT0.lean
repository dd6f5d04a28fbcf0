/- The law FixText, walked. -/
import Derived.Test.YtkhecmafhcdalaaDoorN2
import Derived.Test.YtkhecmafhcdalaaDoorB
namespace Go.Proofs.YtkhecmafhcdalaaDoor
open Go.RowKit
set_option linter.unusedVariables false
set_option linter.unusedSimpArgs false

theorem print_len (a : Int) (ha : Fx a) : (printL a).length ≤ 30 := by
  have h0 := ha.lo
  have h1 := ha.hi
  have hm : (magL a.natAbs).length ≤ 29 := by
    unfold magL
    rw [List.length_append, Lib.decDigits_length]
    have l1 := nDigits_le (a.natAbs / 10000) (by omega)
    have l2 := part_le (a.natAbs % 10000) (by omega)
    omega
  unfold printL
  split
  · rw [List.length_cons]; omega
  · omega

set_option maxRecDepth 100000 in
set_option maxHeartbeats 4000000 in
theorem text_core (s T : ByteArray) (a n : Int) (w : World) (hw : Std w) (ha : Fx a) (hn : Fx n) (hT : (T.size : Int) ≤ 100) (hs : ((s.size : Int) ≤ 100 ∧ T = s) ∨ (100 < (s.size : Int) ∧ T = s.extract 0 100)) :
    Calls Tryd.prog 3 #[.string s, .int .i64 a, .int .i64 n] w fun e w' => e = .returned (.bool true) ∧ Q w w' := by
  have HB := hid (begun_any w hw)
  have HP := hid (fun W (q : Q w W) => parse_any T W (hw.on q) (by omega))
  have HR := hid (fun W => rparse_any T W (by omega))
  unfold RP at HR
  obtain ⟨K, eK⟩ : ∃ K, pk (parseO T.data.toList) = K := ⟨_, rfl⟩
  obtain ⟨F, eF⟩ : ∃ F, pf (parseO T.data.toList) = F := ⟨_, rfl⟩
  rw [eK, eF] at HP HR
  have hU1 : pk (parseO (printL a)) = a := by rw [parse_print]; exact keep_yes (fitB_yes ha.lo ha.hi)
  have hU2 : pf (parseO (printL a)) = true := by rw [parse_print]; exact fitB_yes ha.lo ha.hi
  have HPr := hid (fun W (q : Q w W) => print_any a W (hw.on q) ha (by have := ha.lo; have := ha.hi; omega))
  have HRP := hid (fun W => rprint_any a W ha)
  have HP2 := hid (fun W (q : Q w W) => parse_any ⟨(printL a).toArray⟩ W (hw.on q) (by rw [size_mk]; have := print_len a ha; omega))
  have eU : (⟨(printL a).toArray⟩ : ByteArray).data.toList = printL a := rfl
  rw [eU, hU1, hU2] at HP2
  clear eU hU1 hU2 eK eF
  generalize (⟨(printL a).toArray⟩ : ByteArray) = U at *
  have HI := hid (fun W => int_any n W hn)
  have hn0 := hn.lo
  have hn1 := hn.hi
  clear hw ha hn
  go_enter Tryd.func3, Tryd.ntmps3
  go_upto_if 23 with (go_at_call 7; refine HB.out.mono ?_; rintro e w1 ⟨rfl, q1⟩)
  go_cut [0] from 24 to 25 (fun x W => x = .string T ∧ w1 = W)
  case first =>
    rcases hs with ⟨h, hT'⟩ | ⟨h, hT'⟩
    · have h' : ¬ 100 < (s.size : Int) := by omega
      go_wp2_with fail
      go_meet
      exact ⟨by rw [hT'], rfl⟩
    · go_wp2_with fail
      go_meet
      exact ⟨by rw [hT'], rfl⟩
  case rest =>
    obtain ⟨rfl, rfl⟩ := hcut
    have R := q1
    clear q1 hs
    by_cases h1 : n ≤ 922337203685477
    · by_cases h2 : -922337203685477 ≤ n
      · have hf := fitB_yes (n := n * 10000) (by omega) (by omega)
        rw [keep_yes hf, hf] at HI
        clear hf
        go_wp2_with (first
          | (go_at_call_of 8 T; refine (HP.out _ R).mono ?_; rintro e w2 ⟨rfl, q2⟩; replace R := R.trans q2; clear q2)
          | (go_at_call_of 8 U; refine (HP2.out _ R).mono ?_; rintro e w2 ⟨rfl, q2⟩; replace R := R.trans q2; clear q2)
          | (go_at_call 9; refine (HR.out _).mono ?_; rintro e w2 ⟨rfl, q2⟩; replace R := R.trans q2; clear q2)
          | (go_at_call 10; refine (HPr.out _ R).mono ?_; rintro e w2 ⟨rfl, q2⟩; replace R := R.trans q2; clear q2)
          | (go_at_call 11; refine (HI.out _).mono ?_; rintro e w2 ⟨rfl, rfl⟩)
          | (go_at_call 12; refine (HRP.out _).mono ?_; rintro e w2 ⟨rfl, q2⟩; replace R := R.trans q2; clear q2))
        go_ret
        exact ⟨rfl, R⟩
      · have hf := fitB_no (n := n * 10000) (by omega)
        rw [keep_no hf, hf] at HI
        clear hf
        go_wp2_with (first
          | (go_at_call_of 8 T; refine (HP.out _ R).mono ?_; rintro e w2 ⟨rfl, q2⟩; replace R := R.trans q2; clear q2)
          | (go_at_call_of 8 U; refine (HP2.out _ R).mono ?_; rintro e w2 ⟨rfl, q2⟩; replace R := R.trans q2; clear q2)
          | (go_at_call 9; refine (HR.out _).mono ?_; rintro e w2 ⟨rfl, q2⟩; replace R := R.trans q2; clear q2)
          | (go_at_call 10; refine (HPr.out _ R).mono ?_; rintro e w2 ⟨rfl, q2⟩; replace R := R.trans q2; clear q2)
          | (go_at_call 11; refine (HI.out _).mono ?_; rintro e w2 ⟨rfl, rfl⟩)
          | (go_at_call 12; refine (HRP.out _).mono ?_; rintro e w2 ⟨rfl, q2⟩; replace R := R.trans q2; clear q2))
        go_ret
        exact ⟨rfl, R⟩
    · have hf := fitB_no (n := n * 10000) (by omega)
      rw [keep_no hf, hf] at HI
      clear hf
      go_wp2_with (first
        | (go_at_call_of 8 T; refine (HP.out _ R).mono ?_; rintro e w2 ⟨rfl, q2⟩; replace R := R.trans q2; clear q2)
        | (go_at_call_of 8 U; refine (HP2.out _ R).mono ?_; rintro e w2 ⟨rfl, q2⟩; replace R := R.trans q2; clear q2)
        | (go_at_call 9; refine (HR.out _).mono ?_; rintro e w2 ⟨rfl, q2⟩; replace R := R.trans q2; clear q2)
        | (go_at_call 10; refine (HPr.out _ R).mono ?_; rintro e w2 ⟨rfl, q2⟩; replace R := R.trans q2; clear q2)
        | (go_at_call 11; refine (HI.out _).mono ?_; rintro e w2 ⟨rfl, rfl⟩)
        | (go_at_call 12; refine (HRP.out _).mono ?_; rintro e w2 ⟨rfl, q2⟩; replace R := R.trans q2; clear q2))
      go_ret
      exact ⟨rfl, R⟩
theorem text_walk (s : ByteArray) (a n : Int) (w : World) (hw : Std w) (ha : Fx a) (hn : Fx n) :
    Calls Tryd.prog 3 #[.string s, .int .i64 a, .int .i64 n] w fun e w' => e = .returned (.bool true) ∧ Q w w' := by
  by_cases h : (s.size : Int) ≤ 100
  · exact text_core s s a n w hw ha hn h (.inl ⟨h, rfl⟩)
  · refine text_core s (s.extract 0 100) a n w hw ha hn ?_ (.inr ⟨by omega, rfl⟩)
    simp only [ByteArray.size_extract]
    omega
end Go.Proofs.YtkhecmafhcdalaaDoor
