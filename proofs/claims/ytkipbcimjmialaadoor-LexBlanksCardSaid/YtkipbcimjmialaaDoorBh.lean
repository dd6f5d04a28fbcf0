/- lex.first, walked. -/
import Derived.Test.YtkipbcimjmialaaDoorBe
import Derived.Test.YtkipbcimjmialaaDoorBg
namespace Go.Proofs.YtkipbcimjmialaaDoor
open Go.RowKit
set_option linter.unusedVariables false
set_option linter.unusedSimpArgs false


theorem ret_tup {t : Nat × List UInt8 × Nat} {a n : Nat} {l : List UInt8} (h : t = (a, l, n)) : Ending.returned (.tuple #[.int .i64 (a : Int), .string ⟨l.toArray⟩, .int .i64 (n : Int)]) = .returned (wv t) := by
  subst h
  rfl
theorem first_any (s : ByteArray) (w : World) (hw : Std w) (hp : 0 < s.size) (hs : s.size ≤ 100000) :
    Calls Tryd.prog 10 #[.string s] w fun e w' => e = .returned (wv (wordF s.data.toList)) ∧ Q w w' := by
  have hh := headD_get s hp
  by_cases h34 : s[0] = 34
  · have e34 := eq_byte (n := 34) (by omega) h34
    have HX := hid (quoted_any s w hw hp hs)
    have HF : Hid (wordF s.data.toList = quoW s.data.toList) := by show _ = _; unfold wordF; rw [hh, if_pos h34]
    clear hh hw
    generalize quoW s.data.toList = q at HF HX
    generalize wordF s.data.toList = f at HF ⊢
    obtain ⟨a, l, n⟩ := q
    unfold wv at HX
    simp only at HX
    go_enter Tryd.func10, Tryd.ntmps10
    go_wp2_with (go_at_call 12; refine HX.out.mono ?_; rintro e w1 ⟨rfl, q1⟩; have Q1 := hid q1; clear q1)
    go_ret3
    exact ⟨ret_tup HF.out, Q1.out⟩
  · have n34 := byte_ne (n := 34) (by omega) h34
    by_cases h35 : s[0] = 35
    · have e35 := eq_byte (n := 35) (by omega) h35
      have HX := hid (failure_any s w hw (by omega))
      have HF : Hid (wordF s.data.toList = errW s.data.toList) := by show _ = _; unfold wordF; rw [hh, if_neg h34, if_pos h35]
      clear hh hw
      generalize errW s.data.toList = q at HF HX
      generalize wordF s.data.toList = f at HF ⊢
      obtain ⟨a, l, n⟩ := q
      unfold wv at HX
      simp only at HX
      go_enter Tryd.func10, Tryd.ntmps10
      go_wp2_with (go_at_call 13; refine HX.out.mono ?_; rintro e w1 ⟨rfl, h1⟩; replace h1 := h1.symm; subst h1)
      go_ret3
      exact ⟨ret_tup HF.out, Q.refl _⟩
    · have n35 := byte_ne (n := 35) (by omega) h35
      have HJ := hid (fun W => joins_any s[0] W)
      cases hj : joinB s[0]
      · rw [hj] at HJ
        have HX := hid (sign_any s w hw (by omega))
        have HF : Hid (wordF s.data.toList = sigW s.data.toList) := by show _ = _; unfold wordF; rw [hh, if_neg h34, if_neg h35, if_neg (by simp [hj])]
        clear hh hw
        generalize sigW s.data.toList = q at HF HX
        generalize wordF s.data.toList = f at HF ⊢
        obtain ⟨a, l, n⟩ := q
        unfold wv at HX
        simp only at HX
        go_enter Tryd.func10, Tryd.ntmps10
        go_wp2_with (first | (go_at_call 14; refine (HJ.out _).mono ?_; rintro e w1 ⟨rfl, h1⟩; replace h1 := h1.symm; subst h1) | (go_at_call 16; refine HX.out.mono ?_; rintro e w1 ⟨rfl, h1⟩; replace h1 := h1.symm; subst h1))
        go_ret3
        exact ⟨ret_tup HF.out, Q.refl _⟩
      · rw [hj] at HJ
        have HX := hid (joined_any s w hw (by omega))
        have HF : Hid (wordF s.data.toList = joinW s.data.toList) := by show _ = _; unfold wordF; rw [hh, if_neg h34, if_neg h35, if_pos hj]
        clear hh hw
        generalize joinW s.data.toList = q at HF HX
        generalize wordF s.data.toList = f at HF ⊢
        obtain ⟨a, l, n⟩ := q
        unfold wv at HX
        simp only at HX
        go_enter Tryd.func10, Tryd.ntmps10
        go_wp2_with (first | (go_at_call 14; refine (HJ.out _).mono ?_; rintro e w1 ⟨rfl, h1⟩; replace h1 := h1.symm; subst h1) | (go_at_call 15; refine HX.out.mono ?_; rintro e w1 ⟨rfl, q1⟩; have Q1 := hid q1; clear q1))
        go_ret3
        exact ⟨ret_tup HF.out, Q1.out⟩
end Go.Proofs.YtkipbcimjmialaaDoor
