/- lex.closed, lex.failure, walked. -/
import Derived.Test.YtkipbcimjmialaaDoorBc
import Derived.Test.YtkipbcimjmialaaDoorVV3
namespace Go.Proofs.YtkipbcimjmialaaDoor
open Go.RowKit
set_option linter.unusedVariables false
set_option linter.unusedSimpArgs false


theorem may_text (l : List UInt8) : V.mayB 2 0 l false 0 = V.mtB l := by simp [V.mayB]
set_option maxHeartbeats 2000000 in
theorem closed_any (s : ByteArray) (n : Nat) (w : World) (hw : Std w) (hs : s.size ≤ 1000000) :
    Calls Tryd.prog 24 #[.string s, .int .i64 (n : Int)] w fun e w' => e = .returned (wv (quoP (some (s.data.toList, n)))) ∧ Q w w' := by
  have HM := V.may_2 0 s false 0 w hw (by omega)
  rw [may_text, Lib.toList_data] at HM
  unfold V.vv at HM
  have HM := hid HM
  cases h : V.mtB s.data.toList
  · rw [h] at HM
    have HW : Hid (quoP (some (s.data.toList, n)) = bad) := by show _ = _; simp only [quoP, h]; rfl
    generalize quoP (some (s.data.toList, n)) = q at HW ⊢
    clear h hw
    go_enter Tryd.func24, Tryd.ntmps24
    go_wp2_with (go_at_call 38; refine HM.out.mono ?_; rintro e w1 ⟨rfl, q1⟩; have Q1 := hid q1; clear q1)
    go_ret3
    exact ⟨ret_bad HW.out, Q1.out⟩
  · rw [h] at HM
    have HW : Hid (quoP (some (s.data.toList, n)) = (2, s.data.toList, n)) := by show _ = _; simp only [quoP, h]; rfl
    generalize quoP (some (s.data.toList, n)) = q at HW ⊢
    clear h hw
    go_enter Tryd.func24, Tryd.ntmps24
    go_wp2_with (go_at_call 38; refine HM.out.mono ?_; rintro e w1 ⟨rfl, q1⟩; have Q1 := hid q1; clear q1)
    go_ret3
    exact ⟨ret_wv (by rw [HW.out]; rfl) (by rw [HW.out]) (by rw [HW.out]), Q1.out⟩

theorem err_step (k : Nat) (h : k < 7) : ([1, 2, 3, 4, 5, 6, 7] : List Int).drop k = ((k : Int) + 1) :: ([1, 2, 3, 4, 5, 6, 7] : List Int).drop (k + 1) := by
  rcases (by omega : k = 0 ∨ k = 1 ∨ k = 2 ∨ k = 3 ∨ k = 4 ∨ k = 5 ∨ k = 6) with rfl | rfl | rfl | rfl | rfl | rfl | rfl <;> rfl
set_option maxHeartbeats 2000000 in
theorem failure_any (s : ByteArray) (w : World) (hw : Std w) (hs : s.size ≤ 1000000) :
    Calls Tryd.prog 13 #[.string s] w fun e w' => e = .returned (wv (errW s.data.toList)) ∧ w' = w := by
  have HN := hid hw.nam
  obtain ⟨jw, hj⟩ : ∃ jw, errW s.data.toList = jw := ⟨_, rfl⟩
  rw [hj]
  have HJ := hid hj
  clear hj hw
  go_enter Tryd.func13, Tryd.ntmps13
  go_wp2
  go_loop [5] (fun i => ∃ k : Nat, k ≤ 7 ∧ i = .int .i64 ((k : Int) + 1) ∧ Hid (errP ((([1, 2, 3, 4, 5, 6, 7] : List Int).drop k).find? (fun e => Lib.hasPrefix s.data.toList (enL e))) = jw)) (fun i => 8 - (intOf i).toNat)
  case atStart => exact ⟨0, by omega, rfl, HJ⟩
  case round =>
    obtain ⟨k, hk, rfl, hr⟩ := hrel
    by_cases hlt : k < 7
    · have hn := V.name_any ((k : Int) + 1) w HN.out
      obtain ⟨N, eN⟩ : ∃ N : ByteArray, ⟨(enL ((k : Int) + 1)).toArray⟩ = N := ⟨_, rfl⟩
      have lN : N.data.toList = enL ((k : Int) + 1) := by rw [← eN]
      have zN : N.size ≤ 100 := by
        rw [← len_data, lN]
        rcases (by omega : k = 0 ∨ k = 1 ∨ k = 2 ∨ k = 3 ∨ k = 4 ∨ k = 5 ∨ k = 6) with rfl | rfl | rfl | rfl | rfl | rfl | rfl <;> decide
      rw [eN] at hn
      have hp := Tryd.strings_HasPrefix s N w
      have hr2 := hr.out
      rw [err_step k hlt, List.find?_cons, ← lN] at hr2
      have H1 := hid hn
      have LN := hid lN
      clear hn lN eN hr
      cases hb : Lib.hasPrefix s.data.toList N.data.toList
      · rw [hb] at hp hr2
        have H2 := hid hp
        have HR := hid hr2
        clear hp hr2 hb
        go_wp2_with (first | (go_at_call 27; refine H1.out.mono ?_; rintro e w1 ⟨rfl, h1⟩; replace h1 := h1.symm; subst h1) | (go_at_call 23; refine H2.out.mono ?_; rintro e w1 ⟨rfl, h1⟩; replace h1 := h1.symm; subst h1))
        go_round
        case rel => exact ⟨k + 1, by omega, by go_num, HR⟩
        case measure => simp [intOf]; omega
      · rw [hb] at hp hr2
        have H2 := hid hp
        have HR : Hid (jw = (5, N.data.toList, N.data.toList.length)) := by show _ = _; rw [← hr2, LN.out]; rfl
        clear hp hr2 hb
        go_wp2_with (first | (go_at_call 27; refine H1.out.mono ?_; rintro e w1 ⟨rfl, h1⟩; replace h1 := h1.symm; subst h1) | (go_at_call 23; refine H2.out.mono ?_; rintro e w1 ⟨rfl, h1⟩; replace h1 := h1.symm; subst h1))
        go_ret3
        exact ⟨ret_wv (by rw [HR.out]; rfl) (by rw [HR.out]) (by rw [HR.out]; simp), rfl⟩
    · have e : k = 7 := by omega
      subst e
      have HR := hid hr.out.symm
      clear hr
      go_wp2_with fail
      go_ret3
      exact ⟨ret_bad HR.out, rfl⟩
end Go.Proofs.YtkipbcimjmialaaDoor
