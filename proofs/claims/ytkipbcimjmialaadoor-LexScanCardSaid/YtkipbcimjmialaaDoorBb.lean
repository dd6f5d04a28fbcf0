/- lex.kindOf, ref.letters, walked. -/
import Derived.Test.YtkipbcimjmialaaDoorBa
import Derived.Test.YtkipbcimjmialaaDoorF2
import Derived.Test.YtkipbcimjmialaaDoorVS
namespace Go.Proofs.YtkipbcimjmialaaDoor
open Go.RowKit
set_option linter.unusedVariables false
set_option linter.unusedSimpArgs false

set_option maxHeartbeats 1000000 in
theorem letters_any (s : ByteArray) (w : World) (hp : 0 < s.size) (hs : s.size ≤ 4000000000) :
    Calls Tryd.prog 20 #[.string s] w fun e w' => e = .returned (.bool (allL s.data.toList)) ∧ w' = w := by
  have e0 := toList_ne hp
  go_enter Tryd.func20, Tryd.ntmps20
  go_wp2
  go_loop [3] (fun i => ∃ k : Nat, k ≤ s.size ∧ i = .int .i64 k ∧ Hid (allL (s.data.toList.take k) = true)) (fun i => s.size - (intOf i).toNat)
  case atStart => exact ⟨0, Nat.zero_le _, rfl, rfl⟩
  case round =>
    obtain ⟨k, hk, rfl, ha⟩ := hrel
    by_cases hlt : k < s.size
    · by_cases hd : let1 s[k] = true
      · have ha' : Hid (allL (s.data.toList.take (k + 1)) = true) := by
          show _ = _
          have := ha.out
          rw [take_snoc s k hlt, allL_app, this]
          unfold allL
          simp [hd]
        have b0 : 65 ≤ (s[k].toNat : Int) := by unfold let1 at hd; simp at hd; omega
        have b1 : (s[k].toNat : Int) ≤ 90 := by unfold let1 at hd; simp at hd; omega
        clear hd
        go_wp2
        go_round
        case rel => exact ⟨k + 1, by omega, by go_num, ha'⟩
        case measure => simp [intOf]; omega
      · have hN := hid (allL_no s k hlt (by simpa using hd))
        by_cases b0 : (s[k].toNat : Int) < 65
        · clear hd
          go_wp2
          go_ret
          exact ⟨ret_bool hN.out.symm, rfl⟩
        · have b1 : 90 < (s[k].toNat : Int) := by unfold let1 at hd; simp at hd; omega
          clear hd
          go_wp2
          go_ret
          exact ⟨ret_bool hN.out.symm, rfl⟩
    · have hN : Hid (allL s.data.toList = true) := by
        show _ = _
        have := ha.out
        rw [take_all s k (by omega)] at this
        exact this
      go_wp2
      go_ret
      exact ⟨ret_bool hN.out.symm, rfl⟩

theorem kind_num {t : List UInt8} {c : Bool} (h : V.pf (V.parseO t) = true) : kindJ t c = 1 := by unfold kindJ; rw [if_pos h]
theorem kind_ref {t : List UInt8} {c : Bool} (h : V.pf (V.parseO t) = false) (h' : refF t = true) : kindJ t c = 3 := by unfold kindJ; rw [if_neg (by simp [h]), if_pos h']
theorem kind_rest {t : List UInt8} {c : Bool} (h : V.pf (V.parseO t) = false) (h' : refF t = false) : kindJ t c = if t = tru ∨ t = fls ∨ (c = true ∧ allL t = true) then 4 else 0 := by unfold kindJ; rw [if_neg (by simp [h]), if_neg (by simp [h'])]

set_option maxHeartbeats 4000000 in
theorem kindOf_any (s : ByteArray) (c : Bool) (w : World) (hw : Std w) (hs : s.size ≤ 1000000) :
    Calls Tryd.prog 28 #[.string s, .bool c] w fun e w' => e = .returned (.int .i64 (kindJ s.data.toList c : Int)) ∧ Q w w' := by
  have HP := hid (V.parse_any s w hw (by omega))
  have HR := hid (fun W (q : Q w W) => parse_any s W (hw.on q) (by omega))
  have HG := hid (fun W => great_any s W (by omega))
  have et := hid (Lib.toList_data s)
  clear hw
  cases hp : V.pf (V.parseO s.data.toList)
  · rw [hp] at HP
    cases hr : refF s.data.toList
    · rw [hr] at HR
      have HK := hid (kind_rest (c := c) hp hr)
      generalize V.pk (V.parseO s.data.toList) = pn at HP
      generalize kindJ s.data.toList c = kk at HK ⊢
      generalize refT s.data.toList = rt at HR
      obtain ⟨sh, row, col, ra, ca⟩ := rt
      unfold refA at HR
      simp only at HR
      generalize (⟨sh.toArray⟩ : ByteArray) = sa at HR
      clear hp hr
      by_cases ht : s.data.toList = tru
      · have e1 : (s.toList == [84, 82, 85, 69]) = true := by rw [et.out, ht]; rfl
        have HK2 : Hid (kk = 4) := by show _ = _; rw [HK.out, if_pos (Or.inl ht)]
        clear HK ht
        go_enter Tryd.func28, Tryd.ntmps28
        go_wp2_with (first | (go_at_call 40; refine HP.out.mono ?_; rintro e w1 ⟨rfl, q1⟩; have Q1 := hid q1; clear q1) | (go_at_call 41; refine (HR.out _ Q1.out).mono ?_; rintro e w2 ⟨rfl, q2⟩; have Q2 := hid q2; clear q2))
        go_ret
        exact ⟨ret_int (by rw [HK2.out]; rfl), (Q1.out.trans Q2.out).alloc _⟩
      · have e1 : (s.toList == [84, 82, 85, 69]) = false := by rw [et.out, beq_eq_false_iff_ne]; exact ht
        by_cases hf : s.data.toList = fls
        · have e2 : (s.toList == [70, 65, 76, 83, 69]) = true := by rw [et.out, hf]; rfl
          have HK2 : Hid (kk = 4) := by show _ = _; rw [HK.out, if_pos (Or.inr (Or.inl hf))]
          clear HK ht hf
          go_enter Tryd.func28, Tryd.ntmps28
          go_wp2_with (first | (go_at_call 40; refine HP.out.mono ?_; rintro e w1 ⟨rfl, q1⟩; have Q1 := hid q1; clear q1) | (go_at_call 41; refine (HR.out _ Q1.out).mono ?_; rintro e w2 ⟨rfl, q2⟩; have Q2 := hid q2; clear q2))
          go_ret
          exact ⟨ret_int (by rw [HK2.out]; rfl), (Q1.out.trans Q2.out).alloc _⟩
        · have e2 : (s.toList == [70, 65, 76, 83, 69]) = false := by rw [et.out, beq_eq_false_iff_ne]; exact hf
          cases c
          · have HK2 : Hid (kk = 0) := by show _ = _; rw [HK.out, if_neg (by rintro (h | h | ⟨h, _⟩); exact ht h; exact hf h; cases h)]
            clear HK ht hf
            go_enter Tryd.func28, Tryd.ntmps28
            go_wp2_with (first | (go_at_call 40; refine HP.out.mono ?_; rintro e w1 ⟨rfl, q1⟩; have Q1 := hid q1; clear q1) | (go_at_call 41; refine (HR.out _ Q1.out).mono ?_; rintro e w2 ⟨rfl, q2⟩; have Q2 := hid q2; clear q2))
            go_ret
            exact ⟨ret_int (by rw [HK2.out]; rfl), (Q1.out.trans Q2.out).alloc _⟩
          · have HK2 : Hid (kk = if allL s.data.toList = true then 4 else 0) := by
              show _ = _
              rw [HK.out]
              by_cases ha : allL s.data.toList = true
              · rw [if_pos (Or.inr (Or.inr ⟨rfl, ha⟩)), if_pos ha]
              · rw [if_neg (by rintro (h | h | ⟨_, h⟩); exact ht h; exact hf h; exact ha h), if_neg ha]
            clear HK ht hf
            generalize allL s.data.toList = al at HG HK2
            go_enter Tryd.func28, Tryd.ntmps28
            go_wp2_with (first | (go_at_call 40; refine HP.out.mono ?_; rintro e w1 ⟨rfl, q1⟩; have Q1 := hid q1; clear q1) | (go_at_call 41; refine (HR.out _ Q1.out).mono ?_; rintro e w2 ⟨rfl, q2⟩; have Q2 := hid q2; clear q2) | (go_at_call 42; refine (HG.out _).mono ?_; rintro e w3 ⟨rfl, rfl⟩))
            all_goals go_ret
            all_goals exact ⟨ret_int (by rw [HK2.out]; simp_all), (Q1.out.trans Q2.out).alloc _⟩
    · rw [hr] at HR
      have HK := hid (kind_ref (c := c) hp hr)
      generalize V.pk (V.parseO s.data.toList) = pn at HP
      generalize kindJ s.data.toList c = kk at HK ⊢
      generalize refT s.data.toList = rt at HR
      obtain ⟨sh, row, col, ra, ca⟩ := rt
      unfold refA at HR
      simp only at HR
      generalize (⟨sh.toArray⟩ : ByteArray) = sa at HR
      clear hp hr
      go_enter Tryd.func28, Tryd.ntmps28
      go_wp2_with (first | (go_at_call 40; refine HP.out.mono ?_; rintro e w1 ⟨rfl, q1⟩; have Q1 := hid q1; clear q1) | (go_at_call 41; refine (HR.out _ Q1.out).mono ?_; rintro e w2 ⟨rfl, q2⟩; have Q2 := hid q2; clear q2))
      go_ret
      exact ⟨ret_int (by rw [HK.out]; rfl), (Q1.out.trans Q2.out).alloc _⟩
  · rw [hp] at HP
    have HK := hid (kind_num (c := c) hp)
    generalize V.pk (V.parseO s.data.toList) = pn at HP
    generalize kindJ s.data.toList c = kk at HK ⊢
    clear hp
    go_enter Tryd.func28, Tryd.ntmps28
    go_wp2_with (go_at_call 40; refine HP.out.mono ?_; rintro e w1 ⟨rfl, q1⟩; have Q1 := hid q1; clear q1)
    go_ret
    exact ⟨ret_int (by rw [HK.out]; rfl), Q1.out⟩
end Go.Proofs.YtkipbcimjmialaaDoor
