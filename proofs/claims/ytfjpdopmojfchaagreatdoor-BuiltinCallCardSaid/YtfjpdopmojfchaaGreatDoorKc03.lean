/- counterpaneref1.Print: the sho. -/
import Derived.Test.YtfjpdopmojfchaaGreatDoorKc01
import Derived.Test.YtfjpdopmojfchaaGreatDoorKc02
set_option linter.unusedVariables false
set_option linter.unusedSimpArgs false
set_option maxRecDepth 100000
set_option maxHeartbeats 8000000
namespace Go.Proofs.YtfjpdopmojfchaaGreatDoor
open Go.RowKit
theorem trim_zero (l : List UInt8) : Lib.trimRightB (l ++ [48]) 48 = Lib.trimRightB l 48 := by
  unfold Lib.trimRightB
  rw [List.reverse_append]
  simp
theorem trim_other (l : List UInt8) (c : UInt8) (h : c ≠ 48) : Lib.trimRightB (l ++ [c]) 48 = l ++ [c] := by
  unfold Lib.trimRightB
  rw [List.reverse_append]
  simp [h]
theorem part_ne (r : Nat) (h0 : 0 < r) (h1 : r < 10000) : Lib.trimRightB ((Lib.decDigits (10000 + r)).drop 1) 48 ≠ [] := by
  intro e
  have h := mag_read r false
  unfold magL partL at h
  rw [if_neg (by omega), show r % 10000 = r by omega, e] at h
  have h2 := parse2_point false (dec_all (r / 10000)) (show allD [] = true from rfl)
  rw [h2] at h
  simp at h
set_option maxHeartbeats 1000000 in
theorem rprint_zero (a M : Int) (m : Nat) (w : World) (ha : Fx a) (hm : Hid (m = a.natAbs)) (hM : (a.natAbs : Int) = M) (hr : Hid (m % 10000 = 0)) (hz : M % 10000 = 0) (m0 : 0 ≤ M) (m1 : M ≤ 9223372036854775808) :
    Calls Tryz.prog 95 #[.int .i64 a] w fun e w' => e = .returned (.string ⟨(printL a).toArray⟩) ∧ Q w w' := by
  have HA := hid (fun w => abs_any a w ha)
  rw [hM] at HA
  have HD := hid (fun w => dec_int (m / 10000) (M / 10000) w (by show _ = _; rw [← hM, ← hm.out]; omega) (by show _ < _; have := hm.out; have := ha.lo; have := ha.hi; omega) (by omega) (by omega))
  have HP : Hid (printL a = if a < 0 then 45 :: Lib.decDigits (m / 10000) else Lib.decDigits (m / 10000)) := by
    show _ = _
    unfold printL magL partL
    rw [← hm.out, if_pos hr.out, List.append_nil]
  have hlen : (Lib.decDigits (m / 10000)).length ≤ 20 := by
    rw [Lib.decDigits_length]
    exact nDigits_le _ (by have := hm.out; have := ha.lo; have := ha.hi; omega)
  generalize Lib.decDigits (m / 10000) = D at *
  have hsz : (⟨D.toArray⟩ : ByteArray).size = D.length := by simp [ByteArray.size]
  clear hM ha
  by_cases hn : a < 0
  · have HP' : Hid (printL a = 45 :: D) := by show _ = _; rw [HP.out, if_pos hn]
    go_enter Tryz.func95, Tryz.ntmps95
    go_wp2_with (first | (go_at_call 102; refine (HA.out _).mono ?_; rintro e w1 ⟨rfl, rfl⟩) | (go_at_call 134; refine (HD.out _).mono ?_; rintro e w2 ⟨rfl, q2⟩))
    go_ret
    exact ⟨ret_str (by rw [HP'.out]; exact bytes_cat [45] D), q2⟩
  · have HP' : Hid (printL a = D) := by show _ = _; rw [HP.out, if_neg hn]
    go_enter Tryz.func95, Tryz.ntmps95
    go_wp2_with (first | (go_at_call 102; refine (HA.out _).mono ?_; rintro e w1 ⟨rfl, rfl⟩) | (go_at_call 134; refine (HD.out _).mono ?_; rintro e w2 ⟨rfl, q2⟩))
    go_ret
    exact ⟨ret_str (by rw [HP'.out]), q2⟩
theorem str_last (s : ByteArray) (m : Nat) (h : s.size = m + 1) : s.data.toList = s.data.toList.take m ++ [s[m]] := by
  have h1 := take_snoc s m (by omega)
  rw [← h1, take_all s (m + 1) (by omega)]
set_option maxHeartbeats 2000000 in
theorem rprint_some (a M : Int) (m : Nat) (w : World) (ha : Fx a) (hm : Hid (m = a.natAbs)) (hM : (a.natAbs : Int) = M) (hr : Hid (0 < m % 10000)) (Y R S : Int) (hY : M / 10000 = Y) (hR : M % 10000 = R) (hS : 10000 + R = S) (hz : 0 < R) (m0 : 0 ≤ M) (m1 : M ≤ 9223372036854775808) :
    Calls Tryz.prog 95 #[.int .i64 a] w fun e w' => e = .returned (.string ⟨(printL a).toArray⟩) ∧ Q w w' := by
  have HA := hid (fun w => abs_any a w ha)
  rw [hM] at HA
  have HD := hid (fun w => dec_int (m / 10000) Y w (by show _ = _; rw [← hY, ← hM, ← hm.out]; omega) (by show _ < _; have := hm.out; have := ha.lo; have := ha.hi; omega) (by omega) (by omega))
  have HE := hid (fun w => dec_int (10000 + m % 10000) S w (by show _ = _; rw [← hS, ← hR, ← hM, ← hm.out]; omega) (by show _ < _; omega) (by omega) (by omega))
  obtain ⟨X, eX⟩ : ∃ X, Lib.trimRightB ((Lib.decDigits (10000 + m % 10000)).drop 1) 48 = X := ⟨_, rfl⟩
  have hX := part_ne (m % 10000) hr.out (by omega)
  rw [eX] at hX
  have HP : Hid (printL a = if a < 0 then 45 :: (Lib.decDigits (m / 10000) ++ 46 :: X) else Lib.decDigits (m / 10000) ++ 46 :: X) := by
    show _ = _
    unfold printL magL partL
    rw [← hm.out, if_neg (show ¬ (m % 10000 = 0) by have := hr.out; omega), eX]
  have hlen : (Lib.decDigits (m / 10000)).length ≤ 20 := by
    rw [Lib.decDigits_length]
    exact nDigits_le _ (by have := hm.out; have := ha.lo; have := ha.hi; omega)
  have hlen2 : (Lib.decDigits (10000 + m % 10000)).length = 5 := by rw [Lib.decDigits_length]; exact Lib.nDigits_unique 4 _ (by omega) (by omega)
  generalize Lib.decDigits (m / 10000) = D at *
  generalize Lib.decDigits (10000 + m % 10000) = E at *
  have hsz : (⟨D.toArray⟩ : ByteArray).size = D.length := by simp [ByteArray.size]
  have hsz2 : (⟨E.toArray⟩ : ByteArray).size = 5 := by simp [ByteArray.size, hlen2]
  have eT : (ByteArray.extract ⟨E.toArray⟩ 1 5).data.toList = E.drop 1 := by
    rw [Lib.extract_data]
    exact List.take_of_length_le (by simp [hlen2])
  have HX := hid hX
  have HT : Hid (Lib.trimRightB (ByteArray.extract ⟨E.toArray⟩ 1 5).data.toList 48 = X ∧ (ByteArray.extract ⟨E.toArray⟩ 1 5).size ≤ 4) := by
    show _ ∧ _
    rw [eT]
    refine ⟨eX, ?_⟩
    simp only [ByteArray.size_extract]
    omega
  clear hM ha eT eX hX
  go_enter Tryz.func95, Tryz.ntmps95
  go_wp2_with (first | (go_at_call 102; refine (HA.out _).mono ?_; rintro e w1 ⟨rfl, rfl⟩) | (go_at_call_of 134 S; refine (HE.out _).mono ?_; rintro e w3 ⟨rfl, q3⟩) | (go_at_call_of 134 Y; refine (HD.out _).mono ?_; rintro e w2 ⟨rfl, q2⟩))
  go_loop [6] (fun v => ∃ s : ByteArray, v = .string s ∧ Hid (Lib.trimRightB s.data.toList 48 = X) ∧ s.size ≤ 4) (fun v => strLen v)
  case atStart => exact ⟨_, rfl, HT.out.1, HT.out.2⟩
  case round =>
    obtain ⟨s, rfl, hs, hs4⟩ := hrel
    obtain ⟨k, hk⟩ : ∃ k, s.size = k + 1 := by
      refine ⟨s.size - 1, ?_⟩
      rcases Nat.eq_zero_or_pos s.size with h | h
      · exfalso
        have h1 := hs.out
        have h2 : s.data.toList = [] := List.eq_nil_of_length_eq_zero (by simpa using h)
        rw [h2] at h1
        exact HX.out h1.symm
      · omega
    have hl := str_last s k hk
    have hkz : (s.size : Int) = (k : Int) + 1 := by omega
    by_cases hc : s[k] = 48
    · have hs' : Hid (Lib.trimRightB (ByteArray.extract s 0 k).data.toList 48 = X ∧ (ByteArray.extract s 0 k).size = k) := by
        show _ ∧ _
        have h1 := hs.out
        rw [hl, hc, trim_zero] at h1
        rw [Lib.extract_data]
        refine ⟨by simpa using h1, ?_⟩
        simp only [ByteArray.size_extract]
        omega
      have hcn : (s[k].toNat : Int) = 48 := by rw [hc]; rfl
      clear hl hc
      go_wp2
      refine ⟨⟨_, rfl, hs'.out.1, by rw [hs'.out.2]; omega⟩, ?_⟩
      show (s.extract 0 k).size < s.size
      rw [hs'.out.2]
      omega
    · have hsX : Hid (s.data.toList = X) := by
        show _ = _
        have h1 := hs.out
        rw [hl, trim_other _ _ hc, ← hl] at h1
        exact h1
      have hcn : ((s[k].toNat : Int) == 48) = false := by
        rw [beq_eq_false_iff_ne]
        intro h
        apply hc
        apply UInt8.toNat_inj.1
        show s[k].toNat = 48
        omega
      have hcat : Hid ((⟨D.toArray⟩ : ByteArray) ++ (⟨#[46]⟩ ++ s) = ⟨(D ++ 46 :: X).toArray⟩ ∧ ((⟨#[46]⟩ : ByteArray) ++ s).size ≤ 5) := by
        show _ ∧ _
        have e : s = ⟨X.toArray⟩ := by
          apply ByteArray.ext
          apply Array.ext'
          exact hsX.out
        have e2 : (⟨#[46]⟩ : ByteArray) ++ s = ⟨(46 :: X).toArray⟩ := by rw [e]; exact bytes_cat [46] X
        refine ⟨by rw [e2, bytes_cat], ?_⟩
        rw [ByteArray.size_append]
        show 1 + s.size ≤ 5
        omega
      have hsa := hcat.out.2
      obtain ⟨U, eU⟩ : ∃ U, (⟨#[46]⟩ : ByteArray) ++ s = U := ⟨_, rfl⟩
      rw [eU] at hsa
      have hcat' : Hid ((⟨D.toArray⟩ : ByteArray) ++ U = ⟨(D ++ 46 :: X).toArray⟩) := by show _ = _; rw [← eU]; exact hcat.out.1
      have hsu : ((⟨D.toArray⟩ : ByteArray) ++ U).size ≤ 25 := by rw [ByteArray.size_append]; omega
      clear hl hc hcat
      by_cases hn : a < 0
      · have HP' : Hid (printL a = 45 :: (D ++ 46 :: X)) := by show _ = _; rw [HP.out, if_pos hn]
        go_wp2
        go_ret
        exact ⟨ret_str (by rw [HP'.out, hcat'.out]; exact bytes_cat [45] _), q2.trans q3⟩
      · have HP' : Hid (printL a = D ++ 46 :: X) := by show _ = _; rw [HP.out, if_neg hn]
        go_wp2
        go_ret
        exact ⟨ret_str (by rw [HP'.out, hcat'.out]), q2.trans q3⟩
theorem rprint_any (a : Int) (w : World) (ha : Fx a) :
    Calls Tryz.prog 95 #[.int .i64 a] w fun e w' => e = .returned (.string ⟨(printL a).toArray⟩) ∧ Q w w' := by
  have h0 := ha.lo
  have h1 := ha.hi
  rcases Nat.eq_zero_or_pos (a.natAbs % 10000) with h | h
  · exact rprint_zero a _ a.natAbs w ha rfl rfl h (by omega) (by omega) (by omega)
  · exact rprint_some a _ a.natAbs w ha rfl rfl h _ _ _ rfl rfl rfl (by omega) (by omega) (by omega)
end Go.Proofs.YtfjpdopmojfchaaGreatDoor
