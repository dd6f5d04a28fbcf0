/- counterpaneref5.Owner, Id: what each returns. -/
import Derived.Test.YtkipbcimjmialaaDoorB1
import Derived.Test.YtkipbcimjmialaaDoorE1
namespace Go.Proofs.YtkipbcimjmialaaDoor
open Go.RowKit
set_option linter.unusedVariables false
set_option linter.unusedSimpArgs false

theorem own_none0 {s : ByteArray} (h : s.size = 0 ∨ ∃ h : 0 < s.size, s[0] ≠ 99) : ownK s.data.toList = -1 := by
  unfold ownK
  rw [if_neg]
  unfold Lib.hasPrefix
  rcases h with h | ⟨h, h0⟩
  · rw [show s.data.toList = [] from List.eq_nil_of_length_eq_zero (by rw [len_data]; exact h)]
    simp
  · have e := drop_cons s 0 h
    rw [List.drop_zero] at e
    rw [e]
    simp [Ne.symm h0]
/-- an id's text: c and the rest -/
theorem own_c {s : ByteArray} (h : 0 < s.size) (h0 : s[0] = 99) : ownK s.data.toList = ownP (Lib.cut (s.data.toList.drop 1) [110]) := by
  have e := drop_cons s 0 h
  rw [List.drop_zero, h0] at e
  have hp : Lib.hasPrefix s.data.toList [99] = true := by rw [e]; unfold Lib.hasPrefix; simp
  unfold ownK
  rw [if_pos hp]
  unfold Lib.trimPrefix
  rw [if_pos hp]
  rfl
theorem ownP_R (a b : List UInt8) : ownP (a, b, true) = if numR b 999999 < 0 then -1 else numR a 15 := by
  unfold ownP numR
  cases numF a 15 <;> cases numF b 999999 <;> simp <;> omega

set_option maxHeartbeats 1000000 in
theorem rowner_any (s : ByteArray) (w : World) (hs : s.size < 4294967281) :
    Calls Tryd.prog 44 #[.string s] w fun e w' => e = .returned (.int .i64 (ownK s.data.toList)) ∧ w' = w := by
  by_cases hz : s.size = 0 ∨ ∃ h : 0 < s.size, s[0] ≠ 99
  · have HO := hid (own_none0 hz)
    have hz' : ∀ h : 0 < s.size, ((s[0].toNat : Int) == 99) = false := fun h => by
      rcases hz with g | ⟨_, g⟩
      · omega
      · exact byte_ne (n := 99) (by omega) g
    clear hz
    go_enter Tryd.func44, Tryd.ntmps44
    go_wp2
    go_loop [3] (fun i => ∃ k : Nat, 1 ≤ k ∧ k ≤ s.size + 1 ∧ i = .int .i64 k) (fun i => s.size + 1 - (intOf i).toNat)
    case atStart => exact ⟨1, by omega, by omega, rfl⟩
    case round =>
      obtain ⟨k, k1, hk, rfl⟩ := hrel
      by_cases hlt : k < s.size
      · have h0 := hz' (by omega)
        by_cases hn : s[k] = 110
        · have hn' : (s[k].toNat : Int) = 110 := by rw [hn]; rfl
          clear hn
          go_wp2
          go_round
          case rel => exact ⟨k + 1, by omega, by omega, by go_num⟩
          case measure => simp [intOf]; omega
        · have hn' : ((s[k].toNat : Int) == 110) = false := byte_ne (n := 110) (by omega) hn
          clear hn
          go_wp2
          go_round
          case rel => exact ⟨k + 1, by omega, by omega, by go_num⟩
          case measure => simp [intOf]; omega
      · go_wp2
        go_ret
        exact ⟨ret_int HO.out.symm, rfl⟩
  · have hp : 0 < s.size := by
      rcases Nat.eq_zero_or_pos s.size with h | h
      · exact absurd (.inl h) hz
      · exact h
    have hc : s[0] = 99 := by
      by_cases h : s[0] = 99
      · exact h
      · exact absurd (.inr ⟨hp, h⟩) hz
    have HO := hid (own_c hp hc)
    have hc' : (s[0].toNat : Int) = 99 := by rw [hc]; rfl
    clear hz hc
    go_enter Tryd.func44, Tryd.ntmps44
    go_wp2
    go_loop [3] (fun i => ∃ k : Nat, 1 ≤ k ∧ k ≤ s.size ∧ i = .int .i64 k ∧ Hid ((110 : UInt8) ∉ (s.data.toList.take k).drop 1)) (fun i => s.size + 1 - (intOf i).toNat)
    case atStart => exact ⟨1, by omega, by omega, rfl, by show _ ∉ _; rw [List.drop_take]; simp⟩
    case round =>
      obtain ⟨k, k1, hk, rfl, ha⟩ := hrel
      by_cases hlt : k < s.size
      · by_cases hn : s[k] = 110
        · have hn' : (s[k].toNat : Int) = 110 := by rw [hn]; rfl
          have eL : s.data.toList.drop 1 = (s.data.toList.take k).drop 1 ++ 110 :: s.data.toList.drop (k + 1) := by
            have e1 : s.data.toList = s.data.toList.take k ++ s.data.toList.drop k := (List.take_append_drop _ _).symm
            rw [drop_cons s k hlt, hn] at e1
            have e2 := congrArg (List.drop 1) e1
            rw [List.drop_append_of_le_length (by rw [List.length_take, len_data]; omega)] at e2
            exact e2
          have HR : Hid (ownK s.data.toList = if numR (s.data.toList.drop (k + 1)) 999999 < 0 then -1 else numR ((s.data.toList.take k).drop 1) 15) := by
            show _ = _
            rw [HO.out, eL, cut_at 110 _ _ ha.out, ownP_R]
          have eA : (s.extract 1 k).data.toList = (s.data.toList.take k).drop 1 := by
            rw [Lib.extract_data, List.drop_take]
          have eB : (s.extract (k + 1) s.size).data.toList = s.data.toList.drop (k + 1) := by
            rw [Lib.extract_data]
            exact List.take_of_length_le (by rw [List.length_drop, len_data]; omega)
          have HA := hid (fun W => num_any (s.extract 1 k) 15 15 W rfl (by omega) (by omega) (by simp only [ByteArray.size_extract]; omega))
          have HB := hid (fun W => num_any (s.extract (k + 1) s.size) 999999 999999 W rfl (by omega) (by omega) (by simp only [ByteArray.size_extract]; omega))
          rw [eA] at HA
          rw [eB] at HB
          obtain ⟨A, qA⟩ : ∃ A, s.extract 1 k = A := ⟨_, rfl⟩
          obtain ⟨B, qB⟩ : ∃ B, s.extract (k + 1) s.size = B := ⟨_, rfl⟩
          rw [qA] at HA
          rw [qB] at HB
          generalize numR ((s.data.toList.take k).drop 1) 15 = X at *
          generalize numR (s.data.toList.drop (k + 1)) 999999 = Y at *
          clear hn eL eA eB HO
          by_cases hY : Y < 0
          · go_wp2_with (first | (go_at_call_of 36 A; refine (HA.out _).mono ?_; rintro e w1 ⟨rfl, rfl⟩) | (go_at_call_of 36 B; refine (HB.out _).mono ?_; rintro e w2 ⟨rfl, rfl⟩))
            go_ret
            exact ⟨ret_int (by rw [HR.out, if_pos hY]), rfl⟩
          · go_wp2_with (first | (go_at_call_of 36 A; refine (HA.out _).mono ?_; rintro e w1 ⟨rfl, rfl⟩) | (go_at_call_of 36 B; refine (HB.out _).mono ?_; rintro e w2 ⟨rfl, rfl⟩))
            go_ret
            exact ⟨ret_int (by rw [HR.out, if_neg (by omega)]), rfl⟩
        · have hn' : ((s[k].toNat : Int) == 110) = false := byte_ne (n := 110) (by omega) hn
          have ha' : Hid ((110 : UInt8) ∉ (s.data.toList.take (k + 1)).drop 1) := by
            show _ ∉ _
            rw [take_snoc s k hlt, List.drop_append_of_le_length (by rw [List.length_take, len_data]; omega), List.mem_append]
            intro h
            rcases h with h | h
            · exact ha.out h
            · simp at h
              exact hn h.symm
          clear hn
          go_wp2
          go_round
          case rel => exact ⟨k + 1, by omega, by omega, by go_num, ha'⟩
          case measure => simp [intOf]; omega
      · have HF : Hid (ownK s.data.toList = -1) := by
          show _ = _
          have h1 := ha.out
          rw [take_all s k (by omega)] at h1
          rw [HO.out, cut_free 110 _ h1]
          rfl
        go_wp2
        go_ret
        exact ⟨ret_int HF.out.symm, rfl⟩
theorem rid_any (s : ByteArray) (w : World) (hs : s.size < 4294967281) :
    Calls Tryd.prog 34 #[.string s] w fun e w' => e = .returned (.bool (idB s.data.toList)) ∧ w' = w := by
  have HO := hid (fun W => rowner_any s W hs)
  have HI : Hid (idB s.data.toList = decide (0 ≤ ownK s.data.toList)) := rfl
  generalize ownK s.data.toList = K at *
  clear hs
  go_enter Tryd.func34, Tryd.ntmps34
  go_wp2_with (go_at_call 44; refine (HO.out _).mono ?_; rintro e w1 ⟨rfl, rfl⟩)
  go_ret
  exact ⟨ret_bool HI.out.symm, rfl⟩
end Go.Proofs.YtkipbcimjmialaaDoor
