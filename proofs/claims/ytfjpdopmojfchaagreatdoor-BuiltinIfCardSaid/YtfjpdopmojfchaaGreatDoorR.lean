/- fixnum.Parse and what it calls: any text is read as a number, or refused. -/
import Derived.Test.YtfjpdopmojfchaaGreatDoorP
namespace Go.Proofs.YtfjpdopmojfchaaGreatDoor
open Go.RowKit
theorem take_snoc (s : ByteArray) (k : Nat) (h : k < s.size) : s.data.toList.take (k + 1) = s.data.toList.take k ++ [s[k]] := by
  rw [List.take_succ_eq_append_getElem (by simpa using h)]; rfl
theorem take_all (s : ByteArray) (k : Nat) (h : s.size ≤ k) : s.data.toList.take k = s.data.toList :=
  List.take_of_length_le (by simpa using h)
theorem get_mem (s : ByteArray) (k : Nat) (h : k < s.size) : s[k] ∈ s.data.toList := by
  have : s[k] = s.data.toList[k]'(by simpa using h) := rfl
  rw [this]
  exact List.getElem_mem _
theorem allD_no (s : ByteArray) (k : Nat) (h : k < s.size) (hd : dig s[k] = false) : allD s.data.toList = false := by
  unfold allD
  rw [List.all_eq_false]
  exact ⟨s[k], get_mem s k h, by simp [hd]⟩
theorem ret_bool {a b : Bool} (h : a = b) : Ending.returned (.bool a) = .returned (.bool b) := by rw [h]
set_option maxHeartbeats 400000 in
theorem allDigits_any (s : ByteArray) (w : World) (hs : s.size ≤ 9223372036854775807) :
    Calls Tryz.prog 167 #[.string s] w fun e w' => e = .returned (.bool (allD s.data.toList)) ∧ w' = w := by
  go_enter Tryz.func167, Tryz.ntmps167
  go_wp2
  go_loop [6] (fun i => ∃ k : Nat, k ≤ s.size ∧ i = .int .i64 k ∧ Hid (allD (s.data.toList.take k) = true)) (fun i => s.size - (intOf i).toNat)
  case atStart => exact ⟨0, Nat.zero_le _, rfl, rfl⟩
  case round =>
    obtain ⟨k, hk, rfl, ha⟩ := hrel
    by_cases hlt : k < s.size
    · by_cases hd : dig s[k] = true
      · have ha' : Hid (allD (s.data.toList.take (k + 1)) = true) := by
          show _ = _
          rw [take_snoc s k hlt]
          have := ha.out
          unfold allD at *
          rw [List.all_append, this]
          simp [hd]
        have b0 : 48 ≤ (s[k].toNat : Int) := by unfold dig at hd; simp at hd; omega
        have b1 : (s[k].toNat : Int) ≤ 57 := by unfold dig at hd; simp at hd; omega
        clear hd
        go_wp2
        go_round
        case rel => exact ⟨k + 1, by omega, by go_num, ha'⟩
        case measure => simp [intOf]; omega
      · have hN := hid (allD_no s k hlt (by simpa using hd))
        by_cases b0 : (s[k].toNat : Int) < 48
        · clear hd
          go_wp2
          go_ret
          exact ⟨ret_bool hN.out.symm, rfl⟩
        · have b1 : 57 < (s[k].toNat : Int) := by unfold dig at hd; simp at hd; omega
          clear hd
          go_wp2
          go_ret
          exact ⟨ret_bool hN.out.symm, rfl⟩
    · have hN : Hid (allD s.data.toList = true) := by show _ = _; have := ha.out; rw [take_all s k (by omega)] at this; exact this
      go_wp2
      go_ret
      exact ⟨ret_bool hN.out.symm, rfl⟩
theorem val_snoc (l : List UInt8) (c : UInt8) : val (l ++ [c]) = val l * 10 + (c.toNat - 48) := by unfold val; rw [List.foldl_append]; rfl
theorem foldl_ge : ∀ (m : List UInt8) (n : Nat), n ≤ m.foldl (fun n c => n * 10 + (c.toNat - 48)) n
  | [], n => Nat.le_refl _
  | c :: m, n => by
    have := foldl_ge m (n * 10 + (c.toNat - 48))
    rw [List.foldl_cons]
    omega
theorem val_ge (l m : List UInt8) : val l ≤ val (l ++ m) := by unfold val; rw [List.foldl_append]; exact foldl_ge m _
/-- what readDigits answers: the number; or that it is too great for any Fix -/
def RdPost (V : Nat) (e : Ending) : Prop := ∃ (n : Int) (ok : Bool), e = .returned (.tuple #[.int .u64 n, .bool ok]) ∧ 0 ≤ n ∧ n < 18446744073709551616 ∧
      (ok = true → n = (V : Int)) ∧ (ok = false → 9223372036854775810 ≤ V)
set_option maxHeartbeats 400000 in
theorem readDigits_any (s : ByteArray) (w : World) (hs : s.size ≤ 9223372036854775807) (hd : allD s.data.toList = true) :
    Calls Tryz.prog 154 #[.string s] w fun e w' => RdPost (val s.data.toList) e ∧ w' = w := by
  have HD := hid hd
  clear hd
  go_enter Tryz.func154, Tryz.ntmps154
  go_wp2
  go_loop [4, 8] (fun a i => ∃ (k : Nat) (n : Int), k ≤ s.size ∧ i = .int .i64 k ∧ a = .int .u64 n ∧ 0 ≤ n ∧ n ≤ 9223372036854775809 ∧ Hid (n = (val (s.data.toList.take k) : Int))) (fun _ i => s.size - (intOf i).toNat)
  case atStart => exact ⟨0, 0, Nat.zero_le _, rfl, rfl, by omega, by omega, rfl⟩
  case round =>
    obtain ⟨k, n, hk, rfl, rfl, n0, n1, hn⟩ := hrel
    by_cases hlt : k < s.size
    · have hdk : dig s[k] = true := by
        have := HD.out
        unfold allD at this
        rw [List.all_eq_true] at this
        exact this _ (get_mem s k hlt)
      have b0 : 48 ≤ (s[k].toNat : Int) := by unfold dig at hdk; simp at hdk; omega
      have b1 : (s[k].toNat : Int) ≤ 57 := by unfold dig at hdk; simp at hdk; omega
      have hv : Hid ((val (s.data.toList.take (k + 1)) : Int) = n * 10 + ((s[k].toNat : Int) - 48)) := by
        show _ = _
        rw [take_snoc s k hlt, val_snoc, hn.out]
        omega
      clear hdk
      by_cases hb : 922337203685477580 < n
      · have hN : Hid (9223372036854775810 ≤ val s.data.toList) := by
          show _ ≤ _
          have h1 := val_ge (s.data.toList.take (k + 1)) (s.data.toList.drop (k + 1))
          rw [List.take_append_drop] at h1
          have h2 := hv.out
          omega
        go_wp2
        go_ret2
        exact ⟨⟨0, false, rfl, by omega, by omega, by simp, fun _ => hN.out⟩, rfl⟩
      · go_wp2
        go_round
        case rel => exact ⟨k + 1, n * 10 + ((s[k].toNat : Int) - 48), by omega, by go_num, rfl, by omega, by omega, hv.out.symm⟩
        case measure => simp [intOf]; omega
    · have hN : Hid (n = (val s.data.toList : Int)) := by show _ = _; have := hn.out; rw [take_all s k (by omega)] at this; exact this
      go_wp2
      go_ret2
      exact ⟨⟨n, true, rfl, n0, by omega, fun _ => hN.out, by simp⟩, rfl⟩
end Go.Proofs.YtfjpdopmojfchaaGreatDoor
