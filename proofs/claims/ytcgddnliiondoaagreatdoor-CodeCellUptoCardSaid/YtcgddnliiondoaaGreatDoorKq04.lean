/- counterpaneref5.num: what it returns. -/
import Derived.Test.YtcgddnliiondoaaGreatDoorKq00
set_option linter.unusedVariables false
set_option linter.unusedSimpArgs false
set_option maxRecDepth 100000
set_option maxHeartbeats 8000000
namespace Go.Proofs.YtcgddnliiondoaaGreatDoor
open Go.RowKit
theorem val_lt (l : List UInt8) (h : allD l = true) : val l + 1 ≤ 10 ^ l.length := by
  revert h
  refine rev_ind (P := fun l => allD l = true → val l + 1 ≤ 10 ^ l.length) (fun _ => by simp [val]) ?_ l
  · intro l c ih h
    rw [allD_app, Bool.and_eq_true] at h
    have h1 := ih h.1
    have h2 := allD_mem h.2 (c := c) (by simp)
    rw [val_snoc, List.length_append, List.length_singleton, Nat.pow_succ]
    omega
theorem val_fifteen (l : List UInt8) (h : allD l = true) (h9 : l.length ≤ 15) : val l ≤ 999999999999999 := by
  have h1 := val_lt l h
  have h2 : 10 ^ l.length ≤ 10 ^ 15 := Nat.pow_le_pow_right (by omega) h9
  omega
set_option maxHeartbeats 1000000 in
theorem num_any (s : ByteArray) (m : Nat) (M : Int) (w : World) (hM : Hid (M = (m : Int))) (M0 : 0 ≤ M) (M1 : M ≤ 2199023255552) (hs : s.size ≤ 9223372036854775807) :
    Calls Tryz.prog 102 #[.string s, .int .i64 M] w fun e w' => e = .returned (.int .i64 (numR s.data.toList m)) ∧ w' = w := by
  have HF : ∀ b : Bool, numF s.data.toList m = b → Hid (numR s.data.toList m = if b then (val s.data.toList : Int) else -1) := by
    intro b e
    show _ = _
    unfold numR
    rw [e]
  have et := hid (Lib.toList_data s)
  by_cases h0 : s.size = 0
  · have e0 : s.toList = [] := by rw [Lib.toList_data]; exact List.eq_nil_of_length_eq_zero (by rw [len_data]; exact h0)
    have hF := HF false (by rw [← et.out, e0]; rfl)
    have h1 : (s.size : Int) < 1 := by omega
    clear h0
    go_enter Tryz.func102, Tryz.ntmps102
    go_wp2
    go_ret
    exact ⟨ret_int (by rw [hF.out]; rfl), rfl⟩
  · have hp : 0 < s.size := by omega
    by_cases hg : 15 < s.size
    · have hF := HF false (numF_long _ _ (by rw [len_data]; exact hg) (by have := hM.out; omega))
      have h1 : ¬ (s.size : Int) < 1 := by omega
      clear h0
      go_enter Tryz.func102, Tryz.ntmps102
      go_wp2
      go_ret
      exact ⟨ret_int (by rw [hF.out]; rfl), rfl⟩
    have hh := hid (headD_get s hp)
    by_cases hz : s[0] = 48 ∧ 1 < s.size
    · have hF := HF false (numF_zero (by rw [hh.out]; exact hz.1) (by rw [len_data]; exact hz.2))
      have hc : (s[0].toNat : Int) = 48 := by rw [hz.1]; rfl
      have h1 := hz.2
      clear hz h0
      go_enter Tryz.func102, Tryz.ntmps102
      go_wp2
      go_ret
      exact ⟨ret_int (by rw [hF.out]; rfl), rfl⟩
    · have HZ : Hid (¬ (s.data.toList.headD 0 = 48 ∧ 1 < s.data.toList.length)) := by
        show ¬ _
        rw [hh.out, len_data]
        exact hz
      have hc : ((s[0].toNat : Int) == 48) = false ∨ ((s[0].toNat : Int) = 48 ∧ ¬ 1 < (s.size : Int)) := by
        by_cases h : s[0] = 48
        · exact .inr ⟨by rw [h]; rfl, fun g => hz ⟨h, by omega⟩⟩
        · exact .inl (byte_ne (n := 48) (by omega) h)
      clear hz h0
      rcases hc with hc | ⟨hc, h1⟩
      · go_enter Tryz.func102, Tryz.ntmps102
        go_wp2
        go_loop [5, 6] (fun a i => ∃ (k : Nat) (n : Int), k ≤ s.size ∧ i = .int .i64 k ∧ a = .int .i64 n ∧ 0 ≤ n ∧ n ≤ 999999999999999 ∧ Hid (allD (s.data.toList.take k) = true ∧ n = (val (s.data.toList.take k) : Int))) (fun _ i => s.size - (intOf i).toNat)
        case atStart => exact ⟨0, 0, Nat.zero_le _, rfl, rfl, by omega, by omega, rfl, rfl⟩
        case round =>
          obtain ⟨k, n, hk, rfl, rfl, n0, n1, hn⟩ := hrel
          by_cases hlt : k < s.size
          · by_cases hd : dig s[k] = true
            · have b0 : 48 ≤ (s[k].toNat : Int) := by unfold dig at hd; simp at hd; omega
              have b1 : (s[k].toNat : Int) ≤ 57 := by unfold dig at hd; simp at hd; omega
              have hv : Hid (allD (s.data.toList.take (k + 1)) = true ∧ (val (s.data.toList.take (k + 1)) : Int) = n * 10 + ((s[k].toNat : Int) - 48)) := by
                have := hn.out
                refine ⟨?_, ?_⟩
                · rw [take_snoc s k hlt, allD_app, this.1]
                  unfold allD
                  simp [hd]
                · rw [take_snoc s k hlt, val_snoc, this.2]
                  omega
              have hb := val_fifteen _ hv.out.1 (by rw [List.length_take]; omega)
              have hb' : n * 10 + ((s[k].toNat : Int) - 48) ≤ 999999999999999 := by have := hv.out.2; omega
              clear hd hb
              go_wp2
              go_round
              case rel => exact ⟨k + 1, n * 10 + ((s[k].toNat : Int) - 48), by omega, by go_num, by go_num, by omega, by omega, hv.out.1, hv.out.2.symm⟩
              case measure => simp [intOf]; omega
            · have hF := HF false (numF_nodig (allD_no s k hlt (by simpa using hd)))
              by_cases b0 : (s[k].toNat : Int) < 48
              · clear hd
                go_wp2
                go_ret
                exact ⟨ret_int (by rw [hF.out]; rfl), rfl⟩
              · have b1 : 57 < (s[k].toNat : Int) := by unfold dig at hd; simp at hd; omega
                clear hd
                go_wp2
                go_ret
                exact ⟨ret_int (by rw [hF.out]; rfl), rfl⟩
          · have hN : Hid (allD s.data.toList = true ∧ n = (val s.data.toList : Int)) := by have := hn.out; rw [take_all s k (by omega)] at this; exact this
            by_cases hb : M < n
            · have hF := HF false (numF_great (by have := hN.out.2; have := hM.out; omega))
              go_wp2
              go_ret
              exact ⟨ret_int (by rw [hF.out]; rfl), rfl⟩
            · have hF := HF true (numF_yes (ne_of_pos hp) HZ.out hN.out.1 (by have := hN.out.2; have := hM.out; omega))
              go_wp2
              go_ret
              exact ⟨ret_int (by rw [hF.out, hN.out.2]; rfl), rfl⟩
      · go_enter Tryz.func102, Tryz.ntmps102
        go_wp2
        go_loop [5, 6] (fun a i => ∃ (k : Nat) (n : Int), k ≤ s.size ∧ i = .int .i64 k ∧ a = .int .i64 n ∧ 0 ≤ n ∧ n ≤ 999999999999999 ∧ Hid (allD (s.data.toList.take k) = true ∧ n = (val (s.data.toList.take k) : Int))) (fun _ i => s.size - (intOf i).toNat)
        case atStart => exact ⟨0, 0, Nat.zero_le _, rfl, rfl, by omega, by omega, rfl, rfl⟩
        case round =>
          obtain ⟨k, n, hk, rfl, rfl, n0, n1, hn⟩ := hrel
          by_cases hlt : k < s.size
          · by_cases hd : dig s[k] = true
            · have b0 : 48 ≤ (s[k].toNat : Int) := by unfold dig at hd; simp at hd; omega
              have b1 : (s[k].toNat : Int) ≤ 57 := by unfold dig at hd; simp at hd; omega
              have hv : Hid (allD (s.data.toList.take (k + 1)) = true ∧ (val (s.data.toList.take (k + 1)) : Int) = n * 10 + ((s[k].toNat : Int) - 48)) := by
                have := hn.out
                refine ⟨?_, ?_⟩
                · rw [take_snoc s k hlt, allD_app, this.1]
                  unfold allD
                  simp [hd]
                · rw [take_snoc s k hlt, val_snoc, this.2]
                  omega
              have hb := val_fifteen _ hv.out.1 (by rw [List.length_take]; omega)
              have hb' : n * 10 + ((s[k].toNat : Int) - 48) ≤ 999999999999999 := by have := hv.out.2; omega
              clear hd hb
              go_wp2
              go_round
              case rel => exact ⟨k + 1, n * 10 + ((s[k].toNat : Int) - 48), by omega, by go_num, by go_num, by omega, by omega, hv.out.1, hv.out.2.symm⟩
              case measure => simp [intOf]; omega
            · have hF := HF false (numF_nodig (allD_no s k hlt (by simpa using hd)))
              by_cases b0 : (s[k].toNat : Int) < 48
              · clear hd
                go_wp2
                go_ret
                exact ⟨ret_int (by rw [hF.out]; rfl), rfl⟩
              · have b1 : 57 < (s[k].toNat : Int) := by unfold dig at hd; simp at hd; omega
                clear hd
                go_wp2
                go_ret
                exact ⟨ret_int (by rw [hF.out]; rfl), rfl⟩
          · have hN : Hid (allD s.data.toList = true ∧ n = (val s.data.toList : Int)) := by have := hn.out; rw [take_all s k (by omega)] at this; exact this
            by_cases hb : M < n
            · have hF := HF false (numF_great (by have := hN.out.2; have := hM.out; omega))
              go_wp2
              go_ret
              exact ⟨ret_int (by rw [hF.out]; rfl), rfl⟩
            · have hF := HF true (numF_yes (ne_of_pos hp) HZ.out hN.out.1 (by have := hN.out.2; have := hM.out; omega))
              go_wp2
              go_ret
              exact ⟨ret_int (by rw [hF.out, hN.out.2]; rfl), rfl⟩
end Go.Proofs.YtcgddnliiondoaaGreatDoor
