/- a1.Col: what it returns. -/
import Derived.Test.YtkipbcimjmialaaDoorB2
namespace Go.Proofs.YtkipbcimjmialaaDoor
open Go.RowKit
set_option linter.unusedVariables false
set_option linter.unusedSimpArgs false

set_option maxHeartbeats 1000000 in
theorem col_any (s : ByteArray) (w : World) (hs : s.size ≤ 9223372036854775807) :
    Calls Tryd.prog 55 #[.string s] w fun e w' => e = .returned (.tuple #[.int .i64 (colK s.data.toList), .bool (colF s.data.toList)]) ∧ w' = w := by
  have HL := hid (fun W => leading_any s W hs)
  have hle := lead_le s.data.toList
  rw [len_data] at hle
  have hall := hid (allL_iff_lead s.data.toList)
  rw [len_data] at hall
  generalize lead s.data.toList = D at *
  by_cases h0 : s.size = 0
  · have hF := colK_of (l := s.data.toList) false (by rw [show s.data.toList = [] from List.eq_nil_of_length_eq_zero (by rw [len_data]; exact h0)]; rfl)
    have h1 : ((s.size : Int) == 0) = true := by rw [beq_iff_eq]; omega
    clear h0 hle
    go_enter Tryd.func55, Tryd.ntmps55
    go_wp2
    go_ret2
    exact ⟨by rw [hF.out.1, hF.out.2]; rfl, rfl⟩
  · have hp : 0 < s.size := by omega
    have h1 : ((s.size : Int) == 0) = false := by rw [beq_eq_false_iff_ne]; omega
    by_cases hg : 9 < s.size
    · have hF := colK_of (l := s.data.toList) false (colF_long (by rw [len_data]; exact hg))
      clear h0 hle
      go_enter Tryd.func55, Tryd.ntmps55
      go_wp2
      go_ret2
      exact ⟨by rw [hF.out.1, hF.out.2]; rfl, rfl⟩
    · by_cases hD : (D : Int) < (s.size : Int)
      · have hF := colK_of (l := s.data.toList) false (colF_nolet (by rw [hall.out]; exact decide_eq_false (by omega)))
        clear h0 hle
        go_enter Tryd.func55, Tryd.ntmps55
        go_wp2_with (go_at_call 54; refine (HL.out _).mono ?_; rintro e w1 ⟨rfl, rfl⟩)
        go_ret2
        exact ⟨by rw [hF.out.1, hF.out.2]; rfl, rfl⟩
      · have hA : Hid (allL s.data.toList = true) := by show _ = _; rw [hall.out]; exact decide_eq_true (by omega)
        clear h0 hle
        go_enter Tryd.func55, Tryd.ntmps55
        go_wp2_with (go_at_call 54; refine (HL.out _).mono ?_; rintro e w1 ⟨rfl, rfl⟩)
        go_loop [4, 23] (fun a i => ∃ (k : Nat) (n : Int), k ≤ s.size ∧ i = .int .i64 k ∧ a = .int .i64 n ∧ 0 ≤ n ∧ n ≤ 7625597484986 ∧ Hid (allL (s.data.toList.take k) = true ∧ n = (colV (s.data.toList.take k) : Int))) (fun _ i => s.size - (intOf i).toNat)
        case atStart => exact ⟨0, 0, Nat.zero_le _, rfl, rfl, by omega, by omega, rfl, rfl⟩
        case round =>
          obtain ⟨k, n, hk, rfl, rfl, n0, n1, hn⟩ := hrel
          by_cases hlt : k < s.size
          · have hd : let1 s[k] = true := by
              have h := allL_mem hA.out (get_mem s k hlt)
              exact let_yes (by omega) (by omega)
            have b0 : 65 ≤ (s[k].toNat : Int) := by unfold let1 at hd; simp at hd; omega
            have b1 : (s[k].toNat : Int) ≤ 90 := by unfold let1 at hd; simp at hd; omega
            have hv : Hid (allL (s.data.toList.take (k + 1)) = true ∧ (colV (s.data.toList.take (k + 1)) : Int) = n * 26 + ((s[k].toNat : Int) - 65) + 1) := by
              have := hn.out
              refine ⟨?_, ?_⟩
              · rw [take_snoc s k hlt, allL_app, this.1]
                unfold allL
                simp [hd]
              · rw [take_snoc s k hlt, colV_snoc, this.2]
                omega
            have hb := colV_nine _ hv.out.1 (by rw [List.length_take]; omega)
            have hb' : n * 26 + ((s[k].toNat : Int) - 65) + 1 ≤ 7625597484986 := by have := hv.out.2; omega
            clear hd hb
            go_wp2
            go_round
            case rel => exact ⟨k + 1, n * 26 + ((s[k].toNat : Int) - 65) + 1, by omega, by go_num, by go_num, by omega, by omega, hv.out.1, hv.out.2.symm⟩
            case measure => simp [intOf]; omega
          · have hN : Hid (allL s.data.toList = true ∧ n = (colV s.data.toList : Int)) := by have := hn.out; rw [take_all s k (by omega)] at this; exact this
            by_cases hb : 2199023255552 < n
            · have hF := colK_of (l := s.data.toList) false (colF_great (by have := hN.out.2; omega))
              go_wp2
              go_ret2
              exact ⟨by rw [hF.out.1, hF.out.2]; rfl, rfl⟩
            · have hF := colK_of (l := s.data.toList) true (colF_yes (ne_of_pos hp) (by rw [len_data]; omega) hN.out.1 (by have := hN.out.2; omega))
              go_wp2
              go_ret2
              exact ⟨by rw [hF.out.1, hF.out.2, ← hN.out.2]; rfl, rfl⟩
end Go.Proofs.YtkipbcimjmialaaDoor
