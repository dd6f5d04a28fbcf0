/- counterpaneref5.Col: what it returns. -/
import Derived.Test.YtkipbcimjmialaaDoorA
namespace Go.Proofs.YtkipbcimjmialaaDoor
open Go.RowKit
set_option linter.unusedVariables false
set_option linter.unusedSimpArgs false

theorem colF_long {l : List UInt8} (h : 9 < l.length) : colF l = false := by
  unfold colF
  rw [decide_eq_false (show ¬ l.length ≤ 9 by omega)]
  simp
theorem colF_nolet {l : List UInt8} (h : allL l = false) : colF l = false := by
  unfold colF
  rw [h]
  simp
theorem colF_great {l : List UInt8} (h : 2199023255552 < colV l) : colF l = false := by
  unfold colF
  rw [decide_eq_false (show ¬ colV l ≤ 2199023255552 by omega)]
  simp
theorem colF_yes {l : List UInt8} (h0 : l ≠ []) (h1 : l.length ≤ 9) (h2 : allL l = true) (h3 : colV l ≤ 2199023255552) : colF l = true := by
  unfold colF
  rw [h2, decide_eq_true h3, decide_eq_true h1]
  have e0 : l.isEmpty = false := by cases l; exact absurd rfl h0; rfl
  rw [e0]
  rfl
theorem allL_no (s : ByteArray) (k : Nat) (h : k < s.size) (hd : let1 s[k] = false) : allL s.data.toList = false := by
  unfold allL
  rw [List.all_eq_false]
  exact ⟨s[k], get_mem s k h, by simp [hd]⟩
theorem colK_of {l : List UInt8} (b : Bool) (h : colF l = b) : Hid (colF l = b ∧ colK l = if b then (colV l : Int) - 1 else 0) := by
  refine ⟨h, ?_⟩
  unfold colK
  rw [h]

set_option maxHeartbeats 1000000 in
theorem rcol_any (s : ByteArray) (w : World) (hs : s.size ≤ 9223372036854775807) :
    Calls Tryd.prog 35 #[.string s] w fun e w' => e = .returned (.tuple #[.int .i64 (colK s.data.toList), .bool (colF s.data.toList)]) ∧ w' = w := by
  by_cases h0 : s.size = 0
  · have hF := colK_of (l := s.data.toList) false (by rw [show s.data.toList = [] from List.eq_nil_of_length_eq_zero (by rw [len_data]; exact h0)]; rfl)
    have h1 : (s.size : Int) < 1 := by omega
    clear h0
    go_enter Tryd.func35, Tryd.ntmps35
    go_wp2
    go_ret2
    exact ⟨by rw [hF.out.1, hF.out.2]; rfl, rfl⟩
  · have hp : 0 < s.size := by omega
    by_cases hg : 9 < s.size
    · have hF := colK_of (l := s.data.toList) false (colF_long (by rw [len_data]; exact hg))
      have h1 : ¬ (s.size : Int) < 1 := by omega
      clear h0
      go_enter Tryd.func35, Tryd.ntmps35
      go_wp2
      go_ret2
      exact ⟨by rw [hF.out.1, hF.out.2]; rfl, rfl⟩
    · clear h0
      go_enter Tryd.func35, Tryd.ntmps35
      go_wp2
      go_loop [4, 5] (fun a i => ∃ (k : Nat) (n : Int), k ≤ s.size ∧ i = .int .i64 k ∧ a = .int .i64 n ∧ 0 ≤ n ∧ n ≤ 7625597484986 ∧ Hid (allL (s.data.toList.take k) = true ∧ n = (colV (s.data.toList.take k) : Int))) (fun _ i => s.size - (intOf i).toNat)
      case atStart => exact ⟨0, 0, Nat.zero_le _, rfl, rfl, by omega, by omega, rfl, rfl⟩
      case round =>
        obtain ⟨k, n, hk, rfl, rfl, n0, n1, hn⟩ := hrel
        by_cases hlt : k < s.size
        · by_cases hd : let1 s[k] = true
          · have b0 : 65 ≤ (s[k].toNat : Int) := by unfold let1 at hd; simp at hd; omega
            have b1 : (s[k].toNat : Int) ≤ 90 := by unfold let1 at hd; simp at hd; omega
            have hv : Hid (allL (s.data.toList.take (k + 1)) = true ∧ (colV (s.data.toList.take (k + 1)) : Int) = n * 26 + ((s[k].toNat : Int) - 65) + 1) := by
              have := hn.out
              refine ⟨?_, ?_⟩
              · rw [take_snoc s k hlt, allL_app, this.1]
                unfold allL
                simp [hd]
              · rw [take_snoc s k hlt, colV_snoc, this.2]
                omega
            have hb := colV_nine _ hv.out.1 (by rw [List.length_take]; omega)
            have hb' : n * 26 + ((s[k].toNat : Int) - 65) + 1 ≤ 7625597484986 := by have := hv.out.2; omega
            clear hd hb
            go_wp2
            go_round
            case rel => exact ⟨k + 1, n * 26 + ((s[k].toNat : Int) - 65) + 1, by omega, by go_num, by go_num, by omega, by omega, hv.out.1, hv.out.2.symm⟩
            case measure => simp [intOf]; omega
          · have hF := colK_of false (colF_nolet (allL_no s k hlt (by simpa using hd)))
            by_cases b0 : (s[k].toNat : Int) < 65
            · clear hd
              go_wp2
              go_ret2
              exact ⟨by rw [hF.out.1, hF.out.2]; rfl, rfl⟩
            · have b1 : 90 < (s[k].toNat : Int) := by unfold let1 at hd; simp at hd; omega
              clear hd
              go_wp2
              go_ret2
              exact ⟨by rw [hF.out.1, hF.out.2]; rfl, rfl⟩
        · have hN : Hid (allL s.data.toList = true ∧ n = (colV s.data.toList : Int)) := by have := hn.out; rw [take_all s k (by omega)] at this; exact this
          by_cases hb : 2199023255552 < n
          · have hF := colK_of (l := s.data.toList) false (colF_great (by have := hN.out.2; omega))
            go_wp2
            go_ret2
            exact ⟨by rw [hF.out.1, hF.out.2]; rfl, rfl⟩
          · have hF := colK_of (l := s.data.toList) true (colF_yes (ne_of_pos hp) (by rw [len_data]; omega) hN.out.1 (by have := hN.out.2; omega))
            go_wp2
            go_ret2
            exact ⟨by rw [hF.out.1, hF.out.2, ← hN.out.2]; rfl, rfl⟩
end Go.Proofs.YtkipbcimjmialaaDoor
