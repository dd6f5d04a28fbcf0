/- fixnum.Sum: of all numbers of a slice: exact, or refused. -/
import Derived.Test.YtfjpdopmojfchaaGreatDoorQ
import Derived.Test.YtfjpdopmojfchaaGreatDoorAdd64
namespace Go.Proofs.YtfjpdopmojfchaaGreatDoor
open Go.RowKit Go.Shelf
theorem ret_two {k : IntKind} {a b : Int} {c d : Bool} (h : a = b) (g : c = d) : Ending.returned (.tuple #[.int k a, .bool c]) = .returned (.tuple #[.int k b, .bool d]) := by rw [h, g]
theorem add64 (x y : Int) (hx : 0 ≤ x) (hy : 0 ≤ y) (w : World) : (callFunc 136 #[.int .u64 x, .int .u64 y, .int .u64 0]).run Tryz.prog w =
    .ok (.value (.tuple #[.int .u64 ((x + y) % 18446744073709551616), .int .u64 ((x + y) / 18446744073709551616)])) w := by
  obtain ⟨x, rfl⟩ := Int.eq_ofNat_of_zero_le hx
  obtain ⟨y, rfl⟩ := Int.eq_ofNat_of_zero_le hy
  refine (Any7.bits_Add64 Tryz.lays25 x y 0 (by omega) w).trans ?_
  congr 5 <;> omega
set_option maxHeartbeats 400000 in
theorem sum_row (b off len cap : Nat) (zs : List Int) (w : World) (hl : zs.length = len) (hm : len ≤ 140737488355328) (hf : ∀ i, i < len → Fx (zs.getD i 0))
    (hc : ∀ i, i < len → w.cell? ⟨b, off + i, none⟩ = some (.int .i64 (zs.getD i 0))) :
    Calls Tryz.prog 106 #[.slice (some ⟨b, off, none⟩) len cap] w fun e w' => e = .returned (.tuple #[.int .i64 (keep zs.sum), .bool (fitB zs.sum)]) ∧ Q w w' := by
  have HC := hid hc
  have HF := hid hf
  have HL := hid hl
  clear hc hf hl
  go_enter Tryz.func106, Tryz.ntmps106
  go_wp2
  go_loop [4, 5, 12] (fun a b i => ∃ (k : Nat) (h l : Int), k ≤ len ∧ i = .int .i64 k ∧ a = .int .i64 h ∧ b = .int .u64 l ∧ 0 ≤ l ∧ l < 18446744073709551616 ∧ Hid (h * 18446744073709551616 + l = (zs.take k).sum) ∧ -(k : Int) ≤ h ∧ h ≤ k) (fun _ _ i => len - (intOf i).toNat)
  case atStart => exact ⟨0, 0, 0, Nat.zero_le _, rfl, rfl, rfl, by omega, by omega, by show _ = _; simp, by omega, by omega⟩
  case round =>
    obtain ⟨k, h, l, hk, rfl, rfl, rfl, l0, l1, hs, h0, h1⟩ := hrel
    by_cases hlt : k < len
    · have hcell := HC.out k hlt
      obtain ⟨z0, z1⟩ := HF.out k hlt
      have ht : Hid ((zs.take (k + 1)).sum = (zs.take k).sum + zs.getD k 0) := by
        show _ = _
        have hl := HL.out
        rw [List.take_succ_eq_append_getElem (by omega), List.sum_append]
        simp [List.getD_eq_getElem?_getD, List.getElem?_eq_getElem (show k < zs.length by omega)]
      generalize zs.getD k 0 = z at *
      obtain ⟨zu, hzu, z2, z3⟩ : ∃ zu : Int, zu = z % 18446744073709551616 ∧ 0 ≤ zu ∧ zu < 18446744073709551616 := ⟨_, rfl, by omega, by omega⟩
      have eZ : IntKind.u64.wrap z = zu := by rw [IntKind.wrap_u64, hzu]
      have HZ := hid hzu
      clear hzu
      have hadd := add64 l zu l0 z2
      obtain ⟨m, hm1, m0, m1⟩ : ∃ m : Int, m = (l + zu) % 18446744073709551616 ∧ 0 ≤ m ∧ m < 18446744073709551616 := ⟨_, rfl, by omega, by omega⟩
      obtain ⟨c, hc1, c0, c1⟩ : ∃ c : Int, c = (l + zu) / 18446744073709551616 ∧ 0 ≤ c ∧ c ≤ 1 := ⟨_, rfl, by omega, by omega⟩
      rw [← hm1, ← hc1] at hadd
      have HM := hid hm1
      have HC1 := hid hc1
      clear hm1 hc1
      by_cases hz : z < 0
      · have HE : Hid ((h + (-1 + c)) * 18446744073709551616 + m = (zs.take (k + 1)).sum) := by
          show _ = _
          have a1 := HZ.out; have a2 := HM.out; have a3 := HC1.out; have a4 := hs.out; have a5 := ht.out
          rw [a5, ← a4]
          omega
        go_wp2
        go_round
        case rel => exact ⟨k + 1, h + (-1 + c), m, by omega, by go_num, rfl, rfl, m0, m1, HE, by omega, by omega⟩
        case measure => simp [intOf]; omega
      · have HE : Hid ((h + c) * 18446744073709551616 + m = (zs.take (k + 1)).sum) := by
          show _ = _
          have a1 := HZ.out; have a2 := HM.out; have a3 := HC1.out; have a4 := hs.out; have a5 := ht.out
          rw [a5, ← a4]
          omega
        go_wp2
        go_round
        case rel => exact ⟨k + 1, h + c, m, by omega, by go_num, by go_num, rfl, m0, m1, HE, by omega, by omega⟩
        case measure => simp [intOf]; omega
    · have hke : k = len := by omega
      have hS : Hid (h * 18446744073709551616 + l = zs.sum) := by
        show _ = _
        have a := hs.out
        rw [List.take_of_length_le (by have := HL.out; omega)] at a
        exact a
      clear hke
      by_cases hl : l < 9223372036854775808
      · by_cases hh : h = 0
        · have hf : fitB zs.sum = true := fitB_yes (by have := hS.out; omega) (by have := hS.out; omega)
          have hK : Hid (l = keep zs.sum) := by show _ = _; rw [keep_yes hf]; have := hS.out; omega
          have hF := hid hf
          subst hh
          clear hf
          go_wp2
          go_ret2
          exact ⟨ret_two hK.out hF.out.symm, Q.refl _⟩
        · have hf : fitB zs.sum = false := fitB_no (by have := hS.out; omega)
          have hK : Hid (0 = keep zs.sum) := by show _ = _; rw [keep_no hf]
          have hF := hid hf
          have h2 : (h != 0) = true := by simp [hh]
          clear hf hh
          go_wp2
          go_ret2
          exact ⟨ret_two hK.out hF.out.symm, Q.refl _⟩
      · have eL : wrap64 l = l - 18446744073709551616 := by unfold wrap64; omega
        by_cases hh : h = -1
        · have hf : fitB zs.sum = true := fitB_yes (by have := hS.out; omega) (by have := hS.out; omega)
          have hK : Hid (l - 18446744073709551616 = keep zs.sum) := by show _ = _; rw [keep_yes hf]; have := hS.out; omega
          have hF := hid hf
          have hE := hid eL
          have hn : wrap64 l < 0 := by omega
          clear eL
          subst hh
          clear hf
          go_wp2
          go_ret2
          exact ⟨ret_two (hE.out.trans hK.out) hF.out.symm, Q.refl _⟩
        · have hf : fitB zs.sum = false := fitB_no (by have := hS.out; omega)
          have hK : Hid (0 = keep zs.sum) := by show _ = _; rw [keep_no hf]
          have hF := hid hf
          have hn : wrap64 l < 0 := by omega
          have h2 : (h != -1) = true := by simp [hh]
          clear hf hh eL
          go_wp2
          go_ret2
          exact ⟨ret_two hK.out hF.out.symm, Q.refl _⟩
end Go.Proofs.YtfjpdopmojfchaaGreatDoor
