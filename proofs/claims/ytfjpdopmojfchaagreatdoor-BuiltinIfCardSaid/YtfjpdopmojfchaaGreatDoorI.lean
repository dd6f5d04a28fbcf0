/- Numbers of six digits, further: which is less; a magnitude with its sign as a number. -/
import Derived.Test.YtfjpdopmojfchaaGreatDoorH
import Derived.Test.YtfjpdopmojfchaaGreatDoorG
import Derived.Laws.Bits64b
namespace Go.Proofs.YtfjpdopmojfchaaGreatDoor
open Go.RowKit
theorem ret_bool' {a b : Bool} (h : a = b) : Ending.returned (.bool a) = .returned (.bool b) := by rw [h]
set_option maxHeartbeats 2000000 in
theorem less_any (a0 a1 a2 a3 a4 a5 a b0 b1 b2 b3 b4 b5 b : Int) (w : World) (ha : Dg a0 a1 a2 a3 a4 a5 a) (hb : Dg b0 b1 b2 b3 b4 b5 b) :
    Calls Tryz.prog 119 #[.agg #[.int .u64 a0, .int .u64 a1, .int .u64 a2, .int .u64 a3, .int .u64 a4, .int .u64 a5], .agg #[.int .u64 b0, .int .u64 b1, .int .u64 b2, .int .u64 b3, .int .u64 b4, .int .u64 b5]] w fun e w' => e = .returned (.bool (decide (a < b))) ∧ Q w w' := by
  have HA := hid ha
  have HB := hid hb
  clear ha hb
  go_enter Tryz.func119, Tryz.ntmps119
  go_wp2
  refine wp_loop_rounds 7 ?_
  rw [rounds_succ]
  go_wp2
  by_cases h5 : a5 ≠ b5
  · have n5 : (a5 != b5) = true := by rw [bne_iff_ne]; exact h5
    have HE : Hid (decide (a5 < b5) = decide (a < b)) := by
      obtain ⟨x0, y0, x1, y1, x2, y2, x3, y3, x4, y4, x5, y5, ea⟩ := HA.out
      obtain ⟨u0, v0, u1, v1, u2, v2, u3, v3, u4, v4, u5, v5, eb⟩ := HB.out
      show _ = _
      rw [decide_eq_decide]
      omega
    go_region
    go_wp2
    go_region
    go_wp2
    go_ret
    exact ⟨ret_bool' HE.out, (by repeat (first | exact Q.refl _ | refine Q.drew ?_ | refine Q.alloc ?_ _))⟩
  have h5' : a5 = b5 := Decidable.not_not.1 h5
  clear h5
  subst h5'
  go_region
  go_wp2
  rw [rounds_succ]
  go_wp2
  by_cases h4 : a4 ≠ b4
  · have n4 : (a4 != b4) = true := by rw [bne_iff_ne]; exact h4
    have HE : Hid (decide (a4 < b4) = decide (a < b)) := by
      obtain ⟨x0, y0, x1, y1, x2, y2, x3, y3, x4, y4, x5, y5, ea⟩ := HA.out
      obtain ⟨u0, v0, u1, v1, u2, v2, u3, v3, u4, v4, u5, v5, eb⟩ := HB.out
      show _ = _
      rw [decide_eq_decide]
      omega
    go_region
    go_wp2
    go_region
    go_wp2
    go_ret
    exact ⟨ret_bool' HE.out, (by repeat (first | exact Q.refl _ | refine Q.drew ?_ | refine Q.alloc ?_ _))⟩
  have h4' : a4 = b4 := Decidable.not_not.1 h4
  clear h4
  subst h4'
  go_region
  go_wp2
  rw [rounds_succ]
  go_wp2
  by_cases h3 : a3 ≠ b3
  · have n3 : (a3 != b3) = true := by rw [bne_iff_ne]; exact h3
    have HE : Hid (decide (a3 < b3) = decide (a < b)) := by
      obtain ⟨x0, y0, x1, y1, x2, y2, x3, y3, x4, y4, x5, y5, ea⟩ := HA.out
      obtain ⟨u0, v0, u1, v1, u2, v2, u3, v3, u4, v4, u5, v5, eb⟩ := HB.out
      show _ = _
      rw [decide_eq_decide]
      omega
    go_region
    go_wp2
    go_region
    go_wp2
    go_ret
    exact ⟨ret_bool' HE.out, (by repeat (first | exact Q.refl _ | refine Q.drew ?_ | refine Q.alloc ?_ _))⟩
  have h3' : a3 = b3 := Decidable.not_not.1 h3
  clear h3
  subst h3'
  go_region
  go_wp2
  rw [rounds_succ]
  go_wp2
  by_cases h2 : a2 ≠ b2
  · have n2 : (a2 != b2) = true := by rw [bne_iff_ne]; exact h2
    have HE : Hid (decide (a2 < b2) = decide (a < b)) := by
      obtain ⟨x0, y0, x1, y1, x2, y2, x3, y3, x4, y4, x5, y5, ea⟩ := HA.out
      obtain ⟨u0, v0, u1, v1, u2, v2, u3, v3, u4, v4, u5, v5, eb⟩ := HB.out
      show _ = _
      rw [decide_eq_decide]
      omega
    go_region
    go_wp2
    go_region
    go_wp2
    go_ret
    exact ⟨ret_bool' HE.out, (by repeat (first | exact Q.refl _ | refine Q.drew ?_ | refine Q.alloc ?_ _))⟩
  have h2' : a2 = b2 := Decidable.not_not.1 h2
  clear h2
  subst h2'
  go_region
  go_wp2
  rw [rounds_succ]
  go_wp2
  by_cases h1 : a1 ≠ b1
  · have n1 : (a1 != b1) = true := by rw [bne_iff_ne]; exact h1
    have HE : Hid (decide (a1 < b1) = decide (a < b)) := by
      obtain ⟨x0, y0, x1, y1, x2, y2, x3, y3, x4, y4, x5, y5, ea⟩ := HA.out
      obtain ⟨u0, v0, u1, v1, u2, v2, u3, v3, u4, v4, u5, v5, eb⟩ := HB.out
      show _ = _
      rw [decide_eq_decide]
      omega
    go_region
    go_wp2
    go_region
    go_wp2
    go_ret
    exact ⟨ret_bool' HE.out, (by repeat (first | exact Q.refl _ | refine Q.drew ?_ | refine Q.alloc ?_ _))⟩
  have h1' : a1 = b1 := Decidable.not_not.1 h1
  clear h1
  subst h1'
  go_region
  go_wp2
  rw [rounds_succ]
  go_wp2
  by_cases h0 : a0 ≠ b0
  · have n0 : (a0 != b0) = true := by rw [bne_iff_ne]; exact h0
    have HE : Hid (decide (a0 < b0) = decide (a < b)) := by
      obtain ⟨x0, y0, x1, y1, x2, y2, x3, y3, x4, y4, x5, y5, ea⟩ := HA.out
      obtain ⟨u0, v0, u1, v1, u2, v2, u3, v3, u4, v4, u5, v5, eb⟩ := HB.out
      show _ = _
      rw [decide_eq_decide]
      omega
    go_region
    go_wp2
    go_region
    go_wp2
    go_ret
    exact ⟨ret_bool' HE.out, (by repeat (first | exact Q.refl _ | refine Q.drew ?_ | refine Q.alloc ?_ _))⟩
  have h0' : a0 = b0 := Decidable.not_not.1 h0
  clear h0
  subst h0'
  go_region
  go_wp2
  have HE : Hid (false = decide (a < b)) := by
    have ea := HA.out.e
    have eb := HB.out.e
    show _ = _
    rw [eq_comm, decide_eq_false_iff_not]
    omega
  rw [rounds_succ]
  go_wp2
  go_ret
  exact ⟨ret_bool' HE.out, (by repeat (first | exact Q.refl _ | refine Q.drew ?_ | refine Q.alloc ?_ _))⟩
theorem or_nat (a b : Nat) (ha : a < 4294967296) (hb : b < 4294967296) : bits BinOp.or IntKind.u64 (a : Int) (b : Int) = ((a ||| b : Nat) : Int) ∧ a ||| b < 4294967296 := by
  refine ⟨bits_or_u64_nat a b (by omega) (by omega), ?_⟩
  exact Nat.or_lt_two_pow (n := 32) ha hb
/-- are there digits beyond two? -/
theorem or_four (a b c d : Int) (a0 : 0 ≤ a) (a1 : a < 4294967296) (b0 : 0 ≤ b) (b1 : b < 4294967296) (c0 : 0 ≤ c) (c1 : c < 4294967296) (d0 : 0 ≤ d) (d1 : d < 4294967296) (h : 0 < a ∨ 0 < b ∨ 0 < c ∨ 0 < d) :
    (bits BinOp.or IntKind.u64 (bits BinOp.or IntKind.u64 (bits BinOp.or IntKind.u64 a b) c) d != 0) = true := by
  obtain ⟨a, rfl⟩ := Int.eq_ofNat_of_zero_le a0
  obtain ⟨b, rfl⟩ := Int.eq_ofNat_of_zero_le b0
  obtain ⟨c, rfl⟩ := Int.eq_ofNat_of_zero_le c0
  obtain ⟨d, rfl⟩ := Int.eq_ofNat_of_zero_le d0
  obtain ⟨e1, l1⟩ := or_nat a b (by omega) (by omega)
  obtain ⟨e2, l2⟩ := or_nat (a ||| b) c l1 (by omega)
  obtain ⟨e3, _⟩ := or_nat (a ||| b ||| c) d l2 (by omega)
  rw [e1, e2, e3, bne_iff_ne]
  intro hz
  have hz' : a ||| b ||| c ||| d = 0 := by omega
  rw [Nat.or_eq_zero_iff, Nat.or_eq_zero_iff, Nat.or_eq_zero_iff] at hz'
  omega
set_option maxHeartbeats 1000000 in
theorem fix_big (a0 a1 a2 a3 a4 a5 a : Int) (neg : Bool) (w : World) (ha : Dg a0 a1 a2 a3 a4 a5 a) (h : 18446744073709551616 ≤ a) :
    Calls Tryz.prog 98 #[.agg #[.int .u64 a0, .int .u64 a1, .int .u64 a2, .int .u64 a3, .int .u64 a4, .int .u64 a5], .bool neg] w fun e w' => e = .returned (.tuple #[.int .i64 (keep (sgn a neg)), .bool (fitB (sgn a neg))]) ∧ Q w w' := by
  have hf : fitB (sgn a neg) = false := by
    apply fitB_no
    cases neg
    · show a < _ ∨ _ < a; omega
    · show -a < _ ∨ _ < -a; omega
  rw [hf, keep_no hf]
  obtain ⟨x0, y0, x1, y1, x2, y2, x3, y3, x4, y4, x5, y5, ea⟩ := ha
  have hb := or_four a2 a3 a4 a5 x2 y2 x3 y3 x4 y4 x5 y5 (by omega)
  clear ea h hf
  go_enter Tryz.func98, Tryz.ntmps98
  go_wp2
  go_ret2
  exact ⟨rfl, (by repeat (first | exact Q.refl _ | refine Q.drew ?_ | refine Q.alloc ?_ _))⟩
theorem fix_facts (a0 a1 a2 a3 a4 a5 a : Int) (ha : Dg a0 a1 a2 a3 a4 a5 a) (h : a < 18446744073709551616) : a2 = 0 ∧ a3 = 0 ∧ a4 = 0 ∧ a5 = 0 ∧ 0 ≤ a ∧ a0 + a1 * 4294967296 = a := by
  obtain ⟨x0, y0, x1, y1, x2, y2, x3, y3, x4, y4, x5, y5, ea⟩ := ha
  omega
set_option maxHeartbeats 1000000 in
theorem fix_small (a0 a1 a : Int) (neg : Bool) (w : World) (x0 : 0 ≤ a0) (y0 : a0 < 4294967296) (x1 : 0 ≤ a1) (y1 : a1 < 4294967296) (e : Hid (a0 + a1 * 4294967296 = a)) :
    Calls Tryz.prog 98 #[.agg #[.int .u64 a0, .int .u64 a1, .int .u64 0, .int .u64 0, .int .u64 0, .int .u64 0], .bool neg] w fun e w' => e = .returned (.tuple #[.int .i64 (keep (sgn a neg)), .bool (fitB (sgn a neg))]) ∧ Q w w' := by
  cases neg
  · have es : sgn a false = a := rfl
    rw [es]
    clear es
    by_cases h : a < 9223372036854775808
    · have hf : fitB a = true := fitB_yes (by have := e.out; omega) (by omega)
      rw [hf, keep_yes hf]
      have h1 : a0 + a1 * 4294967296 < 9223372036854775808 := by have := e.out; omega
      clear hf h
      go_enter Tryz.func98, Tryz.ntmps98
      go_wp2
      go_ret2
      exact ⟨ret_pair e.out, (by repeat (first | exact Q.refl _ | refine Q.drew ?_ | refine Q.alloc ?_ _))⟩
    · have hf : fitB a = false := fitB_no (by omega)
      rw [hf, keep_no hf]
      have h1 : 9223372036854775808 ≤ a0 + a1 * 4294967296 := by have := e.out; omega
      clear hf h
      go_enter Tryz.func98, Tryz.ntmps98
      go_wp2
      go_ret2
      exact ⟨rfl, (by repeat (first | exact Q.refl _ | refine Q.drew ?_ | refine Q.alloc ?_ _))⟩
  · have es : sgn a true = -a := rfl
    rw [es]
    clear es
    by_cases h : 9223372036854775808 < a
    · have hf : fitB (-a) = false := fitB_no (by omega)
      rw [hf, keep_no hf]
      have h1 : 9223372036854775808 < a0 + a1 * 4294967296 := by have := e.out; omega
      clear hf h
      go_enter Tryz.func98, Tryz.ntmps98
      go_wp2
      go_ret2
      exact ⟨rfl, (by repeat (first | exact Q.refl _ | refine Q.drew ?_ | refine Q.alloc ?_ _))⟩
    · have hf : fitB (-a) = true := fitB_yes (by omega) (by have := e.out; omega)
      rw [hf, keep_yes hf]
      have h1 : a0 + a1 * 4294967296 ≤ 9223372036854775808 := by have := e.out; omega
      by_cases hz : a = 0
      · have z0 : a0 = 0 := by have := e.out; omega
        have z1 : a1 = 0 := by have := e.out; omega
        subst hz z0 z1
        clear hf h h1
        go_enter Tryz.func98, Tryz.ntmps98
        go_wp2
        go_ret2
        exact ⟨rfl, (by repeat (first | exact Q.refl _ | refine Q.drew ?_ | refine Q.alloc ?_ _))⟩
      · have h2 : 0 < a0 + a1 * 4294967296 := by have := e.out; omega
        clear hf h hz
        go_enter Tryz.func98, Tryz.ntmps98
        go_wp2
        go_ret2
        exact ⟨ret_pair (by have := e.out; omega), (by repeat (first | exact Q.refl _ | refine Q.drew ?_ | refine Q.alloc ?_ _))⟩
theorem fix_any (a0 a1 a2 a3 a4 a5 a : Int) (neg : Bool) (w : World) (ha : Dg a0 a1 a2 a3 a4 a5 a) :
    Calls Tryz.prog 98 #[.agg #[.int .u64 a0, .int .u64 a1, .int .u64 a2, .int .u64 a3, .int .u64 a4, .int .u64 a5], .bool neg] w fun e w' => e = .returned (.tuple #[.int .i64 (keep (sgn a neg)), .bool (fitB (sgn a neg))]) ∧ Q w w' := by
  by_cases h : a < 18446744073709551616
  · obtain ⟨rfl, rfl, rfl, rfl, _, e⟩ := fix_facts a0 a1 a2 a3 a4 a5 a ha h
    exact fix_small a0 a1 a neg w ha.l0 ha.h0 ha.l1 ha.h1 e
  · exact fix_big a0 a1 a2 a3 a4 a5 a neg w ha (by omega)
set_option maxHeartbeats 400000 in
theorem abs_any (a : Int) (w : World) (h : Fx a) :
    Calls Tryz.prog 102 #[.int .i64 a] w fun e w' => e = .returned (.int .u64 (a.natAbs : Int)) ∧ w' = w := by
  obtain ⟨h0, h1⟩ := h
  by_cases hn : a < 0
  · have H : Hid (-(a + 1) + 1 = (a.natAbs : Int)) := by show -(a + 1) + 1 = (a.natAbs : Int); omega
    go_enter Tryz.func102, Tryz.ntmps102
    go_wp2
    go_ret
    exact ⟨ret_int H.out, rfl⟩
  · have H : Hid (a = (a.natAbs : Int)) := by show a = (a.natAbs : Int); omega
    go_enter Tryz.func102, Tryz.ntmps102
    go_wp2
    go_ret
    exact ⟨ret_int H.out, rfl⟩
set_option maxHeartbeats 400000 in
theorem one_exact (n : Int) (w : World) (h0 : 0 ≤ n) (h1 : n < 18446744073709551616) :
    Calls Tryz.prog 101 #[.int .u64 n] w fun e w' => e = .returned (.agg #[.int .u64 (n % 4294967296), .int .u64 (n / 4294967296), .int .u64 0, .int .u64 0, .int .u64 0, .int .u64 0]) ∧ ∃ o1 o2 : Obj, w' = (w.alloc o1).alloc o2 := by
  go_enter Tryz.func101, Tryz.ntmps101
  go_wp2
  exact bodyPost_ret (v := .agg #[.int .u64 (n % 4294967296), .int .u64 (n / 4294967296), .int .u64 0, .int .u64 0, .int .u64 0, .int .u64 0]) (by simp [results, Tryz.results101, go_sem]) rfl ⟨rfl, _, _, rfl⟩
end Go.Proofs.YtfjpdopmojfchaaGreatDoor
