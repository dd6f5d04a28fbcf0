/- Numbers of six digits of 32 bi. -/
import Derived.Test.YtfjpdopmojfchaaGreatDoorKc00
import Derived.Handy
import Derived.Laws.Bits64b
import Derived.Deep.RegionHeld
set_option linter.unusedVariables false
set_option linter.unusedSimpArgs false
set_option maxRecDepth 100000
set_option maxHeartbeats 8000000
namespace Go.Proofs.YtfjpdopmojfchaaGreatDoor
open Go.RowKit
structure Dg (a0 a1 a2 a3 a4 a5 n : Int) : Prop where
  l0 : 0 ≤ a0
  h0 : a0 < 4294967296
  l1 : 0 ≤ a1
  h1 : a1 < 4294967296
  l2 : 0 ≤ a2
  h2 : a2 < 4294967296
  l3 : 0 ≤ a3
  h3 : a3 < 4294967296
  l4 : 0 ≤ a4
  h4 : a4 < 4294967296
  l5 : 0 ≤ a5
  h5 : a5 < 4294967296
  e : n = a0 + a1 * 4294967296 + a2 * 18446744073709551616 + a3 * 79228162514264337593543950336 + a4 * 340282366920938463463374607431768211456 + a5 * 1461501637330902918203684832716283019655932542976
def WR (n : Int) (e : Ending) : Prop := ∃ a0 a1 a2 a3 a4 a5 : Int, e = .returned (.agg #[.int .u64 a0, .int .u64 a1, .int .u64 a2, .int .u64 a3, .int .u64 a4, .int .u64 a5]) ∧ Dg a0 a1 a2 a3 a4 a5 n
set_option maxHeartbeats 400000 in
theorem one_any (n : Int) (w : World) (h0 : 0 ≤ n) (h1 : n < 18446744073709551616) :
    Calls Tryz.prog 101 #[.int .u64 n] w fun e w' => WR n e ∧ Q w w' := by
  go_enter Tryz.func101, Tryz.ntmps101
  go_wp2
  refine bodyPost_ret (v := .agg #[.int .u64 (n % 4294967296), .int .u64 (n / 4294967296), .int .u64 0, .int .u64 0, .int .u64 0, .int .u64 0]) (by simp [results, Tryz.results101, go_sem]) rfl ⟨⟨_, _, _, _, _, _, rfl, ?_⟩, ((Q.refl w).alloc _).alloc _⟩
  exact ⟨by omega, by omega, by omega, by omega, by omega, by omega, by omega, by omega, by omega, by omega, by omega, by omega, by omega⟩
set_option maxHeartbeats 2000000 in
theorem plus_any (a0 a1 a2 a3 a4 a5 a b0 b1 b2 b3 b4 b5 b : Int) (w : World) (ha : Dg a0 a1 a2 a3 a4 a5 a) (hb : Dg b0 b1 b2 b3 b4 b5 b) (hlt : a + b < 6277101735386680763835789423207666416102355444464034512896) :
    Calls Tryz.prog 118 #[.agg #[.int .u64 a0, .int .u64 a1, .int .u64 a2, .int .u64 a3, .int .u64 a4, .int .u64 a5], .agg #[.int .u64 b0, .int .u64 b1, .int .u64 b2, .int .u64 b3, .int .u64 b4, .int .u64 b5]] w fun e w' => WR (a + b) e ∧ Q w w' := by
  obtain ⟨x0, y0, x1, y1, x2, y2, x3, y3, x4, y4, x5, y5, ea⟩ := ha
  obtain ⟨u0, v0, u1, v1, u2, v2, u3, v3, u4, v4, u5, v5, eb⟩ := hb
  obtain ⟨r0, E0⟩ : ∃ r, (a0 + b0) % 4294967296 = r := ⟨_, rfl⟩
  obtain ⟨c0, F0⟩ : ∃ c, (a0 + b0) / 4294967296 = c := ⟨_, rfl⟩
  have rl0 : 0 ≤ r0 := by omega
  have rh0 : r0 < 4294967296 := by omega
  have cl0 : 0 ≤ c0 := by omega
  have ch0 : c0 ≤ 1 := by omega
  obtain ⟨r1, E1⟩ : ∃ r, (a1 + b1 + c0) % 4294967296 = r := ⟨_, rfl⟩
  obtain ⟨c1, F1⟩ : ∃ c, (a1 + b1 + c0) / 4294967296 = c := ⟨_, rfl⟩
  have rl1 : 0 ≤ r1 := by omega
  have rh1 : r1 < 4294967296 := by omega
  have cl1 : 0 ≤ c1 := by omega
  have ch1 : c1 ≤ 1 := by omega
  obtain ⟨r2, E2⟩ : ∃ r, (a2 + b2 + c1) % 4294967296 = r := ⟨_, rfl⟩
  obtain ⟨c2, F2⟩ : ∃ c, (a2 + b2 + c1) / 4294967296 = c := ⟨_, rfl⟩
  have rl2 : 0 ≤ r2 := by omega
  have rh2 : r2 < 4294967296 := by omega
  have cl2 : 0 ≤ c2 := by omega
  have ch2 : c2 ≤ 1 := by omega
  obtain ⟨r3, E3⟩ : ∃ r, (a3 + b3 + c2) % 4294967296 = r := ⟨_, rfl⟩
  obtain ⟨c3, F3⟩ : ∃ c, (a3 + b3 + c2) / 4294967296 = c := ⟨_, rfl⟩
  have rl3 : 0 ≤ r3 := by omega
  have rh3 : r3 < 4294967296 := by omega
  have cl3 : 0 ≤ c3 := by omega
  have ch3 : c3 ≤ 1 := by omega
  obtain ⟨r4, E4⟩ : ∃ r, (a4 + b4 + c3) % 4294967296 = r := ⟨_, rfl⟩
  obtain ⟨c4, F4⟩ : ∃ c, (a4 + b4 + c3) / 4294967296 = c := ⟨_, rfl⟩
  have rl4 : 0 ≤ r4 := by omega
  have rh4 : r4 < 4294967296 := by omega
  have cl4 : 0 ≤ c4 := by omega
  have ch4 : c4 ≤ 1 := by omega
  obtain ⟨r5, E5⟩ : ∃ r, (a5 + b5 + c4) % 4294967296 = r := ⟨_, rfl⟩
  obtain ⟨c5, F5⟩ : ∃ c, (a5 + b5 + c4) / 4294967296 = c := ⟨_, rfl⟩
  have rl5 : 0 ≤ r5 := by omega
  have rh5 : r5 < 4294967296 := by omega
  have cl5 : 0 ≤ c5 := by omega
  have ch5 : c5 ≤ 1 := by omega
  have HD : Hid (Dg r0 r1 r2 r3 r4 r5 (a + b)) := ⟨rl0, rh0, rl1, rh1, rl2, rh2, rl3, rh3, rl4, rh4, rl5, rh5, by omega⟩
  clear ea eb hlt
  go_enter Tryz.func118, Tryz.ntmps118
  go_wp2
  refine wp_loop_rounds 7 ?_
  rw [rounds_succ]
  go_wp2
  go_region
  go_wp2
  rw [rounds_succ]
  go_wp2
  go_region
  go_wp2
  rw [rounds_succ]
  go_wp2
  go_region
  go_wp2
  rw [rounds_succ]
  go_wp2
  go_region
  go_wp2
  rw [rounds_succ]
  go_wp2
  go_region
  go_wp2
  rw [rounds_succ]
  go_wp2
  go_region
  go_wp2
  rw [rounds_succ]
  go_wp2
  exact bodyPost_ret (v := .agg #[.int .u64 r0, .int .u64 r1, .int .u64 r2, .int .u64 r3, .int .u64 r4, .int .u64 r5]) (by simp [results, Tryz.results118, go_sem]) rfl ⟨⟨_, _, _, _, _, _, rfl, HD.out⟩, (by repeat (first | exact Q.refl _ | refine Q.drew ?_ | refine Q.alloc ?_ _))⟩
set_option maxHeartbeats 2000000 in
theorem minus_any (a0 a1 a2 a3 a4 a5 a b0 b1 b2 b3 b4 b5 b : Int) (w : World) (ha : Dg a0 a1 a2 a3 a4 a5 a) (hb : Dg b0 b1 b2 b3 b4 b5 b) (hlt : b ≤ a) :
    Calls Tryz.prog 120 #[.agg #[.int .u64 a0, .int .u64 a1, .int .u64 a2, .int .u64 a3, .int .u64 a4, .int .u64 a5], .agg #[.int .u64 b0, .int .u64 b1, .int .u64 b2, .int .u64 b3, .int .u64 b4, .int .u64 b5]] w fun e w' => WR (a - b) e ∧ Q w w' := by
  obtain ⟨x0, y0, x1, y1, x2, y2, x3, y3, x4, y4, x5, y5, ea⟩ := ha
  obtain ⟨u0, v0, u1, v1, u2, v2, u3, v3, u4, v4, u5, v5, eb⟩ := hb
  obtain ⟨r0, E0⟩ : ∃ r, (a0 + 4294967296 - b0) % 4294967296 = r := ⟨_, rfl⟩
  obtain ⟨g0, G0⟩ : ∃ g, (a0 + 4294967296 - b0) / 4294967296 = g := ⟨_, rfl⟩
  have gl0 : 0 ≤ g0 := by omega
  have gh0 : g0 ≤ 1 := by omega
  obtain ⟨c0, F0⟩ : ∃ c, 1 - g0 = c := ⟨_, rfl⟩
  have rl0 : 0 ≤ r0 := by omega
  have rh0 : r0 < 4294967296 := by omega
  have cl0 : 0 ≤ c0 := by omega
  have ch0 : c0 ≤ 1 := by omega
  obtain ⟨r1, E1⟩ : ∃ r, (a1 + 4294967296 - b1 - c0) % 4294967296 = r := ⟨_, rfl⟩
  obtain ⟨g1, G1⟩ : ∃ g, (a1 + 4294967296 - b1 - c0) / 4294967296 = g := ⟨_, rfl⟩
  have gl1 : 0 ≤ g1 := by omega
  have gh1 : g1 ≤ 1 := by omega
  obtain ⟨c1, F1⟩ : ∃ c, 1 - g1 = c := ⟨_, rfl⟩
  have rl1 : 0 ≤ r1 := by omega
  have rh1 : r1 < 4294967296 := by omega
  have cl1 : 0 ≤ c1 := by omega
  have ch1 : c1 ≤ 1 := by omega
  obtain ⟨r2, E2⟩ : ∃ r, (a2 + 4294967296 - b2 - c1) % 4294967296 = r := ⟨_, rfl⟩
  obtain ⟨g2, G2⟩ : ∃ g, (a2 + 4294967296 - b2 - c1) / 4294967296 = g := ⟨_, rfl⟩
  have gl2 : 0 ≤ g2 := by omega
  have gh2 : g2 ≤ 1 := by omega
  obtain ⟨c2, F2⟩ : ∃ c, 1 - g2 = c := ⟨_, rfl⟩
  have rl2 : 0 ≤ r2 := by omega
  have rh2 : r2 < 4294967296 := by omega
  have cl2 : 0 ≤ c2 := by omega
  have ch2 : c2 ≤ 1 := by omega
  obtain ⟨r3, E3⟩ : ∃ r, (a3 + 4294967296 - b3 - c2) % 4294967296 = r := ⟨_, rfl⟩
  obtain ⟨g3, G3⟩ : ∃ g, (a3 + 4294967296 - b3 - c2) / 4294967296 = g := ⟨_, rfl⟩
  have gl3 : 0 ≤ g3 := by omega
  have gh3 : g3 ≤ 1 := by omega
  obtain ⟨c3, F3⟩ : ∃ c, 1 - g3 = c := ⟨_, rfl⟩
  have rl3 : 0 ≤ r3 := by omega
  have rh3 : r3 < 4294967296 := by omega
  have cl3 : 0 ≤ c3 := by omega
  have ch3 : c3 ≤ 1 := by omega
  obtain ⟨r4, E4⟩ : ∃ r, (a4 + 4294967296 - b4 - c3) % 4294967296 = r := ⟨_, rfl⟩
  obtain ⟨g4, G4⟩ : ∃ g, (a4 + 4294967296 - b4 - c3) / 4294967296 = g := ⟨_, rfl⟩
  have gl4 : 0 ≤ g4 := by omega
  have gh4 : g4 ≤ 1 := by omega
  obtain ⟨c4, F4⟩ : ∃ c, 1 - g4 = c := ⟨_, rfl⟩
  have rl4 : 0 ≤ r4 := by omega
  have rh4 : r4 < 4294967296 := by omega
  have cl4 : 0 ≤ c4 := by omega
  have ch4 : c4 ≤ 1 := by omega
  obtain ⟨r5, E5⟩ : ∃ r, (a5 + 4294967296 - b5 - c4) % 4294967296 = r := ⟨_, rfl⟩
  obtain ⟨g5, G5⟩ : ∃ g, (a5 + 4294967296 - b5 - c4) / 4294967296 = g := ⟨_, rfl⟩
  have gl5 : 0 ≤ g5 := by omega
  have gh5 : g5 ≤ 1 := by omega
  obtain ⟨c5, F5⟩ : ∃ c, 1 - g5 = c := ⟨_, rfl⟩
  have rl5 : 0 ≤ r5 := by omega
  have rh5 : r5 < 4294967296 := by omega
  have cl5 : 0 ≤ c5 := by omega
  have ch5 : c5 ≤ 1 := by omega
  have HD : Hid (Dg r0 r1 r2 r3 r4 r5 (a - b)) := ⟨rl0, rh0, rl1, rh1, rl2, rh2, rl3, rh3, rl4, rh4, rl5, rh5, by omega⟩
  clear ea eb hlt
  go_enter Tryz.func120, Tryz.ntmps120
  go_wp2
  refine wp_loop_rounds 7 ?_
  rw [rounds_succ]
  go_wp2
  go_region
  go_wp2
  rw [rounds_succ]
  go_wp2
  go_region
  go_wp2
  rw [rounds_succ]
  go_wp2
  go_region
  go_wp2
  rw [rounds_succ]
  go_wp2
  go_region
  go_wp2
  rw [rounds_succ]
  go_wp2
  go_region
  go_wp2
  rw [rounds_succ]
  go_wp2
  go_region
  go_wp2
  rw [rounds_succ]
  go_wp2
  exact bodyPost_ret (v := .agg #[.int .u64 r0, .int .u64 r1, .int .u64 r2, .int .u64 r3, .int .u64 r4, .int .u64 r5]) (by simp [results, Tryz.results120, go_sem]) rfl ⟨⟨_, _, _, _, _, _, rfl, HD.out⟩, (by repeat (first | exact Q.refl _ | refine Q.drew ?_ | refine Q.alloc ?_ _))⟩
set_option maxHeartbeats 2000000 in
theorem twice_any (a0 a1 a2 a3 a4 a5 a bit : Int) (w : World) (ha : Dg a0 a1 a2 a3 a4 a5 a) (hb0 : 0 ≤ bit) (hb1 : bit ≤ 1) (hlt : a * 2 + bit < 6277101735386680763835789423207666416102355444464034512896) :
    Calls Tryz.prog 135 #[.agg #[.int .u64 a0, .int .u64 a1, .int .u64 a2, .int .u64 a3, .int .u64 a4, .int .u64 a5], .int .u64 bit] w fun e w' => WR (a * 2 + bit) e ∧ Q w w' := by
  obtain ⟨x0, y0, x1, y1, x2, y2, x3, y3, x4, y4, x5, y5, ea⟩ := ha
  obtain ⟨r0, E0⟩ : ∃ r, (a0 * 2 + bit) % 4294967296 = r := ⟨_, rfl⟩
  obtain ⟨c0, F0⟩ : ∃ c, (a0 * 2 + bit) / 4294967296 = c := ⟨_, rfl⟩
  have rl0 : 0 ≤ r0 := by omega
  have rh0 : r0 < 4294967296 := by omega
  have cl0 : 0 ≤ c0 := by omega
  have ch0 : c0 ≤ 1 := by omega
  obtain ⟨r1, E1⟩ : ∃ r, (a1 * 2 + c0) % 4294967296 = r := ⟨_, rfl⟩
  obtain ⟨c1, F1⟩ : ∃ c, (a1 * 2 + c0) / 4294967296 = c := ⟨_, rfl⟩
  have rl1 : 0 ≤ r1 := by omega
  have rh1 : r1 < 4294967296 := by omega
  have cl1 : 0 ≤ c1 := by omega
  have ch1 : c1 ≤ 1 := by omega
  obtain ⟨r2, E2⟩ : ∃ r, (a2 * 2 + c1) % 4294967296 = r := ⟨_, rfl⟩
  obtain ⟨c2, F2⟩ : ∃ c, (a2 * 2 + c1) / 4294967296 = c := ⟨_, rfl⟩
  have rl2 : 0 ≤ r2 := by omega
  have rh2 : r2 < 4294967296 := by omega
  have cl2 : 0 ≤ c2 := by omega
  have ch2 : c2 ≤ 1 := by omega
  obtain ⟨r3, E3⟩ : ∃ r, (a3 * 2 + c2) % 4294967296 = r := ⟨_, rfl⟩
  obtain ⟨c3, F3⟩ : ∃ c, (a3 * 2 + c2) / 4294967296 = c := ⟨_, rfl⟩
  have rl3 : 0 ≤ r3 := by omega
  have rh3 : r3 < 4294967296 := by omega
  have cl3 : 0 ≤ c3 := by omega
  have ch3 : c3 ≤ 1 := by omega
  obtain ⟨r4, E4⟩ : ∃ r, (a4 * 2 + c3) % 4294967296 = r := ⟨_, rfl⟩
  obtain ⟨c4, F4⟩ : ∃ c, (a4 * 2 + c3) / 4294967296 = c := ⟨_, rfl⟩
  have rl4 : 0 ≤ r4 := by omega
  have rh4 : r4 < 4294967296 := by omega
  have cl4 : 0 ≤ c4 := by omega
  have ch4 : c4 ≤ 1 := by omega
  obtain ⟨r5, E5⟩ : ∃ r, (a5 * 2 + c4) % 4294967296 = r := ⟨_, rfl⟩
  obtain ⟨c5, F5⟩ : ∃ c, (a5 * 2 + c4) / 4294967296 = c := ⟨_, rfl⟩
  have rl5 : 0 ≤ r5 := by omega
  have rh5 : r5 < 4294967296 := by omega
  have cl5 : 0 ≤ c5 := by omega
  have ch5 : c5 ≤ 1 := by omega
  have HD : Hid (Dg r0 r1 r2 r3 r4 r5 (a * 2 + bit)) := ⟨rl0, rh0, rl1, rh1, rl2, rh2, rl3, rh3, rl4, rh4, rl5, rh5, by omega⟩
  clear ea hlt
  go_enter Tryz.func135, Tryz.ntmps135
  go_wp2
  refine wp_loop_rounds 7 ?_
  rw [rounds_succ]
  go_wp2
  rw [rounds_succ]
  go_wp2
  rw [rounds_succ]
  go_wp2
  rw [rounds_succ]
  go_wp2
  rw [rounds_succ]
  go_wp2
  rw [rounds_succ]
  go_wp2
  rw [rounds_succ]
  go_wp2
  exact bodyPost_ret (v := .agg #[.int .u64 r0, .int .u64 r1, .int .u64 r2, .int .u64 r3, .int .u64 r4, .int .u64 r5]) (by simp [results, Tryz.results135, go_sem]) rfl ⟨⟨_, _, _, _, _, _, rfl, HD.out⟩, (by repeat (first | exact Q.refl _ | refine Q.drew ?_ | refine Q.alloc ?_ _))⟩
theorem ret_bool' {a b : Bool} (h : a = b) : Ending.returned (.bool a) = .returned (.bool b) := by rw [h]
set_option maxHeartbeats 2000000 in
theorem less_any (a0 a1 a2 a3 a4 a5 a b0 b1 b2 b3 b4 b5 b : Int) (w : World) (ha : Dg a0 a1 a2 a3 a4 a5 a) (hb : Dg b0 b1 b2 b3 b4 b5 b) :
    Calls Tryz.prog 119 #[.agg #[.int .u64 a0, .int .u64 a1, .int .u64 a2, .int .u64 a3, .int .u64 a4, .int .u64 a5], .agg #[.int .u64 b0, .int .u64 b1, .int .u64 b2, .int .u64 b3, .int .u64 b4, .int .u64 b5]] w fun e w' => e = .returned (.bool (decide (a < b))) ∧ Q w w' := by
  have HA := hid ha
  have HB := hid hb
  clear ha hb
  go_enter Tryz.func119, Tryz.ntmps119
  go_wp2
  refine wp_loop_rounds 7 ?_
  rw [rounds_succ]
  go_wp2
  by_cases h5 : a5 ≠ b5
  · have n5 : (a5 != b5) = true := by rw [bne_iff_ne]; exact h5
    have HE : Hid (decide (a5 < b5) = decide (a < b)) := by
      obtain ⟨x0, y0, x1, y1, x2, y2, x3, y3, x4, y4, x5, y5, ea⟩ := HA.out
      obtain ⟨u0, v0, u1, v1, u2, v2, u3, v3, u4, v4, u5, v5, eb⟩ := HB.out
      show _ = _
      rw [decide_eq_decide]
      omega
    go_region
    go_wp2
    go_region
    go_wp2
    go_ret
    exact ⟨ret_bool' HE.out, (by repeat (first | exact Q.refl _ | refine Q.drew ?_ | refine Q.alloc ?_ _))⟩
  have h5' : a5 = b5 := Decidable.not_not.1 h5
  clear h5
  subst h5'
  go_region
  go_wp2
  rw [rounds_succ]
  go_wp2
  by_cases h4 : a4 ≠ b4
  · have n4 : (a4 != b4) = true := by rw [bne_iff_ne]; exact h4
    have HE : Hid (decide (a4 < b4) = decide (a < b)) := by
      obtain ⟨x0, y0, x1, y1, x2, y2, x3, y3, x4, y4, x5, y5, ea⟩ := HA.out
      obtain ⟨u0, v0, u1, v1, u2, v2, u3, v3, u4, v4, u5, v5, eb⟩ := HB.out
      show _ = _
      rw [decide_eq_decide]
      omega
    go_region
    go_wp2
    go_region
    go_wp2
    go_ret
    exact ⟨ret_bool' HE.out, (by repeat (first | exact Q.refl _ | refine Q.drew ?_ | refine Q.alloc ?_ _))⟩
  have h4' : a4 = b4 := Decidable.not_not.1 h4
  clear h4
  subst h4'
  go_region
  go_wp2
  rw [rounds_succ]
  go_wp2
  by_cases h3 : a3 ≠ b3
  · have n3 : (a3 != b3) = true := by rw [bne_iff_ne]; exact h3
    have HE : Hid (decide (a3 < b3) = decide (a < b)) := by
      obtain ⟨x0, y0, x1, y1, x2, y2, x3, y3, x4, y4, x5, y5, ea⟩ := HA.out
      obtain ⟨u0, v0, u1, v1, u2, v2, u3, v3, u4, v4, u5, v5, eb⟩ := HB.out
      show _ = _
      rw [decide_eq_decide]
      omega
    go_region
    go_wp2
    go_region
    go_wp2
    go_ret
    exact ⟨ret_bool' HE.out, (by repeat (first | exact Q.refl _ | refine Q.drew ?_ | refine Q.alloc ?_ _))⟩
  have h3' : a3 = b3 := Decidable.not_not.1 h3
  clear h3
  subst h3'
  go_region
  go_wp2
  rw [rounds_succ]
  go_wp2
  by_cases h2 : a2 ≠ b2
  · have n2 : (a2 != b2) = true := by rw [bne_iff_ne]; exact h2
    have HE : Hid (decide (a2 < b2) = decide (a < b)) := by
      obtain ⟨x0, y0, x1, y1, x2, y2, x3, y3, x4, y4, x5, y5, ea⟩ := HA.out
      obtain ⟨u0, v0, u1, v1, u2, v2, u3, v3, u4, v4, u5, v5, eb⟩ := HB.out
      show _ = _
      rw [decide_eq_decide]
      omega
    go_region
    go_wp2
    go_region
    go_wp2
    go_ret
    exact ⟨ret_bool' HE.out, (by repeat (first | exact Q.refl _ | refine Q.drew ?_ | refine Q.alloc ?_ _))⟩
  have h2' : a2 = b2 := Decidable.not_not.1 h2
  clear h2
  subst h2'
  go_region
  go_wp2
  rw [rounds_succ]
  go_wp2
  by_cases h1 : a1 ≠ b1
  · have n1 : (a1 != b1) = true := by rw [bne_iff_ne]; exact h1
    have HE : Hid (decide (a1 < b1) = decide (a < b)) := by
      obtain ⟨x0, y0, x1, y1, x2, y2, x3, y3, x4, y4, x5, y5, ea⟩ := HA.out
      obtain ⟨u0, v0, u1, v1, u2, v2, u3, v3, u4, v4, u5, v5, eb⟩ := HB.out
      show _ = _
      rw [decide_eq_decide]
      omega
    go_region
    go_wp2
    go_region
    go_wp2
    go_ret
    exact ⟨ret_bool' HE.out, (by repeat (first | exact Q.refl _ | refine Q.drew ?_ | refine Q.alloc ?_ _))⟩
  have h1' : a1 = b1 := Decidable.not_not.1 h1
  clear h1
  subst h1'
  go_region
  go_wp2
  rw [rounds_succ]
  go_wp2
  by_cases h0 : a0 ≠ b0
  · have n0 : (a0 != b0) = true := by rw [bne_iff_ne]; exact h0
    have HE : Hid (decide (a0 < b0) = decide (a < b)) := by
      obtain ⟨x0, y0, x1, y1, x2, y2, x3, y3, x4, y4, x5, y5, ea⟩ := HA.out
      obtain ⟨u0, v0, u1, v1, u2, v2, u3, v3, u4, v4, u5, v5, eb⟩ := HB.out
      show _ = _
      rw [decide_eq_decide]
      omega
    go_region
    go_wp2
    go_region
    go_wp2
    go_ret
    exact ⟨ret_bool' HE.out, (by repeat (first | exact Q.refl _ | refine Q.drew ?_ | refine Q.alloc ?_ _))⟩
  have h0' : a0 = b0 := Decidable.not_not.1 h0
  clear h0
  subst h0'
  go_region
  go_wp2
  have HE : Hid (false = decide (a < b)) := by
    have ea := HA.out.e
    have eb := HB.out.e
    show _ = _
    rw [eq_comm, decide_eq_false_iff_not]
    omega
  rw [rounds_succ]
  go_wp2
  go_ret
  exact ⟨ret_bool' HE.out, (by repeat (first | exact Q.refl _ | refine Q.drew ?_ | refine Q.alloc ?_ _))⟩
theorem or_nat (a b : Nat) (ha : a < 4294967296) (hb : b < 4294967296) : bits BinOp.or IntKind.u64 (a : Int) (b : Int) = ((a ||| b : Nat) : Int) ∧ a ||| b < 4294967296 := by
  refine ⟨bits_or_u64_nat a b (by omega) (by omega), ?_⟩
  exact Nat.or_lt_two_pow (n := 32) ha hb
theorem or_four (a b c d : Int) (a0 : 0 ≤ a) (a1 : a < 4294967296) (b0 : 0 ≤ b) (b1 : b < 4294967296) (c0 : 0 ≤ c) (c1 : c < 4294967296) (d0 : 0 ≤ d) (d1 : d < 4294967296) (h : 0 < a ∨ 0 < b ∨ 0 < c ∨ 0 < d) :
    (bits BinOp.or IntKind.u64 (bits BinOp.or IntKind.u64 (bits BinOp.or IntKind.u64 a b) c) d != 0) = true := by
  obtain ⟨a, rfl⟩ := Int.eq_ofNat_of_zero_le a0
  obtain ⟨b, rfl⟩ := Int.eq_ofNat_of_zero_le b0
  obtain ⟨c, rfl⟩ := Int.eq_ofNat_of_zero_le c0
  obtain ⟨d, rfl⟩ := Int.eq_ofNat_of_zero_le d0
  obtain ⟨e1, l1⟩ := or_nat a b (by omega) (by omega)
  obtain ⟨e2, l2⟩ := or_nat (a ||| b) c l1 (by omega)
  obtain ⟨e3, _⟩ := or_nat (a ||| b ||| c) d l2 (by omega)
  rw [e1, e2, e3, bne_iff_ne]
  intro hz
  have hz' : a ||| b ||| c ||| d = 0 := by omega
  rw [Nat.or_eq_zero_iff, Nat.or_eq_zero_iff, Nat.or_eq_zero_iff] at hz'
  omega
set_option maxHeartbeats 1000000 in
theorem fix_big (a0 a1 a2 a3 a4 a5 a : Int) (neg : Bool) (w : World) (ha : Dg a0 a1 a2 a3 a4 a5 a) (h : 18446744073709551616 ≤ a) :
    Calls Tryz.prog 98 #[.agg #[.int .u64 a0, .int .u64 a1, .int .u64 a2, .int .u64 a3, .int .u64 a4, .int .u64 a5], .bool neg] w fun e w' => e = .returned (.tuple #[.int .i64 (keep (sgn a neg)), .bool (fitB (sgn a neg))]) ∧ Q w w' := by
  have hf : fitB (sgn a neg) = false := by
    apply fitB_no
    cases neg
    · show a < _ ∨ _ < a; omega
    · show -a < _ ∨ _ < -a; omega
  rw [hf, keep_no hf]
  obtain ⟨x0, y0, x1, y1, x2, y2, x3, y3, x4, y4, x5, y5, ea⟩ := ha
  have hb := or_four a2 a3 a4 a5 x2 y2 x3 y3 x4 y4 x5 y5 (by omega)
  clear ea h hf
  go_enter Tryz.func98, Tryz.ntmps98
  go_wp2
  go_ret2
  exact ⟨rfl, (by repeat (first | exact Q.refl _ | refine Q.drew ?_ | refine Q.alloc ?_ _))⟩
theorem fix_facts (a0 a1 a2 a3 a4 a5 a : Int) (ha : Dg a0 a1 a2 a3 a4 a5 a) (h : a < 18446744073709551616) : a2 = 0 ∧ a3 = 0 ∧ a4 = 0 ∧ a5 = 0 ∧ 0 ≤ a ∧ a0 + a1 * 4294967296 = a := by
  obtain ⟨x0, y0, x1, y1, x2, y2, x3, y3, x4, y4, x5, y5, ea⟩ := ha
  omega
set_option maxHeartbeats 1000000 in
theorem fix_small (a0 a1 a : Int) (neg : Bool) (w : World) (x0 : 0 ≤ a0) (y0 : a0 < 4294967296) (x1 : 0 ≤ a1) (y1 : a1 < 4294967296) (e : Hid (a0 + a1 * 4294967296 = a)) :
    Calls Tryz.prog 98 #[.agg #[.int .u64 a0, .int .u64 a1, .int .u64 0, .int .u64 0, .int .u64 0, .int .u64 0], .bool neg] w fun e w' => e = .returned (.tuple #[.int .i64 (keep (sgn a neg)), .bool (fitB (sgn a neg))]) ∧ Q w w' := by
  cases neg
  · have es : sgn a false = a := rfl
    rw [es]
    clear es
    by_cases h : a < 9223372036854775808
    · have hf : fitB a = true := fitB_yes (by have := e.out; omega) (by omega)
      rw [hf, keep_yes hf]
      have h1 : a0 + a1 * 4294967296 < 9223372036854775808 := by have := e.out; omega
      clear hf h
      go_enter Tryz.func98, Tryz.ntmps98
      go_wp2
      go_ret2
      exact ⟨ret_pair e.out, (by repeat (first | exact Q.refl _ | refine Q.drew ?_ | refine Q.alloc ?_ _))⟩
    · have hf : fitB a = false := fitB_no (by omega)
      rw [hf, keep_no hf]
      have h1 : 9223372036854775808 ≤ a0 + a1 * 4294967296 := by have := e.out; omega
      clear hf h
      go_enter Tryz.func98, Tryz.ntmps98
      go_wp2
      go_ret2
      exact ⟨rfl, (by repeat (first | exact Q.refl _ | refine Q.drew ?_ | refine Q.alloc ?_ _))⟩
  · have es : sgn a true = -a := rfl
    rw [es]
    clear es
    by_cases h : 9223372036854775808 < a
    · have hf : fitB (-a) = false := fitB_no (by omega)
      rw [hf, keep_no hf]
      have h1 : 9223372036854775808 < a0 + a1 * 4294967296 := by have := e.out; omega
      clear hf h
      go_enter Tryz.func98, Tryz.ntmps98
      go_wp2
      go_ret2
      exact ⟨rfl, (by repeat (first | exact Q.refl _ | refine Q.drew ?_ | refine Q.alloc ?_ _))⟩
    · have hf : fitB (-a) = true := fitB_yes (by omega) (by have := e.out; omega)
      rw [hf, keep_yes hf]
      have h1 : a0 + a1 * 4294967296 ≤ 9223372036854775808 := by have := e.out; omega
      by_cases hz : a = 0
      · have z0 : a0 = 0 := by have := e.out; omega
        have z1 : a1 = 0 := by have := e.out; omega
        subst hz z0 z1
        clear hf h h1
        go_enter Tryz.func98, Tryz.ntmps98
        go_wp2
        go_ret2
        exact ⟨rfl, (by repeat (first | exact Q.refl _ | refine Q.drew ?_ | refine Q.alloc ?_ _))⟩
      · have h2 : 0 < a0 + a1 * 4294967296 := by have := e.out; omega
        clear hf h hz
        go_enter Tryz.func98, Tryz.ntmps98
        go_wp2
        go_ret2
        exact ⟨ret_pair (by have := e.out; omega), (by repeat (first | exact Q.refl _ | refine Q.drew ?_ | refine Q.alloc ?_ _))⟩
theorem fix_any (a0 a1 a2 a3 a4 a5 a : Int) (neg : Bool) (w : World) (ha : Dg a0 a1 a2 a3 a4 a5 a) :
    Calls Tryz.prog 98 #[.agg #[.int .u64 a0, .int .u64 a1, .int .u64 a2, .int .u64 a3, .int .u64 a4, .int .u64 a5], .bool neg] w fun e w' => e = .returned (.tuple #[.int .i64 (keep (sgn a neg)), .bool (fitB (sgn a neg))]) ∧ Q w w' := by
  by_cases h : a < 18446744073709551616
  · obtain ⟨rfl, rfl, rfl, rfl, _, e⟩ := fix_facts a0 a1 a2 a3 a4 a5 a ha h
    exact fix_small a0 a1 a neg w ha.l0 ha.h0 ha.l1 ha.h1 e
  · exact fix_big a0 a1 a2 a3 a4 a5 a neg w ha (by omega)
set_option maxHeartbeats 400000 in
theorem abs_any (a : Int) (w : World) (h : Fx a) :
    Calls Tryz.prog 102 #[.int .i64 a] w fun e w' => e = .returned (.int .u64 (a.natAbs : Int)) ∧ w' = w := by
  obtain ⟨h0, h1⟩ := h
  by_cases hn : a < 0
  · have H : Hid (-(a + 1) + 1 = (a.natAbs : Int)) := by show -(a + 1) + 1 = (a.natAbs : Int); omega
    go_enter Tryz.func102, Tryz.ntmps102
    go_wp2
    go_ret
    exact ⟨ret_int H.out, rfl⟩
  · have H : Hid (a = (a.natAbs : Int)) := by show a = (a.natAbs : Int); omega
    go_enter Tryz.func102, Tryz.ntmps102
    go_wp2
    go_ret
    exact ⟨ret_int H.out, rfl⟩
set_option maxHeartbeats 400000 in
theorem one_exact (n : Int) (w : World) (h0 : 0 ≤ n) (h1 : n < 18446744073709551616) :
    Calls Tryz.prog 101 #[.int .u64 n] w fun e w' => e = .returned (.agg #[.int .u64 (n % 4294967296), .int .u64 (n / 4294967296), .int .u64 0, .int .u64 0, .int .u64 0, .int .u64 0]) ∧ ∃ o1 o2 : Obj, w' = (w.alloc o1).alloc o2 := by
  go_enter Tryz.func101, Tryz.ntmps101
  go_wp2
  exact bodyPost_ret (v := .agg #[.int .u64 (n % 4294967296), .int .u64 (n / 4294967296), .int .u64 0, .int .u64 0, .int .u64 0, .int .u64 0]) (by simp [results, Tryz.results101, go_sem]) rfl ⟨rfl, _, _, rfl⟩
theorem prod_bound (a b : Int) (a0 : 0 ≤ a) (a1 : a < 4294967296) (b0 : 0 ≤ b) (b1 : b < 4294967296) : 0 ≤ a * b ∧ a * b ≤ 18446744065119617025 := by
  refine ⟨Int.mul_nonneg a0 b0, ?_⟩
  have h := Int.mul_le_mul (show a ≤ 4294967295 by omega) (show b ≤ 4294967295 by omega) b0 (by omega)
  omega
theorem prod_split (a b0 b1 n : Int) (hn : n = b0 + b1 * 4294967296) : a * n = a * b0 + a * b1 * 4294967296 := by
  rw [hn, Int.mul_add, ← Int.mul_assoc]
theorem prod_all (a0 a1 a2 a3 a4 a5 a n : Int) (ea : a = a0 + a1 * 4294967296 + a2 * 18446744073709551616 + a3 * 79228162514264337593543950336 + a4 * 340282366920938463463374607431768211456 + a5 * 1461501637330902918203684832716283019655932542976) :
    a * n = a0 * n + a1 * n * 4294967296 + a2 * n * 18446744073709551616 + a3 * n * 79228162514264337593543950336 + a4 * n * 340282366920938463463374607431768211456 + a5 * n * 1461501637330902918203684832716283019655932542976 := by
  rw [ea, Int.add_mul, Int.add_mul, Int.add_mul, Int.add_mul, Int.add_mul, Int.mul_right_comm a1, Int.mul_right_comm a2, Int.mul_right_comm a3, Int.mul_right_comm a4, Int.mul_right_comm a5]
structure Row (W : World) (b : Nat) (r0 r1 r2 r3 r4 r5 : Int) : Prop where
  c0 : W.cell? ⟨b, 0, none⟩ = some (.int .u64 r0)
  c1 : W.cell? ⟨b, 1, none⟩ = some (.int .u64 r1)
  c2 : W.cell? ⟨b, 2, none⟩ = some (.int .u64 r2)
  c3 : W.cell? ⟨b, 3, none⟩ = some (.int .u64 r3)
  c4 : W.cell? ⟨b, 4, none⟩ = some (.int .u64 r4)
  c5 : W.cell? ⟨b, 5, none⟩ = some (.int .u64 r5)
  f0 : W.frozen? ⟨b, 0, none⟩ = false
  f1 : W.frozen? ⟨b, 1, none⟩ = false
  f2 : W.frozen? ⟨b, 2, none⟩ = false
  f3 : W.frozen? ⟨b, 3, none⟩ = false
  f4 : W.frozen? ⟨b, 4, none⟩ = false
  f5 : W.frozen? ⟨b, 5, none⟩ = false
  big : b < W.heap.size
theorem Row.drew {W : World} {b : Nat} {r0 r1 r2 r3 r4 r5 : Int} (h : Row W b r0 r1 r2 r3 r4 r5) : Row W.drew b r0 r1 r2 r3 r4 r5 :=
  ⟨h.c0, h.c1, h.c2, h.c3, h.c4, h.c5, h.f0, h.f1, h.f2, h.f3, h.f4, h.f5, h.big⟩
theorem Row.far {W : World} {b b' k : Nat} {v : Value} {r0 r1 r2 r3 r4 r5 : Int} (h : Row W b r0 r1 r2 r3 r4 r5) (hb : b' ≠ b) : Row (W.setCell ⟨b', k, none⟩ v) b r0 r1 r2 r3 r4 r5 := by
  constructor
  all_goals first
    | (rw [World.cell?_setCell_far _ _ _ _ hb]; first | exact h.c0 | exact h.c1 | exact h.c2 | exact h.c3 | exact h.c4 | exact h.c5)
    | (rw [World.frozen?_setCell]; first | exact h.f0 | exact h.f1 | exact h.f2 | exact h.f3 | exact h.f4 | exact h.f5)
    | (rw [World.size_setCell]; exact h.big)
theorem Row.set0 {W : World} {b : Nat} {v r0 r1 r2 r3 r4 r5 : Int} (h : Row W b r0 r1 r2 r3 r4 r5) : Row (W.setCell ⟨b, 0, none⟩ (.int .u64 v)) b v r1 r2 r3 r4 r5 := by
  constructor
  · exact World.cell?_setCell_same _ _ _ h.c0
  · rw [World.cell?_setCell_other _ _ _ _ (by simp)]; exact h.c1
  · rw [World.cell?_setCell_other _ _ _ _ (by simp)]; exact h.c2
  · rw [World.cell?_setCell_other _ _ _ _ (by simp)]; exact h.c3
  · rw [World.cell?_setCell_other _ _ _ _ (by simp)]; exact h.c4
  · rw [World.cell?_setCell_other _ _ _ _ (by simp)]; exact h.c5
  · rw [World.frozen?_setCell]; exact h.f0
  · rw [World.frozen?_setCell]; exact h.f1
  · rw [World.frozen?_setCell]; exact h.f2
  · rw [World.frozen?_setCell]; exact h.f3
  · rw [World.frozen?_setCell]; exact h.f4
  · rw [World.frozen?_setCell]; exact h.f5
  · rw [World.size_setCell]; exact h.big
theorem Row.set1 {W : World} {b : Nat} {v r0 r1 r2 r3 r4 r5 : Int} (h : Row W b r0 r1 r2 r3 r4 r5) : Row (W.setCell ⟨b, 1, none⟩ (.int .u64 v)) b r0 v r2 r3 r4 r5 := by
  constructor
  · rw [World.cell?_setCell_other _ _ _ _ (by simp)]; exact h.c0
  · exact World.cell?_setCell_same _ _ _ h.c1
  · rw [World.cell?_setCell_other _ _ _ _ (by simp)]; exact h.c2
  · rw [World.cell?_setCell_other _ _ _ _ (by simp)]; exact h.c3
  · rw [World.cell?_setCell_other _ _ _ _ (by simp)]; exact h.c4
  · rw [World.cell?_setCell_other _ _ _ _ (by simp)]; exact h.c5
  · rw [World.frozen?_setCell]; exact h.f0
  · rw [World.frozen?_setCell]; exact h.f1
  · rw [World.frozen?_setCell]; exact h.f2
  · rw [World.frozen?_setCell]; exact h.f3
  · rw [World.frozen?_setCell]; exact h.f4
  · rw [World.frozen?_setCell]; exact h.f5
  · rw [World.size_setCell]; exact h.big
theorem Row.set2 {W : World} {b : Nat} {v r0 r1 r2 r3 r4 r5 : Int} (h : Row W b r0 r1 r2 r3 r4 r5) : Row (W.setCell ⟨b, 2, none⟩ (.int .u64 v)) b r0 r1 v r3 r4 r5 := by
  constructor
  · rw [World.cell?_setCell_other _ _ _ _ (by simp)]; exact h.c0
  · rw [World.cell?_setCell_other _ _ _ _ (by simp)]; exact h.c1
  · exact World.cell?_setCell_same _ _ _ h.c2
  · rw [World.cell?_setCell_other _ _ _ _ (by simp)]; exact h.c3
  · rw [World.cell?_setCell_other _ _ _ _ (by simp)]; exact h.c4
  · rw [World.cell?_setCell_other _ _ _ _ (by simp)]; exact h.c5
  · rw [World.frozen?_setCell]; exact h.f0
  · rw [World.frozen?_setCell]; exact h.f1
  · rw [World.frozen?_setCell]; exact h.f2
  · rw [World.frozen?_setCell]; exact h.f3
  · rw [World.frozen?_setCell]; exact h.f4
  · rw [World.frozen?_setCell]; exact h.f5
  · rw [World.size_setCell]; exact h.big
theorem Row.set3 {W : World} {b : Nat} {v r0 r1 r2 r3 r4 r5 : Int} (h : Row W b r0 r1 r2 r3 r4 r5) : Row (W.setCell ⟨b, 3, none⟩ (.int .u64 v)) b r0 r1 r2 v r4 r5 := by
  constructor
  · rw [World.cell?_setCell_other _ _ _ _ (by simp)]; exact h.c0
  · rw [World.cell?_setCell_other _ _ _ _ (by simp)]; exact h.c1
  · rw [World.cell?_setCell_other _ _ _ _ (by simp)]; exact h.c2
  · exact World.cell?_setCell_same _ _ _ h.c3
  · rw [World.cell?_setCell_other _ _ _ _ (by simp)]; exact h.c4
  · rw [World.cell?_setCell_other _ _ _ _ (by simp)]; exact h.c5
  · rw [World.frozen?_setCell]; exact h.f0
  · rw [World.frozen?_setCell]; exact h.f1
  · rw [World.frozen?_setCell]; exact h.f2
  · rw [World.frozen?_setCell]; exact h.f3
  · rw [World.frozen?_setCell]; exact h.f4
  · rw [World.frozen?_setCell]; exact h.f5
  · rw [World.size_setCell]; exact h.big
theorem Row.set4 {W : World} {b : Nat} {v r0 r1 r2 r3 r4 r5 : Int} (h : Row W b r0 r1 r2 r3 r4 r5) : Row (W.setCell ⟨b, 4, none⟩ (.int .u64 v)) b r0 r1 r2 r3 v r5 := by
  constructor
  · rw [World.cell?_setCell_other _ _ _ _ (by simp)]; exact h.c0
  · rw [World.cell?_setCell_other _ _ _ _ (by simp)]; exact h.c1
  · rw [World.cell?_setCell_other _ _ _ _ (by simp)]; exact h.c2
  · rw [World.cell?_setCell_other _ _ _ _ (by simp)]; exact h.c3
  · exact World.cell?_setCell_same _ _ _ h.c4
  · rw [World.cell?_setCell_other _ _ _ _ (by simp)]; exact h.c5
  · rw [World.frozen?_setCell]; exact h.f0
  · rw [World.frozen?_setCell]; exact h.f1
  · rw [World.frozen?_setCell]; exact h.f2
  · rw [World.frozen?_setCell]; exact h.f3
  · rw [World.frozen?_setCell]; exact h.f4
  · rw [World.frozen?_setCell]; exact h.f5
  · rw [World.size_setCell]; exact h.big
theorem Row.set5 {W : World} {b : Nat} {v r0 r1 r2 r3 r4 r5 : Int} (h : Row W b r0 r1 r2 r3 r4 r5) : Row (W.setCell ⟨b, 5, none⟩ (.int .u64 v)) b r0 r1 r2 r3 r4 v := by
  constructor
  · rw [World.cell?_setCell_other _ _ _ _ (by simp)]; exact h.c0
  · rw [World.cell?_setCell_other _ _ _ _ (by simp)]; exact h.c1
  · rw [World.cell?_setCell_other _ _ _ _ (by simp)]; exact h.c2
  · rw [World.cell?_setCell_other _ _ _ _ (by simp)]; exact h.c3
  · rw [World.cell?_setCell_other _ _ _ _ (by simp)]; exact h.c4
  · exact World.cell?_setCell_same _ _ _ h.c5
  · rw [World.frozen?_setCell]; exact h.f0
  · rw [World.frozen?_setCell]; exact h.f1
  · rw [World.frozen?_setCell]; exact h.f2
  · rw [World.frozen?_setCell]; exact h.f3
  · rw [World.frozen?_setCell]; exact h.f4
  · rw [World.frozen?_setCell]; exact h.f5
  · rw [World.size_setCell]; exact h.big
theorem Row.on {W W' : World} {b : Nat} {r0 r1 r2 r3 r4 r5 : Int} (h : Row W b r0 r1 r2 r3 r4 r5) (q : Q W W') : Row W' b r0 r1 r2 r3 r4 r5 := by
  have hb := h.big
  constructor
  · rw [q.cell hb]; exact h.c0
  · rw [q.cell hb]; exact h.c1
  · rw [q.cell hb]; exact h.c2
  · rw [q.cell hb]; exact h.c3
  · rw [q.cell hb]; exact h.c4
  · rw [q.cell hb]; exact h.c5
  · rw [Below.frozen q (p := ⟨b, 0, none⟩) hb]; exact h.f0
  · rw [Below.frozen q (p := ⟨b, 1, none⟩) hb]; exact h.f1
  · rw [Below.frozen q (p := ⟨b, 2, none⟩) hb]; exact h.f2
  · rw [Below.frozen q (p := ⟨b, 3, none⟩) hb]; exact h.f3
  · rw [Below.frozen q (p := ⟨b, 4, none⟩) hb]; exact h.f4
  · rw [Below.frozen q (p := ⟨b, 5, none⟩) hb]; exact h.f5
  · exact q.lt hb
theorem Q.setCell {a w : World} (h : Q a w) {b k : Nat} (hb : a.heap.size ≤ b) (v : Value) : Q a (w.setCell ⟨b, k, none⟩ v) := Below.setCell h hb v
def tsum (k : Nat) (N0 N1 N2 N3 N4 N5 : Int) : Int :=
  match k with
  | 0 => 0
  | 1 => 0 + N0 * 1
  | 2 => 0 + N0 * 1 + N1 * 4294967296
  | 3 => 0 + N0 * 1 + N1 * 4294967296 + N2 * 18446744073709551616
  | 4 => 0 + N0 * 1 + N1 * 4294967296 + N2 * 18446744073709551616 + N3 * 79228162514264337593543950336
  | 5 => 0 + N0 * 1 + N1 * 4294967296 + N2 * 18446744073709551616 + N3 * 79228162514264337593543950336 + N4 * 340282366920938463463374607431768211456
  | _ => 0 + N0 * 1 + N1 * 4294967296 + N2 * 18446744073709551616 + N3 * 79228162514264337593543950336 + N4 * 340282366920938463463374607431768211456 + N5 * 1461501637330902918203684832716283019655932542976
structure TI (k : Nat) (N0 N1 N2 N3 N4 N5 r0 r1 r2 r3 r4 r5 : Int) : Prop where
  l0 : 0 ≤ r0
  u0 : r0 < 4294967296
  l1 : 0 ≤ r1
  u1 : r1 < 4294967296
  l2 : 0 ≤ r2
  u2 : r2 < 4294967296
  l3 : 0 ≤ r3
  u3 : r3 < 4294967296
  l4 : 0 ≤ r4
  u4 : r4 < 4294967296
  l5 : 0 ≤ r5
  u5 : r5 < 4294967296
  z0 : k = 0 → r0 = 0
  z1 : k + 2 ≤ 1 → r1 = 0
  z2 : k + 2 ≤ 2 → r2 = 0
  z3 : k + 2 ≤ 3 → r3 = 0
  z4 : k + 2 ≤ 4 → r4 = 0
  z5 : k + 2 ≤ 5 → r5 = 0
  e : r0 + r1 * 4294967296 + r2 * 18446744073709551616 + r3 * 79228162514264337593543950336 + r4 * 340282366920938463463374607431768211456 + r5 * 1461501637330902918203684832716283019655932542976 = tsum k N0 N1 N2 N3 N4 N5
theorem step_of (x : Int) (h : 0 ≤ x ∧ x < 18446744073709551616) : ∃ r c : Int, x % 4294967296 = r ∧ x / 4294967296 = c ∧ 0 ≤ r ∧ r < 4294967296 ∧ 0 ≤ c ∧ c < 4294967296 ∧ x = r + c * 4294967296 :=
  ⟨_, _, rfl, rfl, by omega, by omega, by omega, by omega, by omega⟩
theorem room2 {r p : Int} (h : 0 ≤ p ∧ p ≤ 18446744065119617025) (r0 : 0 ≤ r) (r1 : r < 4294967296) : 0 ≤ r + p ∧ r + p < 18446744073709551616 := by omega
theorem room3 {c r p : Int} (h : 0 ≤ p ∧ p ≤ 18446744065119617025) (r0 : 0 ≤ r) (r1 : r < 4294967296) (c0 : 0 ≤ c) (c1 : c < 4294967296) : 0 ≤ c + (r + p) ∧ c + (r + p) < 18446744073709551616 := by omega
theorem wrap_in {p : Int} (h : 0 ≤ p ∧ p ≤ 18446744065119617025) : IntKind.u64.wrap p = p := by rw [IntKind.wrap_u64]; omega
theorem ti_next0 (N0 N1 N2 N3 N4 N5 r0 r1 r2 r3 r4 r5 x p q c y d T : Int) (h : TI 0 N0 N1 N2 N3 N4 N5 r0 r1 r2 r3 r4 r5) (e0 : r0 + p = x + c * 4294967296) (lx : 0 ≤ x) (ux : x < 4294967296) (lc : 0 ≤ c) (e1 : c + (r1 + q) = y + d * 4294967296) (ly : 0 ≤ y) (uy : y < 4294967296) (ld : 0 ≤ d) (ud : d < 4294967296) (hN : N0 = p + q * 4294967296) (lq : 0 ≤ q)
    (hT : T = tsum 6 N0 N1 N2 N3 N4 N5) (hlt : T < 6277101735386680763835789423207666416102355444464034512896) (n0 : 0 ≤ N0) (n1 : 0 ≤ N1) (n2 : 0 ≤ N2) (n3 : 0 ≤ N3) (n4 : 0 ≤ N4) (n5 : 0 ≤ N5) : TI 1 N0 N1 N2 N3 N4 N5 x y (r2 + d) r3 r4 r5 := by
  obtain ⟨l0, u0, l1, u1, l2, u2, l3, u3, l4, u4, l5, u5, z0, z1, z2, z3, z4, z5, e⟩ := h
  simp only [tsum] at e hT
  have zz := z2 (by omega)
  constructor
  all_goals first | omega | (intro hk; omega) | (simp only [tsum]; omega)
theorem ti_next1 (N0 N1 N2 N3 N4 N5 r0 r1 r2 r3 r4 r5 x p q c y d T : Int) (h : TI 1 N0 N1 N2 N3 N4 N5 r0 r1 r2 r3 r4 r5) (e0 : r1 + p = x + c * 4294967296) (lx : 0 ≤ x) (ux : x < 4294967296) (lc : 0 ≤ c) (e1 : c + (r2 + q) = y + d * 4294967296) (ly : 0 ≤ y) (uy : y < 4294967296) (ld : 0 ≤ d) (ud : d < 4294967296) (hN : N1 = p + q * 4294967296) (lq : 0 ≤ q)
    (hT : T = tsum 6 N0 N1 N2 N3 N4 N5) (hlt : T < 6277101735386680763835789423207666416102355444464034512896) (n0 : 0 ≤ N0) (n1 : 0 ≤ N1) (n2 : 0 ≤ N2) (n3 : 0 ≤ N3) (n4 : 0 ≤ N4) (n5 : 0 ≤ N5) : TI 2 N0 N1 N2 N3 N4 N5 r0 x y (r3 + d) r4 r5 := by
  obtain ⟨l0, u0, l1, u1, l2, u2, l3, u3, l4, u4, l5, u5, z0, z1, z2, z3, z4, z5, e⟩ := h
  simp only [tsum] at e hT
  have zz := z3 (by omega)
  constructor
  all_goals first | omega | (intro hk; omega) | (simp only [tsum]; omega)
theorem ti_next2 (N0 N1 N2 N3 N4 N5 r0 r1 r2 r3 r4 r5 x p q c y d T : Int) (h : TI 2 N0 N1 N2 N3 N4 N5 r0 r1 r2 r3 r4 r5) (e0 : r2 + p = x + c * 4294967296) (lx : 0 ≤ x) (ux : x < 4294967296) (lc : 0 ≤ c) (e1 : c + (r3 + q) = y + d * 4294967296) (ly : 0 ≤ y) (uy : y < 4294967296) (ld : 0 ≤ d) (ud : d < 4294967296) (hN : N2 = p + q * 4294967296) (lq : 0 ≤ q)
    (hT : T = tsum 6 N0 N1 N2 N3 N4 N5) (hlt : T < 6277101735386680763835789423207666416102355444464034512896) (n0 : 0 ≤ N0) (n1 : 0 ≤ N1) (n2 : 0 ≤ N2) (n3 : 0 ≤ N3) (n4 : 0 ≤ N4) (n5 : 0 ≤ N5) : TI 3 N0 N1 N2 N3 N4 N5 r0 r1 x y (r4 + d) r5 := by
  obtain ⟨l0, u0, l1, u1, l2, u2, l3, u3, l4, u4, l5, u5, z0, z1, z2, z3, z4, z5, e⟩ := h
  simp only [tsum] at e hT
  have zz := z4 (by omega)
  constructor
  all_goals first | omega | (intro hk; omega) | (simp only [tsum]; omega)
theorem ti_next3 (N0 N1 N2 N3 N4 N5 r0 r1 r2 r3 r4 r5 x p q c y d T : Int) (h : TI 3 N0 N1 N2 N3 N4 N5 r0 r1 r2 r3 r4 r5) (e0 : r3 + p = x + c * 4294967296) (lx : 0 ≤ x) (ux : x < 4294967296) (lc : 0 ≤ c) (e1 : c + (r4 + q) = y + d * 4294967296) (ly : 0 ≤ y) (uy : y < 4294967296) (ld : 0 ≤ d) (ud : d < 4294967296) (hN : N3 = p + q * 4294967296) (lq : 0 ≤ q)
    (hT : T = tsum 6 N0 N1 N2 N3 N4 N5) (hlt : T < 6277101735386680763835789423207666416102355444464034512896) (n0 : 0 ≤ N0) (n1 : 0 ≤ N1) (n2 : 0 ≤ N2) (n3 : 0 ≤ N3) (n4 : 0 ≤ N4) (n5 : 0 ≤ N5) : TI 4 N0 N1 N2 N3 N4 N5 r0 r1 r2 x y (r5 + d) := by
  obtain ⟨l0, u0, l1, u1, l2, u2, l3, u3, l4, u4, l5, u5, z0, z1, z2, z3, z4, z5, e⟩ := h
  simp only [tsum] at e hT
  have zz := z5 (by omega)
  constructor
  all_goals first | omega | (intro hk; omega) | (simp only [tsum]; omega)
theorem ti_next4 (N0 N1 N2 N3 N4 N5 r0 r1 r2 r3 r4 r5 x p q c y d T : Int) (h : TI 4 N0 N1 N2 N3 N4 N5 r0 r1 r2 r3 r4 r5) (e0 : r4 + p = x + c * 4294967296) (lx : 0 ≤ x) (ux : x < 4294967296) (lc : 0 ≤ c) (e1 : c + (r5 + q) = y + d * 4294967296) (ly : 0 ≤ y) (uy : y < 4294967296) (ld : 0 ≤ d) (ud : d < 4294967296) (hN : N4 = p + q * 4294967296) (lq : 0 ≤ q)
    (hT : T = tsum 6 N0 N1 N2 N3 N4 N5) (hlt : T < 6277101735386680763835789423207666416102355444464034512896) (n0 : 0 ≤ N0) (n1 : 0 ≤ N1) (n2 : 0 ≤ N2) (n3 : 0 ≤ N3) (n4 : 0 ≤ N4) (n5 : 0 ≤ N5) : TI 5 N0 N1 N2 N3 N4 N5 r0 r1 r2 r3 x y := by
  obtain ⟨l0, u0, l1, u1, l2, u2, l3, u3, l4, u4, l5, u5, z0, z1, z2, z3, z4, z5, e⟩ := h
  simp only [tsum] at e hT
  constructor
  all_goals first | omega | (intro hk; omega) | (simp only [tsum]; omega)
theorem ti_next5 (N0 N1 N2 N3 N4 N5 r0 r1 r2 r3 r4 r5 x p q c T : Int) (h : TI 5 N0 N1 N2 N3 N4 N5 r0 r1 r2 r3 r4 r5) (e0 : r5 + p = x + c * 4294967296) (lx : 0 ≤ x) (ux : x < 4294967296) (lc : 0 ≤ c) (hN : N5 = p + q * 4294967296) (lq : 0 ≤ q)
    (hT : T = tsum 6 N0 N1 N2 N3 N4 N5) (hlt : T < 6277101735386680763835789423207666416102355444464034512896) (n0 : 0 ≤ N0) (n1 : 0 ≤ N1) (n2 : 0 ≤ N2) (n3 : 0 ≤ N3) (n4 : 0 ≤ N4) (n5 : 0 ≤ N5) : TI 6 N0 N1 N2 N3 N4 N5 r0 r1 r2 r3 r4 x := by
  obtain ⟨l0, u0, l1, u1, l2, u2, l3, u3, l4, u4, l5, u5, z0, z1, z2, z3, z4, z5, e⟩ := h
  simp only [tsum] at e hT
  constructor
  all_goals first | omega | (intro hk; omega) | (simp only [tsum]; omega)
end Go.Proofs.YtfjpdopmojfchaaGreatDoor
