/- Numbers of six digits of 32 bits (counterpaneref1.W): what its functions return. -/
import Derived.Test.YtfjpdopmojfchaaGreatDoorQ
import Derived.Handy
namespace Go.Proofs.YtfjpdopmojfchaaGreatDoor
open Go.RowKit
/-- six digits of 32 bits write n -/
structure Dg (a0 a1 a2 a3 a4 a5 n : Int) : Prop where
  l0 : 0 ≤ a0
  h0 : a0 < 4294967296
  l1 : 0 ≤ a1
  h1 : a1 < 4294967296
  l2 : 0 ≤ a2
  h2 : a2 < 4294967296
  l3 : 0 ≤ a3
  h3 : a3 < 4294967296
  l4 : 0 ≤ a4
  h4 : a4 < 4294967296
  l5 : 0 ≤ a5
  h5 : a5 < 4294967296
  e : n = a0 + a1 * 4294967296 + a2 * 18446744073709551616 + a3 * 79228162514264337593543950336 + a4 * 340282366920938463463374607431768211456 + a5 * 1461501637330902918203684832716283019655932542976
/-- a result that is such a number -/
def WR (n : Int) (e : Ending) : Prop := ∃ a0 a1 a2 a3 a4 a5 : Int, e = .returned (.agg #[.int .u64 a0, .int .u64 a1, .int .u64 a2, .int .u64 a3, .int .u64 a4, .int .u64 a5]) ∧ Dg a0 a1 a2 a3 a4 a5 n
theorem ret_agg {v u : Value} (h : v = u) : Ending.returned v = .returned u := by rw [h]
set_option maxHeartbeats 400000 in
theorem one_any (n : Int) (w : World) (h0 : 0 ≤ n) (h1 : n < 18446744073709551616) :
    Calls Tryz.prog 101 #[.int .u64 n] w fun e w' => WR n e ∧ Q w w' := by
  go_enter Tryz.func101, Tryz.ntmps101
  go_wp2
  refine bodyPost_ret (v := .agg #[.int .u64 (n % 4294967296), .int .u64 (n / 4294967296), .int .u64 0, .int .u64 0, .int .u64 0, .int .u64 0]) (by simp [results, Tryz.results101, go_sem]) rfl ⟨⟨_, _, _, _, _, _, rfl, ?_⟩, ((Q.refl w).alloc _).alloc _⟩
  exact ⟨by omega, by omega, by omega, by omega, by omega, by omega, by omega, by omega, by omega, by omega, by omega, by omega, by omega⟩
set_option maxHeartbeats 2000000 in
theorem plus_any (a0 a1 a2 a3 a4 a5 a b0 b1 b2 b3 b4 b5 b : Int) (w : World) (ha : Dg a0 a1 a2 a3 a4 a5 a) (hb : Dg b0 b1 b2 b3 b4 b5 b) (hlt : a + b < 6277101735386680763835789423207666416102355444464034512896) :
    Calls Tryz.prog 118 #[.agg #[.int .u64 a0, .int .u64 a1, .int .u64 a2, .int .u64 a3, .int .u64 a4, .int .u64 a5], .agg #[.int .u64 b0, .int .u64 b1, .int .u64 b2, .int .u64 b3, .int .u64 b4, .int .u64 b5]] w fun e w' => WR (a + b) e ∧ Q w w' := by
  obtain ⟨x0, y0, x1, y1, x2, y2, x3, y3, x4, y4, x5, y5, ea⟩ := ha
  obtain ⟨u0, v0, u1, v1, u2, v2, u3, v3, u4, v4, u5, v5, eb⟩ := hb
  obtain ⟨r0, E0⟩ : ∃ r, (a0 + b0) % 4294967296 = r := ⟨_, rfl⟩
  obtain ⟨c0, F0⟩ : ∃ c, (a0 + b0) / 4294967296 = c := ⟨_, rfl⟩
  have rl0 : 0 ≤ r0 := by omega
  have rh0 : r0 < 4294967296 := by omega
  have cl0 : 0 ≤ c0 := by omega
  have ch0 : c0 ≤ 1 := by omega
  obtain ⟨r1, E1⟩ : ∃ r, (a1 + b1 + c0) % 4294967296 = r := ⟨_, rfl⟩
  obtain ⟨c1, F1⟩ : ∃ c, (a1 + b1 + c0) / 4294967296 = c := ⟨_, rfl⟩
  have rl1 : 0 ≤ r1 := by omega
  have rh1 : r1 < 4294967296 := by omega
  have cl1 : 0 ≤ c1 := by omega
  have ch1 : c1 ≤ 1 := by omega
  obtain ⟨r2, E2⟩ : ∃ r, (a2 + b2 + c1) % 4294967296 = r := ⟨_, rfl⟩
  obtain ⟨c2, F2⟩ : ∃ c, (a2 + b2 + c1) / 4294967296 = c := ⟨_, rfl⟩
  have rl2 : 0 ≤ r2 := by omega
  have rh2 : r2 < 4294967296 := by omega
  have cl2 : 0 ≤ c2 := by omega
  have ch2 : c2 ≤ 1 := by omega
  obtain ⟨r3, E3⟩ : ∃ r, (a3 + b3 + c2) % 4294967296 = r := ⟨_, rfl⟩
  obtain ⟨c3, F3⟩ : ∃ c, (a3 + b3 + c2) / 4294967296 = c := ⟨_, rfl⟩
  have rl3 : 0 ≤ r3 := by omega
  have rh3 : r3 < 4294967296 := by omega
  have cl3 : 0 ≤ c3 := by omega
  have ch3 : c3 ≤ 1 := by omega
  obtain ⟨r4, E4⟩ : ∃ r, (a4 + b4 + c3) % 4294967296 = r := ⟨_, rfl⟩
  obtain ⟨c4, F4⟩ : ∃ c, (a4 + b4 + c3) / 4294967296 = c := ⟨_, rfl⟩
  have rl4 : 0 ≤ r4 := by omega
  have rh4 : r4 < 4294967296 := by omega
  have cl4 : 0 ≤ c4 := by omega
  have ch4 : c4 ≤ 1 := by omega
  obtain ⟨r5, E5⟩ : ∃ r, (a5 + b5 + c4) % 4294967296 = r := ⟨_, rfl⟩
  obtain ⟨c5, F5⟩ : ∃ c, (a5 + b5 + c4) / 4294967296 = c := ⟨_, rfl⟩
  have rl5 : 0 ≤ r5 := by omega
  have rh5 : r5 < 4294967296 := by omega
  have cl5 : 0 ≤ c5 := by omega
  have ch5 : c5 ≤ 1 := by omega
  have HD : Hid (Dg r0 r1 r2 r3 r4 r5 (a + b)) := ⟨rl0, rh0, rl1, rh1, rl2, rh2, rl3, rh3, rl4, rh4, rl5, rh5, by omega⟩
  clear ea eb hlt
  go_enter Tryz.func118, Tryz.ntmps118
  go_wp2
  refine wp_loop_rounds 7 ?_
  rw [rounds_succ]
  go_wp2
  go_region
  go_wp2
  rw [rounds_succ]
  go_wp2
  go_region
  go_wp2
  rw [rounds_succ]
  go_wp2
  go_region
  go_wp2
  rw [rounds_succ]
  go_wp2
  go_region
  go_wp2
  rw [rounds_succ]
  go_wp2
  go_region
  go_wp2
  rw [rounds_succ]
  go_wp2
  go_region
  go_wp2
  rw [rounds_succ]
  go_wp2
  exact bodyPost_ret (v := .agg #[.int .u64 r0, .int .u64 r1, .int .u64 r2, .int .u64 r3, .int .u64 r4, .int .u64 r5]) (by simp [results, Tryz.results118, go_sem]) rfl ⟨⟨_, _, _, _, _, _, rfl, HD.out⟩, (by repeat (first | exact Q.refl _ | refine Q.drew ?_ | refine Q.alloc ?_ _))⟩
set_option maxHeartbeats 2000000 in
theorem minus_any (a0 a1 a2 a3 a4 a5 a b0 b1 b2 b3 b4 b5 b : Int) (w : World) (ha : Dg a0 a1 a2 a3 a4 a5 a) (hb : Dg b0 b1 b2 b3 b4 b5 b) (hlt : b ≤ a) :
    Calls Tryz.prog 120 #[.agg #[.int .u64 a0, .int .u64 a1, .int .u64 a2, .int .u64 a3, .int .u64 a4, .int .u64 a5], .agg #[.int .u64 b0, .int .u64 b1, .int .u64 b2, .int .u64 b3, .int .u64 b4, .int .u64 b5]] w fun e w' => WR (a - b) e ∧ Q w w' := by
  obtain ⟨x0, y0, x1, y1, x2, y2, x3, y3, x4, y4, x5, y5, ea⟩ := ha
  obtain ⟨u0, v0, u1, v1, u2, v2, u3, v3, u4, v4, u5, v5, eb⟩ := hb
  obtain ⟨r0, E0⟩ : ∃ r, (a0 + 4294967296 - b0) % 4294967296 = r := ⟨_, rfl⟩
  obtain ⟨g0, G0⟩ : ∃ g, (a0 + 4294967296 - b0) / 4294967296 = g := ⟨_, rfl⟩
  have gl0 : 0 ≤ g0 := by omega
  have gh0 : g0 ≤ 1 := by omega
  obtain ⟨c0, F0⟩ : ∃ c, 1 - g0 = c := ⟨_, rfl⟩
  have rl0 : 0 ≤ r0 := by omega
  have rh0 : r0 < 4294967296 := by omega
  have cl0 : 0 ≤ c0 := by omega
  have ch0 : c0 ≤ 1 := by omega
  obtain ⟨r1, E1⟩ : ∃ r, (a1 + 4294967296 - b1 - c0) % 4294967296 = r := ⟨_, rfl⟩
  obtain ⟨g1, G1⟩ : ∃ g, (a1 + 4294967296 - b1 - c0) / 4294967296 = g := ⟨_, rfl⟩
  have gl1 : 0 ≤ g1 := by omega
  have gh1 : g1 ≤ 1 := by omega
  obtain ⟨c1, F1⟩ : ∃ c, 1 - g1 = c := ⟨_, rfl⟩
  have rl1 : 0 ≤ r1 := by omega
  have rh1 : r1 < 4294967296 := by omega
  have cl1 : 0 ≤ c1 := by omega
  have ch1 : c1 ≤ 1 := by omega
  obtain ⟨r2, E2⟩ : ∃ r, (a2 + 4294967296 - b2 - c1) % 4294967296 = r := ⟨_, rfl⟩
  obtain ⟨g2, G2⟩ : ∃ g, (a2 + 4294967296 - b2 - c1) / 4294967296 = g := ⟨_, rfl⟩
  have gl2 : 0 ≤ g2 := by omega
  have gh2 : g2 ≤ 1 := by omega
  obtain ⟨c2, F2⟩ : ∃ c, 1 - g2 = c := ⟨_, rfl⟩
  have rl2 : 0 ≤ r2 := by omega
  have rh2 : r2 < 4294967296 := by omega
  have cl2 : 0 ≤ c2 := by omega
  have ch2 : c2 ≤ 1 := by omega
  obtain ⟨r3, E3⟩ : ∃ r, (a3 + 4294967296 - b3 - c2) % 4294967296 = r := ⟨_, rfl⟩
  obtain ⟨g3, G3⟩ : ∃ g, (a3 + 4294967296 - b3 - c2) / 4294967296 = g := ⟨_, rfl⟩
  have gl3 : 0 ≤ g3 := by omega
  have gh3 : g3 ≤ 1 := by omega
  obtain ⟨c3, F3⟩ : ∃ c, 1 - g3 = c := ⟨_, rfl⟩
  have rl3 : 0 ≤ r3 := by omega
  have rh3 : r3 < 4294967296 := by omega
  have cl3 : 0 ≤ c3 := by omega
  have ch3 : c3 ≤ 1 := by omega
  obtain ⟨r4, E4⟩ : ∃ r, (a4 + 4294967296 - b4 - c3) % 4294967296 = r := ⟨_, rfl⟩
  obtain ⟨g4, G4⟩ : ∃ g, (a4 + 4294967296 - b4 - c3) / 4294967296 = g := ⟨_, rfl⟩
  have gl4 : 0 ≤ g4 := by omega
  have gh4 : g4 ≤ 1 := by omega
  obtain ⟨c4, F4⟩ : ∃ c, 1 - g4 = c := ⟨_, rfl⟩
  have rl4 : 0 ≤ r4 := by omega
  have rh4 : r4 < 4294967296 := by omega
  have cl4 : 0 ≤ c4 := by omega
  have ch4 : c4 ≤ 1 := by omega
  obtain ⟨r5, E5⟩ : ∃ r, (a5 + 4294967296 - b5 - c4) % 4294967296 = r := ⟨_, rfl⟩
  obtain ⟨g5, G5⟩ : ∃ g, (a5 + 4294967296 - b5 - c4) / 4294967296 = g := ⟨_, rfl⟩
  have gl5 : 0 ≤ g5 := by omega
  have gh5 : g5 ≤ 1 := by omega
  obtain ⟨c5, F5⟩ : ∃ c, 1 - g5 = c := ⟨_, rfl⟩
  have rl5 : 0 ≤ r5 := by omega
  have rh5 : r5 < 4294967296 := by omega
  have cl5 : 0 ≤ c5 := by omega
  have ch5 : c5 ≤ 1 := by omega
  have HD : Hid (Dg r0 r1 r2 r3 r4 r5 (a - b)) := ⟨rl0, rh0, rl1, rh1, rl2, rh2, rl3, rh3, rl4, rh4, rl5, rh5, by omega⟩
  clear ea eb hlt
  go_enter Tryz.func120, Tryz.ntmps120
  go_wp2
  refine wp_loop_rounds 7 ?_
  rw [rounds_succ]
  go_wp2
  go_region
  go_wp2
  rw [rounds_succ]
  go_wp2
  go_region
  go_wp2
  rw [rounds_succ]
  go_wp2
  go_region
  go_wp2
  rw [rounds_succ]
  go_wp2
  go_region
  go_wp2
  rw [rounds_succ]
  go_wp2
  go_region
  go_wp2
  rw [rounds_succ]
  go_wp2
  go_region
  go_wp2
  rw [rounds_succ]
  go_wp2
  exact bodyPost_ret (v := .agg #[.int .u64 r0, .int .u64 r1, .int .u64 r2, .int .u64 r3, .int .u64 r4, .int .u64 r5]) (by simp [results, Tryz.results120, go_sem]) rfl ⟨⟨_, _, _, _, _, _, rfl, HD.out⟩, (by repeat (first | exact Q.refl _ | refine Q.drew ?_ | refine Q.alloc ?_ _))⟩
set_option maxHeartbeats 2000000 in
theorem twice_any (a0 a1 a2 a3 a4 a5 a bit : Int) (w : World) (ha : Dg a0 a1 a2 a3 a4 a5 a) (hb0 : 0 ≤ bit) (hb1 : bit ≤ 1) (hlt : a * 2 + bit < 6277101735386680763835789423207666416102355444464034512896) :
    Calls Tryz.prog 135 #[.agg #[.int .u64 a0, .int .u64 a1, .int .u64 a2, .int .u64 a3, .int .u64 a4, .int .u64 a5], .int .u64 bit] w fun e w' => WR (a * 2 + bit) e ∧ Q w w' := by
  obtain ⟨x0, y0, x1, y1, x2, y2, x3, y3, x4, y4, x5, y5, ea⟩ := ha
  obtain ⟨r0, E0⟩ : ∃ r, (a0 * 2 + bit) % 4294967296 = r := ⟨_, rfl⟩
  obtain ⟨c0, F0⟩ : ∃ c, (a0 * 2 + bit) / 4294967296 = c := ⟨_, rfl⟩
  have rl0 : 0 ≤ r0 := by omega
  have rh0 : r0 < 4294967296 := by omega
  have cl0 : 0 ≤ c0 := by omega
  have ch0 : c0 ≤ 1 := by omega
  obtain ⟨r1, E1⟩ : ∃ r, (a1 * 2 + c0) % 4294967296 = r := ⟨_, rfl⟩
  obtain ⟨c1, F1⟩ : ∃ c, (a1 * 2 + c0) / 4294967296 = c := ⟨_, rfl⟩
  have rl1 : 0 ≤ r1 := by omega
  have rh1 : r1 < 4294967296 := by omega
  have cl1 : 0 ≤ c1 := by omega
  have ch1 : c1 ≤ 1 := by omega
  obtain ⟨r2, E2⟩ : ∃ r, (a2 * 2 + c1) % 4294967296 = r := ⟨_, rfl⟩
  obtain ⟨c2, F2⟩ : ∃ c, (a2 * 2 + c1) / 4294967296 = c := ⟨_, rfl⟩
  have rl2 : 0 ≤ r2 := by omega
  have rh2 : r2 < 4294967296 := by omega
  have cl2 : 0 ≤ c2 := by omega
  have ch2 : c2 ≤ 1 := by omega
  obtain ⟨r3, E3⟩ : ∃ r, (a3 * 2 + c2) % 4294967296 = r := ⟨_, rfl⟩
  obtain ⟨c3, F3⟩ : ∃ c, (a3 * 2 + c2) / 4294967296 = c := ⟨_, rfl⟩
  have rl3 : 0 ≤ r3 := by omega
  have rh3 : r3 < 4294967296 := by omega
  have cl3 : 0 ≤ c3 := by omega
  have ch3 : c3 ≤ 1 := by omega
  obtain ⟨r4, E4⟩ : ∃ r, (a4 * 2 + c3) % 4294967296 = r := ⟨_, rfl⟩
  obtain ⟨c4, F4⟩ : ∃ c, (a4 * 2 + c3) / 4294967296 = c := ⟨_, rfl⟩
  have rl4 : 0 ≤ r4 := by omega
  have rh4 : r4 < 4294967296 := by omega
  have cl4 : 0 ≤ c4 := by omega
  have ch4 : c4 ≤ 1 := by omega
  obtain ⟨r5, E5⟩ : ∃ r, (a5 * 2 + c4) % 4294967296 = r := ⟨_, rfl⟩
  obtain ⟨c5, F5⟩ : ∃ c, (a5 * 2 + c4) / 4294967296 = c := ⟨_, rfl⟩
  have rl5 : 0 ≤ r5 := by omega
  have rh5 : r5 < 4294967296 := by omega
  have cl5 : 0 ≤ c5 := by omega
  have ch5 : c5 ≤ 1 := by omega
  have HD : Hid (Dg r0 r1 r2 r3 r4 r5 (a * 2 + bit)) := ⟨rl0, rh0, rl1, rh1, rl2, rh2, rl3, rh3, rl4, rh4, rl5, rh5, by omega⟩
  clear ea hlt
  go_enter Tryz.func135, Tryz.ntmps135
  go_wp2
  refine wp_loop_rounds 7 ?_
  rw [rounds_succ]
  go_wp2
  rw [rounds_succ]
  go_wp2
  rw [rounds_succ]
  go_wp2
  rw [rounds_succ]
  go_wp2
  rw [rounds_succ]
  go_wp2
  rw [rounds_succ]
  go_wp2
  rw [rounds_succ]
  go_wp2
  exact bodyPost_ret (v := .agg #[.int .u64 r0, .int .u64 r1, .int .u64 r2, .int .u64 r3, .int .u64 r4, .int .u64 r5]) (by simp [results, Tryz.results135, go_sem]) rfl ⟨⟨_, _, _, _, _, _, rfl, HD.out⟩, (by repeat (first | exact Q.refl _ | refine Q.drew ?_ | refine Q.alloc ?_ _))⟩
end Go.Proofs.YtfjpdopmojfchaaGreatDoor
