/- math/bits.Div64, walked. -/
import Derived.Test.YtfjpdopmojfchaaGreatDoorKc00
set_option linter.unusedVariables false
set_option linter.unusedSimpArgs false
set_option maxRecDepth 100000
set_option maxHeartbeats 8000000
namespace Go.Proofs.YtfjpdopmojfchaaGreatDoor
open Go.RowKit
set_option maxHeartbeats 4000000 in
theorem div64_walk (hi lo y s U L Y Y1 Y0 L1 L0 Q1 U2 Q0 R : Int) (w : World) (h1 : 0 < hi) (h2 : hi < y) (h3 : 0 ≤ lo) (h4 : lo < 18446744073709551616) (h5 : y < 18446744073709551616)
    (s0 : 0 ≤ s) (s1 : s < 64) (hlz : ∀ w, Calls Tryz.prog 156 #[.int .u64 y] w fun e w' => e = .returned (.int .i64 s) ∧ w' = w)
    (eY : IntKind.u64.wrap (y * 2 ^ s.toNat) = Y) (eY1 : Y / 4294967296 = Y1) (eY0 : bits BinOp.and IntKind.u64 Y 4294967295 = Y0)
    (eU : bits BinOp.or IntKind.u64 (IntKind.u64.wrap (hi * 2 ^ s.toNat)) (lo / 2 ^ (64 - s).toNat) = U)
    (eL : IntKind.u64.wrap (lo * 2 ^ s.toNat) = L) (eL1 : L / 4294967296 = L1) (eL0 : bits BinOp.and IntKind.u64 L 4294967295 = L0)
    (bY : Y < 18446744073709551616) (D1 : Dig U L1 Y Y1 Y0 Q1) (hU2 : Hid (U2 = (U * 4294967296 + L1) % Y)) (D0 : Dig U2 L0 Y Y1 Y0 Q0) (hR : Hid (R = (U2 * 4294967296 + L0) % Y)) :
    Calls Tryz.prog 142 #[.int .u64 hi, .int .u64 lo, .int .u64 y] w fun e w' => e = .returned (.tuple #[.int .u64 (Q1 * 4294967296 + Q0), .int .u64 (R / 2 ^ s.toNat)]) ∧ w' = w := by
  have b1 := D1.y1a
  have b2 := D1.y1b
  have b3 := D1.y0a
  have b4 := D1.y0b
  have b5 := D1.ua
  have b6 := D1.ub
  have b7 := D1.da
  have b8 := D1.db
  have c1 := D0.ua
  have c2 := D0.ub
  have c3 := D0.da
  have c4 := D0.db
  have eU2 : IntKind.u64.wrap (IntKind.u64.wrap (IntKind.u64.wrap (U * 4294967296) + L1) - IntKind.u64.wrap (Q1 * Y)) = U2 := by
    have a := D1.rest
    rw [← hU2.out] at a
    simp only [IntKind.wrap_u64]
    omega
  have eR : IntKind.u64.wrap (IntKind.u64.wrap (IntKind.u64.wrap (U2 * 4294967296) + L0) - IntKind.u64.wrap (Q0 * Y)) = R := by
    have a := D0.rest
    rw [← hR.out] at a
    simp only [IntKind.wrap_u64]
    omega
  have S0 := D0.start
  have F16 : Hid (IntKind.u64.wrap (U2 - IntKind.u64.wrap (U2 / Y1 * Y1)) = U2 % Y1) := by
    show IntKind.u64.wrap (U2 - IntKind.u64.wrap (U2 / Y1 * Y1)) = U2 % Y1
    rw [IntKind.wrap_u64, IntKind.wrap_u64]
    omega
  have S0' : Hid (Q0 ≤ U2 / Y1 ∧ 0 ≤ U2 / Y1 ∧ U2 / Y1 ≤ 4294967297 ∧ 0 ≤ U2 % Y1 ∧ U2 % Y1 < 4294967296 ∧ U2 / Y1 * Y1 + U2 % Y1 = U2 ∧ 0 ≤ Q0 ∧ Q0 < 4294967296) := S0
  have q0a := S0.2.2.2.2.2.2.1
  have q0b := S0.2.2.2.2.2.2.2
  clear S0
  have HZ := @hlz
  clear hlz
  have S := D1.start
  have E16 : Hid (IntKind.u64.wrap (U - IntKind.u64.wrap (U / Y1 * Y1)) = U % Y1) := by
    show IntKind.u64.wrap (U - IntKind.u64.wrap (U / Y1 * Y1)) = U % Y1
    rw [IntKind.wrap_u64, IntKind.wrap_u64]
    omega
  have S' : Hid (Q1 ≤ U / Y1 ∧ 0 ≤ U / Y1 ∧ U / Y1 ≤ 4294967297 ∧ 0 ≤ U % Y1 ∧ U % Y1 < 4294967296 ∧ U / Y1 * Y1 + U % Y1 = U ∧ 0 ≤ Q1 ∧ Q1 < 4294967296) := S
  have q1a := S.2.2.2.2.2.2.1
  have q1b := S.2.2.2.2.2.2.2
  clear S
  go_enter Tryz.func142, Tryz.ntmps142
  go_wp2_with (go_at_call 156; refine (HZ _).mono ?_; rintro e w' ⟨rfl, rfl⟩)
  go_loop [15, 16] (fun a b => ∃ q r : Int, a = .int .u64 q ∧ b = .int .u64 r ∧ 0 ≤ q ∧ q ≤ 4294967297 ∧ 0 ≤ r ∧ r < 4294967296 ∧ Hid (q * Y1 + r = U) ∧ Q1 ≤ q) (fun a _ => (intOf a).toNat)
  case atStart => exact ⟨_, _, rfl, by rw [E16.out], S'.out.2.1, S'.out.2.2.1, S'.out.2.2.2.1, S'.out.2.2.2.2.1, S'.out.2.2.2.2.2.1, S'.out.1⟩
  case round =>
    obtain ⟨q, r, rfl, rfl, q0, q1, r0, r1, hq, qQ⟩ := hrel
    have rm := D1.room q0 q1
    have eP : IntKind.u64.wrap (q * Y0) = q * Y0 := by rw [IntKind.wrap_u64]; omega
    by_cases t : 4294967296 ≤ q ∨ 4294967296 * r + L1 < q * Y0
    · have lt : Q1 < q := by
        rcases t with t | t
        · omega
        · exact D1.gt hq.out t
      have hq' : Hid ((q - 1) * Y1 + (r + Y1) = U) := by
        show (q - 1) * Y1 + (r + Y1) = U
        have := hq.out
        rw [Int.sub_mul]
        omega
      have H : Hid (4294967296 ≤ r + Y1 → q - 1 = Q1) := by
        intro k
        have := D1.brk (q := q - 1) (by omega) k hq'.out
        omega
      have T : (decide (4294967296 ≤ q) || decide (4294967296 * r + L1 < q * Y0)) = true := by simpa using t
      clear t
      by_cases k : 4294967296 ≤ r + Y1
      · have e := H.out k
        go_wp2
        all_goals
          go_loop [18, 16] (fun a b => ∃ q r : Int, a = .int .u64 q ∧ b = .int .u64 r ∧ 0 ≤ q ∧ q ≤ 4294967297 ∧ 0 ≤ r ∧ r < 4294967296 ∧ Hid (q * Y1 + r = U2) ∧ Q0 ≤ q) (fun a _ => (intOf a).toNat)
          case atStart => exact ⟨_, _, rfl, by rw [F16.out], S0'.out.2.1, S0'.out.2.2.1, S0'.out.2.2.2.1, S0'.out.2.2.2.2.1, S0'.out.2.2.2.2.2.1, S0'.out.1⟩
          case round =>
            obtain ⟨q, r, rfl, rfl, q0, q1, r0, r1, hq, qQ⟩ := hrel
            have rm := D0.room q0 q1
            have eP : IntKind.u64.wrap (q * Y0) = q * Y0 := by rw [IntKind.wrap_u64]; omega
            by_cases t : 4294967296 ≤ q ∨ 4294967296 * r + L0 < q * Y0
            · have lt : Q0 < q := by
                rcases t with t | t
                · omega
                · exact D0.gt hq.out t
              have hq' : Hid ((q - 1) * Y1 + (r + Y1) = U2) := by
                show (q - 1) * Y1 + (r + Y1) = U2
                have := hq.out
                rw [Int.sub_mul]
                omega
              have H : Hid (4294967296 ≤ r + Y1 → q - 1 = Q0) := by
                intro k
                have := D0.brk (q := q - 1) (by omega) k hq'.out
                omega
              have T : (decide (4294967296 ≤ q) || decide (4294967296 * r + L0 < q * Y0)) = true := by simpa using t
              clear t
              by_cases k : 4294967296 ≤ r + Y1
              · have e := H.out k
                go_wp2
                all_goals go_ret2
                all_goals exact ⟨rfl, rfl⟩
              · go_wp2
                all_goals
                  go_round
                  case rel => exact ⟨q - 1, r + Y1, rfl, rfl, by omega, by omega, by omega, by omega, hq', by omega⟩
                  case measure => simp [intOf]; omega
            · have e : q = Q0 := by
                have := D0.le (q := q) hq.out (by omega)
                omega
              subst e
              have t1 : q < 4294967296 := by omega
              have t2 : q * Y0 ≤ 4294967296 * r + L0 := by omega
              clear t
              go_wp2
              all_goals go_ret2
              all_goals exact ⟨rfl, rfl⟩
      · go_wp2
        all_goals
          go_round
          case rel => exact ⟨q - 1, r + Y1, rfl, rfl, by omega, by omega, by omega, by omega, hq', by omega⟩
          case measure => simp [intOf]; omega
    · have e : q = Q1 := by
        have := D1.le (q := q) hq.out (by omega)
        omega
      subst e
      have t1 : q < 4294967296 := by omega
      have t2 : q * Y0 ≤ 4294967296 * r + L1 := by omega
      clear t
      go_wp2
      go_loop [18, 16] (fun a b => ∃ q r : Int, a = .int .u64 q ∧ b = .int .u64 r ∧ 0 ≤ q ∧ q ≤ 4294967297 ∧ 0 ≤ r ∧ r < 4294967296 ∧ Hid (q * Y1 + r = U2) ∧ Q0 ≤ q) (fun a _ => (intOf a).toNat)
      case atStart => exact ⟨_, _, rfl, by rw [F16.out], S0'.out.2.1, S0'.out.2.2.1, S0'.out.2.2.2.1, S0'.out.2.2.2.2.1, S0'.out.2.2.2.2.2.1, S0'.out.1⟩
      case round =>
        obtain ⟨q, r, rfl, rfl, q0, q1, r0, r1, hq, qQ⟩ := hrel
        have rm := D0.room q0 q1
        have eP : IntKind.u64.wrap (q * Y0) = q * Y0 := by rw [IntKind.wrap_u64]; omega
        by_cases t : 4294967296 ≤ q ∨ 4294967296 * r + L0 < q * Y0
        · have lt : Q0 < q := by
            rcases t with t | t
            · omega
            · exact D0.gt hq.out t
          have hq' : Hid ((q - 1) * Y1 + (r + Y1) = U2) := by
            show (q - 1) * Y1 + (r + Y1) = U2
            have := hq.out
            rw [Int.sub_mul]
            omega
          have H : Hid (4294967296 ≤ r + Y1 → q - 1 = Q0) := by
            intro k
            have := D0.brk (q := q - 1) (by omega) k hq'.out
            omega
          have T : (decide (4294967296 ≤ q) || decide (4294967296 * r + L0 < q * Y0)) = true := by simpa using t
          clear t
          by_cases k : 4294967296 ≤ r + Y1
          · have e := H.out k
            go_wp2
            all_goals go_ret2
            all_goals exact ⟨rfl, rfl⟩
          · go_wp2
            all_goals
              go_round
              case rel => exact ⟨q - 1, r + Y1, rfl, rfl, by omega, by omega, by omega, by omega, hq', by omega⟩
              case measure => simp [intOf]; omega
        · have e : q = Q0 := by
            have := D0.le (q := q) hq.out (by omega)
            omega
          subst e
          have t1 : q < 4294967296 := by omega
          have t2 : q * Y0 ≤ 4294967296 * r + L0 := by omega
          clear t
          go_wp2
          all_goals go_ret2
          all_goals exact ⟨rfl, rfl⟩
end Go.Proofs.YtfjpdopmojfchaaGreatDoor
