/- counterpaneref10.May of format. -/
import Derived.Test.YtngnakdbhkjbjaaGreatDoorKd00
import Derived.Test.YtngnakdbhkjbjaaGreatDoorKd12
set_option linter.unusedVariables false
set_option linter.unusedSimpArgs false
set_option maxRecDepth 100000
set_option maxHeartbeats 8000000
namespace Go.Proofs.YtngnakdbhkjbjaaGreatDoor
open Go.RowKit
set_option maxHeartbeats 8000000 in
theorem rm_g1 (sh : ByteArray) (x4 x5 x6 x7 x8 x9 x10 x11 x12 x13 x14 x15 x16 : Value) (ra : Option Addr) (rc : Nat) (rl : Nat) (fm : Int) (w : World) (g0 : fm < 0) (g1 : decide (0 ≤ fm) = false) (HI : Hid (∀ V, Calls Tryz.prog 26 #[.string sh] V fun e V' => e = .returned (.bool true) ∧ V' = V)) (HC : Hid (∀ V, Q w V → Calls Tryz.prog 27 #[.agg #[x4, x5, x6, x7, x8, x9, x10, x11, x12, x13, x14, x15, x16], .agg #[.bool false, .int .i64 0, .int .i64 0, .string ⟨#[]⟩, .bool false, .int .i64 0, .int .i64 0, .int .i64 0, .string ⟨#[]⟩, .bool false, .int .i64 0, .slice none 0 0, .slice none 0 0]] V fun e V' => e = .returned (.bool true) ∧ Q V V')) : Calls Tryz.prog 9 #[.agg #[.int .i64 4, .string sh, .int .i64 0, .int .i64 0, x4, x5, x6, x7, x8, x9, x10, x11, x12, x13, x14, x15, x16, .int .i64 0, .int .i64 0, .int .i64 0, .slice ra rl rc, .int .i64 fm, .string ⟨#[]⟩]] w fun e V' => e = .returned (.bool false) ∧ Q w V' := by
  go_enter Tryz.func9, Tryz.ntmps9
  go_upto_region 1 with fail
  have Z1 := hid (cq_new w [.int .i64 4, .string sh, .int .i64 0, .int .i64 0, x4, x5, x6, x7, x8, x9, x10, x11, x12, x13, x14, x15, x16, .int .i64 0, .int .i64 0, .int .i64 0, .slice ra rl rc, .int .i64 fm, .string ⟨#[]⟩])
  rw [show ([.int .i64 4, .string sh, .int .i64 0, .int .i64 0, x4, x5, x6, x7, x8, x9, x10, x11, x12, x13, x14, x15, x16, .int .i64 0, .int .i64 0, .int .i64 0, .slice ra rl rc, .int .i64 fm, .string ⟨#[]⟩] : List Value).toArray = #[.int .i64 4, .string sh, .int .i64 0, .int .i64 0, x4, x5, x6, x7, x8, x9, x10, x11, x12, x13, x14, x15, x16, .int .i64 0, .int .i64 0, .int .i64 0, .slice ra rl rc, .int .i64 fm, .string ⟨#[]⟩] from rfl] at Z1
  have QA : Hid (Q w (w.alloc (.cells #[.int .i64 4, .string sh, .int .i64 0, .int .i64 0, x4, x5, x6, x7, x8, x9, x10, x11, x12, x13, x14, x15, x16, .int .i64 0, .int .i64 0, .int .i64 0, .slice ra rl rc, .int .i64 fm, .string ⟨#[]⟩] 35))) := hid ((Q.refl w).alloc _)
  generalize w.alloc (.cells #[.int .i64 4, .string sh, .int .i64 0, .int .i64 0, x4, x5, x6, x7, x8, x9, x10, x11, x12, x13, x14, x15, x16, .int .i64 0, .int .i64 0, .int .i64 0, .slice ra rl rc, .int .i64 fm, .string ⟨#[]⟩] 35) = w1 at Z1 QA ⊢
  generalize w.heap.size = b0 at Z1 ⊢
  have d0 := Z1.out.c 0 _ rfl
  have d1 := Z1.out.c 1 _ rfl
  have d2 := Z1.out.c 2 _ rfl
  have d3 := Z1.out.c 3 _ rfl
  have d4 := Z1.out.c 4 _ rfl
  have d5 := Z1.out.c 5 _ rfl
  have d6 := Z1.out.c 6 _ rfl
  have d7 := Z1.out.c 7 _ rfl
  have d8 := Z1.out.c 8 _ rfl
  have d9 := Z1.out.c 9 _ rfl
  have d10 := Z1.out.c 10 _ rfl
  have d11 := Z1.out.c 11 _ rfl
  have d12 := Z1.out.c 12 _ rfl
  have d13 := Z1.out.c 13 _ rfl
  have d14 := Z1.out.c 14 _ rfl
  have d15 := Z1.out.c 15 _ rfl
  have d16 := Z1.out.c 16 _ rfl
  have d17 := Z1.out.c 17 _ rfl
  have d18 := Z1.out.c 18 _ rfl
  have d19 := Z1.out.c 19 _ rfl
  have d20 := Z1.out.c 20 _ rfl
  have d21 := Z1.out.c 21 _ rfl
  have d22 := Z1.out.c 22 _ rfl
  go_upto_region 17 with (first | (go_at_call 26; refine (HI.out _).mono ?_; rintro e9 v9 ⟨rfl, h9⟩; replace h9 := h9.symm; subst h9) | (go_at_call 27; refine (HC.out _ QA.out).mono ?_; rintro e9 v0 ⟨rfl, q9⟩; have Q0 : Hid (Q w v0) := hid (QA.out.trans q9); have Z10 := hid (Z1.out.on q9); clear q9; have c17 := Z10.out.c 17 _ rfl; have c18 := Z10.out.c 18 _ rfl; have c19 := Z10.out.c 19 _ rfl; have c20 := Z10.out.c 20 _ rfl; have c21 := Z10.out.c 21 _ rfl; have c22 := Z10.out.c 22 _ rfl))
  have Q0D : Hid (Q w v0.drew) := hid (Q0.out.drew)
  have Z1D := hid (Z10.out.on (Q.refl _).drew)
  have t0_20 := Z1D.out.c 20 _ rfl
  have t0_21 := Z1D.out.c 21 _ rfl
  go_region
  all_goals go_wp2_with fail
  all_goals go_ret
  all_goals exact ⟨rfl, Q0D.out⟩
set_option maxHeartbeats 8000000 in
theorem rm_g2 (sh : ByteArray) (x4 x5 x6 x7 x8 x9 x10 x11 x12 x13 x14 x15 x16 : Value) (ra : Option Addr) (rc : Nat) (rl : Nat) (fm : Int) (w : World) (g0 : 0 ≤ fm) (g1 : 255 < fm) (g2 : decide (fm ≤ 255) = false) (HI : Hid (∀ V, Calls Tryz.prog 26 #[.string sh] V fun e V' => e = .returned (.bool true) ∧ V' = V)) (HC : Hid (∀ V, Q w V → Calls Tryz.prog 27 #[.agg #[x4, x5, x6, x7, x8, x9, x10, x11, x12, x13, x14, x15, x16], .agg #[.bool false, .int .i64 0, .int .i64 0, .string ⟨#[]⟩, .bool false, .int .i64 0, .int .i64 0, .int .i64 0, .string ⟨#[]⟩, .bool false, .int .i64 0, .slice none 0 0, .slice none 0 0]] V fun e V' => e = .returned (.bool true) ∧ Q V V')) : Calls Tryz.prog 9 #[.agg #[.int .i64 4, .string sh, .int .i64 0, .int .i64 0, x4, x5, x6, x7, x8, x9, x10, x11, x12, x13, x14, x15, x16, .int .i64 0, .int .i64 0, .int .i64 0, .slice ra rl rc, .int .i64 fm, .string ⟨#[]⟩]] w fun e V' => e = .returned (.bool false) ∧ Q w V' := by
  go_enter Tryz.func9, Tryz.ntmps9
  go_upto_region 1 with fail
  have Z1 := hid (cq_new w [.int .i64 4, .string sh, .int .i64 0, .int .i64 0, x4, x5, x6, x7, x8, x9, x10, x11, x12, x13, x14, x15, x16, .int .i64 0, .int .i64 0, .int .i64 0, .slice ra rl rc, .int .i64 fm, .string ⟨#[]⟩])
  rw [show ([.int .i64 4, .string sh, .int .i64 0, .int .i64 0, x4, x5, x6, x7, x8, x9, x10, x11, x12, x13, x14, x15, x16, .int .i64 0, .int .i64 0, .int .i64 0, .slice ra rl rc, .int .i64 fm, .string ⟨#[]⟩] : List Value).toArray = #[.int .i64 4, .string sh, .int .i64 0, .int .i64 0, x4, x5, x6, x7, x8, x9, x10, x11, x12, x13, x14, x15, x16, .int .i64 0, .int .i64 0, .int .i64 0, .slice ra rl rc, .int .i64 fm, .string ⟨#[]⟩] from rfl] at Z1
  have QA : Hid (Q w (w.alloc (.cells #[.int .i64 4, .string sh, .int .i64 0, .int .i64 0, x4, x5, x6, x7, x8, x9, x10, x11, x12, x13, x14, x15, x16, .int .i64 0, .int .i64 0, .int .i64 0, .slice ra rl rc, .int .i64 fm, .string ⟨#[]⟩] 35))) := hid ((Q.refl w).alloc _)
  generalize w.alloc (.cells #[.int .i64 4, .string sh, .int .i64 0, .int .i64 0, x4, x5, x6, x7, x8, x9, x10, x11, x12, x13, x14, x15, x16, .int .i64 0, .int .i64 0, .int .i64 0, .slice ra rl rc, .int .i64 fm, .string ⟨#[]⟩] 35) = w1 at Z1 QA ⊢
  generalize w.heap.size = b0 at Z1 ⊢
  have d0 := Z1.out.c 0 _ rfl
  have d1 := Z1.out.c 1 _ rfl
  have d2 := Z1.out.c 2 _ rfl
  have d3 := Z1.out.c 3 _ rfl
  have d4 := Z1.out.c 4 _ rfl
  have d5 := Z1.out.c 5 _ rfl
  have d6 := Z1.out.c 6 _ rfl
  have d7 := Z1.out.c 7 _ rfl
  have d8 := Z1.out.c 8 _ rfl
  have d9 := Z1.out.c 9 _ rfl
  have d10 := Z1.out.c 10 _ rfl
  have d11 := Z1.out.c 11 _ rfl
  have d12 := Z1.out.c 12 _ rfl
  have d13 := Z1.out.c 13 _ rfl
  have d14 := Z1.out.c 14 _ rfl
  have d15 := Z1.out.c 15 _ rfl
  have d16 := Z1.out.c 16 _ rfl
  have d17 := Z1.out.c 17 _ rfl
  have d18 := Z1.out.c 18 _ rfl
  have d19 := Z1.out.c 19 _ rfl
  have d20 := Z1.out.c 20 _ rfl
  have d21 := Z1.out.c 21 _ rfl
  have d22 := Z1.out.c 22 _ rfl
  go_upto_region 17 with (first | (go_at_call 26; refine (HI.out _).mono ?_; rintro e9 v9 ⟨rfl, h9⟩; replace h9 := h9.symm; subst h9) | (go_at_call 27; refine (HC.out _ QA.out).mono ?_; rintro e9 v0 ⟨rfl, q9⟩; have Q0 : Hid (Q w v0) := hid (QA.out.trans q9); have Z10 := hid (Z1.out.on q9); clear q9; have c17 := Z10.out.c 17 _ rfl; have c18 := Z10.out.c 18 _ rfl; have c19 := Z10.out.c 19 _ rfl; have c20 := Z10.out.c 20 _ rfl; have c21 := Z10.out.c 21 _ rfl; have c22 := Z10.out.c 22 _ rfl))
  have Q0D : Hid (Q w v0.drew) := hid (Q0.out.drew)
  have Z1D := hid (Z10.out.on (Q.refl _).drew)
  have t0_20 := Z1D.out.c 20 _ rfl
  have t0_21 := Z1D.out.c 21 _ rfl
  go_region
  all_goals go_wp2_with fail
  all_goals go_ret
  all_goals exact ⟨rfl, Q0D.out⟩
set_option maxHeartbeats 8000000 in
theorem rm_g3 (sh : ByteArray) (x4 x5 x6 x7 x8 x9 x10 x11 x12 x13 x14 x15 x16 : Value) (ra : Option Addr) (rc : Nat) (fm : Int) (w : World) (g0 : 0 ≤ fm) (g1 : fm ≤ 255) (HI : Hid (∀ V, Calls Tryz.prog 26 #[.string sh] V fun e V' => e = .returned (.bool true) ∧ V' = V)) (HC : Hid (∀ V, Q w V → Calls Tryz.prog 27 #[.agg #[x4, x5, x6, x7, x8, x9, x10, x11, x12, x13, x14, x15, x16], .agg #[.bool false, .int .i64 0, .int .i64 0, .string ⟨#[]⟩, .bool false, .int .i64 0, .int .i64 0, .int .i64 0, .string ⟨#[]⟩, .bool false, .int .i64 0, .slice none 0 0, .slice none 0 0]] V fun e V' => e = .returned (.bool true) ∧ Q V V')) : Calls Tryz.prog 9 #[.agg #[.int .i64 4, .string sh, .int .i64 0, .int .i64 0, x4, x5, x6, x7, x8, x9, x10, x11, x12, x13, x14, x15, x16, .int .i64 0, .int .i64 0, .int .i64 0, .slice ra 0 rc, .int .i64 fm, .string ⟨#[]⟩]] w fun e V' => e = .returned (.bool false) ∧ Q w V' := by
  go_enter Tryz.func9, Tryz.ntmps9
  go_upto_region 1 with fail
  have Z1 := hid (cq_new w [.int .i64 4, .string sh, .int .i64 0, .int .i64 0, x4, x5, x6, x7, x8, x9, x10, x11, x12, x13, x14, x15, x16, .int .i64 0, .int .i64 0, .int .i64 0, .slice ra 0 rc, .int .i64 fm, .string ⟨#[]⟩])
  rw [show ([.int .i64 4, .string sh, .int .i64 0, .int .i64 0, x4, x5, x6, x7, x8, x9, x10, x11, x12, x13, x14, x15, x16, .int .i64 0, .int .i64 0, .int .i64 0, .slice ra 0 rc, .int .i64 fm, .string ⟨#[]⟩] : List Value).toArray = #[.int .i64 4, .string sh, .int .i64 0, .int .i64 0, x4, x5, x6, x7, x8, x9, x10, x11, x12, x13, x14, x15, x16, .int .i64 0, .int .i64 0, .int .i64 0, .slice ra 0 rc, .int .i64 fm, .string ⟨#[]⟩] from rfl] at Z1
  have QA : Hid (Q w (w.alloc (.cells #[.int .i64 4, .string sh, .int .i64 0, .int .i64 0, x4, x5, x6, x7, x8, x9, x10, x11, x12, x13, x14, x15, x16, .int .i64 0, .int .i64 0, .int .i64 0, .slice ra 0 rc, .int .i64 fm, .string ⟨#[]⟩] 35))) := hid ((Q.refl w).alloc _)
  generalize w.alloc (.cells #[.int .i64 4, .string sh, .int .i64 0, .int .i64 0, x4, x5, x6, x7, x8, x9, x10, x11, x12, x13, x14, x15, x16, .int .i64 0, .int .i64 0, .int .i64 0, .slice ra 0 rc, .int .i64 fm, .string ⟨#[]⟩] 35) = w1 at Z1 QA ⊢
  generalize w.heap.size = b0 at Z1 ⊢
  have d0 := Z1.out.c 0 _ rfl
  have d1 := Z1.out.c 1 _ rfl
  have d2 := Z1.out.c 2 _ rfl
  have d3 := Z1.out.c 3 _ rfl
  have d4 := Z1.out.c 4 _ rfl
  have d5 := Z1.out.c 5 _ rfl
  have d6 := Z1.out.c 6 _ rfl
  have d7 := Z1.out.c 7 _ rfl
  have d8 := Z1.out.c 8 _ rfl
  have d9 := Z1.out.c 9 _ rfl
  have d10 := Z1.out.c 10 _ rfl
  have d11 := Z1.out.c 11 _ rfl
  have d12 := Z1.out.c 12 _ rfl
  have d13 := Z1.out.c 13 _ rfl
  have d14 := Z1.out.c 14 _ rfl
  have d15 := Z1.out.c 15 _ rfl
  have d16 := Z1.out.c 16 _ rfl
  have d17 := Z1.out.c 17 _ rfl
  have d18 := Z1.out.c 18 _ rfl
  have d19 := Z1.out.c 19 _ rfl
  have d20 := Z1.out.c 20 _ rfl
  have d21 := Z1.out.c 21 _ rfl
  have d22 := Z1.out.c 22 _ rfl
  go_upto_region 17 with (first | (go_at_call 26; refine (HI.out _).mono ?_; rintro e9 v9 ⟨rfl, h9⟩; replace h9 := h9.symm; subst h9) | (go_at_call 27; refine (HC.out _ QA.out).mono ?_; rintro e9 v0 ⟨rfl, q9⟩; have Q0 : Hid (Q w v0) := hid (QA.out.trans q9); have Z10 := hid (Z1.out.on q9); clear q9; have c17 := Z10.out.c 17 _ rfl; have c18 := Z10.out.c 18 _ rfl; have c19 := Z10.out.c 19 _ rfl; have c20 := Z10.out.c 20 _ rfl; have c21 := Z10.out.c 21 _ rfl; have c22 := Z10.out.c 22 _ rfl))
  have Q0D : Hid (Q w v0.drew) := hid (Q0.out.drew)
  have Z1D := hid (Z10.out.on (Q.refl _).drew)
  have t0_20 := Z1D.out.c 20 _ rfl
  have t0_21 := Z1D.out.c 21 _ rfl
  go_region
  all_goals go_wp2_with fail
  all_goals go_ret
  all_goals exact ⟨rfl, Q0D.out⟩
set_option maxHeartbeats 8000000 in
theorem rm_g4 (sh : ByteArray) (x4 x5 x6 x7 x8 x9 x10 x11 x12 x13 x14 x15 x16 : Value) (ra : Option Addr) (rc : Nat) (rl : Nat) (fm : Int) (w : World) (g0 : 0 ≤ fm) (g1 : fm ≤ 255) (g2 : (1 : Int) ≤ (rl : Int)) (g3 : (256 : Int) < (rl : Int)) (g4 : decide ((rl : Int) ≤ 256) = false) (HI : Hid (∀ V, Calls Tryz.prog 26 #[.string sh] V fun e V' => e = .returned (.bool true) ∧ V' = V)) (HC : Hid (∀ V, Q w V → Calls Tryz.prog 27 #[.agg #[x4, x5, x6, x7, x8, x9, x10, x11, x12, x13, x14, x15, x16], .agg #[.bool false, .int .i64 0, .int .i64 0, .string ⟨#[]⟩, .bool false, .int .i64 0, .int .i64 0, .int .i64 0, .string ⟨#[]⟩, .bool false, .int .i64 0, .slice none 0 0, .slice none 0 0]] V fun e V' => e = .returned (.bool true) ∧ Q V V')) : Calls Tryz.prog 9 #[.agg #[.int .i64 4, .string sh, .int .i64 0, .int .i64 0, x4, x5, x6, x7, x8, x9, x10, x11, x12, x13, x14, x15, x16, .int .i64 0, .int .i64 0, .int .i64 0, .slice ra rl rc, .int .i64 fm, .string ⟨#[]⟩]] w fun e V' => e = .returned (.bool false) ∧ Q w V' := by
  go_enter Tryz.func9, Tryz.ntmps9
  go_upto_region 1 with fail
  have Z1 := hid (cq_new w [.int .i64 4, .string sh, .int .i64 0, .int .i64 0, x4, x5, x6, x7, x8, x9, x10, x11, x12, x13, x14, x15, x16, .int .i64 0, .int .i64 0, .int .i64 0, .slice ra rl rc, .int .i64 fm, .string ⟨#[]⟩])
  rw [show ([.int .i64 4, .string sh, .int .i64 0, .int .i64 0, x4, x5, x6, x7, x8, x9, x10, x11, x12, x13, x14, x15, x16, .int .i64 0, .int .i64 0, .int .i64 0, .slice ra rl rc, .int .i64 fm, .string ⟨#[]⟩] : List Value).toArray = #[.int .i64 4, .string sh, .int .i64 0, .int .i64 0, x4, x5, x6, x7, x8, x9, x10, x11, x12, x13, x14, x15, x16, .int .i64 0, .int .i64 0, .int .i64 0, .slice ra rl rc, .int .i64 fm, .string ⟨#[]⟩] from rfl] at Z1
  have QA : Hid (Q w (w.alloc (.cells #[.int .i64 4, .string sh, .int .i64 0, .int .i64 0, x4, x5, x6, x7, x8, x9, x10, x11, x12, x13, x14, x15, x16, .int .i64 0, .int .i64 0, .int .i64 0, .slice ra rl rc, .int .i64 fm, .string ⟨#[]⟩] 35))) := hid ((Q.refl w).alloc _)
  generalize w.alloc (.cells #[.int .i64 4, .string sh, .int .i64 0, .int .i64 0, x4, x5, x6, x7, x8, x9, x10, x11, x12, x13, x14, x15, x16, .int .i64 0, .int .i64 0, .int .i64 0, .slice ra rl rc, .int .i64 fm, .string ⟨#[]⟩] 35) = w1 at Z1 QA ⊢
  generalize w.heap.size = b0 at Z1 ⊢
  have d0 := Z1.out.c 0 _ rfl
  have d1 := Z1.out.c 1 _ rfl
  have d2 := Z1.out.c 2 _ rfl
  have d3 := Z1.out.c 3 _ rfl
  have d4 := Z1.out.c 4 _ rfl
  have d5 := Z1.out.c 5 _ rfl
  have d6 := Z1.out.c 6 _ rfl
  have d7 := Z1.out.c 7 _ rfl
  have d8 := Z1.out.c 8 _ rfl
  have d9 := Z1.out.c 9 _ rfl
  have d10 := Z1.out.c 10 _ rfl
  have d11 := Z1.out.c 11 _ rfl
  have d12 := Z1.out.c 12 _ rfl
  have d13 := Z1.out.c 13 _ rfl
  have d14 := Z1.out.c 14 _ rfl
  have d15 := Z1.out.c 15 _ rfl
  have d16 := Z1.out.c 16 _ rfl
  have d17 := Z1.out.c 17 _ rfl
  have d18 := Z1.out.c 18 _ rfl
  have d19 := Z1.out.c 19 _ rfl
  have d20 := Z1.out.c 20 _ rfl
  have d21 := Z1.out.c 21 _ rfl
  have d22 := Z1.out.c 22 _ rfl
  go_upto_region 17 with (first | (go_at_call 26; refine (HI.out _).mono ?_; rintro e9 v9 ⟨rfl, h9⟩; replace h9 := h9.symm; subst h9) | (go_at_call 27; refine (HC.out _ QA.out).mono ?_; rintro e9 v0 ⟨rfl, q9⟩; have Q0 : Hid (Q w v0) := hid (QA.out.trans q9); have Z10 := hid (Z1.out.on q9); clear q9; have c17 := Z10.out.c 17 _ rfl; have c18 := Z10.out.c 18 _ rfl; have c19 := Z10.out.c 19 _ rfl; have c20 := Z10.out.c 20 _ rfl; have c21 := Z10.out.c 21 _ rfl; have c22 := Z10.out.c 22 _ rfl))
  have Q0D : Hid (Q w v0.drew) := hid (Q0.out.drew)
  have Z1D := hid (Z10.out.on (Q.refl _).drew)
  have t0_20 := Z1D.out.c 20 _ rfl
  have t0_21 := Z1D.out.c 21 _ rfl
  go_region
  all_goals go_wp2_with fail
  all_goals go_ret
  all_goals exact ⟨rfl, Q0D.out⟩
end Go.Proofs.YtngnakdbhkjbjaaGreatDoor
