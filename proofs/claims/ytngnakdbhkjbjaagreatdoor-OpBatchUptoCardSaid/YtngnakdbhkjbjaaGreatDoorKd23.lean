/- counterpaneref10.May, walked, . -/
import Derived.Test.YtngnakdbhkjbjaaGreatDoorKd00
set_option linter.unusedVariables false
set_option linter.unusedSimpArgs false
set_option maxRecDepth 100000
set_option maxHeartbeats 8000000
namespace Go.Proofs.YtngnakdbhkjbjaaGreatDoor
open Go.RowKit
set_option maxHeartbeats 8000000 in
theorem rm_c10 (sh : ByteArray) (x4 x5 x6 x7 x8 x9 x10 x11 x12 x13 x14 x15 x16 : Value) (ra : Option Addr) (rc : Nat) (row : Int) (col : Int) (rl : Nat) (fm : Int) (nm : ByteArray) (w : World) (g0 : 0 < rl) (HI : Hid (∀ V, Calls Tryz.prog 26 #[.string sh] V fun e V' => e = .returned (.bool true) ∧ V' = V)) : Calls Tryz.prog 9 #[.agg #[.int .i64 1, .string sh, .int .i64 row, .int .i64 col, x4, x5, x6, x7, x8, x9, x10, x11, x12, x13, x14, x15, x16, .int .i64 0, .int .i64 0, .int .i64 0, .slice ra rl rc, .int .i64 fm, .string nm]] w fun e V' => e = .returned (.bool false) ∧ Q w V' := by
  go_enter Tryz.func9, Tryz.ntmps9
  go_upto_region 1 with fail
  have Z1 := hid (cq_new w [.int .i64 1, .string sh, .int .i64 row, .int .i64 col, x4, x5, x6, x7, x8, x9, x10, x11, x12, x13, x14, x15, x16, .int .i64 0, .int .i64 0, .int .i64 0, .slice ra rl rc, .int .i64 fm, .string nm])
  rw [show ([.int .i64 1, .string sh, .int .i64 row, .int .i64 col, x4, x5, x6, x7, x8, x9, x10, x11, x12, x13, x14, x15, x16, .int .i64 0, .int .i64 0, .int .i64 0, .slice ra rl rc, .int .i64 fm, .string nm] : List Value).toArray = #[.int .i64 1, .string sh, .int .i64 row, .int .i64 col, x4, x5, x6, x7, x8, x9, x10, x11, x12, x13, x14, x15, x16, .int .i64 0, .int .i64 0, .int .i64 0, .slice ra rl rc, .int .i64 fm, .string nm] from rfl] at Z1
  have QA : Hid (Q w (w.alloc (.cells #[.int .i64 1, .string sh, .int .i64 row, .int .i64 col, x4, x5, x6, x7, x8, x9, x10, x11, x12, x13, x14, x15, x16, .int .i64 0, .int .i64 0, .int .i64 0, .slice ra rl rc, .int .i64 fm, .string nm] 35))) := hid ((Q.refl w).alloc _)
  generalize w.alloc (.cells #[.int .i64 1, .string sh, .int .i64 row, .int .i64 col, x4, x5, x6, x7, x8, x9, x10, x11, x12, x13, x14, x15, x16, .int .i64 0, .int .i64 0, .int .i64 0, .slice ra rl rc, .int .i64 fm, .string nm] 35) = w1 at Z1 QA ⊢
  generalize w.heap.size = b0 at Z1 ⊢
  have d0 := Z1.out.c 0 _ rfl
  have d1 := Z1.out.c 1 _ rfl
  have d2 := Z1.out.c 2 _ rfl
  have d3 := Z1.out.c 3 _ rfl
  have d4 := Z1.out.c 4 _ rfl
  have d5 := Z1.out.c 5 _ rfl
  have d6 := Z1.out.c 6 _ rfl
  have d7 := Z1.out.c 7 _ rfl
  have d8 := Z1.out.c 8 _ rfl
  have d9 := Z1.out.c 9 _ rfl
  have d10 := Z1.out.c 10 _ rfl
  have d11 := Z1.out.c 11 _ rfl
  have d12 := Z1.out.c 12 _ rfl
  have d13 := Z1.out.c 13 _ rfl
  have d14 := Z1.out.c 14 _ rfl
  have d15 := Z1.out.c 15 _ rfl
  have d16 := Z1.out.c 16 _ rfl
  have d17 := Z1.out.c 17 _ rfl
  have d18 := Z1.out.c 18 _ rfl
  have d19 := Z1.out.c 19 _ rfl
  have d20 := Z1.out.c 20 _ rfl
  have d21 := Z1.out.c 21 _ rfl
  have d22 := Z1.out.c 22 _ rfl
  go_wp2_with (first | (go_at_call 26; refine (HI.out _).mono ?_; rintro e9 v9 ⟨rfl, h9⟩; replace h9 := h9.symm; subst h9))
  go_ret
  exact ⟨rfl, QA.out⟩
set_option maxHeartbeats 8000000 in
theorem rm_c11 (sh : ByteArray) (x4 x5 x6 x7 x8 x9 x10 x11 x12 x13 x14 x15 x16 : Value) (ra : Option Addr) (rc : Nat) (row : Int) (col : Int) (fm : Int) (nm : ByteArray) (w : World) (g0 : fm ≠ 0) (HI : Hid (∀ V, Calls Tryz.prog 26 #[.string sh] V fun e V' => e = .returned (.bool true) ∧ V' = V)) : Calls Tryz.prog 9 #[.agg #[.int .i64 1, .string sh, .int .i64 row, .int .i64 col, x4, x5, x6, x7, x8, x9, x10, x11, x12, x13, x14, x15, x16, .int .i64 0, .int .i64 0, .int .i64 0, .slice ra 0 rc, .int .i64 fm, .string nm]] w fun e V' => e = .returned (.bool false) ∧ Q w V' := by
  go_enter Tryz.func9, Tryz.ntmps9
  go_upto_region 1 with fail
  have Z1 := hid (cq_new w [.int .i64 1, .string sh, .int .i64 row, .int .i64 col, x4, x5, x6, x7, x8, x9, x10, x11, x12, x13, x14, x15, x16, .int .i64 0, .int .i64 0, .int .i64 0, .slice ra 0 rc, .int .i64 fm, .string nm])
  rw [show ([.int .i64 1, .string sh, .int .i64 row, .int .i64 col, x4, x5, x6, x7, x8, x9, x10, x11, x12, x13, x14, x15, x16, .int .i64 0, .int .i64 0, .int .i64 0, .slice ra 0 rc, .int .i64 fm, .string nm] : List Value).toArray = #[.int .i64 1, .string sh, .int .i64 row, .int .i64 col, x4, x5, x6, x7, x8, x9, x10, x11, x12, x13, x14, x15, x16, .int .i64 0, .int .i64 0, .int .i64 0, .slice ra 0 rc, .int .i64 fm, .string nm] from rfl] at Z1
  have QA : Hid (Q w (w.alloc (.cells #[.int .i64 1, .string sh, .int .i64 row, .int .i64 col, x4, x5, x6, x7, x8, x9, x10, x11, x12, x13, x14, x15, x16, .int .i64 0, .int .i64 0, .int .i64 0, .slice ra 0 rc, .int .i64 fm, .string nm] 35))) := hid ((Q.refl w).alloc _)
  generalize w.alloc (.cells #[.int .i64 1, .string sh, .int .i64 row, .int .i64 col, x4, x5, x6, x7, x8, x9, x10, x11, x12, x13, x14, x15, x16, .int .i64 0, .int .i64 0, .int .i64 0, .slice ra 0 rc, .int .i64 fm, .string nm] 35) = w1 at Z1 QA ⊢
  generalize w.heap.size = b0 at Z1 ⊢
  have d0 := Z1.out.c 0 _ rfl
  have d1 := Z1.out.c 1 _ rfl
  have d2 := Z1.out.c 2 _ rfl
  have d3 := Z1.out.c 3 _ rfl
  have d4 := Z1.out.c 4 _ rfl
  have d5 := Z1.out.c 5 _ rfl
  have d6 := Z1.out.c 6 _ rfl
  have d7 := Z1.out.c 7 _ rfl
  have d8 := Z1.out.c 8 _ rfl
  have d9 := Z1.out.c 9 _ rfl
  have d10 := Z1.out.c 10 _ rfl
  have d11 := Z1.out.c 11 _ rfl
  have d12 := Z1.out.c 12 _ rfl
  have d13 := Z1.out.c 13 _ rfl
  have d14 := Z1.out.c 14 _ rfl
  have d15 := Z1.out.c 15 _ rfl
  have d16 := Z1.out.c 16 _ rfl
  have d17 := Z1.out.c 17 _ rfl
  have d18 := Z1.out.c 18 _ rfl
  have d19 := Z1.out.c 19 _ rfl
  have d20 := Z1.out.c 20 _ rfl
  have d21 := Z1.out.c 21 _ rfl
  have d22 := Z1.out.c 22 _ rfl
  go_wp2_with (first | (go_at_call 26; refine (HI.out _).mono ?_; rintro e9 v9 ⟨rfl, h9⟩; replace h9 := h9.symm; subst h9))
  go_ret
  exact ⟨rfl, QA.out⟩
set_option maxHeartbeats 8000000 in
theorem rm_c20 (sh : ByteArray) (x4 x5 x6 x7 x8 x9 x10 x11 x12 x13 x14 x15 x16 : Value) (ra : Option Addr) (rc : Nat) (lk : Int) (la : Int) (lt : Int) (rl : Nat) (fm : Int) (nm : ByteArray) (w : World) (g0 : 0 < rl) (HI : Hid (∀ V, Calls Tryz.prog 26 #[.string sh] V fun e V' => e = .returned (.bool true) ∧ V' = V)) (HC : Hid (∀ V, Q w V → Calls Tryz.prog 27 #[.agg #[x4, x5, x6, x7, x8, x9, x10, x11, x12, x13, x14, x15, x16], .agg #[.bool false, .int .i64 0, .int .i64 0, .string ⟨#[]⟩, .bool false, .int .i64 0, .int .i64 0, .int .i64 0, .string ⟨#[]⟩, .bool false, .int .i64 0, .slice none 0 0, .slice none 0 0]] V fun e V' => e = .returned (.bool true) ∧ Q V V')) : Calls Tryz.prog 9 #[.agg #[.int .i64 2, .string sh, .int .i64 0, .int .i64 0, x4, x5, x6, x7, x8, x9, x10, x11, x12, x13, x14, x15, x16, .int .i64 lk, .int .i64 la, .int .i64 lt, .slice ra rl rc, .int .i64 fm, .string nm]] w fun e V' => e = .returned (.bool false) ∧ Q w V' := by
  go_enter Tryz.func9, Tryz.ntmps9
  go_upto_region 1 with fail
  have Z1 := hid (cq_new w [.int .i64 2, .string sh, .int .i64 0, .int .i64 0, x4, x5, x6, x7, x8, x9, x10, x11, x12, x13, x14, x15, x16, .int .i64 lk, .int .i64 la, .int .i64 lt, .slice ra rl rc, .int .i64 fm, .string nm])
  rw [show ([.int .i64 2, .string sh, .int .i64 0, .int .i64 0, x4, x5, x6, x7, x8, x9, x10, x11, x12, x13, x14, x15, x16, .int .i64 lk, .int .i64 la, .int .i64 lt, .slice ra rl rc, .int .i64 fm, .string nm] : List Value).toArray = #[.int .i64 2, .string sh, .int .i64 0, .int .i64 0, x4, x5, x6, x7, x8, x9, x10, x11, x12, x13, x14, x15, x16, .int .i64 lk, .int .i64 la, .int .i64 lt, .slice ra rl rc, .int .i64 fm, .string nm] from rfl] at Z1
  have QA : Hid (Q w (w.alloc (.cells #[.int .i64 2, .string sh, .int .i64 0, .int .i64 0, x4, x5, x6, x7, x8, x9, x10, x11, x12, x13, x14, x15, x16, .int .i64 lk, .int .i64 la, .int .i64 lt, .slice ra rl rc, .int .i64 fm, .string nm] 35))) := hid ((Q.refl w).alloc _)
  generalize w.alloc (.cells #[.int .i64 2, .string sh, .int .i64 0, .int .i64 0, x4, x5, x6, x7, x8, x9, x10, x11, x12, x13, x14, x15, x16, .int .i64 lk, .int .i64 la, .int .i64 lt, .slice ra rl rc, .int .i64 fm, .string nm] 35) = w1 at Z1 QA ⊢
  generalize w.heap.size = b0 at Z1 ⊢
  have d0 := Z1.out.c 0 _ rfl
  have d1 := Z1.out.c 1 _ rfl
  have d2 := Z1.out.c 2 _ rfl
  have d3 := Z1.out.c 3 _ rfl
  have d4 := Z1.out.c 4 _ rfl
  have d5 := Z1.out.c 5 _ rfl
  have d6 := Z1.out.c 6 _ rfl
  have d7 := Z1.out.c 7 _ rfl
  have d8 := Z1.out.c 8 _ rfl
  have d9 := Z1.out.c 9 _ rfl
  have d10 := Z1.out.c 10 _ rfl
  have d11 := Z1.out.c 11 _ rfl
  have d12 := Z1.out.c 12 _ rfl
  have d13 := Z1.out.c 13 _ rfl
  have d14 := Z1.out.c 14 _ rfl
  have d15 := Z1.out.c 15 _ rfl
  have d16 := Z1.out.c 16 _ rfl
  have d17 := Z1.out.c 17 _ rfl
  have d18 := Z1.out.c 18 _ rfl
  have d19 := Z1.out.c 19 _ rfl
  have d20 := Z1.out.c 20 _ rfl
  have d21 := Z1.out.c 21 _ rfl
  have d22 := Z1.out.c 22 _ rfl
  go_wp2_with (first | (go_at_call 26; refine (HI.out _).mono ?_; rintro e9 v9 ⟨rfl, h9⟩; replace h9 := h9.symm; subst h9) | (go_at_call 27; refine (HC.out _ QA.out).mono ?_; rintro e9 v0 ⟨rfl, q9⟩; have Q0 : Hid (Q w v0) := hid (QA.out.trans q9); have Z10 := hid (Z1.out.on q9); clear q9; have c17 := Z10.out.c 17 _ rfl; have c18 := Z10.out.c 18 _ rfl; have c19 := Z10.out.c 19 _ rfl; have c20 := Z10.out.c 20 _ rfl; have c21 := Z10.out.c 21 _ rfl; have c22 := Z10.out.c 22 _ rfl))
  go_ret
  exact ⟨rfl, Q0.out⟩
set_option maxHeartbeats 8000000 in
theorem rm_c21 (sh : ByteArray) (x4 x5 x6 x7 x8 x9 x10 x11 x12 x13 x14 x15 x16 : Value) (ra : Option Addr) (rc : Nat) (lk : Int) (la : Int) (lt : Int) (fm : Int) (nm : ByteArray) (w : World) (g0 : fm ≠ 0) (HI : Hid (∀ V, Calls Tryz.prog 26 #[.string sh] V fun e V' => e = .returned (.bool true) ∧ V' = V)) (HC : Hid (∀ V, Q w V → Calls Tryz.prog 27 #[.agg #[x4, x5, x6, x7, x8, x9, x10, x11, x12, x13, x14, x15, x16], .agg #[.bool false, .int .i64 0, .int .i64 0, .string ⟨#[]⟩, .bool false, .int .i64 0, .int .i64 0, .int .i64 0, .string ⟨#[]⟩, .bool false, .int .i64 0, .slice none 0 0, .slice none 0 0]] V fun e V' => e = .returned (.bool true) ∧ Q V V')) : Calls Tryz.prog 9 #[.agg #[.int .i64 2, .string sh, .int .i64 0, .int .i64 0, x4, x5, x6, x7, x8, x9, x10, x11, x12, x13, x14, x15, x16, .int .i64 lk, .int .i64 la, .int .i64 lt, .slice ra 0 rc, .int .i64 fm, .string nm]] w fun e V' => e = .returned (.bool false) ∧ Q w V' := by
  go_enter Tryz.func9, Tryz.ntmps9
  go_upto_region 1 with fail
  have Z1 := hid (cq_new w [.int .i64 2, .string sh, .int .i64 0, .int .i64 0, x4, x5, x6, x7, x8, x9, x10, x11, x12, x13, x14, x15, x16, .int .i64 lk, .int .i64 la, .int .i64 lt, .slice ra 0 rc, .int .i64 fm, .string nm])
  rw [show ([.int .i64 2, .string sh, .int .i64 0, .int .i64 0, x4, x5, x6, x7, x8, x9, x10, x11, x12, x13, x14, x15, x16, .int .i64 lk, .int .i64 la, .int .i64 lt, .slice ra 0 rc, .int .i64 fm, .string nm] : List Value).toArray = #[.int .i64 2, .string sh, .int .i64 0, .int .i64 0, x4, x5, x6, x7, x8, x9, x10, x11, x12, x13, x14, x15, x16, .int .i64 lk, .int .i64 la, .int .i64 lt, .slice ra 0 rc, .int .i64 fm, .string nm] from rfl] at Z1
  have QA : Hid (Q w (w.alloc (.cells #[.int .i64 2, .string sh, .int .i64 0, .int .i64 0, x4, x5, x6, x7, x8, x9, x10, x11, x12, x13, x14, x15, x16, .int .i64 lk, .int .i64 la, .int .i64 lt, .slice ra 0 rc, .int .i64 fm, .string nm] 35))) := hid ((Q.refl w).alloc _)
  generalize w.alloc (.cells #[.int .i64 2, .string sh, .int .i64 0, .int .i64 0, x4, x5, x6, x7, x8, x9, x10, x11, x12, x13, x14, x15, x16, .int .i64 lk, .int .i64 la, .int .i64 lt, .slice ra 0 rc, .int .i64 fm, .string nm] 35) = w1 at Z1 QA ⊢
  generalize w.heap.size = b0 at Z1 ⊢
  have d0 := Z1.out.c 0 _ rfl
  have d1 := Z1.out.c 1 _ rfl
  have d2 := Z1.out.c 2 _ rfl
  have d3 := Z1.out.c 3 _ rfl
  have d4 := Z1.out.c 4 _ rfl
  have d5 := Z1.out.c 5 _ rfl
  have d6 := Z1.out.c 6 _ rfl
  have d7 := Z1.out.c 7 _ rfl
  have d8 := Z1.out.c 8 _ rfl
  have d9 := Z1.out.c 9 _ rfl
  have d10 := Z1.out.c 10 _ rfl
  have d11 := Z1.out.c 11 _ rfl
  have d12 := Z1.out.c 12 _ rfl
  have d13 := Z1.out.c 13 _ rfl
  have d14 := Z1.out.c 14 _ rfl
  have d15 := Z1.out.c 15 _ rfl
  have d16 := Z1.out.c 16 _ rfl
  have d17 := Z1.out.c 17 _ rfl
  have d18 := Z1.out.c 18 _ rfl
  have d19 := Z1.out.c 19 _ rfl
  have d20 := Z1.out.c 20 _ rfl
  have d21 := Z1.out.c 21 _ rfl
  have d22 := Z1.out.c 22 _ rfl
  go_wp2_with (first | (go_at_call 26; refine (HI.out _).mono ?_; rintro e9 v9 ⟨rfl, h9⟩; replace h9 := h9.symm; subst h9) | (go_at_call 27; refine (HC.out _ QA.out).mono ?_; rintro e9 v0 ⟨rfl, q9⟩; have Q0 : Hid (Q w v0) := hid (QA.out.trans q9); have Z10 := hid (Z1.out.on q9); clear q9; have c17 := Z10.out.c 17 _ rfl; have c18 := Z10.out.c 18 _ rfl; have c19 := Z10.out.c 19 _ rfl; have c20 := Z10.out.c 20 _ rfl; have c21 := Z10.out.c 21 _ rfl; have c22 := Z10.out.c 22 _ rfl))
  go_ret
  exact ⟨rfl, Q0.out⟩
set_option maxHeartbeats 8000000 in
theorem rm_c30 (sh : ByteArray) (x4 x5 x6 x7 x8 x9 x10 x11 x12 x13 x14 x15 x16 : Value) (ra : Option Addr) (rc : Nat) (lk : Int) (la : Int) (lt : Int) (rl : Nat) (fm : Int) (nm : ByteArray) (w : World) (g0 : 0 < rl) (HI : Hid (∀ V, Calls Tryz.prog 26 #[.string sh] V fun e V' => e = .returned (.bool true) ∧ V' = V)) (HC : Hid (∀ V, Q w V → Calls Tryz.prog 27 #[.agg #[x4, x5, x6, x7, x8, x9, x10, x11, x12, x13, x14, x15, x16], .agg #[.bool false, .int .i64 0, .int .i64 0, .string ⟨#[]⟩, .bool false, .int .i64 0, .int .i64 0, .int .i64 0, .string ⟨#[]⟩, .bool false, .int .i64 0, .slice none 0 0, .slice none 0 0]] V fun e V' => e = .returned (.bool true) ∧ Q V V')) : Calls Tryz.prog 9 #[.agg #[.int .i64 3, .string sh, .int .i64 0, .int .i64 0, x4, x5, x6, x7, x8, x9, x10, x11, x12, x13, x14, x15, x16, .int .i64 lk, .int .i64 la, .int .i64 lt, .slice ra rl rc, .int .i64 fm, .string nm]] w fun e V' => e = .returned (.bool false) ∧ Q w V' := by
  go_enter Tryz.func9, Tryz.ntmps9
  go_upto_region 1 with fail
  have Z1 := hid (cq_new w [.int .i64 3, .string sh, .int .i64 0, .int .i64 0, x4, x5, x6, x7, x8, x9, x10, x11, x12, x13, x14, x15, x16, .int .i64 lk, .int .i64 la, .int .i64 lt, .slice ra rl rc, .int .i64 fm, .string nm])
  rw [show ([.int .i64 3, .string sh, .int .i64 0, .int .i64 0, x4, x5, x6, x7, x8, x9, x10, x11, x12, x13, x14, x15, x16, .int .i64 lk, .int .i64 la, .int .i64 lt, .slice ra rl rc, .int .i64 fm, .string nm] : List Value).toArray = #[.int .i64 3, .string sh, .int .i64 0, .int .i64 0, x4, x5, x6, x7, x8, x9, x10, x11, x12, x13, x14, x15, x16, .int .i64 lk, .int .i64 la, .int .i64 lt, .slice ra rl rc, .int .i64 fm, .string nm] from rfl] at Z1
  have QA : Hid (Q w (w.alloc (.cells #[.int .i64 3, .string sh, .int .i64 0, .int .i64 0, x4, x5, x6, x7, x8, x9, x10, x11, x12, x13, x14, x15, x16, .int .i64 lk, .int .i64 la, .int .i64 lt, .slice ra rl rc, .int .i64 fm, .string nm] 35))) := hid ((Q.refl w).alloc _)
  generalize w.alloc (.cells #[.int .i64 3, .string sh, .int .i64 0, .int .i64 0, x4, x5, x6, x7, x8, x9, x10, x11, x12, x13, x14, x15, x16, .int .i64 lk, .int .i64 la, .int .i64 lt, .slice ra rl rc, .int .i64 fm, .string nm] 35) = w1 at Z1 QA ⊢
  generalize w.heap.size = b0 at Z1 ⊢
  have d0 := Z1.out.c 0 _ rfl
  have d1 := Z1.out.c 1 _ rfl
  have d2 := Z1.out.c 2 _ rfl
  have d3 := Z1.out.c 3 _ rfl
  have d4 := Z1.out.c 4 _ rfl
  have d5 := Z1.out.c 5 _ rfl
  have d6 := Z1.out.c 6 _ rfl
  have d7 := Z1.out.c 7 _ rfl
  have d8 := Z1.out.c 8 _ rfl
  have d9 := Z1.out.c 9 _ rfl
  have d10 := Z1.out.c 10 _ rfl
  have d11 := Z1.out.c 11 _ rfl
  have d12 := Z1.out.c 12 _ rfl
  have d13 := Z1.out.c 13 _ rfl
  have d14 := Z1.out.c 14 _ rfl
  have d15 := Z1.out.c 15 _ rfl
  have d16 := Z1.out.c 16 _ rfl
  have d17 := Z1.out.c 17 _ rfl
  have d18 := Z1.out.c 18 _ rfl
  have d19 := Z1.out.c 19 _ rfl
  have d20 := Z1.out.c 20 _ rfl
  have d21 := Z1.out.c 21 _ rfl
  have d22 := Z1.out.c 22 _ rfl
  go_wp2_with (first | (go_at_call 26; refine (HI.out _).mono ?_; rintro e9 v9 ⟨rfl, h9⟩; replace h9 := h9.symm; subst h9) | (go_at_call 27; refine (HC.out _ QA.out).mono ?_; rintro e9 v0 ⟨rfl, q9⟩; have Q0 : Hid (Q w v0) := hid (QA.out.trans q9); have Z10 := hid (Z1.out.on q9); clear q9; have c17 := Z10.out.c 17 _ rfl; have c18 := Z10.out.c 18 _ rfl; have c19 := Z10.out.c 19 _ rfl; have c20 := Z10.out.c 20 _ rfl; have c21 := Z10.out.c 21 _ rfl; have c22 := Z10.out.c 22 _ rfl))
  go_ret
  exact ⟨rfl, Q0.out⟩
set_option maxHeartbeats 8000000 in
theorem rm_c31 (sh : ByteArray) (x4 x5 x6 x7 x8 x9 x10 x11 x12 x13 x14 x15 x16 : Value) (ra : Option Addr) (rc : Nat) (lk : Int) (la : Int) (lt : Int) (fm : Int) (nm : ByteArray) (w : World) (g0 : fm ≠ 0) (HI : Hid (∀ V, Calls Tryz.prog 26 #[.string sh] V fun e V' => e = .returned (.bool true) ∧ V' = V)) (HC : Hid (∀ V, Q w V → Calls Tryz.prog 27 #[.agg #[x4, x5, x6, x7, x8, x9, x10, x11, x12, x13, x14, x15, x16], .agg #[.bool false, .int .i64 0, .int .i64 0, .string ⟨#[]⟩, .bool false, .int .i64 0, .int .i64 0, .int .i64 0, .string ⟨#[]⟩, .bool false, .int .i64 0, .slice none 0 0, .slice none 0 0]] V fun e V' => e = .returned (.bool true) ∧ Q V V')) : Calls Tryz.prog 9 #[.agg #[.int .i64 3, .string sh, .int .i64 0, .int .i64 0, x4, x5, x6, x7, x8, x9, x10, x11, x12, x13, x14, x15, x16, .int .i64 lk, .int .i64 la, .int .i64 lt, .slice ra 0 rc, .int .i64 fm, .string nm]] w fun e V' => e = .returned (.bool false) ∧ Q w V' := by
  go_enter Tryz.func9, Tryz.ntmps9
  go_upto_region 1 with fail
  have Z1 := hid (cq_new w [.int .i64 3, .string sh, .int .i64 0, .int .i64 0, x4, x5, x6, x7, x8, x9, x10, x11, x12, x13, x14, x15, x16, .int .i64 lk, .int .i64 la, .int .i64 lt, .slice ra 0 rc, .int .i64 fm, .string nm])
  rw [show ([.int .i64 3, .string sh, .int .i64 0, .int .i64 0, x4, x5, x6, x7, x8, x9, x10, x11, x12, x13, x14, x15, x16, .int .i64 lk, .int .i64 la, .int .i64 lt, .slice ra 0 rc, .int .i64 fm, .string nm] : List Value).toArray = #[.int .i64 3, .string sh, .int .i64 0, .int .i64 0, x4, x5, x6, x7, x8, x9, x10, x11, x12, x13, x14, x15, x16, .int .i64 lk, .int .i64 la, .int .i64 lt, .slice ra 0 rc, .int .i64 fm, .string nm] from rfl] at Z1
  have QA : Hid (Q w (w.alloc (.cells #[.int .i64 3, .string sh, .int .i64 0, .int .i64 0, x4, x5, x6, x7, x8, x9, x10, x11, x12, x13, x14, x15, x16, .int .i64 lk, .int .i64 la, .int .i64 lt, .slice ra 0 rc, .int .i64 fm, .string nm] 35))) := hid ((Q.refl w).alloc _)
  generalize w.alloc (.cells #[.int .i64 3, .string sh, .int .i64 0, .int .i64 0, x4, x5, x6, x7, x8, x9, x10, x11, x12, x13, x14, x15, x16, .int .i64 lk, .int .i64 la, .int .i64 lt, .slice ra 0 rc, .int .i64 fm, .string nm] 35) = w1 at Z1 QA ⊢
  generalize w.heap.size = b0 at Z1 ⊢
  have d0 := Z1.out.c 0 _ rfl
  have d1 := Z1.out.c 1 _ rfl
  have d2 := Z1.out.c 2 _ rfl
  have d3 := Z1.out.c 3 _ rfl
  have d4 := Z1.out.c 4 _ rfl
  have d5 := Z1.out.c 5 _ rfl
  have d6 := Z1.out.c 6 _ rfl
  have d7 := Z1.out.c 7 _ rfl
  have d8 := Z1.out.c 8 _ rfl
  have d9 := Z1.out.c 9 _ rfl
  have d10 := Z1.out.c 10 _ rfl
  have d11 := Z1.out.c 11 _ rfl
  have d12 := Z1.out.c 12 _ rfl
  have d13 := Z1.out.c 13 _ rfl
  have d14 := Z1.out.c 14 _ rfl
  have d15 := Z1.out.c 15 _ rfl
  have d16 := Z1.out.c 16 _ rfl
  have d17 := Z1.out.c 17 _ rfl
  have d18 := Z1.out.c 18 _ rfl
  have d19 := Z1.out.c 19 _ rfl
  have d20 := Z1.out.c 20 _ rfl
  have d21 := Z1.out.c 21 _ rfl
  have d22 := Z1.out.c 22 _ rfl
  go_wp2_with (first | (go_at_call 26; refine (HI.out _).mono ?_; rintro e9 v9 ⟨rfl, h9⟩; replace h9 := h9.symm; subst h9) | (go_at_call 27; refine (HC.out _ QA.out).mono ?_; rintro e9 v0 ⟨rfl, q9⟩; have Q0 : Hid (Q w v0) := hid (QA.out.trans q9); have Z10 := hid (Z1.out.on q9); clear q9; have c17 := Z10.out.c 17 _ rfl; have c18 := Z10.out.c 18 _ rfl; have c19 := Z10.out.c 19 _ rfl; have c20 := Z10.out.c 20 _ rfl; have c21 := Z10.out.c 21 _ rfl; have c22 := Z10.out.c 22 _ rfl))
  go_ret
  exact ⟨rfl, Q0.out⟩
set_option maxHeartbeats 8000000 in
theorem rm_c00 (k : Int) (sh : ByteArray) (x4 x5 x6 x7 x8 x9 x10 x11 x12 x13 x14 x15 x16 : Value) (ra : Option Addr) (rc : Nat) (rl : Nat) (fm : Int) (nm : ByteArray) (w : World) (g0 : k ≠ 1) (g1 : k ≠ 2) (g2 : k ≠ 3) (g3 : k ≠ 4) (g4 : 0 < rl) (HI : Hid (∀ V, Calls Tryz.prog 26 #[.string sh] V fun e V' => e = .returned (.bool true) ∧ V' = V)) (HC : Hid (∀ V, Q w V → Calls Tryz.prog 27 #[.agg #[x4, x5, x6, x7, x8, x9, x10, x11, x12, x13, x14, x15, x16], .agg #[.bool false, .int .i64 0, .int .i64 0, .string ⟨#[]⟩, .bool false, .int .i64 0, .int .i64 0, .int .i64 0, .string ⟨#[]⟩, .bool false, .int .i64 0, .slice none 0 0, .slice none 0 0]] V fun e V' => e = .returned (.bool true) ∧ Q V V')) : Calls Tryz.prog 9 #[.agg #[.int .i64 k, .string sh, .int .i64 0, .int .i64 0, x4, x5, x6, x7, x8, x9, x10, x11, x12, x13, x14, x15, x16, .int .i64 0, .int .i64 0, .int .i64 0, .slice ra rl rc, .int .i64 fm, .string nm]] w fun e V' => e = .returned (.bool false) ∧ Q w V' := by
  go_enter Tryz.func9, Tryz.ntmps9
  go_upto_region 1 with fail
  have Z1 := hid (cq_new w [.int .i64 k, .string sh, .int .i64 0, .int .i64 0, x4, x5, x6, x7, x8, x9, x10, x11, x12, x13, x14, x15, x16, .int .i64 0, .int .i64 0, .int .i64 0, .slice ra rl rc, .int .i64 fm, .string nm])
  rw [show ([.int .i64 k, .string sh, .int .i64 0, .int .i64 0, x4, x5, x6, x7, x8, x9, x10, x11, x12, x13, x14, x15, x16, .int .i64 0, .int .i64 0, .int .i64 0, .slice ra rl rc, .int .i64 fm, .string nm] : List Value).toArray = #[.int .i64 k, .string sh, .int .i64 0, .int .i64 0, x4, x5, x6, x7, x8, x9, x10, x11, x12, x13, x14, x15, x16, .int .i64 0, .int .i64 0, .int .i64 0, .slice ra rl rc, .int .i64 fm, .string nm] from rfl] at Z1
  have QA : Hid (Q w (w.alloc (.cells #[.int .i64 k, .string sh, .int .i64 0, .int .i64 0, x4, x5, x6, x7, x8, x9, x10, x11, x12, x13, x14, x15, x16, .int .i64 0, .int .i64 0, .int .i64 0, .slice ra rl rc, .int .i64 fm, .string nm] 35))) := hid ((Q.refl w).alloc _)
  generalize w.alloc (.cells #[.int .i64 k, .string sh, .int .i64 0, .int .i64 0, x4, x5, x6, x7, x8, x9, x10, x11, x12, x13, x14, x15, x16, .int .i64 0, .int .i64 0, .int .i64 0, .slice ra rl rc, .int .i64 fm, .string nm] 35) = w1 at Z1 QA ⊢
  generalize w.heap.size = b0 at Z1 ⊢
  have d0 := Z1.out.c 0 _ rfl
  have d1 := Z1.out.c 1 _ rfl
  have d2 := Z1.out.c 2 _ rfl
  have d3 := Z1.out.c 3 _ rfl
  have d4 := Z1.out.c 4 _ rfl
  have d5 := Z1.out.c 5 _ rfl
  have d6 := Z1.out.c 6 _ rfl
  have d7 := Z1.out.c 7 _ rfl
  have d8 := Z1.out.c 8 _ rfl
  have d9 := Z1.out.c 9 _ rfl
  have d10 := Z1.out.c 10 _ rfl
  have d11 := Z1.out.c 11 _ rfl
  have d12 := Z1.out.c 12 _ rfl
  have d13 := Z1.out.c 13 _ rfl
  have d14 := Z1.out.c 14 _ rfl
  have d15 := Z1.out.c 15 _ rfl
  have d16 := Z1.out.c 16 _ rfl
  have d17 := Z1.out.c 17 _ rfl
  have d18 := Z1.out.c 18 _ rfl
  have d19 := Z1.out.c 19 _ rfl
  have d20 := Z1.out.c 20 _ rfl
  have d21 := Z1.out.c 21 _ rfl
  have d22 := Z1.out.c 22 _ rfl
  go_wp2_with (first | (go_at_call 26; refine (HI.out _).mono ?_; rintro e9 v9 ⟨rfl, h9⟩; replace h9 := h9.symm; subst h9) | (go_at_call 27; refine (HC.out _ QA.out).mono ?_; rintro e9 v0 ⟨rfl, q9⟩; have Q0 : Hid (Q w v0) := hid (QA.out.trans q9); have Z10 := hid (Z1.out.on q9); clear q9; have c17 := Z10.out.c 17 _ rfl; have c18 := Z10.out.c 18 _ rfl; have c19 := Z10.out.c 19 _ rfl; have c20 := Z10.out.c 20 _ rfl; have c21 := Z10.out.c 21 _ rfl; have c22 := Z10.out.c 22 _ rfl))
  go_ret
  exact ⟨rfl, Q0.out⟩
set_option maxHeartbeats 8000000 in
theorem rm_c01 (k : Int) (sh : ByteArray) (x4 x5 x6 x7 x8 x9 x10 x11 x12 x13 x14 x15 x16 : Value) (ra : Option Addr) (rc : Nat) (fm : Int) (nm : ByteArray) (w : World) (g0 : k ≠ 1) (g1 : k ≠ 2) (g2 : k ≠ 3) (g3 : k ≠ 4) (g4 : fm ≠ 0) (HI : Hid (∀ V, Calls Tryz.prog 26 #[.string sh] V fun e V' => e = .returned (.bool true) ∧ V' = V)) (HC : Hid (∀ V, Q w V → Calls Tryz.prog 27 #[.agg #[x4, x5, x6, x7, x8, x9, x10, x11, x12, x13, x14, x15, x16], .agg #[.bool false, .int .i64 0, .int .i64 0, .string ⟨#[]⟩, .bool false, .int .i64 0, .int .i64 0, .int .i64 0, .string ⟨#[]⟩, .bool false, .int .i64 0, .slice none 0 0, .slice none 0 0]] V fun e V' => e = .returned (.bool true) ∧ Q V V')) : Calls Tryz.prog 9 #[.agg #[.int .i64 k, .string sh, .int .i64 0, .int .i64 0, x4, x5, x6, x7, x8, x9, x10, x11, x12, x13, x14, x15, x16, .int .i64 0, .int .i64 0, .int .i64 0, .slice ra 0 rc, .int .i64 fm, .string nm]] w fun e V' => e = .returned (.bool false) ∧ Q w V' := by
  go_enter Tryz.func9, Tryz.ntmps9
  go_upto_region 1 with fail
  have Z1 := hid (cq_new w [.int .i64 k, .string sh, .int .i64 0, .int .i64 0, x4, x5, x6, x7, x8, x9, x10, x11, x12, x13, x14, x15, x16, .int .i64 0, .int .i64 0, .int .i64 0, .slice ra 0 rc, .int .i64 fm, .string nm])
  rw [show ([.int .i64 k, .string sh, .int .i64 0, .int .i64 0, x4, x5, x6, x7, x8, x9, x10, x11, x12, x13, x14, x15, x16, .int .i64 0, .int .i64 0, .int .i64 0, .slice ra 0 rc, .int .i64 fm, .string nm] : List Value).toArray = #[.int .i64 k, .string sh, .int .i64 0, .int .i64 0, x4, x5, x6, x7, x8, x9, x10, x11, x12, x13, x14, x15, x16, .int .i64 0, .int .i64 0, .int .i64 0, .slice ra 0 rc, .int .i64 fm, .string nm] from rfl] at Z1
  have QA : Hid (Q w (w.alloc (.cells #[.int .i64 k, .string sh, .int .i64 0, .int .i64 0, x4, x5, x6, x7, x8, x9, x10, x11, x12, x13, x14, x15, x16, .int .i64 0, .int .i64 0, .int .i64 0, .slice ra 0 rc, .int .i64 fm, .string nm] 35))) := hid ((Q.refl w).alloc _)
  generalize w.alloc (.cells #[.int .i64 k, .string sh, .int .i64 0, .int .i64 0, x4, x5, x6, x7, x8, x9, x10, x11, x12, x13, x14, x15, x16, .int .i64 0, .int .i64 0, .int .i64 0, .slice ra 0 rc, .int .i64 fm, .string nm] 35) = w1 at Z1 QA ⊢
  generalize w.heap.size = b0 at Z1 ⊢
  have d0 := Z1.out.c 0 _ rfl
  have d1 := Z1.out.c 1 _ rfl
  have d2 := Z1.out.c 2 _ rfl
  have d3 := Z1.out.c 3 _ rfl
  have d4 := Z1.out.c 4 _ rfl
  have d5 := Z1.out.c 5 _ rfl
  have d6 := Z1.out.c 6 _ rfl
  have d7 := Z1.out.c 7 _ rfl
  have d8 := Z1.out.c 8 _ rfl
  have d9 := Z1.out.c 9 _ rfl
  have d10 := Z1.out.c 10 _ rfl
  have d11 := Z1.out.c 11 _ rfl
  have d12 := Z1.out.c 12 _ rfl
  have d13 := Z1.out.c 13 _ rfl
  have d14 := Z1.out.c 14 _ rfl
  have d15 := Z1.out.c 15 _ rfl
  have d16 := Z1.out.c 16 _ rfl
  have d17 := Z1.out.c 17 _ rfl
  have d18 := Z1.out.c 18 _ rfl
  have d19 := Z1.out.c 19 _ rfl
  have d20 := Z1.out.c 20 _ rfl
  have d21 := Z1.out.c 21 _ rfl
  have d22 := Z1.out.c 22 _ rfl
  go_wp2_with (first | (go_at_call 26; refine (HI.out _).mono ?_; rintro e9 v9 ⟨rfl, h9⟩; replace h9 := h9.symm; subst h9) | (go_at_call 27; refine (HC.out _ QA.out).mono ?_; rintro e9 v0 ⟨rfl, q9⟩; have Q0 : Hid (Q w v0) := hid (QA.out.trans q9); have Z10 := hid (Z1.out.on q9); clear q9; have c17 := Z10.out.c 17 _ rfl; have c18 := Z10.out.c 18 _ rfl; have c19 := Z10.out.c 19 _ rfl; have c20 := Z10.out.c 20 _ rfl; have c21 := Z10.out.c 21 _ rfl; have c22 := Z10.out.c 22 _ rfl))
  go_ret
  exact ⟨rfl, Q0.out⟩
end Go.Proofs.YtngnakdbhkjbjaaGreatDoor
