/- parse.mayNode, walked; parse.mayRange, and mayNode of refere. -/
import Derived.Test.YthebfhdpofhmpaaGreatDoorKc07
import Derived.Test.YthebfhdpofhmpaaGreatDoorKc05
import Derived.BigQuiet
import Derived.Shelf.Unicode.ValidAny
import Derived.Test.YthebfhdpofhmpaaGreatDoorProg
import Derived.Test.YthebfhdpofhmpaaGreatDoorKc00
import Derived.Handy
import Derived.Deep.RegionHeld3
set_option linter.unusedVariables false
set_option linter.unusedSimpArgs false
set_option maxRecDepth 100000
set_option maxHeartbeats 8000000
namespace Go.Proofs.YthebfhdpofhmpaaGreatDoor
open Go.RowKit
def bareB (n : Int) (t : List UInt8) (b : Bool) (e : Int) (l1 l2 : Nat) : Bool := decide (n = 0 ∧ t = [] ∧ b = false ∧ e = 0 ∧ l1 = 0 ∧ l2 = 0)
theorem bare_b (k n : Int) (t : ByteArray) (b : Bool) (e : Int) (a1 : Option Addr) (l1 c1 : Nat) (a2 : Option Addr) (l2 c2 : Nat) (r : Bool) (h : bareB n t.data.toList b e l1 l2 = r) (W : World) : Calls Tryz.prog 111 #[.agg #[.int .i64 k, .int .i64 n, .string t, .bool b, .int .i64 e, .slice a1 l1 c1, .slice a2 l2 c2]] W fun e' W' => e' = .returned (.bool r) ∧ Q W W' := by
  rw [← h]
  exact bare_any k n t b e a1 l1 c1 a2 l2 c2 W
theorem two_new (W : World) (c0 c1 c2 c3 c4 c5 c6 : Value) : Tb (((W.alloc (.cells #[c0, c1, c2, c3, c4, c5, c6] 35)).alloc (.cells #[c0, c1, c2, c3, c4, c5, c6] 35)).drew) W.heap.size c0 c1 c2 c3 c4 c5 c6 ∧ Tb (((W.alloc (.cells #[c0, c1, c2, c3, c4, c5, c6] 35)).alloc (.cells #[c0, c1, c2, c3, c4, c5, c6] 35)).drew) (W.heap.size + 1) c0 c1 c2 c3 c4 c5 c6 := by
  constructor
  · exact ((tb_new W c0 c1 c2 c3 c4 c5 c6 35).on ((Qx.refl (W.heap.size + 5) _).alloc _) (by omega)).on ((Qx.refl (W.heap.size + 5) _).drew) (by omega)
  · have h := (tb_new (W.alloc (.cells #[c0, c1, c2, c3, c4, c5, c6] 35)) c0 c1 c2 c3 c4 c5 c6 35).on (p := W.heap.size + 5) ((Qx.refl _ _).drew) (by simp)
    rw [show (W.alloc (.cells #[c0, c1, c2, c3, c4, c5, c6] 35)).heap.size = W.heap.size + 1 by simp] at h
    exact h
set_option maxHeartbeats 4000000 in
theorem mn_1 (n : Int) (t : ByteArray) (b : Bool) (e : Int) (a1 : Option Addr) (l1 c1 : Nat) (a2 : Option Addr) (l2 c2 : Nat) (W : World) : Calls Tryz.prog 93 #[.agg #[.int .i64 1, .int .i64 n, .string t, .bool b, .int .i64 e, .slice a1 l1 c1, .slice a2 l2 c2]] W fun e' W' => e' = .returned (.bool ((decide (0 ≤ n)) && bareB 0 t.data.toList b e l1 l2)) ∧ Q W W' := by
  obtain ⟨rb, hrb⟩ : ∃ rb, bareB 0 t.data.toList b e l1 l2 = rb := ⟨_, rfl⟩
  have HB := hid (fun W' => bare_b 1 0 t b e a1 l1 c1 a2 l2 c2 rb hrb W')
  obtain ⟨t1, t2⟩ := two_new W (.int .i64 1) (.int .i64 n) (.string t) (.bool b) (.int .i64 e) (.slice a1 l1 c1) (.slice a2 l2 c2)
  have T1 := hid t1
  have T2 := hid t2
  have HQ : Hid (Q W (((W.alloc (.cells #[.int .i64 1, .int .i64 n, .string t, .bool b, .int .i64 e, .slice a1 l1 c1, .slice a2 l2 c2] 35)).alloc (.cells #[.int .i64 1, .int .i64 n, .string t, .bool b, .int .i64 e, .slice a1 l1 c1, .slice a2 l2 c2] 35)).drew)) := hid (((Q.refl _).alloc _).alloc _).drew
  have HRB := hid hrb
  clear hrb t1 t2
  by_cases h : 0 ≤ n
  ·
    have HR : Hid (((decide (0 ≤ n)) && bareB 0 t.data.toList b e l1 l2) = rb) := by
      show _ = _
      rw [show (decide (0 ≤ n)) = true from decide_eq_true h]
      exact (Bool.true_and _).trans HRB.out
    generalize ((decide (0 ≤ n)) && bareB 0 t.data.toList b e l1 l2) = rr at HR ⊢
    go_enter Tryz.func93, Tryz.ntmps93
    go_wp2_with fail
    go_region
    obtain ⟨w1, hw1⟩ : ∃ w1, w1 = (((W.alloc (.cells #[.int .i64 1, .int .i64 n, .string t, .bool b, .int .i64 e, .slice a1 l1 c1, .slice a2 l2 c2] 35)).alloc (.cells #[.int .i64 1, .int .i64 n, .string t, .bool b, .int .i64 e, .slice a1 l1 c1, .slice a2 l2 c2] 35)).drew) := ⟨_, rfl⟩
    rw [← hw1] at T1 T2 HQ
    rw [← hw1]
    clear hw1
    obtain ⟨g0, g1, g2, g3, g4, g5, g6, _⟩ := T1.out
    obtain ⟨d0, d1, d2, d3, d4, d5, d6, yf⟩ := T2.out
    have y0 := yf 0
    have y1 := yf 1
    have y2 := yf 2
    have y3 := yf 3
    have y4 := yf 4
    have y5 := yf 5
    have y6 := yf 6
    clear yf
    go_wp2_with (first | (go_at_call 111; refine (HB.out _).mono ?_; rintro e9 w9 ⟨rfl, q9⟩; have Q9 := hid q9; clear q9))
    go_ret
    exact ⟨ret_bool HR.out.symm, Q.trans (by repeat (first | with_reducible exact QC.out | with_reducible exact HQ.out | with_reducible refine Q.drewN ?_ _ | with_reducible refine Q.drew ?_ | with_reducible refine Q.alloc ?_ _ | with_reducible refine Q.setCell ?_ (by simp) _)) Q9.out⟩
  ·
    have HR : Hid (((decide (0 ≤ n)) && bareB 0 t.data.toList b e l1 l2) = false) := by
      show _ = _
      rw [show (decide (0 ≤ n)) = false from decide_eq_false h]
      exact Bool.false_and _
    generalize ((decide (0 ≤ n)) && bareB 0 t.data.toList b e l1 l2) = rr at HR ⊢
    go_enter Tryz.func93, Tryz.ntmps93
    go_wp2_with fail
    go_region
    obtain ⟨w1, hw1⟩ : ∃ w1, w1 = (((W.alloc (.cells #[.int .i64 1, .int .i64 n, .string t, .bool b, .int .i64 e, .slice a1 l1 c1, .slice a2 l2 c2] 35)).alloc (.cells #[.int .i64 1, .int .i64 n, .string t, .bool b, .int .i64 e, .slice a1 l1 c1, .slice a2 l2 c2] 35)).drew) := ⟨_, rfl⟩
    rw [← hw1] at T1 T2 HQ
    rw [← hw1]
    clear hw1
    obtain ⟨g0, g1, g2, g3, g4, g5, g6, _⟩ := T1.out
    obtain ⟨d0, d1, d2, d3, d4, d5, d6, yf⟩ := T2.out
    have y0 := yf 0
    have y1 := yf 1
    have y2 := yf 2
    have y3 := yf 3
    have y4 := yf 4
    have y5 := yf 5
    have y6 := yf 6
    clear yf
    go_wp2_with fail
    go_ret
    exact ⟨ret_bool HR.out.symm, (by repeat (first | with_reducible exact QC.out | with_reducible exact HQ.out | with_reducible refine Q.drewN ?_ _ | with_reducible refine Q.drew ?_ | with_reducible refine Q.alloc ?_ _ | with_reducible refine Q.setCell ?_ (by simp) _))⟩
set_option maxHeartbeats 4000000 in
theorem mn_2 (n : Int) (t : ByteArray) (b : Bool) (e : Int) (a1 : Option Addr) (l1 c1 : Nat) (a2 : Option Addr) (l2 c2 : Nat) (W : World) (hw : Std W) (hs : t.size ≤ 4000000000) : Calls Tryz.prog 93 #[.agg #[.int .i64 2, .int .i64 n, .string t, .bool b, .int .i64 e, .slice a1 l1 c1, .slice a2 l2 c2]] W fun e' W' => e' = .returned (.bool ((V.mayB 2 0 t.toList false 0) && bareB n [] b e l1 l2)) ∧ Q W W' := by
  obtain ⟨rb, hrb⟩ : ∃ rb, bareB n [] b e l1 l2 = rb := ⟨_, rfl⟩
  have HB := hid (fun W' => bare_b 2 n ⟨#[]⟩ b e a1 l1 c1 a2 l2 c2 rb hrb W')
  obtain ⟨t1, t2⟩ := two_new W (.int .i64 2) (.int .i64 n) (.string t) (.bool b) (.int .i64 e) (.slice a1 l1 c1) (.slice a2 l2 c2)
  have T1 := hid t1
  have T2 := hid t2
  have HQ : Hid (Q W (((W.alloc (.cells #[.int .i64 2, .int .i64 n, .string t, .bool b, .int .i64 e, .slice a1 l1 c1, .slice a2 l2 c2] 35)).alloc (.cells #[.int .i64 2, .int .i64 n, .string t, .bool b, .int .i64 e, .slice a1 l1 c1, .slice a2 l2 c2] 35)).drew)) := hid (((Q.refl _).alloc _).alloc _).drew
  have HRB := hid hrb
  clear hrb t1 t2
  have HM := hid (fun W' (q : Q W W') => V.may_any 2 0 t false 0 W' (hw.on q) (by omega))
  clear hw
  cases h : V.mayB 2 0 t.toList false 0
  ·
    rw [h] at HM
    have HR : Hid (((false) && bareB n [] b e l1 l2) = false) := by
      show _ = _
      rw [show (false) = false from rfl]
      exact Bool.false_and _
    generalize ((false) && bareB n [] b e l1 l2) = rr at HR ⊢
    go_enter Tryz.func93, Tryz.ntmps93
    go_wp2_with fail
    go_region
    obtain ⟨w1, hw1⟩ : ∃ w1, w1 = (((W.alloc (.cells #[.int .i64 2, .int .i64 n, .string t, .bool b, .int .i64 e, .slice a1 l1 c1, .slice a2 l2 c2] 35)).alloc (.cells #[.int .i64 2, .int .i64 n, .string t, .bool b, .int .i64 e, .slice a1 l1 c1, .slice a2 l2 c2] 35)).drew) := ⟨_, rfl⟩
    rw [← hw1] at T1 T2 HQ
    rw [← hw1]
    clear hw1
    obtain ⟨g0, g1, g2, g3, g4, g5, g6, _⟩ := T1.out
    obtain ⟨d0, d1, d2, d3, d4, d5, d6, yf⟩ := T2.out
    have y0 := yf 0
    have y1 := yf 1
    have y2 := yf 2
    have y3 := yf 3
    have y4 := yf 4
    have y5 := yf 5
    have y6 := yf 6
    clear yf
    go_wp2_with (first | (go_at_call 46; refine (HM.out _ HQ.out).mono ?_; rintro e8 w2 ⟨rfl, q2⟩; have QC := hid (HQ.out.trans q2); have T3 := hid (T2.out.on (Qx.of (p := W.heap.size + 5) q2) (by omega)); clear q2; have v0 := T3.out.g0; have v1 := T3.out.g1; have v2 := T3.out.g2; have v3 := T3.out.g3; have v4 := T3.out.g4; have v5 := T3.out.g5; have v6 := T3.out.g6; have x0 := T3.out.f 0; have x1 := T3.out.f 1; have x2 := T3.out.f 2; have x3 := T3.out.f 3; have x4 := T3.out.f 4; have x5 := T3.out.f 5; have x6 := T3.out.f 6))
    go_ret
    exact ⟨ret_bool HR.out.symm, (by repeat (first | with_reducible exact QC.out | with_reducible exact HQ.out | with_reducible refine Q.drewN ?_ _ | with_reducible refine Q.drew ?_ | with_reducible refine Q.alloc ?_ _ | with_reducible refine Q.setCell ?_ (by simp) _))⟩
  ·
    rw [h] at HM
    have HR : Hid (((true) && bareB n [] b e l1 l2) = rb) := by
      show _ = _
      rw [show (true) = true from rfl]
      exact (Bool.true_and _).trans HRB.out
    generalize ((true) && bareB n [] b e l1 l2) = rr at HR ⊢
    go_enter Tryz.func93, Tryz.ntmps93
    go_wp2_with fail
    go_region
    obtain ⟨w1, hw1⟩ : ∃ w1, w1 = (((W.alloc (.cells #[.int .i64 2, .int .i64 n, .string t, .bool b, .int .i64 e, .slice a1 l1 c1, .slice a2 l2 c2] 35)).alloc (.cells #[.int .i64 2, .int .i64 n, .string t, .bool b, .int .i64 e, .slice a1 l1 c1, .slice a2 l2 c2] 35)).drew) := ⟨_, rfl⟩
    rw [← hw1] at T1 T2 HQ
    rw [← hw1]
    clear hw1
    obtain ⟨g0, g1, g2, g3, g4, g5, g6, _⟩ := T1.out
    obtain ⟨d0, d1, d2, d3, d4, d5, d6, yf⟩ := T2.out
    have y0 := yf 0
    have y1 := yf 1
    have y2 := yf 2
    have y3 := yf 3
    have y4 := yf 4
    have y5 := yf 5
    have y6 := yf 6
    clear yf
    go_wp2_with (first | (go_at_call 46; refine (HM.out _ HQ.out).mono ?_; rintro e8 w2 ⟨rfl, q2⟩; have QC := hid (HQ.out.trans q2); have T3 := hid (T2.out.on (Qx.of (p := W.heap.size + 5) q2) (by omega)); clear q2; have v0 := T3.out.g0; have v1 := T3.out.g1; have v2 := T3.out.g2; have v3 := T3.out.g3; have v4 := T3.out.g4; have v5 := T3.out.g5; have v6 := T3.out.g6; have x0 := T3.out.f 0; have x1 := T3.out.f 1; have x2 := T3.out.f 2; have x3 := T3.out.f 3; have x4 := T3.out.f 4; have x5 := T3.out.f 5; have x6 := T3.out.f 6) | (go_at_call 111; refine (HB.out _).mono ?_; rintro e9 w9 ⟨rfl, q9⟩; have Q9 := hid q9; clear q9))
    go_ret
    exact ⟨ret_bool HR.out.symm, Q.trans (by repeat (first | with_reducible exact QC.out | with_reducible exact HQ.out | with_reducible refine Q.drewN ?_ _ | with_reducible refine Q.drew ?_ | with_reducible refine Q.alloc ?_ _ | with_reducible refine Q.setCell ?_ (by simp) _)) Q9.out⟩
set_option maxHeartbeats 4000000 in
theorem mn_3 (n : Int) (t : ByteArray) (b : Bool) (e : Int) (a1 : Option Addr) (l1 c1 : Nat) (a2 : Option Addr) (l2 c2 : Nat) (W : World) : Calls Tryz.prog 93 #[.agg #[.int .i64 3, .int .i64 n, .string t, .bool b, .int .i64 e, .slice a1 l1 c1, .slice a2 l2 c2]] W fun e' W' => e' = .returned (.bool ((true) && bareB n t.data.toList false e l1 l2)) ∧ Q W W' := by
  obtain ⟨rb, hrb⟩ : ∃ rb, bareB n t.data.toList false e l1 l2 = rb := ⟨_, rfl⟩
  have HB := hid (fun W' => bare_b 3 n t false e a1 l1 c1 a2 l2 c2 rb hrb W')
  obtain ⟨t1, t2⟩ := two_new W (.int .i64 3) (.int .i64 n) (.string t) (.bool b) (.int .i64 e) (.slice a1 l1 c1) (.slice a2 l2 c2)
  have T1 := hid t1
  have T2 := hid t2
  have HQ : Hid (Q W (((W.alloc (.cells #[.int .i64 3, .int .i64 n, .string t, .bool b, .int .i64 e, .slice a1 l1 c1, .slice a2 l2 c2] 35)).alloc (.cells #[.int .i64 3, .int .i64 n, .string t, .bool b, .int .i64 e, .slice a1 l1 c1, .slice a2 l2 c2] 35)).drew)) := hid (((Q.refl _).alloc _).alloc _).drew
  have HRB := hid hrb
  clear hrb t1 t2
  have HR : Hid (((true) && bareB n t.data.toList false e l1 l2) = rb) := by
    show _ = _
    rw [show (true) = true from rfl]
    exact (Bool.true_and _).trans HRB.out
  generalize ((true) && bareB n t.data.toList false e l1 l2) = rr at HR ⊢
  go_enter Tryz.func93, Tryz.ntmps93
  go_wp2_with fail
  go_region
  obtain ⟨w1, hw1⟩ : ∃ w1, w1 = (((W.alloc (.cells #[.int .i64 3, .int .i64 n, .string t, .bool b, .int .i64 e, .slice a1 l1 c1, .slice a2 l2 c2] 35)).alloc (.cells #[.int .i64 3, .int .i64 n, .string t, .bool b, .int .i64 e, .slice a1 l1 c1, .slice a2 l2 c2] 35)).drew) := ⟨_, rfl⟩
  rw [← hw1] at T1 T2 HQ
  rw [← hw1]
  clear hw1
  obtain ⟨g0, g1, g2, g3, g4, g5, g6, _⟩ := T1.out
  obtain ⟨d0, d1, d2, d3, d4, d5, d6, yf⟩ := T2.out
  have y0 := yf 0
  have y1 := yf 1
  have y2 := yf 2
  have y3 := yf 3
  have y4 := yf 4
  have y5 := yf 5
  have y6 := yf 6
  clear yf
  go_wp2_with (first | (go_at_call 111; refine (HB.out _).mono ?_; rintro e9 w9 ⟨rfl, q9⟩; have Q9 := hid q9; clear q9))
  go_ret
  exact ⟨ret_bool HR.out.symm, Q.trans (by repeat (first | with_reducible exact QC.out | with_reducible exact HQ.out | with_reducible refine Q.drewN ?_ _ | with_reducible refine Q.drew ?_ | with_reducible refine Q.alloc ?_ _ | with_reducible refine Q.setCell ?_ (by simp) _)) Q9.out⟩
set_option maxHeartbeats 4000000 in
theorem mn_4 (n : Int) (t : ByteArray) (b : Bool) (e : Int) (a1 : Option Addr) (l1 c1 : Nat) (a2 : Option Addr) (l2 c2 : Nat) (W : World) (hw : Std W) : Calls Tryz.prog 93 #[.agg #[.int .i64 4, .int .i64 n, .string t, .bool b, .int .i64 e, .slice a1 l1 c1, .slice a2 l2 c2]] W fun e' W' => e' = .returned (.bool ((decide (enL e ≠ [])) && bareB n t.data.toList b 0 l1 l2)) ∧ Q W W' := by
  obtain ⟨rb, hrb⟩ : ∃ rb, bareB n t.data.toList b 0 l1 l2 = rb := ⟨_, rfl⟩
  have HB := hid (fun W' => bare_b 4 n t b 0 a1 l1 c1 a2 l2 c2 rb hrb W')
  obtain ⟨t1, t2⟩ := two_new W (.int .i64 4) (.int .i64 n) (.string t) (.bool b) (.int .i64 e) (.slice a1 l1 c1) (.slice a2 l2 c2)
  have T1 := hid t1
  have T2 := hid t2
  have HQ : Hid (Q W (((W.alloc (.cells #[.int .i64 4, .int .i64 n, .string t, .bool b, .int .i64 e, .slice a1 l1 c1, .slice a2 l2 c2] 35)).alloc (.cells #[.int .i64 4, .int .i64 n, .string t, .bool b, .int .i64 e, .slice a1 l1 c1, .slice a2 l2 c2] 35)).drew)) := hid (((Q.refl _).alloc _).alloc _).drew
  have HRB := hid hrb
  clear hrb t1 t2
  have HM := hid (fun W' (q : Q W W') => V.name_any e W' (hw.on q).nam)
  clear hw
  obtain ⟨S, hS, lS⟩ : ∃ S : ByteArray, ⟨(enL e).toArray⟩ = S ∧ S.data.toList = enL e := ⟨_, rfl, rfl⟩
  rw [hS] at HM
  by_cases h : enL e ≠ []
  ·
    have f4 : (S.toList == []) = false := by rw [toL, lS, beq_eq_false_iff_ne]; exact h
    clear hS lS
    have HR : Hid (((decide (enL e ≠ [])) && bareB n t.data.toList b 0 l1 l2) = rb) := by
      show _ = _
      rw [show (decide (enL e ≠ [])) = true from decide_eq_true h]
      exact (Bool.true_and _).trans HRB.out
    generalize ((decide (enL e ≠ [])) && bareB n t.data.toList b 0 l1 l2) = rr at HR ⊢
    go_enter Tryz.func93, Tryz.ntmps93
    go_wp2_with fail
    go_region
    obtain ⟨w1, hw1⟩ : ∃ w1, w1 = (((W.alloc (.cells #[.int .i64 4, .int .i64 n, .string t, .bool b, .int .i64 e, .slice a1 l1 c1, .slice a2 l2 c2] 35)).alloc (.cells #[.int .i64 4, .int .i64 n, .string t, .bool b, .int .i64 e, .slice a1 l1 c1, .slice a2 l2 c2] 35)).drew) := ⟨_, rfl⟩
    rw [← hw1] at T1 T2 HQ
    rw [← hw1]
    clear hw1
    obtain ⟨g0, g1, g2, g3, g4, g5, g6, _⟩ := T1.out
    obtain ⟨d0, d1, d2, d3, d4, d5, d6, yf⟩ := T2.out
    have y0 := yf 0
    have y1 := yf 1
    have y2 := yf 2
    have y3 := yf 3
    have y4 := yf 4
    have y5 := yf 5
    have y6 := yf 6
    clear yf
    go_wp2_with (first | (go_at_call 69; refine (HM.out _ HQ.out).mono ?_; rintro e8 w2 ⟨rfl, h2⟩; replace h2 := h2.symm; subst h2) | (go_at_call 111; refine (HB.out _).mono ?_; rintro e9 w9 ⟨rfl, q9⟩; have Q9 := hid q9; clear q9))
    go_ret
    exact ⟨ret_bool HR.out.symm, Q.trans (by repeat (first | with_reducible exact QC.out | with_reducible exact HQ.out | with_reducible refine Q.drewN ?_ _ | with_reducible refine Q.drew ?_ | with_reducible refine Q.alloc ?_ _ | with_reducible refine Q.setCell ?_ (by simp) _)) Q9.out⟩
  ·
    have f4 : (S.toList == []) = true := by rw [toL, lS, Classical.not_not.1 h]; rfl
    clear hS lS
    have HR : Hid (((decide (enL e ≠ [])) && bareB n t.data.toList b 0 l1 l2) = false) := by
      show _ = _
      rw [show (decide (enL e ≠ [])) = false from decide_eq_false h]
      exact Bool.false_and _
    generalize ((decide (enL e ≠ [])) && bareB n t.data.toList b 0 l1 l2) = rr at HR ⊢
    go_enter Tryz.func93, Tryz.ntmps93
    go_wp2_with fail
    go_region
    obtain ⟨w1, hw1⟩ : ∃ w1, w1 = (((W.alloc (.cells #[.int .i64 4, .int .i64 n, .string t, .bool b, .int .i64 e, .slice a1 l1 c1, .slice a2 l2 c2] 35)).alloc (.cells #[.int .i64 4, .int .i64 n, .string t, .bool b, .int .i64 e, .slice a1 l1 c1, .slice a2 l2 c2] 35)).drew) := ⟨_, rfl⟩
    rw [← hw1] at T1 T2 HQ
    rw [← hw1]
    clear hw1
    obtain ⟨g0, g1, g2, g3, g4, g5, g6, _⟩ := T1.out
    obtain ⟨d0, d1, d2, d3, d4, d5, d6, yf⟩ := T2.out
    have y0 := yf 0
    have y1 := yf 1
    have y2 := yf 2
    have y3 := yf 3
    have y4 := yf 4
    have y5 := yf 5
    have y6 := yf 6
    clear yf
    go_wp2_with (first | (go_at_call 69; refine (HM.out _ HQ.out).mono ?_; rintro e8 w2 ⟨rfl, h2⟩; replace h2 := h2.symm; subst h2))
    go_ret
    exact ⟨ret_bool HR.out.symm, (by repeat (first | with_reducible exact QC.out | with_reducible exact HQ.out | with_reducible refine Q.drewN ?_ _ | with_reducible refine Q.drew ?_ | with_reducible refine Q.alloc ?_ _ | with_reducible refine Q.setCell ?_ (by simp) _))⟩
set_option maxHeartbeats 4000000 in
theorem mn_7 (n : Int) (t : ByteArray) (b : Bool) (e : Int) (a1 : Option Addr) (l1 c1 : Nat) (a2 : Option Addr) (l2 c2 : Nat) (W : World) : Calls Tryz.prog 93 #[.agg #[.int .i64 7, .int .i64 n, .string t, .bool b, .int .i64 e, .slice a1 l1 c1, .slice a2 l2 c2]] W fun e' W' => e' = .returned (.bool ((decide (l2 = 1)) && bareB n t.data.toList b e l1 0)) ∧ Q W W' := by
  obtain ⟨rb, hrb⟩ : ∃ rb, bareB n t.data.toList b e l1 0 = rb := ⟨_, rfl⟩
  have HB := hid (fun W' => bare_b 7 n t b e a1 l1 c1 none 0 0 rb hrb W')
  obtain ⟨t1, t2⟩ := two_new W (.int .i64 7) (.int .i64 n) (.string t) (.bool b) (.int .i64 e) (.slice a1 l1 c1) (.slice a2 l2 c2)
  have T1 := hid t1
  have T2 := hid t2
  have HQ : Hid (Q W (((W.alloc (.cells #[.int .i64 7, .int .i64 n, .string t, .bool b, .int .i64 e, .slice a1 l1 c1, .slice a2 l2 c2] 35)).alloc (.cells #[.int .i64 7, .int .i64 n, .string t, .bool b, .int .i64 e, .slice a1 l1 c1, .slice a2 l2 c2] 35)).drew)) := hid (((Q.refl _).alloc _).alloc _).drew
  have HRB := hid hrb
  clear hrb t1 t2
  by_cases h : l2 = 1
  ·
    have f7 : ((l2 : Int) == 1) = true := by rw [h]; rfl
    have HR : Hid (((decide (l2 = 1)) && bareB n t.data.toList b e l1 0) = rb) := by
      show _ = _
      rw [show (decide (l2 = 1)) = true from decide_eq_true h]
      exact (Bool.true_and _).trans HRB.out
    generalize ((decide (l2 = 1)) && bareB n t.data.toList b e l1 0) = rr at HR ⊢
    clear h
    go_enter Tryz.func93, Tryz.ntmps93
    go_wp2_with fail
    go_region
    obtain ⟨w1, hw1⟩ : ∃ w1, w1 = (((W.alloc (.cells #[.int .i64 7, .int .i64 n, .string t, .bool b, .int .i64 e, .slice a1 l1 c1, .slice a2 l2 c2] 35)).alloc (.cells #[.int .i64 7, .int .i64 n, .string t, .bool b, .int .i64 e, .slice a1 l1 c1, .slice a2 l2 c2] 35)).drew) := ⟨_, rfl⟩
    rw [← hw1] at T1 T2 HQ
    rw [← hw1]
    clear hw1
    obtain ⟨g0, g1, g2, g3, g4, g5, g6, _⟩ := T1.out
    obtain ⟨d0, d1, d2, d3, d4, d5, d6, yf⟩ := T2.out
    have y0 := yf 0
    have y1 := yf 1
    have y2 := yf 2
    have y3 := yf 3
    have y4 := yf 4
    have y5 := yf 5
    have y6 := yf 6
    clear yf
    go_wp2_with (first | (go_at_call 111; refine (HB.out _).mono ?_; rintro e9 w9 ⟨rfl, q9⟩; have Q9 := hid q9; clear q9))
    go_ret
    exact ⟨ret_bool HR.out.symm, Q.trans (by repeat (first | with_reducible exact QC.out | with_reducible exact HQ.out | with_reducible refine Q.drewN ?_ _ | with_reducible refine Q.drew ?_ | with_reducible refine Q.alloc ?_ _ | with_reducible refine Q.setCell ?_ (by simp) _)) Q9.out⟩
  ·
    have f7 : ((l2 : Int) == 1) = false := by rw [beq_eq_false_iff_ne]; omega
    have HR : Hid (((decide (l2 = 1)) && bareB n t.data.toList b e l1 0) = false) := by
      show _ = _
      rw [show (decide (l2 = 1)) = false from decide_eq_false h]
      exact Bool.false_and _
    generalize ((decide (l2 = 1)) && bareB n t.data.toList b e l1 0) = rr at HR ⊢
    go_enter Tryz.func93, Tryz.ntmps93
    go_wp2_with fail
    go_region
    obtain ⟨w1, hw1⟩ : ∃ w1, w1 = (((W.alloc (.cells #[.int .i64 7, .int .i64 n, .string t, .bool b, .int .i64 e, .slice a1 l1 c1, .slice a2 l2 c2] 35)).alloc (.cells #[.int .i64 7, .int .i64 n, .string t, .bool b, .int .i64 e, .slice a1 l1 c1, .slice a2 l2 c2] 35)).drew) := ⟨_, rfl⟩
    rw [← hw1] at T1 T2 HQ
    rw [← hw1]
    clear hw1
    obtain ⟨g0, g1, g2, g3, g4, g5, g6, _⟩ := T1.out
    obtain ⟨d0, d1, d2, d3, d4, d5, d6, yf⟩ := T2.out
    have y0 := yf 0
    have y1 := yf 1
    have y2 := yf 2
    have y3 := yf 3
    have y4 := yf 4
    have y5 := yf 5
    have y6 := yf 6
    clear yf
    go_wp2_with fail
    go_ret
    exact ⟨ret_bool HR.out.symm, (by repeat (first | with_reducible exact QC.out | with_reducible exact HQ.out | with_reducible refine Q.drewN ?_ _ | with_reducible refine Q.drew ?_ | with_reducible refine Q.alloc ?_ _ | with_reducible refine Q.setCell ?_ (by simp) _))⟩
set_option maxHeartbeats 4000000 in
theorem mn_8 (n : Int) (t : ByteArray) (b : Bool) (e : Int) (a1 : Option Addr) (l1 c1 : Nat) (a2 : Option Addr) (l2 c2 : Nat) (W : World) : Calls Tryz.prog 93 #[.agg #[.int .i64 8, .int .i64 n, .string t, .bool b, .int .i64 e, .slice a1 l1 c1, .slice a2 l2 c2]] W fun e' W' => e' = .returned (.bool ((decide (1 ≤ lvl t.data.toList) && decide (l2 = 2)) && bareB n [] b e l1 0)) ∧ Q W W' := by
  obtain ⟨rb, hrb⟩ : ∃ rb, bareB n [] b e l1 0 = rb := ⟨_, rfl⟩
  have HB := hid (fun W' => bare_b 8 n ⟨#[]⟩ b e a1 l1 c1 none 0 0 rb hrb W')
  obtain ⟨t1, t2⟩ := two_new W (.int .i64 8) (.int .i64 n) (.string t) (.bool b) (.int .i64 e) (.slice a1 l1 c1) (.slice a2 l2 c2)
  have T1 := hid t1
  have T2 := hid t2
  have HQ : Hid (Q W (((W.alloc (.cells #[.int .i64 8, .int .i64 n, .string t, .bool b, .int .i64 e, .slice a1 l1 c1, .slice a2 l2 c2] 35)).alloc (.cells #[.int .i64 8, .int .i64 n, .string t, .bool b, .int .i64 e, .slice a1 l1 c1, .slice a2 l2 c2] 35)).drew)) := hid (((Q.refl _).alloc _).alloc _).drew
  have HRB := hid hrb
  clear hrb t1 t2
  have HM := hid (fun W' => strength_any t W')
  obtain ⟨lv, hlv⟩ : ∃ lv, lvl t.data.toList = lv := ⟨_, rfl⟩
  rw [hlv] at HM ⊢
  by_cases h : 1 ≤ lv
  · have f8 : (1 : Int) ≤ (lv : Int) := by omega
    by_cases h2 : l2 = 2
    ·
      have f7 : ((l2 : Int) == 2) = true := by rw [h2]; rfl
      have HR : Hid (((decide (1 ≤ lv) && decide (l2 = 2)) && bareB n [] b e l1 0) = rb) := by
        show _ = _
        rw [show (decide (1 ≤ lv) && decide (l2 = 2)) = true from by rw [decide_eq_true h, decide_eq_true h2]; rfl]
        exact (Bool.true_and _).trans HRB.out
      generalize ((decide (1 ≤ lv) && decide (l2 = 2)) && bareB n [] b e l1 0) = rr at HR ⊢
      clear h2
      go_enter Tryz.func93, Tryz.ntmps93
      go_wp2_with fail
      go_region
      obtain ⟨w1, hw1⟩ : ∃ w1, w1 = (((W.alloc (.cells #[.int .i64 8, .int .i64 n, .string t, .bool b, .int .i64 e, .slice a1 l1 c1, .slice a2 l2 c2] 35)).alloc (.cells #[.int .i64 8, .int .i64 n, .string t, .bool b, .int .i64 e, .slice a1 l1 c1, .slice a2 l2 c2] 35)).drew) := ⟨_, rfl⟩
      rw [← hw1] at T1 T2 HQ
      rw [← hw1]
      clear hw1
      obtain ⟨g0, g1, g2, g3, g4, g5, g6, _⟩ := T1.out
      obtain ⟨d0, d1, d2, d3, d4, d5, d6, yf⟩ := T2.out
      have y0 := yf 0
      have y1 := yf 1
      have y2 := yf 2
      have y3 := yf 3
      have y4 := yf 4
      have y5 := yf 5
      have y6 := yf 6
      clear yf
      go_wp2_with (first | (go_at_call 109; refine (HM.out _).mono ?_; rintro e8 w2 ⟨rfl, h2⟩; replace h2 := h2.symm; subst h2) | (go_at_call 111; refine (HB.out _).mono ?_; rintro e9 w9 ⟨rfl, q9⟩; have Q9 := hid q9; clear q9))
      go_ret
      exact ⟨ret_bool HR.out.symm, Q.trans (by repeat (first | with_reducible exact QC.out | with_reducible exact HQ.out | with_reducible refine Q.drewN ?_ _ | with_reducible refine Q.drew ?_ | with_reducible refine Q.alloc ?_ _ | with_reducible refine Q.setCell ?_ (by simp) _)) Q9.out⟩
    ·
      have f7 : ((l2 : Int) == 2) = false := by rw [beq_eq_false_iff_ne]; omega
      have HR : Hid (((decide (1 ≤ lv) && decide (l2 = 2)) && bareB n [] b e l1 0) = false) := by
        show _ = _
        rw [show (decide (1 ≤ lv) && decide (l2 = 2)) = false from by rw [decide_eq_false h2, Bool.and_false]]
        exact Bool.false_and _
      generalize ((decide (1 ≤ lv) && decide (l2 = 2)) && bareB n [] b e l1 0) = rr at HR ⊢
      go_enter Tryz.func93, Tryz.ntmps93
      go_wp2_with fail
      go_region
      obtain ⟨w1, hw1⟩ : ∃ w1, w1 = (((W.alloc (.cells #[.int .i64 8, .int .i64 n, .string t, .bool b, .int .i64 e, .slice a1 l1 c1, .slice a2 l2 c2] 35)).alloc (.cells #[.int .i64 8, .int .i64 n, .string t, .bool b, .int .i64 e, .slice a1 l1 c1, .slice a2 l2 c2] 35)).drew) := ⟨_, rfl⟩
      rw [← hw1] at T1 T2 HQ
      rw [← hw1]
      clear hw1
      obtain ⟨g0, g1, g2, g3, g4, g5, g6, _⟩ := T1.out
      obtain ⟨d0, d1, d2, d3, d4, d5, d6, yf⟩ := T2.out
      have y0 := yf 0
      have y1 := yf 1
      have y2 := yf 2
      have y3 := yf 3
      have y4 := yf 4
      have y5 := yf 5
      have y6 := yf 6
      clear yf
      go_wp2_with (first | (go_at_call 109; refine (HM.out _).mono ?_; rintro e8 w2 ⟨rfl, h2⟩; replace h2 := h2.symm; subst h2))
      go_ret
      exact ⟨ret_bool HR.out.symm, (by repeat (first | with_reducible exact QC.out | with_reducible exact HQ.out | with_reducible refine Q.drewN ?_ _ | with_reducible refine Q.drew ?_ | with_reducible refine Q.alloc ?_ _ | with_reducible refine Q.setCell ?_ (by simp) _))⟩
  · have f8 : ¬ (1 : Int) ≤ (lv : Int) := by omega
    have HR : Hid (((decide (1 ≤ lv) && decide (l2 = 2)) && bareB n [] b e l1 0) = false) := by
      show _ = _
      rw [show (decide (1 ≤ lv) && decide (l2 = 2)) = false from by rw [decide_eq_false h, Bool.false_and]]
      exact Bool.false_and _
    generalize ((decide (1 ≤ lv) && decide (l2 = 2)) && bareB n [] b e l1 0) = rr at HR ⊢
    go_enter Tryz.func93, Tryz.ntmps93
    go_wp2_with fail
    go_region
    obtain ⟨w1, hw1⟩ : ∃ w1, w1 = (((W.alloc (.cells #[.int .i64 8, .int .i64 n, .string t, .bool b, .int .i64 e, .slice a1 l1 c1, .slice a2 l2 c2] 35)).alloc (.cells #[.int .i64 8, .int .i64 n, .string t, .bool b, .int .i64 e, .slice a1 l1 c1, .slice a2 l2 c2] 35)).drew) := ⟨_, rfl⟩
    rw [← hw1] at T1 T2 HQ
    rw [← hw1]
    clear hw1
    obtain ⟨g0, g1, g2, g3, g4, g5, g6, _⟩ := T1.out
    obtain ⟨d0, d1, d2, d3, d4, d5, d6, yf⟩ := T2.out
    have y0 := yf 0
    have y1 := yf 1
    have y2 := yf 2
    have y3 := yf 3
    have y4 := yf 4
    have y5 := yf 5
    have y6 := yf 6
    clear yf
    go_wp2_with (first | (go_at_call 109; refine (HM.out _).mono ?_; rintro e8 w2 ⟨rfl, h2⟩; replace h2 := h2.symm; subst h2))
    go_ret
    exact ⟨ret_bool HR.out.symm, (by repeat (first | with_reducible exact QC.out | with_reducible exact HQ.out | with_reducible refine Q.drewN ?_ _ | with_reducible refine Q.drew ?_ | with_reducible refine Q.alloc ?_ _ | with_reducible refine Q.setCell ?_ (by simp) _))⟩
set_option maxHeartbeats 4000000 in
theorem mn_9 (n : Int) (t : ByteArray) (b : Bool) (e : Int) (a1 : Option Addr) (l1 c1 : Nat) (a2 : Option Addr) (l2 c2 : Nat) (W : World) (hs : t.size ≤ 4000000000) : Calls Tryz.prog 93 #[.agg #[.int .i64 9, .int .i64 n, .string t, .bool b, .int .i64 e, .slice a1 l1 c1, .slice a2 l2 c2]] W fun e' W' => e' = .returned (.bool ((namF t.data.toList && decide (l2 ≤ 30)) && bareB n [] b e l1 0)) ∧ Q W W' := by
  obtain ⟨rb, hrb⟩ : ∃ rb, bareB n [] b e l1 0 = rb := ⟨_, rfl⟩
  have HB := hid (fun W' => bare_b 9 n ⟨#[]⟩ b e a1 l1 c1 none 0 0 rb hrb W')
  obtain ⟨t1, t2⟩ := two_new W (.int .i64 9) (.int .i64 n) (.string t) (.bool b) (.int .i64 e) (.slice a1 l1 c1) (.slice a2 l2 c2)
  have T1 := hid t1
  have T2 := hid t2
  have HQ : Hid (Q W (((W.alloc (.cells #[.int .i64 9, .int .i64 n, .string t, .bool b, .int .i64 e, .slice a1 l1 c1, .slice a2 l2 c2] 35)).alloc (.cells #[.int .i64 9, .int .i64 n, .string t, .bool b, .int .i64 e, .slice a1 l1 c1, .slice a2 l2 c2] 35)).drew)) := hid (((Q.refl _).alloc _).alloc _).drew
  have HRB := hid hrb
  clear hrb t1 t2
  have HM := hid (fun W' => mayname_any t W' hs)
  cases h : namF t.data.toList
  ·
    rw [h] at HM
    have HR : Hid (((false && decide (l2 ≤ 30)) && bareB n [] b e l1 0) = false) := by
      show _ = _
      rw [show (false && decide (l2 ≤ 30)) = false from Bool.false_and _]
      exact Bool.false_and _
    generalize ((false && decide (l2 ≤ 30)) && bareB n [] b e l1 0) = rr at HR ⊢
    go_enter Tryz.func93, Tryz.ntmps93
    go_wp2_with fail
    go_region
    obtain ⟨w1, hw1⟩ : ∃ w1, w1 = (((W.alloc (.cells #[.int .i64 9, .int .i64 n, .string t, .bool b, .int .i64 e, .slice a1 l1 c1, .slice a2 l2 c2] 35)).alloc (.cells #[.int .i64 9, .int .i64 n, .string t, .bool b, .int .i64 e, .slice a1 l1 c1, .slice a2 l2 c2] 35)).drew) := ⟨_, rfl⟩
    rw [← hw1] at T1 T2 HQ
    rw [← hw1]
    clear hw1
    obtain ⟨g0, g1, g2, g3, g4, g5, g6, _⟩ := T1.out
    obtain ⟨d0, d1, d2, d3, d4, d5, d6, yf⟩ := T2.out
    have y0 := yf 0
    have y1 := yf 1
    have y2 := yf 2
    have y3 := yf 3
    have y4 := yf 4
    have y5 := yf 5
    have y6 := yf 6
    clear yf
    go_wp2_with (first | (go_at_call 110; refine (HM.out _).mono ?_; rintro e8 w2 ⟨rfl, h2⟩; replace h2 := h2.symm; subst h2))
    go_ret
    exact ⟨ret_bool HR.out.symm, (by repeat (first | with_reducible exact QC.out | with_reducible exact HQ.out | with_reducible refine Q.drewN ?_ _ | with_reducible refine Q.drew ?_ | with_reducible refine Q.alloc ?_ _ | with_reducible refine Q.setCell ?_ (by simp) _))⟩
  · rw [h] at HM
    by_cases h2 : l2 ≤ 30
    ·
      have f7 : (l2 : Int) ≤ 30 := by omega
      have HR : Hid (((true && decide (l2 ≤ 30)) && bareB n [] b e l1 0) = rb) := by
        show _ = _
        rw [show (true && decide (l2 ≤ 30)) = true from by rw [decide_eq_true h2]; rfl]
        exact (Bool.true_and _).trans HRB.out
      generalize ((true && decide (l2 ≤ 30)) && bareB n [] b e l1 0) = rr at HR ⊢
      go_enter Tryz.func93, Tryz.ntmps93
      go_wp2_with fail
      go_region
      obtain ⟨w1, hw1⟩ : ∃ w1, w1 = (((W.alloc (.cells #[.int .i64 9, .int .i64 n, .string t, .bool b, .int .i64 e, .slice a1 l1 c1, .slice a2 l2 c2] 35)).alloc (.cells #[.int .i64 9, .int .i64 n, .string t, .bool b, .int .i64 e, .slice a1 l1 c1, .slice a2 l2 c2] 35)).drew) := ⟨_, rfl⟩
      rw [← hw1] at T1 T2 HQ
      rw [← hw1]
      clear hw1
      obtain ⟨g0, g1, g2, g3, g4, g5, g6, _⟩ := T1.out
      obtain ⟨d0, d1, d2, d3, d4, d5, d6, yf⟩ := T2.out
      have y0 := yf 0
      have y1 := yf 1
      have y2 := yf 2
      have y3 := yf 3
      have y4 := yf 4
      have y5 := yf 5
      have y6 := yf 6
      clear yf
      go_wp2_with (first | (go_at_call 110; refine (HM.out _).mono ?_; rintro e8 w2 ⟨rfl, h2⟩; replace h2 := h2.symm; subst h2) | (go_at_call 111; refine (HB.out _).mono ?_; rintro e9 w9 ⟨rfl, q9⟩; have Q9 := hid q9; clear q9))
      go_ret
      exact ⟨ret_bool HR.out.symm, Q.trans (by repeat (first | with_reducible exact QC.out | with_reducible exact HQ.out | with_reducible refine Q.drewN ?_ _ | with_reducible refine Q.drew ?_ | with_reducible refine Q.alloc ?_ _ | with_reducible refine Q.setCell ?_ (by simp) _)) Q9.out⟩
    ·
      have f7 : ¬ (l2 : Int) ≤ 30 := by omega
      have HR : Hid (((true && decide (l2 ≤ 30)) && bareB n [] b e l1 0) = false) := by
        show _ = _
        rw [show (true && decide (l2 ≤ 30)) = false from by rw [decide_eq_false h2]; rfl]
        exact Bool.false_and _
      generalize ((true && decide (l2 ≤ 30)) && bareB n [] b e l1 0) = rr at HR ⊢
      go_enter Tryz.func93, Tryz.ntmps93
      go_wp2_with fail
      go_region
      obtain ⟨w1, hw1⟩ : ∃ w1, w1 = (((W.alloc (.cells #[.int .i64 9, .int .i64 n, .string t, .bool b, .int .i64 e, .slice a1 l1 c1, .slice a2 l2 c2] 35)).alloc (.cells #[.int .i64 9, .int .i64 n, .string t, .bool b, .int .i64 e, .slice a1 l1 c1, .slice a2 l2 c2] 35)).drew) := ⟨_, rfl⟩
      rw [← hw1] at T1 T2 HQ
      rw [← hw1]
      clear hw1
      obtain ⟨g0, g1, g2, g3, g4, g5, g6, _⟩ := T1.out
      obtain ⟨d0, d1, d2, d3, d4, d5, d6, yf⟩ := T2.out
      have y0 := yf 0
      have y1 := yf 1
      have y2 := yf 2
      have y3 := yf 3
      have y4 := yf 4
      have y5 := yf 5
      have y6 := yf 6
      clear yf
      go_wp2_with (first | (go_at_call 110; refine (HM.out _).mono ?_; rintro e8 w2 ⟨rfl, h2⟩; replace h2 := h2.symm; subst h2))
      go_ret
      exact ⟨ret_bool HR.out.symm, (by repeat (first | with_reducible exact QC.out | with_reducible exact HQ.out | with_reducible refine Q.drewN ?_ _ | with_reducible refine Q.drew ?_ | with_reducible refine Q.alloc ?_ _ | with_reducible refine Q.setCell ?_ (by simp) _))⟩
set_option maxHeartbeats 4000000 in
theorem mn_k (k : Int) (n : Int) (t : ByteArray) (b : Bool) (e : Int) (a1 : Option Addr) (l1 c1 : Nat) (a2 : Option Addr) (l2 c2 : Nat) (W : World) (hk : k < 1 ∨ 9 < k) : Calls Tryz.prog 93 #[.agg #[.int .i64 k, .int .i64 n, .string t, .bool b, .int .i64 e, .slice a1 l1 c1, .slice a2 l2 c2]] W fun e' W' => e' = .returned (.bool false) ∧ Q W W' := by
  have k1 : (k == 1) = false := by rw [beq_eq_false_iff_ne]; omega
  have k2 : (k == 2) = false := by rw [beq_eq_false_iff_ne]; omega
  have k3 : (k == 3) = false := by rw [beq_eq_false_iff_ne]; omega
  have k4 : (k == 4) = false := by rw [beq_eq_false_iff_ne]; omega
  have k5 : (k == 5) = false := by rw [beq_eq_false_iff_ne]; omega
  have k6 : (k == 6) = false := by rw [beq_eq_false_iff_ne]; omega
  have k7 : (k == 7) = false := by rw [beq_eq_false_iff_ne]; omega
  have k8 : (k == 8) = false := by rw [beq_eq_false_iff_ne]; omega
  have k9 : (k == 9) = false := by rw [beq_eq_false_iff_ne]; omega
  clear hk
  go_enter Tryz.func93, Tryz.ntmps93
  go_wp2_with fail
  go_region
  go_wp2_with fail
  go_ret
  exact ⟨rfl, (((Q.refl _).alloc _).alloc _).drew⟩
def MRf (W : World) (x : Rf) : Prop := ∀ W', Q W W' → Calls Tryz.prog 107 #[.agg #[.string ⟨x.1.toArray⟩, .int .i64 x.2.1, .int .i64 x.2.2.1, .bool x.2.2.2.1, .bool x.2.2.2.2]] W' fun e w' => e = .returned (.bool (mayR x.1 x.2.1 x.2.2.1)) ∧ Q W' w'
def rngB : List Rf → Bool
  | [x, y] => mayR x.1 x.2.1 x.2.2.1 && (mayR y.1 y.2.1 y.2.2.1 && decide (y.1 = []))
  | _ => false
theorem rng_no {rs : List Rf} (h : rs.length ≠ 2) : rngB rs = false := by
  match rs with
  | [] => rfl
  | [_] => rfl
  | [_, _] => exact absurd rfl h
  | _ :: _ :: _ :: _ => rfl
set_option maxHeartbeats 4000000 in
theorem mrange_any (rs : List Rf) (v : Value) (W : World) (h : Sl rf 5 W v rs) (HM : Hid (∀ x ∈ rs, MRf W x)) : Calls Tryz.prog 108 #[v] W fun e W' => e = .returned (.bool (rngB rs)) ∧ Q W W' := by
  by_cases hl : rs.length = 2
  · obtain ⟨b, off, cap, hv, _, _, hc⟩ := h.rc (by omega)
    match rs, hl with
    | [x, y], _ =>
      obtain ⟨xs, xr, xc, xa, xb⟩ := x
      obtain ⟨ys, yr, yc, ya, yb⟩ := y
      have HX := hid (HM.out _ (by simp : (xs, xr, xc, xa, xb) ∈ [(xs, xr, xc, xa, xb), (ys, yr, yc, ya, yb)]))
      have HY := hid (HM.out _ (by simp : (ys, yr, yc, ya, yb) ∈ [(xs, xr, xc, xa, xb), (ys, yr, yc, ya, yb)]))
      have H0 := hc 0 (by simp)
      have H1 := hc 1 (by simp)
      simp only [List.getElem_cons_zero, List.getElem_cons_succ, Nat.zero_mul, Nat.add_zero, Nat.one_mul] at H0 H1
      simp only [List.length_cons, List.length_nil, Nat.zero_add] at hv
      subst hv
      obtain ⟨x0, x1, x2, x3, x4⟩ := H0
      obtain ⟨y0, y1, y2, y3, y4⟩ := H1
      unfold MRf at HX HY
      simp only at HX HY
      obtain ⟨SX, hSX⟩ : ∃ S : ByteArray, S = ⟨xs.toArray⟩ := ⟨_, rfl⟩
      obtain ⟨SY, hSY, lSY⟩ : ∃ S : ByteArray, S = ⟨ys.toArray⟩ ∧ S.data.toList = ys := ⟨_, rfl, rfl⟩
      rw [← hSX] at HX x0
      rw [← hSY] at HY y0
      have LS := hid lSY
      have HD := hid (show rngB [(xs, xr, xc, xa, xb), (ys, yr, yc, ya, yb)] = (mayR xs xr xc && (mayR ys yr yc && decide (ys = []))) from rfl)
      generalize rngB [(xs, xr, xc, xa, xb), (ys, yr, yc, ya, yb)] = rr at HD ⊢
      have HYc := hid (fun (W1 : World) (q : Q W W1) => (q.cell (World.block_lt_of_cell? W ⟨b, off + 5, none⟩ y0)).trans y0)
      have HYd := hid (fun (W1 : World) (q : Q W W1) => (q.cell (World.block_lt_of_cell? W ⟨b, off + 5 + 1, none⟩ y1)).trans y1)
      have HYe := hid (fun (W1 : World) (q : Q W W1) => (q.cell (World.block_lt_of_cell? W ⟨b, off + 5 + 2, none⟩ y2)).trans y2)
      have HYf := hid (fun (W1 : World) (q : Q W W1) => (q.cell (World.block_lt_of_cell? W ⟨b, off + 5 + 3, none⟩ y3)).trans y3)
      have HYg := hid (fun (W1 : World) (q : Q W W1) => (q.cell (World.block_lt_of_cell? W ⟨b, off + 5 + 4, none⟩ y4)).trans y4)
      clear HM hc hSX hSY lSY h
      cases hx : mayR xs xr xc
      · have HR : Hid (rr = false) := by show _ = _; rw [HD.out, hx]; rfl
        rw [hx] at HX
        go_enter Tryz.func108, Tryz.ntmps108
        go_wp2_with (go_at_call 107; refine (HX.out _ (Q.refl _)).mono ?_; rintro e w1 ⟨rfl, q1⟩; have Q1 := hid q1; clear q1)
        go_ret
        exact ⟨ret_bool HR.out.symm, Q1.out⟩
      · rw [hx] at HX
        cases hy : mayR ys yr yc
        · have HR : Hid (rr = false) := by show _ = _; rw [HD.out, hx, hy]; rfl
          rw [hy] at HY
          go_enter Tryz.func108, Tryz.ntmps108
          go_wp2_with (first | (go_at_call_of 107 SX; refine (HX.out _ (Q.refl _)).mono ?_; rintro e w1 ⟨rfl, q1⟩; have Q1 := hid q1; clear q1; have n0 := HYc.out w1 Q1.out; have n1 := HYd.out w1 Q1.out; have n2 := HYe.out w1 Q1.out; have n3 := HYf.out w1 Q1.out; have n4 := HYg.out w1 Q1.out) | (go_at_call_of 107 SY; refine (HY.out _ Q1.out).mono ?_; rintro e w2 ⟨rfl, q2⟩; have Q2 := hid (Q1.out.trans q2); clear q2; have m0 := HYc.out w2 Q2.out))
          go_ret
          exact ⟨ret_bool HR.out.symm, Q2.out⟩
        · rw [hy] at HY
          by_cases hz : ys = []
          · have HR : Hid (rr = true) := by show _ = _; rw [HD.out, hx, hy, decide_eq_true hz]; rfl
            have fz : (SY.toList == []) = true := by rw [toL, LS.out, hz]; rfl
            clear hz
            go_enter Tryz.func108, Tryz.ntmps108
            go_wp2_with (first | (go_at_call_of 107 SX; refine (HX.out _ (Q.refl _)).mono ?_; rintro e w1 ⟨rfl, q1⟩; have Q1 := hid q1; clear q1; have n0 := HYc.out w1 Q1.out; have n1 := HYd.out w1 Q1.out; have n2 := HYe.out w1 Q1.out; have n3 := HYf.out w1 Q1.out; have n4 := HYg.out w1 Q1.out) | (go_at_call_of 107 SY; refine (HY.out _ Q1.out).mono ?_; rintro e w2 ⟨rfl, q2⟩; have Q2 := hid (Q1.out.trans q2); clear q2; have m0 := HYc.out w2 Q2.out))
            go_ret
            exact ⟨ret_bool HR.out.symm, Q2.out⟩
          · have HR : Hid (rr = false) := by show _ = _; rw [HD.out, hx, hy, decide_eq_false hz]; rfl
            have fz : (SY.toList == []) = false := by rw [toL, LS.out, beq_eq_false_iff_ne]; exact hz
            clear hz
            go_enter Tryz.func108, Tryz.ntmps108
            go_wp2_with (first | (go_at_call_of 107 SX; refine (HX.out _ (Q.refl _)).mono ?_; rintro e w1 ⟨rfl, q1⟩; have Q1 := hid q1; clear q1; have n0 := HYc.out w1 Q1.out; have n1 := HYd.out w1 Q1.out; have n2 := HYe.out w1 Q1.out; have n3 := HYf.out w1 Q1.out; have n4 := HYg.out w1 Q1.out) | (go_at_call_of 107 SY; refine (HY.out _ Q1.out).mono ?_; rintro e w2 ⟨rfl, q2⟩; have Q2 := hid (Q1.out.trans q2); clear q2; have m0 := HYc.out w2 Q2.out))
            go_ret
            exact ⟨ret_bool HR.out.symm, Q2.out⟩
  · rw [rng_no hl]
    obtain ⟨ao, cap, rfl, _⟩ := h.len
    have f2 : ((rs.length : Int) == 2) = false := by rw [beq_eq_false_iff_ne]; omega
    clear h hl HM
    go_enter Tryz.func108, Tryz.ntmps108
    go_wp2_with fail
    go_ret
    exact ⟨rfl, Q.refl _⟩
def oneB : List Rf → Bool
  | [x] => mayR x.1 x.2.1 x.2.2.1
  | _ => false
theorem one_no {rs : List Rf} (h : rs.length ≠ 1) : oneB rs = false := by
  match rs with
  | [] => rfl
  | [_] => exact absurd rfl h
  | _ :: _ :: _ => rfl
set_option maxHeartbeats 4000000 in
theorem mn_5 (n : Int) (t : ByteArray) (b : Bool) (e : Int) (a1 : Option Addr) (l1 c1 : Nat) (a2 : Option Addr) (l2 c2 : Nat) (W : World) (rs : List Rf) (hr : Sl rf 5 W (.slice a1 l1 c1) rs) (HM : Hid (∀ x ∈ rs, MRf W x)) : Calls Tryz.prog 93 #[.agg #[.int .i64 5, .int .i64 n, .string t, .bool b, .int .i64 e, .slice a1 l1 c1, .slice a2 l2 c2]] W fun e' W' => e' = .returned (.bool ((oneB rs) && bareB n t.data.toList b e 0 l2)) ∧ Q W W' := by
  obtain ⟨rb, hrb⟩ : ∃ rb, bareB n t.data.toList b e 0 l2 = rb := ⟨_, rfl⟩
  have HB := hid (fun W' => bare_b 5 n t b e none 0 0 a2 l2 c2 rb hrb W')
  obtain ⟨t1, t2⟩ := two_new W (.int .i64 5) (.int .i64 n) (.string t) (.bool b) (.int .i64 e) (.slice a1 l1 c1) (.slice a2 l2 c2)
  have T1 := hid t1
  have T2 := hid t2
  have HQ : Hid (Q W (((W.alloc (.cells #[.int .i64 5, .int .i64 n, .string t, .bool b, .int .i64 e, .slice a1 l1 c1, .slice a2 l2 c2] 35)).alloc (.cells #[.int .i64 5, .int .i64 n, .string t, .bool b, .int .i64 e, .slice a1 l1 c1, .slice a2 l2 c2] 35)).drew)) := hid (((Q.refl _).alloc _).alloc _).drew
  have HRB := hid hrb
  clear hrb t1 t2
  have hll : rs.length = l1 := by
    obtain ⟨_, _, hv, _⟩ := hr
    simp only [Value.slice.injEq] at hv
    exact hv.2.1.symm
  by_cases h : l1 = 1
  · obtain ⟨bb, off, cap, hv, _, _, hc⟩ := hr.rc (by omega)
    rw [h] at hll
    match rs, hll with
    | [x], _ =>
      obtain ⟨xs, xr, xc, xa, xb⟩ := x
      have HX := hid (HM.out _ (by simp : (xs, xr, xc, xa, xb) ∈ [(xs, xr, xc, xa, xb)]))
      have H0 := hc 0 (by simp)
      simp only [List.getElem_cons_zero, Nat.zero_mul, Nat.add_zero] at H0
      simp only [List.length_cons, List.length_nil, Nat.zero_add, Value.slice.injEq] at hv
      obtain ⟨rfl, rfl, rfl⟩ := hv
      unfold MRf at HX
      simp only at HX
      have H0' := hid (H0.on HQ.out)
      obtain ⟨SX, hSX⟩ : ∃ S : ByteArray, S = ⟨xs.toArray⟩ := ⟨_, rfl⟩
      rw [← hSX] at HX H0'
      clear HM hc hSX H0 hr
      have hone : oneB [(xs, xr, xc, xa, xb)] = mayR xs xr xc := rfl
      rw [hone]
      clear hone h
      cases hx : mayR xs xr xc
      · rw [hx] at HX
        have HR : Hid (((false) && bareB n t.data.toList b e 0 l2) = false) := by
          show _ = _
          rw [show (false) = false from rfl]
          exact Bool.false_and _
        generalize ((false) && bareB n t.data.toList b e 0 l2) = rr at HR ⊢
        go_enter Tryz.func93, Tryz.ntmps93
        go_wp2_with fail
        go_region
        obtain ⟨w1, hw1⟩ : ∃ w1, w1 = (((W.alloc (.cells #[.int .i64 5, .int .i64 n, .string t, .bool b, .int .i64 e, .slice (some ⟨bb, off, none⟩) 1 c1, .slice a2 l2 c2] 35)).alloc (.cells #[.int .i64 5, .int .i64 n, .string t, .bool b, .int .i64 e, .slice (some ⟨bb, off, none⟩) 1 c1, .slice a2 l2 c2] 35)).drew) := ⟨_, rfl⟩
        rw [← hw1] at T1 T2 HQ H0'
        obtain ⟨r0, r1, r2, r3, r4⟩ := H0'.out
        rw [← hw1]
        clear hw1
        obtain ⟨g0, g1, g2, g3, g4, g5, g6, _⟩ := T1.out
        obtain ⟨d0, d1, d2, d3, d4, d5, d6, yf⟩ := T2.out
        have y0 := yf 0
        have y1 := yf 1
        have y2 := yf 2
        have y3 := yf 3
        have y4 := yf 4
        have y5 := yf 5
        have y6 := yf 6
        clear yf
        go_wp2_with (first | (go_at_call 107; refine (HX.out _ HQ.out).mono ?_; rintro e8 w2 ⟨rfl, q2⟩; have QC := hid (HQ.out.trans q2); have T3 := hid (T2.out.on (Qx.of (p := W.heap.size + 5) q2) (by omega)); clear q2; have v0 := T3.out.g0; have v1 := T3.out.g1; have v2 := T3.out.g2; have v3 := T3.out.g3; have v4 := T3.out.g4; have v5 := T3.out.g5; have v6 := T3.out.g6; have x0 := T3.out.f 0; have x1 := T3.out.f 1; have x2 := T3.out.f 2; have x3 := T3.out.f 3; have x4 := T3.out.f 4; have x5 := T3.out.f 5; have x6 := T3.out.f 6))
        go_ret
        exact ⟨ret_bool HR.out.symm, (by repeat (first | with_reducible exact QC.out | with_reducible exact HQ.out | with_reducible refine Q.drewN ?_ _ | with_reducible refine Q.drew ?_ | with_reducible refine Q.alloc ?_ _ | with_reducible refine Q.setCell ?_ (by simp) _))⟩
      · rw [hx] at HX
        have HR : Hid (((true) && bareB n t.data.toList b e 0 l2) = rb) := by
          show _ = _
          rw [show (true) = true from rfl]
          exact (Bool.true_and _).trans HRB.out
        generalize ((true) && bareB n t.data.toList b e 0 l2) = rr at HR ⊢
        go_enter Tryz.func93, Tryz.ntmps93
        go_wp2_with fail
        go_region
        obtain ⟨w1, hw1⟩ : ∃ w1, w1 = (((W.alloc (.cells #[.int .i64 5, .int .i64 n, .string t, .bool b, .int .i64 e, .slice (some ⟨bb, off, none⟩) 1 c1, .slice a2 l2 c2] 35)).alloc (.cells #[.int .i64 5, .int .i64 n, .string t, .bool b, .int .i64 e, .slice (some ⟨bb, off, none⟩) 1 c1, .slice a2 l2 c2] 35)).drew) := ⟨_, rfl⟩
        rw [← hw1] at T1 T2 HQ H0'
        obtain ⟨r0, r1, r2, r3, r4⟩ := H0'.out
        rw [← hw1]
        clear hw1
        obtain ⟨g0, g1, g2, g3, g4, g5, g6, _⟩ := T1.out
        obtain ⟨d0, d1, d2, d3, d4, d5, d6, yf⟩ := T2.out
        have y0 := yf 0
        have y1 := yf 1
        have y2 := yf 2
        have y3 := yf 3
        have y4 := yf 4
        have y5 := yf 5
        have y6 := yf 6
        clear yf
        go_wp2_with (first | (go_at_call 107; refine (HX.out _ HQ.out).mono ?_; rintro e8 w2 ⟨rfl, q2⟩; have QC := hid (HQ.out.trans q2); have T3 := hid (T2.out.on (Qx.of (p := W.heap.size + 5) q2) (by omega)); clear q2; have v0 := T3.out.g0; have v1 := T3.out.g1; have v2 := T3.out.g2; have v3 := T3.out.g3; have v4 := T3.out.g4; have v5 := T3.out.g5; have v6 := T3.out.g6; have x0 := T3.out.f 0; have x1 := T3.out.f 1; have x2 := T3.out.f 2; have x3 := T3.out.f 3; have x4 := T3.out.f 4; have x5 := T3.out.f 5; have x6 := T3.out.f 6) | (go_at_call 111; refine (HB.out _).mono ?_; rintro e9 w9 ⟨rfl, q9⟩; have Q9 := hid q9; clear q9))
        go_ret
        exact ⟨ret_bool HR.out.symm, Q.trans (by repeat (first | with_reducible exact QC.out | with_reducible exact HQ.out | with_reducible refine Q.drewN ?_ _ | with_reducible refine Q.drew ?_ | with_reducible refine Q.alloc ?_ _ | with_reducible refine Q.setCell ?_ (by simp) _)) Q9.out⟩
  · rw [one_no (by omega)]
    clear HM hr
    have f5 : ((l1 : Int) == 1) = false := by rw [beq_eq_false_iff_ne]; omega
    have HR : Hid (((false) && bareB n t.data.toList b e 0 l2) = false) := by
      show _ = _
      rw [show (false) = false from rfl]
      exact Bool.false_and _
    generalize ((false) && bareB n t.data.toList b e 0 l2) = rr at HR ⊢
    go_enter Tryz.func93, Tryz.ntmps93
    go_wp2_with fail
    go_region
    obtain ⟨w1, hw1⟩ : ∃ w1, w1 = (((W.alloc (.cells #[.int .i64 5, .int .i64 n, .string t, .bool b, .int .i64 e, .slice a1 l1 c1, .slice a2 l2 c2] 35)).alloc (.cells #[.int .i64 5, .int .i64 n, .string t, .bool b, .int .i64 e, .slice a1 l1 c1, .slice a2 l2 c2] 35)).drew) := ⟨_, rfl⟩
    rw [← hw1] at T1 T2 HQ
    rw [← hw1]
    clear hw1
    obtain ⟨g0, g1, g2, g3, g4, g5, g6, _⟩ := T1.out
    obtain ⟨d0, d1, d2, d3, d4, d5, d6, yf⟩ := T2.out
    have y0 := yf 0
    have y1 := yf 1
    have y2 := yf 2
    have y3 := yf 3
    have y4 := yf 4
    have y5 := yf 5
    have y6 := yf 6
    clear yf
    go_wp2_with fail
    go_ret
    exact ⟨ret_bool HR.out.symm, (by repeat (first | with_reducible exact QC.out | with_reducible exact HQ.out | with_reducible refine Q.drewN ?_ _ | with_reducible refine Q.drew ?_ | with_reducible refine Q.alloc ?_ _ | with_reducible refine Q.setCell ?_ (by simp) _))⟩
set_option maxHeartbeats 4000000 in
theorem mn_6 (n : Int) (t : ByteArray) (b : Bool) (e : Int) (a1 : Option Addr) (l1 c1 : Nat) (a2 : Option Addr) (l2 c2 : Nat) (W : World) (rs : List Rf) (hr : Sl rf 5 W (.slice a1 l1 c1) rs) (HM : Hid (∀ x ∈ rs, MRf W x)) : Calls Tryz.prog 93 #[.agg #[.int .i64 6, .int .i64 n, .string t, .bool b, .int .i64 e, .slice a1 l1 c1, .slice a2 l2 c2]] W fun e' W' => e' = .returned (.bool ((rngB rs) && bareB n t.data.toList b e 0 l2)) ∧ Q W W' := by
  obtain ⟨rb, hrb⟩ : ∃ rb, bareB n t.data.toList b e 0 l2 = rb := ⟨_, rfl⟩
  have HB := hid (fun W' => bare_b 6 n t b e none 0 0 a2 l2 c2 rb hrb W')
  obtain ⟨t1, t2⟩ := two_new W (.int .i64 6) (.int .i64 n) (.string t) (.bool b) (.int .i64 e) (.slice a1 l1 c1) (.slice a2 l2 c2)
  have T1 := hid t1
  have T2 := hid t2
  have HQ : Hid (Q W (((W.alloc (.cells #[.int .i64 6, .int .i64 n, .string t, .bool b, .int .i64 e, .slice a1 l1 c1, .slice a2 l2 c2] 35)).alloc (.cells #[.int .i64 6, .int .i64 n, .string t, .bool b, .int .i64 e, .slice a1 l1 c1, .slice a2 l2 c2] 35)).drew)) := hid (((Q.refl _).alloc _).alloc _).drew
  have HRB := hid hrb
  clear hrb t1 t2
  have HN := hid (fun W' (q : Q W W') => mrange_any rs (.slice a1 l1 c1) W' (hr.on q) (hid (fun x hx W2 q2 => HM.out x hx W2 (q.trans q2))))
  clear hr HM
  cases h : rngB rs
  · rw [h] at HN
    have HR : Hid (((false) && bareB n t.data.toList b e 0 l2) = false) := by
      show _ = _
      rw [show (false) = false from rfl]
      exact Bool.false_and _
    generalize ((false) && bareB n t.data.toList b e 0 l2) = rr at HR ⊢
    go_enter Tryz.func93, Tryz.ntmps93
    go_wp2_with fail
    go_region
    obtain ⟨w1, hw1⟩ : ∃ w1, w1 = (((W.alloc (.cells #[.int .i64 6, .int .i64 n, .string t, .bool b, .int .i64 e, .slice a1 l1 c1, .slice a2 l2 c2] 35)).alloc (.cells #[.int .i64 6, .int .i64 n, .string t, .bool b, .int .i64 e, .slice a1 l1 c1, .slice a2 l2 c2] 35)).drew) := ⟨_, rfl⟩
    rw [← hw1] at T1 T2 HQ
    rw [← hw1]
    clear hw1
    obtain ⟨g0, g1, g2, g3, g4, g5, g6, _⟩ := T1.out
    obtain ⟨d0, d1, d2, d3, d4, d5, d6, yf⟩ := T2.out
    have y0 := yf 0
    have y1 := yf 1
    have y2 := yf 2
    have y3 := yf 3
    have y4 := yf 4
    have y5 := yf 5
    have y6 := yf 6
    clear yf
    go_wp2_with (first | (go_at_call 108; refine (HN.out _ HQ.out).mono ?_; rintro e8 w2 ⟨rfl, q2⟩; have QC := hid (HQ.out.trans q2); have T3 := hid (T2.out.on (Qx.of (p := W.heap.size + 5) q2) (by omega)); clear q2; have v0 := T3.out.g0; have v1 := T3.out.g1; have v2 := T3.out.g2; have v3 := T3.out.g3; have v4 := T3.out.g4; have v5 := T3.out.g5; have v6 := T3.out.g6; have x0 := T3.out.f 0; have x1 := T3.out.f 1; have x2 := T3.out.f 2; have x3 := T3.out.f 3; have x4 := T3.out.f 4; have x5 := T3.out.f 5; have x6 := T3.out.f 6))
    go_ret
    exact ⟨ret_bool HR.out.symm, (by repeat (first | with_reducible exact QC.out | with_reducible exact HQ.out | with_reducible refine Q.drewN ?_ _ | with_reducible refine Q.drew ?_ | with_reducible refine Q.alloc ?_ _ | with_reducible refine Q.setCell ?_ (by simp) _))⟩
  · rw [h] at HN
    have HR : Hid (((true) && bareB n t.data.toList b e 0 l2) = rb) := by
      show _ = _
      rw [show (true) = true from rfl]
      exact (Bool.true_and _).trans HRB.out
    generalize ((true) && bareB n t.data.toList b e 0 l2) = rr at HR ⊢
    go_enter Tryz.func93, Tryz.ntmps93
    go_wp2_with fail
    go_region
    obtain ⟨w1, hw1⟩ : ∃ w1, w1 = (((W.alloc (.cells #[.int .i64 6, .int .i64 n, .string t, .bool b, .int .i64 e, .slice a1 l1 c1, .slice a2 l2 c2] 35)).alloc (.cells #[.int .i64 6, .int .i64 n, .string t, .bool b, .int .i64 e, .slice a1 l1 c1, .slice a2 l2 c2] 35)).drew) := ⟨_, rfl⟩
    rw [← hw1] at T1 T2 HQ
    rw [← hw1]
    clear hw1
    obtain ⟨g0, g1, g2, g3, g4, g5, g6, _⟩ := T1.out
    obtain ⟨d0, d1, d2, d3, d4, d5, d6, yf⟩ := T2.out
    have y0 := yf 0
    have y1 := yf 1
    have y2 := yf 2
    have y3 := yf 3
    have y4 := yf 4
    have y5 := yf 5
    have y6 := yf 6
    clear yf
    go_wp2_with (first | (go_at_call 108; refine (HN.out _ HQ.out).mono ?_; rintro e8 w2 ⟨rfl, q2⟩; have QC := hid (HQ.out.trans q2); have T3 := hid (T2.out.on (Qx.of (p := W.heap.size + 5) q2) (by omega)); clear q2; have v0 := T3.out.g0; have v1 := T3.out.g1; have v2 := T3.out.g2; have v3 := T3.out.g3; have v4 := T3.out.g4; have v5 := T3.out.g5; have v6 := T3.out.g6; have x0 := T3.out.f 0; have x1 := T3.out.f 1; have x2 := T3.out.f 2; have x3 := T3.out.f 3; have x4 := T3.out.f 4; have x5 := T3.out.f 5; have x6 := T3.out.f 6) | (go_at_call 111; refine (HB.out _).mono ?_; rintro e9 w9 ⟨rfl, q9⟩; have Q9 := hid q9; clear q9))
    go_ret
    exact ⟨ret_bool HR.out.symm, Q.trans (by repeat (first | with_reducible exact QC.out | with_reducible exact HQ.out | with_reducible refine Q.drewN ?_ _ | with_reducible refine Q.drew ?_ | with_reducible refine Q.alloc ?_ _ | with_reducible refine Q.setCell ?_ (by simp) _)) Q9.out⟩
def mayN : Ex → Bool
  | .mk k n t b e rs ks =>
    if k = 1 then decide (0 ≤ n) && bareB 0 t b e rs.length ks.length
    else if k = 2 then V.mayB 2 0 t false 0 && bareB n [] b e rs.length ks.length
    else if k = 3 then true && bareB n t false e rs.length ks.length
    else if k = 4 then decide (enL e ≠ []) && bareB n t b 0 rs.length ks.length
    else if k = 5 then oneB rs && bareB n t b e 0 ks.length
    else if k = 6 then rngB rs && bareB n t b e 0 ks.length
    else if k = 7 then decide (ks.length = 1) && bareB n t b e rs.length 0
    else if k = 8 then (decide (1 ≤ lvl t) && decide (ks.length = 2)) && bareB n [] b e rs.length 0
    else if k = 9 then (namF t && decide (ks.length ≤ 30)) && bareB n [] b e rs.length 0
    else false
def Sm : Ex → Prop
  | .mk _ _ t _ _ rs ks => t.length ≤ 1000000 ∧ (∀ r ∈ rs, r.1.length ≤ 2000000) ∧ SmL ks
  where
  SmL : List Ex → Prop
  | [] => True
  | x :: xs => Sm x ∧ SmL xs
theorem sm_kid : ∀ {ks : List Ex}, Sm.SmL ks → ∀ y ∈ ks, Sm y
  | [], _, y, hy => absurd hy (by simp)
  | x :: xs, h, y, hy => by
    rw [Sm.SmL] at h
    simp at hy
    rcases hy with rfl | hy
    · exact h.1
    · exact sm_kid h.2 y hy
theorem sm_kids (k n : Int) (t : List UInt8) (b : Bool) (e : Int) (rs : List Rf) (ks : List Ex) (h : Sm (.mk k n t b e rs ks)) : ∀ y ∈ ks, Sm y := by
  rw [Sm] at h
  exact sm_kid h.2.2
theorem mrf_of {W : World} (h : Gd W) (x : Rf) (hs : x.1.length ≤ 2000000) : MRf W x := by
  intro W' q
  have h' := h.on q
  exact pmayref_big ⟨x.1.toArray⟩ x.2.1 x.2.2.1 x.2.2.2.1 x.2.2.2.2 W' h'.1 h'.2 (by show x.1.toArray.size ≤ 2000000; simpa using hs)
theorem maynode_any (x : Ex) (v : Value) (W : World) (hg : Gd W) (hs : Sm x) (hr : Rd W x v) : Calls Tryz.prog 93 #[v] W fun e W' => e = .returned (.bool (mayN x)) ∧ Q W W' := by
  obtain ⟨k, n, t, b, e, rs, ks, rv', kv, ao, cap, rfl, hp⟩ := hr.prt
  obtain ⟨ar, cr, hrv, hl⟩ := hp.rl
  have hsl : Sl rf 5 W (.slice ar rs.length cr) rs := hrv ▸ hp.rl
  obtain rfl := hp.kl
  subst hrv
  have hx := hp.ex
  subst hx
  rw [Sm] at hs
  obtain ⟨s1, s2, _⟩ := hs
  have st : t.size ≤ 1000000 := by rw [← len_data]; exact s1
  have hm : Hid (∀ y ∈ rs, MRf W y) := hid (fun y hy => mrf_of hg y (s2 y hy))
  have tl : t.toList = t.data.toList := toL t
  rw [mayN]
  by_cases h1 : k = 1
  · subst h1
    rw [if_pos rfl]
    exact mn_1 n t b e ar rs.length cr ao ks.length cap W
  by_cases h2 : k = 2
  · subst h2
    rw [if_neg (by decide), if_pos rfl, ← tl]
    exact mn_2 n t b e ar rs.length cr ao ks.length cap W hg.1 (by omega)
  by_cases h3 : k = 3
  · subst h3
    rw [if_neg (by decide), if_neg (by decide), if_pos rfl]
    exact mn_3 n t b e ar rs.length cr ao ks.length cap W
  by_cases h4 : k = 4
  · subst h4
    rw [if_neg (by decide), if_neg (by decide), if_neg (by decide), if_pos rfl]
    exact mn_4 n t b e ar rs.length cr ao ks.length cap W hg.1
  by_cases h5 : k = 5
  · subst h5
    rw [if_neg (by decide), if_neg (by decide), if_neg (by decide), if_neg (by decide), if_pos rfl]
    exact mn_5 n t b e ar rs.length cr ao ks.length cap W rs hsl hm
  by_cases h6 : k = 6
  · subst h6
    rw [if_neg (by decide), if_neg (by decide), if_neg (by decide), if_neg (by decide), if_neg (by decide), if_pos rfl]
    exact mn_6 n t b e ar rs.length cr ao ks.length cap W rs hsl hm
  by_cases h7 : k = 7
  · subst h7
    rw [if_neg (by decide), if_neg (by decide), if_neg (by decide), if_neg (by decide), if_neg (by decide), if_neg (by decide), if_pos rfl]
    exact mn_7 n t b e ar rs.length cr ao ks.length cap W
  by_cases h8 : k = 8
  · subst h8
    rw [if_neg (by decide), if_neg (by decide), if_neg (by decide), if_neg (by decide), if_neg (by decide), if_neg (by decide), if_neg (by decide), if_pos rfl]
    exact mn_8 n t b e ar rs.length cr ao ks.length cap W
  by_cases h9 : k = 9
  · subst h9
    rw [if_neg (by decide), if_neg (by decide), if_neg (by decide), if_neg (by decide), if_neg (by decide), if_neg (by decide), if_neg (by decide), if_neg (by decide), if_pos rfl]
    exact mn_9 n t b e ar rs.length cr ao ks.length cap W (by omega)
  rw [if_neg h1, if_neg h2, if_neg h3, if_neg h4, if_neg h5, if_neg h6, if_neg h7, if_neg h8, if_neg h9]
  exact mn_k k n t b e ar rs.length cr ao ks.length cap W (by omega)
theorem pmayall_any (x : Ex) (v : Value) (W : World) (hg : Gd W) (hs : Sm x) (hr : Rd W x v) : Calls Tryz.prog 66 #[v] W fun e W' => e = .returned (.bool (mall mayN x)) ∧ Q W W' :=
  mayall_any mayN Gd (fun _ _ h q => h.on q) Sm sm_kids (hid maynode_any) (SizeOf.sizeOf x) x v W (Nat.le_refl _) hg hs hr
set_option maxHeartbeats 4000000 in
theorem pmay_any (x : Ex) (v : Value) (W : World) (hg : Gd W) (hs : Sm x) (hr : Rd W x v) : Calls Tryz.prog 42 #[v] W fun e W' => e = .returned (.bool (fitB x && mall mayN x)) ∧ Q W W' := by
  have HF := hid (fun W' (q : Q W W') => fits_any x v W' (Rd.on q _ _ hr))
  have HA := hid (fun W' (q : Q W W') => pmayall_any x v W' (hg.on q) hs (Rd.on q _ _ hr))
  obtain ⟨k, n, t, b, e, a1, l1, c1, a2, l2, c2, rfl⟩ := hr.shape
  have HX := hid (Bx.start W (.int .i64 k) (.int .i64 n) (.string t) (.bool b) (.int .i64 e) (.slice a1 l1 c1) (.slice a2 l2 c2) 35)
  clear hr hg hs
  cases h : fitB x
  · rw [h] at HF
    go_enter Tryz.func42, Tryz.ntmps42
    go_wp2_with (go_at_call 65; refine (HF.out _ ((Q.refl _).alloc _)).mono ?_; rintro e9 w1 ⟨rfl, q1⟩; have Q1 : Hid (Q W w1) := hid (((Q.refl _).alloc _).trans q1); clear q1)
    go_ret
    exact ⟨rfl, Q1.out⟩
  · rw [h] at HF
    obtain ⟨r, hr⟩ : ∃ r, mall mayN x = r := ⟨_, rfl⟩
    rw [hr] at HA ⊢
    clear h hr
    go_enter Tryz.func42, Tryz.ntmps42
    go_wp2_with (first | (go_at_call 65; refine (HF.out _ ((Q.refl _).alloc _)).mono ?_; rintro e9 w1 ⟨rfl, q1⟩; have Q1 : Hid (Q W w1) := hid (((Q.refl _).alloc _).trans q1); have X1 := hid (HX.out.on q1); clear q1; obtain ⟨_, _, g0, g1, g2, g3, g4, g5, g6⟩ := X1.out) | (go_at_call 66; refine (HA.out _ Q1.out).mono ?_; rintro e9 w2 ⟨rfl, q2⟩; have Q2 : Hid (Q W w2) := hid (Q1.out.trans q2); clear q2))
    go_ret
    exact ⟨by simp, Q2.out⟩
end Go.Proofs.YthebfhdpofhmpaaGreatDoor
