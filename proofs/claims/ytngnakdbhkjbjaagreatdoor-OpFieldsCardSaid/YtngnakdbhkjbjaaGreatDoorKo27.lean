/- parse.mayNode, walked. -/
import Derived.Test.YtngnakdbhkjbjaaGreatDoorKo25
import Derived.Test.YtngnakdbhkjbjaaGreatDoorKo05
set_option linter.unusedVariables false
set_option linter.unusedSimpArgs false
namespace Go.Proofs.YtngnakdbhkjbjaaGreatDoor
open Go.RowKit
def bareB (n : Int) (t : List UInt8) (b : Bool) (e : Int) (l1 l2 : Nat) : Bool := decide (n = 0 ∧ t = [] ∧ b = false ∧ e = 0 ∧ l1 = 0 ∧ l2 = 0)
theorem bare_b (k n : Int) (t : ByteArray) (b : Bool) (e : Int) (a1 : Option Addr) (l1 c1 : Nat) (a2 : Option Addr) (l2 c2 : Nat) (r : Bool) (h : bareB n t.data.toList b e l1 l2 = r) (W : World) : Calls Tryz.prog 96 #[.agg #[.int .i64 k, .int .i64 n, .string t, .bool b, .int .i64 e, .slice a1 l1 c1, .slice a2 l2 c2]] W fun e' W' => e' = .returned (.bool r) ∧ Q W W' := by
  rw [← h]
  exact bare_any k n t b e a1 l1 c1 a2 l2 c2 W
/-- a tree in two blocks, one behind the other -/
theorem two_new (W : World) (c0 c1 c2 c3 c4 c5 c6 : Value) : Tb (((W.alloc (.cells #[c0, c1, c2, c3, c4, c5, c6] 28)).alloc (.cells #[c0, c1, c2, c3, c4, c5, c6] 28)).drew) W.heap.size c0 c1 c2 c3 c4 c5 c6 ∧ Tb (((W.alloc (.cells #[c0, c1, c2, c3, c4, c5, c6] 28)).alloc (.cells #[c0, c1, c2, c3, c4, c5, c6] 28)).drew) (W.heap.size + 1) c0 c1 c2 c3 c4 c5 c6 := by
  constructor
  · exact ((tb_new W c0 c1 c2 c3 c4 c5 c6 28).on ((Qx.refl (W.heap.size + 5) _).alloc _) (by omega)).on ((Qx.refl (W.heap.size + 5) _).drew) (by omega)
  · have h := (tb_new (W.alloc (.cells #[c0, c1, c2, c3, c4, c5, c6] 28)) c0 c1 c2 c3 c4 c5 c6 28).on (p := W.heap.size + 5) ((Qx.refl _ _).drew) (by simp)
    rw [show (W.alloc (.cells #[c0, c1, c2, c3, c4, c5, c6] 28)).heap.size = W.heap.size + 1 by simp] at h
    exact h
set_option maxRecDepth 100000 in
set_option maxHeartbeats 4000000 in
theorem mn_1 (n : Int) (t : ByteArray) (b : Bool) (e : Int) (a1 : Option Addr) (l1 c1 : Nat) (a2 : Option Addr) (l2 c2 : Nat) (W : World) : Calls Tryz.prog 79 #[.agg #[.int .i64 1, .int .i64 n, .string t, .bool b, .int .i64 e, .slice a1 l1 c1, .slice a2 l2 c2]] W fun e' W' => e' = .returned (.bool ((decide (0 ≤ n)) && bareB 0 t.data.toList b e l1 l2)) ∧ Q W W' := by
  obtain ⟨rb, hrb⟩ : ∃ rb, bareB 0 t.data.toList b e l1 l2 = rb := ⟨_, rfl⟩
  have HB := hid (fun W' => bare_b 1 0 t b e a1 l1 c1 a2 l2 c2 rb hrb W')
  obtain ⟨t1, t2⟩ := two_new W (.int .i64 1) (.int .i64 n) (.string t) (.bool b) (.int .i64 e) (.slice a1 l1 c1) (.slice a2 l2 c2)
  have T1 := hid t1
  have T2 := hid t2
  have HQ : Hid (Q W (((W.alloc (.cells #[.int .i64 1, .int .i64 n, .string t, .bool b, .int .i64 e, .slice a1 l1 c1, .slice a2 l2 c2] 28)).alloc (.cells #[.int .i64 1, .int .i64 n, .string t, .bool b, .int .i64 e, .slice a1 l1 c1, .slice a2 l2 c2] 28)).drew)) := hid (((Q.refl _).alloc _).alloc _).drew
  have HRB := hid hrb
  clear hrb t1 t2
  by_cases h : 0 ≤ n
  ·
    have HR : Hid (((decide (0 ≤ n)) && bareB 0 t.data.toList b e l1 l2) = rb) := by
      show _ = _
      rw [show (decide (0 ≤ n)) = true from decide_eq_true h]
      exact (Bool.true_and _).trans HRB.out
    generalize ((decide (0 ≤ n)) && bareB 0 t.data.toList b e l1 l2) = rr at HR ⊢
    go_enter Tryz.func79, Tryz.ntmps79
    go_wp2_with fail
    go_region
    obtain ⟨w1, hw1⟩ : ∃ w1, w1 = (((W.alloc (.cells #[.int .i64 1, .int .i64 n, .string t, .bool b, .int .i64 e, .slice a1 l1 c1, .slice a2 l2 c2] 28)).alloc (.cells #[.int .i64 1, .int .i64 n, .string t, .bool b, .int .i64 e, .slice a1 l1 c1, .slice a2 l2 c2] 28)).drew) := ⟨_, rfl⟩
    rw [← hw1] at T1 T2 HQ
    rw [← hw1]
    clear hw1
    obtain ⟨g0, g1, g2, g3, g4, g5, g6, _⟩ := T1.out
    obtain ⟨d0, d1, d2, d3, d4, d5, d6, yf⟩ := T2.out
    have y0 := yf 0
    have y1 := yf 1
    have y2 := yf 2
    have y3 := yf 3
    have y4 := yf 4
    have y5 := yf 5
    have y6 := yf 6
    clear yf
    go_wp2_with (first | (go_at_call 96; refine (HB.out _).mono ?_; rintro e9 w9 ⟨rfl, q9⟩; have Q9 := hid q9; clear q9))
    go_ret
    exact ⟨ret_bool HR.out.symm, Q.trans (by repeat (first | with_reducible exact QC.out | with_reducible exact HQ.out | with_reducible refine Q.drewN ?_ _ | with_reducible refine Q.drew ?_ | with_reducible refine Q.alloc ?_ _ | with_reducible refine Q.setCell ?_ (by simp) _)) Q9.out⟩
  ·
    have HR : Hid (((decide (0 ≤ n)) && bareB 0 t.data.toList b e l1 l2) = false) := by
      show _ = _
      rw [show (decide (0 ≤ n)) = false from decide_eq_false h]
      exact Bool.false_and _
    generalize ((decide (0 ≤ n)) && bareB 0 t.data.toList b e l1 l2) = rr at HR ⊢
    go_enter Tryz.func79, Tryz.ntmps79
    go_wp2_with fail
    go_region
    obtain ⟨w1, hw1⟩ : ∃ w1, w1 = (((W.alloc (.cells #[.int .i64 1, .int .i64 n, .string t, .bool b, .int .i64 e, .slice a1 l1 c1, .slice a2 l2 c2] 28)).alloc (.cells #[.int .i64 1, .int .i64 n, .string t, .bool b, .int .i64 e, .slice a1 l1 c1, .slice a2 l2 c2] 28)).drew) := ⟨_, rfl⟩
    rw [← hw1] at T1 T2 HQ
    rw [← hw1]
    clear hw1
    obtain ⟨g0, g1, g2, g3, g4, g5, g6, _⟩ := T1.out
    obtain ⟨d0, d1, d2, d3, d4, d5, d6, yf⟩ := T2.out
    have y0 := yf 0
    have y1 := yf 1
    have y2 := yf 2
    have y3 := yf 3
    have y4 := yf 4
    have y5 := yf 5
    have y6 := yf 6
    clear yf
    go_wp2_with fail
    go_ret
    exact ⟨ret_bool HR.out.symm, (by repeat (first | with_reducible exact QC.out | with_reducible exact HQ.out | with_reducible refine Q.drewN ?_ _ | with_reducible refine Q.drew ?_ | with_reducible refine Q.alloc ?_ _ | with_reducible refine Q.setCell ?_ (by simp) _))⟩
set_option maxRecDepth 100000 in
set_option maxHeartbeats 4000000 in
theorem mn_2 (n : Int) (t : ByteArray) (b : Bool) (e : Int) (a1 : Option Addr) (l1 c1 : Nat) (a2 : Option Addr) (l2 c2 : Nat) (W : World) (hw : Std W) (hs : t.size ≤ 4000000000) : Calls Tryz.prog 79 #[.agg #[.int .i64 2, .int .i64 n, .string t, .bool b, .int .i64 e, .slice a1 l1 c1, .slice a2 l2 c2]] W fun e' W' => e' = .returned (.bool ((V.mayB 2 0 t.toList false 0) && bareB n [] b e l1 l2)) ∧ Q W W' := by
  obtain ⟨rb, hrb⟩ : ∃ rb, bareB n [] b e l1 l2 = rb := ⟨_, rfl⟩
  have HB := hid (fun W' => bare_b 2 n ⟨#[]⟩ b e a1 l1 c1 a2 l2 c2 rb hrb W')
  obtain ⟨t1, t2⟩ := two_new W (.int .i64 2) (.int .i64 n) (.string t) (.bool b) (.int .i64 e) (.slice a1 l1 c1) (.slice a2 l2 c2)
  have T1 := hid t1
  have T2 := hid t2
  have HQ : Hid (Q W (((W.alloc (.cells #[.int .i64 2, .int .i64 n, .string t, .bool b, .int .i64 e, .slice a1 l1 c1, .slice a2 l2 c2] 28)).alloc (.cells #[.int .i64 2, .int .i64 n, .string t, .bool b, .int .i64 e, .slice a1 l1 c1, .slice a2 l2 c2] 28)).drew)) := hid (((Q.refl _).alloc _).alloc _).drew
  have HRB := hid hrb
  clear hrb t1 t2
  have HM := hid (fun W' (q : Q W W') => V.may_any 2 0 t false 0 W' (hw.on q) (by omega))
  clear hw
  cases h : V.mayB 2 0 t.toList false 0
  ·
    rw [h] at HM
    have HR : Hid (((false) && bareB n [] b e l1 l2) = false) := by
      show _ = _
      rw [show (false) = false from rfl]
      exact Bool.false_and _
    generalize ((false) && bareB n [] b e l1 l2) = rr at HR ⊢
    go_enter Tryz.func79, Tryz.ntmps79
    go_wp2_with fail
    go_region
    obtain ⟨w1, hw1⟩ : ∃ w1, w1 = (((W.alloc (.cells #[.int .i64 2, .int .i64 n, .string t, .bool b, .int .i64 e, .slice a1 l1 c1, .slice a2 l2 c2] 28)).alloc (.cells #[.int .i64 2, .int .i64 n, .string t, .bool b, .int .i64 e, .slice a1 l1 c1, .slice a2 l2 c2] 28)).drew) := ⟨_, rfl⟩
    rw [← hw1] at T1 T2 HQ
    rw [← hw1]
    clear hw1
    obtain ⟨g0, g1, g2, g3, g4, g5, g6, _⟩ := T1.out
    obtain ⟨d0, d1, d2, d3, d4, d5, d6, yf⟩ := T2.out
    have y0 := yf 0
    have y1 := yf 1
    have y2 := yf 2
    have y3 := yf 3
    have y4 := yf 4
    have y5 := yf 5
    have y6 := yf 6
    clear yf
    go_wp2_with (first | (go_at_call 44; refine (HM.out _ HQ.out).mono ?_; rintro e8 w2 ⟨rfl, q2⟩; have QC := hid (HQ.out.trans q2); have T3 := hid (T2.out.on (Qx.of (p := W.heap.size + 5) q2) (by omega)); clear q2; have v0 := T3.out.g0; have v1 := T3.out.g1; have v2 := T3.out.g2; have v3 := T3.out.g3; have v4 := T3.out.g4; have v5 := T3.out.g5; have v6 := T3.out.g6; have x0 := T3.out.f 0; have x1 := T3.out.f 1; have x2 := T3.out.f 2; have x3 := T3.out.f 3; have x4 := T3.out.f 4; have x5 := T3.out.f 5; have x6 := T3.out.f 6))
    go_ret
    exact ⟨ret_bool HR.out.symm, (by repeat (first | with_reducible exact QC.out | with_reducible exact HQ.out | with_reducible refine Q.drewN ?_ _ | with_reducible refine Q.drew ?_ | with_reducible refine Q.alloc ?_ _ | with_reducible refine Q.setCell ?_ (by simp) _))⟩
  ·
    rw [h] at HM
    have HR : Hid (((true) && bareB n [] b e l1 l2) = rb) := by
      show _ = _
      rw [show (true) = true from rfl]
      exact (Bool.true_and _).trans HRB.out
    generalize ((true) && bareB n [] b e l1 l2) = rr at HR ⊢
    go_enter Tryz.func79, Tryz.ntmps79
    go_wp2_with fail
    go_region
    obtain ⟨w1, hw1⟩ : ∃ w1, w1 = (((W.alloc (.cells #[.int .i64 2, .int .i64 n, .string t, .bool b, .int .i64 e, .slice a1 l1 c1, .slice a2 l2 c2] 28)).alloc (.cells #[.int .i64 2, .int .i64 n, .string t, .bool b, .int .i64 e, .slice a1 l1 c1, .slice a2 l2 c2] 28)).drew) := ⟨_, rfl⟩
    rw [← hw1] at T1 T2 HQ
    rw [← hw1]
    clear hw1
    obtain ⟨g0, g1, g2, g3, g4, g5, g6, _⟩ := T1.out
    obtain ⟨d0, d1, d2, d3, d4, d5, d6, yf⟩ := T2.out
    have y0 := yf 0
    have y1 := yf 1
    have y2 := yf 2
    have y3 := yf 3
    have y4 := yf 4
    have y5 := yf 5
    have y6 := yf 6
    clear yf
    go_wp2_with (first | (go_at_call 44; refine (HM.out _ HQ.out).mono ?_; rintro e8 w2 ⟨rfl, q2⟩; have QC := hid (HQ.out.trans q2); have T3 := hid (T2.out.on (Qx.of (p := W.heap.size + 5) q2) (by omega)); clear q2; have v0 := T3.out.g0; have v1 := T3.out.g1; have v2 := T3.out.g2; have v3 := T3.out.g3; have v4 := T3.out.g4; have v5 := T3.out.g5; have v6 := T3.out.g6; have x0 := T3.out.f 0; have x1 := T3.out.f 1; have x2 := T3.out.f 2; have x3 := T3.out.f 3; have x4 := T3.out.f 4; have x5 := T3.out.f 5; have x6 := T3.out.f 6) | (go_at_call 96; refine (HB.out _).mono ?_; rintro e9 w9 ⟨rfl, q9⟩; have Q9 := hid q9; clear q9))
    go_ret
    exact ⟨ret_bool HR.out.symm, Q.trans (by repeat (first | with_reducible exact QC.out | with_reducible exact HQ.out | with_reducible refine Q.drewN ?_ _ | with_reducible refine Q.drew ?_ | with_reducible refine Q.alloc ?_ _ | with_reducible refine Q.setCell ?_ (by simp) _)) Q9.out⟩
set_option maxRecDepth 100000 in
set_option maxHeartbeats 4000000 in
theorem mn_3 (n : Int) (t : ByteArray) (b : Bool) (e : Int) (a1 : Option Addr) (l1 c1 : Nat) (a2 : Option Addr) (l2 c2 : Nat) (W : World) : Calls Tryz.prog 79 #[.agg #[.int .i64 3, .int .i64 n, .string t, .bool b, .int .i64 e, .slice a1 l1 c1, .slice a2 l2 c2]] W fun e' W' => e' = .returned (.bool ((true) && bareB n t.data.toList false e l1 l2)) ∧ Q W W' := by
  obtain ⟨rb, hrb⟩ : ∃ rb, bareB n t.data.toList false e l1 l2 = rb := ⟨_, rfl⟩
  have HB := hid (fun W' => bare_b 3 n t false e a1 l1 c1 a2 l2 c2 rb hrb W')
  obtain ⟨t1, t2⟩ := two_new W (.int .i64 3) (.int .i64 n) (.string t) (.bool b) (.int .i64 e) (.slice a1 l1 c1) (.slice a2 l2 c2)
  have T1 := hid t1
  have T2 := hid t2
  have HQ : Hid (Q W (((W.alloc (.cells #[.int .i64 3, .int .i64 n, .string t, .bool b, .int .i64 e, .slice a1 l1 c1, .slice a2 l2 c2] 28)).alloc (.cells #[.int .i64 3, .int .i64 n, .string t, .bool b, .int .i64 e, .slice a1 l1 c1, .slice a2 l2 c2] 28)).drew)) := hid (((Q.refl _).alloc _).alloc _).drew
  have HRB := hid hrb
  clear hrb t1 t2
  have HR : Hid (((true) && bareB n t.data.toList false e l1 l2) = rb) := by
    show _ = _
    rw [show (true) = true from rfl]
    exact (Bool.true_and _).trans HRB.out
  generalize ((true) && bareB n t.data.toList false e l1 l2) = rr at HR ⊢
  go_enter Tryz.func79, Tryz.ntmps79
  go_wp2_with fail
  go_region
  obtain ⟨w1, hw1⟩ : ∃ w1, w1 = (((W.alloc (.cells #[.int .i64 3, .int .i64 n, .string t, .bool b, .int .i64 e, .slice a1 l1 c1, .slice a2 l2 c2] 28)).alloc (.cells #[.int .i64 3, .int .i64 n, .string t, .bool b, .int .i64 e, .slice a1 l1 c1, .slice a2 l2 c2] 28)).drew) := ⟨_, rfl⟩
  rw [← hw1] at T1 T2 HQ
  rw [← hw1]
  clear hw1
  obtain ⟨g0, g1, g2, g3, g4, g5, g6, _⟩ := T1.out
  obtain ⟨d0, d1, d2, d3, d4, d5, d6, yf⟩ := T2.out
  have y0 := yf 0
  have y1 := yf 1
  have y2 := yf 2
  have y3 := yf 3
  have y4 := yf 4
  have y5 := yf 5
  have y6 := yf 6
  clear yf
  go_wp2_with (first | (go_at_call 96; refine (HB.out _).mono ?_; rintro e9 w9 ⟨rfl, q9⟩; have Q9 := hid q9; clear q9))
  go_ret
  exact ⟨ret_bool HR.out.symm, Q.trans (by repeat (first | with_reducible exact QC.out | with_reducible exact HQ.out | with_reducible refine Q.drewN ?_ _ | with_reducible refine Q.drew ?_ | with_reducible refine Q.alloc ?_ _ | with_reducible refine Q.setCell ?_ (by simp) _)) Q9.out⟩
set_option maxRecDepth 100000 in
set_option maxHeartbeats 4000000 in
theorem mn_4 (n : Int) (t : ByteArray) (b : Bool) (e : Int) (a1 : Option Addr) (l1 c1 : Nat) (a2 : Option Addr) (l2 c2 : Nat) (W : World) (hw : Std W) : Calls Tryz.prog 79 #[.agg #[.int .i64 4, .int .i64 n, .string t, .bool b, .int .i64 e, .slice a1 l1 c1, .slice a2 l2 c2]] W fun e' W' => e' = .returned (.bool ((decide (enL e ≠ [])) && bareB n t.data.toList b 0 l1 l2)) ∧ Q W W' := by
  obtain ⟨rb, hrb⟩ : ∃ rb, bareB n t.data.toList b 0 l1 l2 = rb := ⟨_, rfl⟩
  have HB := hid (fun W' => bare_b 4 n t b 0 a1 l1 c1 a2 l2 c2 rb hrb W')
  obtain ⟨t1, t2⟩ := two_new W (.int .i64 4) (.int .i64 n) (.string t) (.bool b) (.int .i64 e) (.slice a1 l1 c1) (.slice a2 l2 c2)
  have T1 := hid t1
  have T2 := hid t2
  have HQ : Hid (Q W (((W.alloc (.cells #[.int .i64 4, .int .i64 n, .string t, .bool b, .int .i64 e, .slice a1 l1 c1, .slice a2 l2 c2] 28)).alloc (.cells #[.int .i64 4, .int .i64 n, .string t, .bool b, .int .i64 e, .slice a1 l1 c1, .slice a2 l2 c2] 28)).drew)) := hid (((Q.refl _).alloc _).alloc _).drew
  have HRB := hid hrb
  clear hrb t1 t2
  have HM := hid (fun W' (q : Q W W') => V.name_any e W' (hw.on q).nam)
  clear hw
  obtain ⟨S, hS, lS⟩ : ∃ S : ByteArray, ⟨(enL e).toArray⟩ = S ∧ S.data.toList = enL e := ⟨_, rfl, rfl⟩
  rw [hS] at HM
  by_cases h : enL e ≠ []
  ·
    have f4 : (S.toList == []) = false := by rw [toL, lS, beq_eq_false_iff_ne]; exact h
    clear hS lS
    have HR : Hid (((decide (enL e ≠ [])) && bareB n t.data.toList b 0 l1 l2) = rb) := by
      show _ = _
      rw [show (decide (enL e ≠ [])) = true from decide_eq_true h]
      exact (Bool.true_and _).trans HRB.out
    generalize ((decide (enL e ≠ [])) && bareB n t.data.toList b 0 l1 l2) = rr at HR ⊢
    go_enter Tryz.func79, Tryz.ntmps79
    go_wp2_with fail
    go_region
    obtain ⟨w1, hw1⟩ : ∃ w1, w1 = (((W.alloc (.cells #[.int .i64 4, .int .i64 n, .string t, .bool b, .int .i64 e, .slice a1 l1 c1, .slice a2 l2 c2] 28)).alloc (.cells #[.int .i64 4, .int .i64 n, .string t, .bool b, .int .i64 e, .slice a1 l1 c1, .slice a2 l2 c2] 28)).drew) := ⟨_, rfl⟩
    rw [← hw1] at T1 T2 HQ
    rw [← hw1]
    clear hw1
    obtain ⟨g0, g1, g2, g3, g4, g5, g6, _⟩ := T1.out
    obtain ⟨d0, d1, d2, d3, d4, d5, d6, yf⟩ := T2.out
    have y0 := yf 0
    have y1 := yf 1
    have y2 := yf 2
    have y3 := yf 3
    have y4 := yf 4
    have y5 := yf 5
    have y6 := yf 6
    clear yf
    go_wp2_with (first | (go_at_call 64; refine (HM.out _ HQ.out).mono ?_; rintro e8 w2 ⟨rfl, h2⟩; replace h2 := h2.symm; subst h2) | (go_at_call 96; refine (HB.out _).mono ?_; rintro e9 w9 ⟨rfl, q9⟩; have Q9 := hid q9; clear q9))
    go_ret
    exact ⟨ret_bool HR.out.symm, Q.trans (by repeat (first | with_reducible exact QC.out | with_reducible exact HQ.out | with_reducible refine Q.drewN ?_ _ | with_reducible refine Q.drew ?_ | with_reducible refine Q.alloc ?_ _ | with_reducible refine Q.setCell ?_ (by simp) _)) Q9.out⟩
  ·
    have f4 : (S.toList == []) = true := by rw [toL, lS, Classical.not_not.1 h]; rfl
    clear hS lS
    have HR : Hid (((decide (enL e ≠ [])) && bareB n t.data.toList b 0 l1 l2) = false) := by
      show _ = _
      rw [show (decide (enL e ≠ [])) = false from decide_eq_false h]
      exact Bool.false_and _
    generalize ((decide (enL e ≠ [])) && bareB n t.data.toList b 0 l1 l2) = rr at HR ⊢
    go_enter Tryz.func79, Tryz.ntmps79
    go_wp2_with fail
    go_region
    obtain ⟨w1, hw1⟩ : ∃ w1, w1 = (((W.alloc (.cells #[.int .i64 4, .int .i64 n, .string t, .bool b, .int .i64 e, .slice a1 l1 c1, .slice a2 l2 c2] 28)).alloc (.cells #[.int .i64 4, .int .i64 n, .string t, .bool b, .int .i64 e, .slice a1 l1 c1, .slice a2 l2 c2] 28)).drew) := ⟨_, rfl⟩
    rw [← hw1] at T1 T2 HQ
    rw [← hw1]
    clear hw1
    obtain ⟨g0, g1, g2, g3, g4, g5, g6, _⟩ := T1.out
    obtain ⟨d0, d1, d2, d3, d4, d5, d6, yf⟩ := T2.out
    have y0 := yf 0
    have y1 := yf 1
    have y2 := yf 2
    have y3 := yf 3
    have y4 := yf 4
    have y5 := yf 5
    have y6 := yf 6
    clear yf
    go_wp2_with (first | (go_at_call 64; refine (HM.out _ HQ.out).mono ?_; rintro e8 w2 ⟨rfl, h2⟩; replace h2 := h2.symm; subst h2))
    go_ret
    exact ⟨ret_bool HR.out.symm, (by repeat (first | with_reducible exact QC.out | with_reducible exact HQ.out | with_reducible refine Q.drewN ?_ _ | with_reducible refine Q.drew ?_ | with_reducible refine Q.alloc ?_ _ | with_reducible refine Q.setCell ?_ (by simp) _))⟩
set_option maxRecDepth 100000 in
set_option maxHeartbeats 4000000 in
theorem mn_7 (n : Int) (t : ByteArray) (b : Bool) (e : Int) (a1 : Option Addr) (l1 c1 : Nat) (a2 : Option Addr) (l2 c2 : Nat) (W : World) : Calls Tryz.prog 79 #[.agg #[.int .i64 7, .int .i64 n, .string t, .bool b, .int .i64 e, .slice a1 l1 c1, .slice a2 l2 c2]] W fun e' W' => e' = .returned (.bool ((decide (l2 = 1)) && bareB n t.data.toList b e l1 0)) ∧ Q W W' := by
  obtain ⟨rb, hrb⟩ : ∃ rb, bareB n t.data.toList b e l1 0 = rb := ⟨_, rfl⟩
  have HB := hid (fun W' => bare_b 7 n t b e a1 l1 c1 none 0 0 rb hrb W')
  obtain ⟨t1, t2⟩ := two_new W (.int .i64 7) (.int .i64 n) (.string t) (.bool b) (.int .i64 e) (.slice a1 l1 c1) (.slice a2 l2 c2)
  have T1 := hid t1
  have T2 := hid t2
  have HQ : Hid (Q W (((W.alloc (.cells #[.int .i64 7, .int .i64 n, .string t, .bool b, .int .i64 e, .slice a1 l1 c1, .slice a2 l2 c2] 28)).alloc (.cells #[.int .i64 7, .int .i64 n, .string t, .bool b, .int .i64 e, .slice a1 l1 c1, .slice a2 l2 c2] 28)).drew)) := hid (((Q.refl _).alloc _).alloc _).drew
  have HRB := hid hrb
  clear hrb t1 t2
  by_cases h : l2 = 1
  ·
    have f7 : ((l2 : Int) == 1) = true := by rw [h]; rfl
    have HR : Hid (((decide (l2 = 1)) && bareB n t.data.toList b e l1 0) = rb) := by
      show _ = _
      rw [show (decide (l2 = 1)) = true from decide_eq_true h]
      exact (Bool.true_and _).trans HRB.out
    generalize ((decide (l2 = 1)) && bareB n t.data.toList b e l1 0) = rr at HR ⊢
    clear h
    go_enter Tryz.func79, Tryz.ntmps79
    go_wp2_with fail
    go_region
    obtain ⟨w1, hw1⟩ : ∃ w1, w1 = (((W.alloc (.cells #[.int .i64 7, .int .i64 n, .string t, .bool b, .int .i64 e, .slice a1 l1 c1, .slice a2 l2 c2] 28)).alloc (.cells #[.int .i64 7, .int .i64 n, .string t, .bool b, .int .i64 e, .slice a1 l1 c1, .slice a2 l2 c2] 28)).drew) := ⟨_, rfl⟩
    rw [← hw1] at T1 T2 HQ
    rw [← hw1]
    clear hw1
    obtain ⟨g0, g1, g2, g3, g4, g5, g6, _⟩ := T1.out
    obtain ⟨d0, d1, d2, d3, d4, d5, d6, yf⟩ := T2.out
    have y0 := yf 0
    have y1 := yf 1
    have y2 := yf 2
    have y3 := yf 3
    have y4 := yf 4
    have y5 := yf 5
    have y6 := yf 6
    clear yf
    go_wp2_with (first | (go_at_call 96; refine (HB.out _).mono ?_; rintro e9 w9 ⟨rfl, q9⟩; have Q9 := hid q9; clear q9))
    go_ret
    exact ⟨ret_bool HR.out.symm, Q.trans (by repeat (first | with_reducible exact QC.out | with_reducible exact HQ.out | with_reducible refine Q.drewN ?_ _ | with_reducible refine Q.drew ?_ | with_reducible refine Q.alloc ?_ _ | with_reducible refine Q.setCell ?_ (by simp) _)) Q9.out⟩
  ·
    have f7 : ((l2 : Int) == 1) = false := by rw [beq_eq_false_iff_ne]; omega
    have HR : Hid (((decide (l2 = 1)) && bareB n t.data.toList b e l1 0) = false) := by
      show _ = _
      rw [show (decide (l2 = 1)) = false from decide_eq_false h]
      exact Bool.false_and _
    generalize ((decide (l2 = 1)) && bareB n t.data.toList b e l1 0) = rr at HR ⊢
    go_enter Tryz.func79, Tryz.ntmps79
    go_wp2_with fail
    go_region
    obtain ⟨w1, hw1⟩ : ∃ w1, w1 = (((W.alloc (.cells #[.int .i64 7, .int .i64 n, .string t, .bool b, .int .i64 e, .slice a1 l1 c1, .slice a2 l2 c2] 28)).alloc (.cells #[.int .i64 7, .int .i64 n, .string t, .bool b, .int .i64 e, .slice a1 l1 c1, .slice a2 l2 c2] 28)).drew) := ⟨_, rfl⟩
    rw [← hw1] at T1 T2 HQ
    rw [← hw1]
    clear hw1
    obtain ⟨g0, g1, g2, g3, g4, g5, g6, _⟩ := T1.out
    obtain ⟨d0, d1, d2, d3, d4, d5, d6, yf⟩ := T2.out
    have y0 := yf 0
    have y1 := yf 1
    have y2 := yf 2
    have y3 := yf 3
    have y4 := yf 4
    have y5 := yf 5
    have y6 := yf 6
    clear yf
    go_wp2_with fail
    go_ret
    exact ⟨ret_bool HR.out.symm, (by repeat (first | with_reducible exact QC.out | with_reducible exact HQ.out | with_reducible refine Q.drewN ?_ _ | with_reducible refine Q.drew ?_ | with_reducible refine Q.alloc ?_ _ | with_reducible refine Q.setCell ?_ (by simp) _))⟩
set_option maxRecDepth 100000 in
set_option maxHeartbeats 4000000 in
theorem mn_8 (n : Int) (t : ByteArray) (b : Bool) (e : Int) (a1 : Option Addr) (l1 c1 : Nat) (a2 : Option Addr) (l2 c2 : Nat) (W : World) : Calls Tryz.prog 79 #[.agg #[.int .i64 8, .int .i64 n, .string t, .bool b, .int .i64 e, .slice a1 l1 c1, .slice a2 l2 c2]] W fun e' W' => e' = .returned (.bool ((decide (1 ≤ lvl t.data.toList) && decide (l2 = 2)) && bareB n [] b e l1 0)) ∧ Q W W' := by
  obtain ⟨rb, hrb⟩ : ∃ rb, bareB n [] b e l1 0 = rb := ⟨_, rfl⟩
  have HB := hid (fun W' => bare_b 8 n ⟨#[]⟩ b e a1 l1 c1 none 0 0 rb hrb W')
  obtain ⟨t1, t2⟩ := two_new W (.int .i64 8) (.int .i64 n) (.string t) (.bool b) (.int .i64 e) (.slice a1 l1 c1) (.slice a2 l2 c2)
  have T1 := hid t1
  have T2 := hid t2
  have HQ : Hid (Q W (((W.alloc (.cells #[.int .i64 8, .int .i64 n, .string t, .bool b, .int .i64 e, .slice a1 l1 c1, .slice a2 l2 c2] 28)).alloc (.cells #[.int .i64 8, .int .i64 n, .string t, .bool b, .int .i64 e, .slice a1 l1 c1, .slice a2 l2 c2] 28)).drew)) := hid (((Q.refl _).alloc _).alloc _).drew
  have HRB := hid hrb
  clear hrb t1 t2
  have HM := hid (fun W' => strength_any t W')
  obtain ⟨lv, hlv⟩ : ∃ lv, lvl t.data.toList = lv := ⟨_, rfl⟩
  rw [hlv] at HM ⊢
  by_cases h : 1 ≤ lv
  · have f8 : (1 : Int) ≤ (lv : Int) := by omega
    by_cases h2 : l2 = 2
    ·
      have f7 : ((l2 : Int) == 2) = true := by rw [h2]; rfl
      have HR : Hid (((decide (1 ≤ lv) && decide (l2 = 2)) && bareB n [] b e l1 0) = rb) := by
        show _ = _
        rw [show (decide (1 ≤ lv) && decide (l2 = 2)) = true from by rw [decide_eq_true h, decide_eq_true h2]; rfl]
        exact (Bool.true_and _).trans HRB.out
      generalize ((decide (1 ≤ lv) && decide (l2 = 2)) && bareB n [] b e l1 0) = rr at HR ⊢
      clear h2
      go_enter Tryz.func79, Tryz.ntmps79
      go_wp2_with fail
      go_region
      obtain ⟨w1, hw1⟩ : ∃ w1, w1 = (((W.alloc (.cells #[.int .i64 8, .int .i64 n, .string t, .bool b, .int .i64 e, .slice a1 l1 c1, .slice a2 l2 c2] 28)).alloc (.cells #[.int .i64 8, .int .i64 n, .string t, .bool b, .int .i64 e, .slice a1 l1 c1, .slice a2 l2 c2] 28)).drew) := ⟨_, rfl⟩
      rw [← hw1] at T1 T2 HQ
      rw [← hw1]
      clear hw1
      obtain ⟨g0, g1, g2, g3, g4, g5, g6, _⟩ := T1.out
      obtain ⟨d0, d1, d2, d3, d4, d5, d6, yf⟩ := T2.out
      have y0 := yf 0
      have y1 := yf 1
      have y2 := yf 2
      have y3 := yf 3
      have y4 := yf 4
      have y5 := yf 5
      have y6 := yf 6
      clear yf
      go_wp2_with (first | (go_at_call 94; refine (HM.out _).mono ?_; rintro e8 w2 ⟨rfl, h2⟩; replace h2 := h2.symm; subst h2) | (go_at_call 96; refine (HB.out _).mono ?_; rintro e9 w9 ⟨rfl, q9⟩; have Q9 := hid q9; clear q9))
      go_ret
      exact ⟨ret_bool HR.out.symm, Q.trans (by repeat (first | with_reducible exact QC.out | with_reducible exact HQ.out | with_reducible refine Q.drewN ?_ _ | with_reducible refine Q.drew ?_ | with_reducible refine Q.alloc ?_ _ | with_reducible refine Q.setCell ?_ (by simp) _)) Q9.out⟩
    ·
      have f7 : ((l2 : Int) == 2) = false := by rw [beq_eq_false_iff_ne]; omega
      have HR : Hid (((decide (1 ≤ lv) && decide (l2 = 2)) && bareB n [] b e l1 0) = false) := by
        show _ = _
        rw [show (decide (1 ≤ lv) && decide (l2 = 2)) = false from by rw [decide_eq_false h2, Bool.and_false]]
        exact Bool.false_and _
      generalize ((decide (1 ≤ lv) && decide (l2 = 2)) && bareB n [] b e l1 0) = rr at HR ⊢
      go_enter Tryz.func79, Tryz.ntmps79
      go_wp2_with fail
      go_region
      obtain ⟨w1, hw1⟩ : ∃ w1, w1 = (((W.alloc (.cells #[.int .i64 8, .int .i64 n, .string t, .bool b, .int .i64 e, .slice a1 l1 c1, .slice a2 l2 c2] 28)).alloc (.cells #[.int .i64 8, .int .i64 n, .string t, .bool b, .int .i64 e, .slice a1 l1 c1, .slice a2 l2 c2] 28)).drew) := ⟨_, rfl⟩
      rw [← hw1] at T1 T2 HQ
      rw [← hw1]
      clear hw1
      obtain ⟨g0, g1, g2, g3, g4, g5, g6, _⟩ := T1.out
      obtain ⟨d0, d1, d2, d3, d4, d5, d6, yf⟩ := T2.out
      have y0 := yf 0
      have y1 := yf 1
      have y2 := yf 2
      have y3 := yf 3
      have y4 := yf 4
      have y5 := yf 5
      have y6 := yf 6
      clear yf
      go_wp2_with (first | (go_at_call 94; refine (HM.out _).mono ?_; rintro e8 w2 ⟨rfl, h2⟩; replace h2 := h2.symm; subst h2))
      go_ret
      exact ⟨ret_bool HR.out.symm, (by repeat (first | with_reducible exact QC.out | with_reducible exact HQ.out | with_reducible refine Q.drewN ?_ _ | with_reducible refine Q.drew ?_ | with_reducible refine Q.alloc ?_ _ | with_reducible refine Q.setCell ?_ (by simp) _))⟩
  · have f8 : ¬ (1 : Int) ≤ (lv : Int) := by omega
    have HR : Hid (((decide (1 ≤ lv) && decide (l2 = 2)) && bareB n [] b e l1 0) = false) := by
      show _ = _
      rw [show (decide (1 ≤ lv) && decide (l2 = 2)) = false from by rw [decide_eq_false h, Bool.false_and]]
      exact Bool.false_and _
    generalize ((decide (1 ≤ lv) && decide (l2 = 2)) && bareB n [] b e l1 0) = rr at HR ⊢
    go_enter Tryz.func79, Tryz.ntmps79
    go_wp2_with fail
    go_region
    obtain ⟨w1, hw1⟩ : ∃ w1, w1 = (((W.alloc (.cells #[.int .i64 8, .int .i64 n, .string t, .bool b, .int .i64 e, .slice a1 l1 c1, .slice a2 l2 c2] 28)).alloc (.cells #[.int .i64 8, .int .i64 n, .string t, .bool b, .int .i64 e, .slice a1 l1 c1, .slice a2 l2 c2] 28)).drew) := ⟨_, rfl⟩
    rw [← hw1] at T1 T2 HQ
    rw [← hw1]
    clear hw1
    obtain ⟨g0, g1, g2, g3, g4, g5, g6, _⟩ := T1.out
    obtain ⟨d0, d1, d2, d3, d4, d5, d6, yf⟩ := T2.out
    have y0 := yf 0
    have y1 := yf 1
    have y2 := yf 2
    have y3 := yf 3
    have y4 := yf 4
    have y5 := yf 5
    have y6 := yf 6
    clear yf
    go_wp2_with (first | (go_at_call 94; refine (HM.out _).mono ?_; rintro e8 w2 ⟨rfl, h2⟩; replace h2 := h2.symm; subst h2))
    go_ret
    exact ⟨ret_bool HR.out.symm, (by repeat (first | with_reducible exact QC.out | with_reducible exact HQ.out | with_reducible refine Q.drewN ?_ _ | with_reducible refine Q.drew ?_ | with_reducible refine Q.alloc ?_ _ | with_reducible refine Q.setCell ?_ (by simp) _))⟩
set_option maxRecDepth 100000 in
set_option maxHeartbeats 4000000 in
theorem mn_9 (n : Int) (t : ByteArray) (b : Bool) (e : Int) (a1 : Option Addr) (l1 c1 : Nat) (a2 : Option Addr) (l2 c2 : Nat) (W : World) (hs : t.size ≤ 4000000000) : Calls Tryz.prog 79 #[.agg #[.int .i64 9, .int .i64 n, .string t, .bool b, .int .i64 e, .slice a1 l1 c1, .slice a2 l2 c2]] W fun e' W' => e' = .returned (.bool ((namF t.data.toList && decide (l2 ≤ 30)) && bareB n [] b e l1 0)) ∧ Q W W' := by
  obtain ⟨rb, hrb⟩ : ∃ rb, bareB n [] b e l1 0 = rb := ⟨_, rfl⟩
  have HB := hid (fun W' => bare_b 9 n ⟨#[]⟩ b e a1 l1 c1 none 0 0 rb hrb W')
  obtain ⟨t1, t2⟩ := two_new W (.int .i64 9) (.int .i64 n) (.string t) (.bool b) (.int .i64 e) (.slice a1 l1 c1) (.slice a2 l2 c2)
  have T1 := hid t1
  have T2 := hid t2
  have HQ : Hid (Q W (((W.alloc (.cells #[.int .i64 9, .int .i64 n, .string t, .bool b, .int .i64 e, .slice a1 l1 c1, .slice a2 l2 c2] 28)).alloc (.cells #[.int .i64 9, .int .i64 n, .string t, .bool b, .int .i64 e, .slice a1 l1 c1, .slice a2 l2 c2] 28)).drew)) := hid (((Q.refl _).alloc _).alloc _).drew
  have HRB := hid hrb
  clear hrb t1 t2
  have HM := hid (fun W' => mayname_any t W' hs)
  cases h : namF t.data.toList
  ·
    rw [h] at HM
    have HR : Hid (((false && decide (l2 ≤ 30)) && bareB n [] b e l1 0) = false) := by
      show _ = _
      rw [show (false && decide (l2 ≤ 30)) = false from Bool.false_and _]
      exact Bool.false_and _
    generalize ((false && decide (l2 ≤ 30)) && bareB n [] b e l1 0) = rr at HR ⊢
    go_enter Tryz.func79, Tryz.ntmps79
    go_wp2_with fail
    go_region
    obtain ⟨w1, hw1⟩ : ∃ w1, w1 = (((W.alloc (.cells #[.int .i64 9, .int .i64 n, .string t, .bool b, .int .i64 e, .slice a1 l1 c1, .slice a2 l2 c2] 28)).alloc (.cells #[.int .i64 9, .int .i64 n, .string t, .bool b, .int .i64 e, .slice a1 l1 c1, .slice a2 l2 c2] 28)).drew) := ⟨_, rfl⟩
    rw [← hw1] at T1 T2 HQ
    rw [← hw1]
    clear hw1
    obtain ⟨g0, g1, g2, g3, g4, g5, g6, _⟩ := T1.out
    obtain ⟨d0, d1, d2, d3, d4, d5, d6, yf⟩ := T2.out
    have y0 := yf 0
    have y1 := yf 1
    have y2 := yf 2
    have y3 := yf 3
    have y4 := yf 4
    have y5 := yf 5
    have y6 := yf 6
    clear yf
    go_wp2_with (first | (go_at_call 95; refine (HM.out _).mono ?_; rintro e8 w2 ⟨rfl, h2⟩; replace h2 := h2.symm; subst h2))
    go_ret
    exact ⟨ret_bool HR.out.symm, (by repeat (first | with_reducible exact QC.out | with_reducible exact HQ.out | with_reducible refine Q.drewN ?_ _ | with_reducible refine Q.drew ?_ | with_reducible refine Q.alloc ?_ _ | with_reducible refine Q.setCell ?_ (by simp) _))⟩
  · rw [h] at HM
    by_cases h2 : l2 ≤ 30
    ·
      have f7 : (l2 : Int) ≤ 30 := by omega
      have HR : Hid (((true && decide (l2 ≤ 30)) && bareB n [] b e l1 0) = rb) := by
        show _ = _
        rw [show (true && decide (l2 ≤ 30)) = true from by rw [decide_eq_true h2]; rfl]
        exact (Bool.true_and _).trans HRB.out
      generalize ((true && decide (l2 ≤ 30)) && bareB n [] b e l1 0) = rr at HR ⊢
      go_enter Tryz.func79, Tryz.ntmps79
      go_wp2_with fail
      go_region
      obtain ⟨w1, hw1⟩ : ∃ w1, w1 = (((W.alloc (.cells #[.int .i64 9, .int .i64 n, .string t, .bool b, .int .i64 e, .slice a1 l1 c1, .slice a2 l2 c2] 28)).alloc (.cells #[.int .i64 9, .int .i64 n, .string t, .bool b, .int .i64 e, .slice a1 l1 c1, .slice a2 l2 c2] 28)).drew) := ⟨_, rfl⟩
      rw [← hw1] at T1 T2 HQ
      rw [← hw1]
      clear hw1
      obtain ⟨g0, g1, g2, g3, g4, g5, g6, _⟩ := T1.out
      obtain ⟨d0, d1, d2, d3, d4, d5, d6, yf⟩ := T2.out
      have y0 := yf 0
      have y1 := yf 1
      have y2 := yf 2
      have y3 := yf 3
      have y4 := yf 4
      have y5 := yf 5
      have y6 := yf 6
      clear yf
      go_wp2_with (first | (go_at_call 95; refine (HM.out _).mono ?_; rintro e8 w2 ⟨rfl, h2⟩; replace h2 := h2.symm; subst h2) | (go_at_call 96; refine (HB.out _).mono ?_; rintro e9 w9 ⟨rfl, q9⟩; have Q9 := hid q9; clear q9))
      go_ret
      exact ⟨ret_bool HR.out.symm, Q.trans (by repeat (first | with_reducible exact QC.out | with_reducible exact HQ.out | with_reducible refine Q.drewN ?_ _ | with_reducible refine Q.drew ?_ | with_reducible refine Q.alloc ?_ _ | with_reducible refine Q.setCell ?_ (by simp) _)) Q9.out⟩
    ·
      have f7 : ¬ (l2 : Int) ≤ 30 := by omega
      have HR : Hid (((true && decide (l2 ≤ 30)) && bareB n [] b e l1 0) = false) := by
        show _ = _
        rw [show (true && decide (l2 ≤ 30)) = false from by rw [decide_eq_false h2]; rfl]
        exact Bool.false_and _
      generalize ((true && decide (l2 ≤ 30)) && bareB n [] b e l1 0) = rr at HR ⊢
      go_enter Tryz.func79, Tryz.ntmps79
      go_wp2_with fail
      go_region
      obtain ⟨w1, hw1⟩ : ∃ w1, w1 = (((W.alloc (.cells #[.int .i64 9, .int .i64 n, .string t, .bool b, .int .i64 e, .slice a1 l1 c1, .slice a2 l2 c2] 28)).alloc (.cells #[.int .i64 9, .int .i64 n, .string t, .bool b, .int .i64 e, .slice a1 l1 c1, .slice a2 l2 c2] 28)).drew) := ⟨_, rfl⟩
      rw [← hw1] at T1 T2 HQ
      rw [← hw1]
      clear hw1
      obtain ⟨g0, g1, g2, g3, g4, g5, g6, _⟩ := T1.out
      obtain ⟨d0, d1, d2, d3, d4, d5, d6, yf⟩ := T2.out
      have y0 := yf 0
      have y1 := yf 1
      have y2 := yf 2
      have y3 := yf 3
      have y4 := yf 4
      have y5 := yf 5
      have y6 := yf 6
      clear yf
      go_wp2_with (first | (go_at_call 95; refine (HM.out _).mono ?_; rintro e8 w2 ⟨rfl, h2⟩; replace h2 := h2.symm; subst h2))
      go_ret
      exact ⟨ret_bool HR.out.symm, (by repeat (first | with_reducible exact QC.out | with_reducible exact HQ.out | with_reducible refine Q.drewN ?_ _ | with_reducible refine Q.drew ?_ | with_reducible refine Q.alloc ?_ _ | with_reducible refine Q.setCell ?_ (by simp) _))⟩
set_option maxRecDepth 100000 in
set_option maxHeartbeats 4000000 in
theorem mn_k (k : Int) (n : Int) (t : ByteArray) (b : Bool) (e : Int) (a1 : Option Addr) (l1 c1 : Nat) (a2 : Option Addr) (l2 c2 : Nat) (W : World) (hk : k < 1 ∨ 9 < k) : Calls Tryz.prog 79 #[.agg #[.int .i64 k, .int .i64 n, .string t, .bool b, .int .i64 e, .slice a1 l1 c1, .slice a2 l2 c2]] W fun e' W' => e' = .returned (.bool false) ∧ Q W W' := by
  have k1 : (k == 1) = false := by rw [beq_eq_false_iff_ne]; omega
  have k2 : (k == 2) = false := by rw [beq_eq_false_iff_ne]; omega
  have k3 : (k == 3) = false := by rw [beq_eq_false_iff_ne]; omega
  have k4 : (k == 4) = false := by rw [beq_eq_false_iff_ne]; omega
  have k5 : (k == 5) = false := by rw [beq_eq_false_iff_ne]; omega
  have k6 : (k == 6) = false := by rw [beq_eq_false_iff_ne]; omega
  have k7 : (k == 7) = false := by rw [beq_eq_false_iff_ne]; omega
  have k8 : (k == 8) = false := by rw [beq_eq_false_iff_ne]; omega
  have k9 : (k == 9) = false := by rw [beq_eq_false_iff_ne]; omega
  clear hk
  go_enter Tryz.func79, Tryz.ntmps79
  go_wp2_with fail
  go_region
  go_wp2_with fail
  go_ret
  exact ⟨rfl, (((Q.refl _).alloc _).alloc _).drew⟩
end Go.Proofs.YtngnakdbhkjbjaaGreatDoor
