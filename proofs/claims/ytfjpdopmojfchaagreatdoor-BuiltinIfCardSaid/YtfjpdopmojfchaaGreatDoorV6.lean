/- Package value: Number, Text, Truth of every value. -/
import Derived.Test.YtfjpdopmojfchaaGreatDoorV5
namespace Go.Proofs.YtfjpdopmojfchaaGreatDoor
open Go.RowKit
set_option linter.unusedVariables false
set_option linter.unusedSimpArgs false
/-- a value as a number, a text, a truth; and the error -/
def numN (k n : Int) (t : List UInt8) (b : Bool) : Int := if k = 1 then n else if k = 2 then pk (parseO t) else if k = 3 then tn b else 0
def numE (k : Int) (t : List UInt8) (e : Int) : Int := if k = 2 then (if pf (parseO t) then 0 else 5) else if k = 4 then e else 0
def txtL (k n : Int) (t : List UInt8) (b : Bool) : List UInt8 := if k = 1 then printL n else if k = 2 then t else if k = 3 then ttL b else []
def txtE (k : Int) (e : Int) : Int := if k = 4 then e else 0
def truB (k n : Int) (t : List UInt8) (b : Bool) : Bool := if k = 1 then n != 0 else if k = 2 then rtB t else if k = 3 then b else false
def truE (k : Int) (t : List UInt8) (e : Int) : Int := if k = 2 then rtE t else if k = 4 then e else 0
theorem flt_no {k n : Int} {t : List UInt8} {b : Bool} {e : Int} (h : mayB k n t b e = false) : fltE k n t b e = 5 := by unfold fltE; rw [h]; rfl
theorem flt_yes {k n : Int} {t : List UInt8} {b : Bool} {e : Int} (h : mayB k n t b e = true) : fltE k n t b e = e := by unfold fltE; rw [h]; rfl
theorem small_nil : (((⟨#[]⟩ : ByteArray).size : Nat) : Int) ≤ 9223372036854775000 := by decide
abbrev bx (w : World) (k n : Int) (t : ByteArray) (b : Bool) (e : Int) : World := w.alloc (.cells #[.int .i64 k, .int .i64 n, .string t, .bool b, .int .i64 e] 37)
theorem qbx (w : World) (k n : Int) (t : ByteArray) (b : Bool) (e : Int) : Q w (bx w k n t b e) := (Q.refl _).alloc _
theorem flt_bx (k n : Int) (t : ByteArray) (b : Bool) (e f : Int) (w : World) (hw : Std2 w) (hs : (t.size : Int) ≤ 9223372036854775000) (hf : fltE k n t.toList b e = f) :
    Calls Tryz.prog 87 #[.agg #[.int .i64 k, .int .i64 n, .string t, .bool b, .int .i64 e]] (bx w k n t b e) fun x w' => x = .returned (.int .i64 f) ∧ Q (bx w k n t b e) w' := by
  rw [← hf]
  exact fault_any k n t b e _ (hw.on (qbx _ _ _ _ _ _)) hs
set_option maxHeartbeats 1000000 in
theorem number_no (k n : Int) (t : ByteArray) (b : Bool) (e : Int) (w : World) (hw : Std2 w) (hs : (t.size : Int) ≤ 9223372036854775000) (hm : mayB k n t.toList b e = false) :
    Calls Tryz.prog 71 #[vv k n t b e] w fun x w' => x = .returned (.tuple #[.int .i64 0, .int .i64 5]) ∧ Q w w' := by
  have HC := hid (flt_bx k n t b e 5 w hw hs (flt_no hm))
  clear hw hm
  unfold vv
  go_enter Tryz.func71, Tryz.ntmps71
  go_wp2_with (go_at_call 87; refine HC.out.mono ?_; rintro x w1 ⟨rfl, q1⟩)
  go_ret2
  exact ⟨rfl, q1a q1⟩
set_option maxHeartbeats 1000000 in
theorem text_no (k n : Int) (t : ByteArray) (b : Bool) (e : Int) (w : World) (hw : Std2 w) (hs : (t.size : Int) ≤ 9223372036854775000) (hm : mayB k n t.toList b e = false) :
    Calls Tryz.prog 41 #[vv k n t b e] w fun x w' => x = .returned (.tuple #[.string ⟨#[]⟩, .int .i64 5]) ∧ Q w w' := by
  have HC := hid (flt_bx k n t b e 5 w hw hs (flt_no hm))
  clear hw hm
  unfold vv
  go_enter Tryz.func41, Tryz.ntmps41
  go_wp2_with (go_at_call 87; refine HC.out.mono ?_; rintro x w1 ⟨rfl, q1⟩)
  go_ret2
  exact ⟨rfl, q1a q1⟩
set_option maxHeartbeats 1000000 in
theorem truth_no (k n : Int) (t : ByteArray) (b : Bool) (e : Int) (w : World) (hw : Std2 w) (hs : (t.size : Int) ≤ 9223372036854775000) (hm : mayB k n t.toList b e = false) :
    Calls Tryz.prog 66 #[vv k n t b e] w fun x w' => x = .returned (.tuple #[.bool false, .int .i64 5]) ∧ Q w w' := by
  have HC := hid (flt_bx k n t b e 5 w hw hs (flt_no hm))
  clear hw hm
  unfold vv
  go_enter Tryz.func66, Tryz.ntmps66
  go_wp2_with (go_at_call 87; refine HC.out.mono ?_; rintro x w1 ⟨rfl, q1⟩)
  go_ret2
  exact ⟨rfl, q1a q1⟩
set_option maxHeartbeats 2000000 in
theorem number_vk (k n : Int) (t : ByteArray) (b : Bool) (e : Int) (w : World) (hw : Std2 w) (hs : (t.size : Int) ≤ 250) (hk : Vk k n t b e) :
    Calls Tryz.prog 71 #[vv k n t b e] w fun x w' => x = .returned (.tuple #[.int .i64 (numN k n t.toList b), .int .i64 (numE k t.toList e)]) ∧ Q w w' := by
  have HC := hid (flt_bx k n t b e e w hw (by omega) (flt_yes hk.may))
  have HW := hid hw
  clear hw
  unfold vv
  rcases hk with ⟨rfl, rfl, rfl, rfl, rfl⟩ | ⟨rfl, rfl, rfl, rfl⟩ | ⟨rfl, rfl, rfl, rfl, h⟩ | ⟨rfl, rfl, rfl, rfl⟩ | ⟨rfl, rfl, rfl, rfl, h1, h7⟩
  · skip
    go_enter Tryz.func71, Tryz.ntmps71
    go_wp2_with (go_at_call 87; refine HC.out.mono ?_; rintro x w1 ⟨rfl, q1⟩; obtain ⟨g0, g1, g2, g3, g4⟩ := box0 q1)
    go_ret2
    exact ⟨rfl, q1a q1⟩
  · skip
    go_enter Tryz.func71, Tryz.ntmps71
    go_wp2_with (go_at_call 87; refine HC.out.mono ?_; rintro x w1 ⟨rfl, q1⟩; obtain ⟨g0, g1, g2, g3, g4⟩ := box0 q1)
    go_ret2
    exact ⟨rfl, q1a q1⟩
  · skip
    have HR := hid (fun w hw => readNumber_any t w hw (by omega))
    rw [← Lib.toList_data] at HR
    clear h
    go_enter Tryz.func71, Tryz.ntmps71
    go_wp2_with (first | (go_at_call 87; refine HC.out.mono ?_; rintro x w1 ⟨rfl, q1⟩; obtain ⟨g0, g1, g2, g3, g4⟩ := box0 q1) | (go_at_call 116; refine (HR.out _ (HW.out.on (q1a q1)).std).mono ?_; rintro x w2 ⟨rfl, q2⟩))
    all_goals go_ret2
    all_goals exact ⟨vret_ii rfl (by simp [numE, *]), (q1a q1).trans q2⟩
  · skip
    go_enter Tryz.func71, Tryz.ntmps71
    go_wp2_with (first | (go_at_call 87; refine HC.out.mono ?_; rintro x w1 ⟨rfl, q1⟩; obtain ⟨g0, g1, g2, g3, g4⟩ := box0 q1) | (go_at_call 117; refine (truthNumber_any _ _).mono ?_; rintro x w2 ⟨rfl, rfl⟩))
    all_goals go_ret2
    all_goals exact ⟨rfl, q1a q1⟩
  · skip
    have hz : (e == 0) = false := beq_eq_false_iff_ne.2 (by omega)
    go_enter Tryz.func71, Tryz.ntmps71
    go_wp2_with (go_at_call 87; refine HC.out.mono ?_; rintro x w1 ⟨rfl, q1⟩)
    go_ret2
    exact ⟨rfl, q1a q1⟩
set_option maxHeartbeats 2000000 in
theorem text_vk (k n : Int) (t : ByteArray) (b : Bool) (e : Int) (w : World) (hw : Std2 w) (hs : (t.size : Int) ≤ 250) (hn : Fx n) (hk : Vk k n t b e) :
    Calls Tryz.prog 41 #[vv k n t b e] w fun x w' => x = .returned (.tuple #[.string ⟨(txtL k n t.data.toList b).toArray⟩, .int .i64 (txtE k e)]) ∧ Q w w' := by
  have HC := hid (flt_bx k n t b e e w hw (by omega) (flt_yes hk.may))
  have HW := hid hw
  clear hw
  unfold vv
  rcases hk with ⟨rfl, rfl, rfl, rfl, rfl⟩ | ⟨rfl, rfl, rfl, rfl⟩ | ⟨rfl, rfl, rfl, rfl, h⟩ | ⟨rfl, rfl, rfl, rfl⟩ | ⟨rfl, rfl, rfl, rfl, h1, h7⟩
  · skip
    go_enter Tryz.func41, Tryz.ntmps41
    go_wp2_with (go_at_call 87; refine HC.out.mono ?_; rintro x w1 ⟨rfl, q1⟩; obtain ⟨g0, g1, g2, g3, g4⟩ := box0 q1)
    go_ret2
    exact ⟨rfl, q1a q1⟩
  · skip
    have HP := hid (fun w hw => print_any n w hw hn (by have := hn.lo; have := hn.hi; omega))
    clear hn
    go_enter Tryz.func41, Tryz.ntmps41
    go_wp2_with (first | (go_at_call 87; refine HC.out.mono ?_; rintro x w1 ⟨rfl, q1⟩; obtain ⟨g0, g1, g2, g3, g4⟩ := box0 q1) | (go_at_call 88; refine (HP.out _ (HW.out.on (q1a q1)).std).mono ?_; rintro x w2 ⟨rfl, q2⟩))
    go_ret2
    exact ⟨rfl, (q1a q1).trans q2⟩
  · skip
    clear h hn
    go_enter Tryz.func41, Tryz.ntmps41
    go_wp2_with (go_at_call 87; refine HC.out.mono ?_; rintro x w1 ⟨rfl, q1⟩; obtain ⟨g0, g1, g2, g3, g4⟩ := box0 q1)
    go_ret2
    exact ⟨rfl, q1a q1⟩
  · skip
    clear hn
    go_enter Tryz.func41, Tryz.ntmps41
    go_wp2_with (first | (go_at_call 87; refine HC.out.mono ?_; rintro x w1 ⟨rfl, q1⟩; obtain ⟨g0, g1, g2, g3, g4⟩ := box0 q1) | (go_at_call 89; refine (truthText_any _ _).mono ?_; rintro x w2 ⟨rfl, rfl⟩))
    all_goals go_ret2
    all_goals exact ⟨rfl, q1a q1⟩
  · skip
    clear hn
    have hz : (e == 0) = false := beq_eq_false_iff_ne.2 (by omega)
    go_enter Tryz.func41, Tryz.ntmps41
    go_wp2_with (go_at_call 87; refine HC.out.mono ?_; rintro x w1 ⟨rfl, q1⟩)
    go_ret2
    exact ⟨rfl, q1a q1⟩
set_option maxHeartbeats 2000000 in
theorem truth_vk (k n : Int) (t : ByteArray) (b : Bool) (e : Int) (w : World) (hw : Std2 w) (hs : (t.size : Int) ≤ 250) (hk : Vk k n t b e) :
    Calls Tryz.prog 66 #[vv k n t b e] w fun x w' => x = .returned (.tuple #[.bool (truB k n t.toList b), .int .i64 (truE k t.toList e)]) ∧ Q w w' := by
  have HC := hid (flt_bx k n t b e e w hw (by omega) (flt_yes hk.may))
  clear hw
  unfold vv
  rcases hk with ⟨rfl, rfl, rfl, rfl, rfl⟩ | ⟨rfl, rfl, rfl, rfl⟩ | ⟨rfl, rfl, rfl, rfl, h⟩ | ⟨rfl, rfl, rfl, rfl⟩ | ⟨rfl, rfl, rfl, rfl, h1, h7⟩
  · skip
    go_enter Tryz.func66, Tryz.ntmps66
    go_wp2_with (go_at_call 87; refine HC.out.mono ?_; rintro x w1 ⟨rfl, q1⟩; obtain ⟨g0, g1, g2, g3, g4⟩ := box0 q1)
    go_ret2
    exact ⟨rfl, q1a q1⟩
  · skip
    go_enter Tryz.func66, Tryz.ntmps66
    go_wp2_with (go_at_call 87; refine HC.out.mono ?_; rintro x w1 ⟨rfl, q1⟩; obtain ⟨g0, g1, g2, g3, g4⟩ := box0 q1)
    all_goals go_ret2
    all_goals exact ⟨vret_bi (by simp [truB, bne, *]) rfl, q1a q1⟩
  · skip
    clear h
    go_enter Tryz.func66, Tryz.ntmps66
    go_wp2_with (first | (go_at_call 87; refine HC.out.mono ?_; rintro x w1 ⟨rfl, q1⟩; obtain ⟨g0, g1, g2, g3, g4⟩ := box0 q1) | (go_at_call 113; refine (readTruth_any _ _).mono ?_; rintro x w2 ⟨rfl, rfl⟩))
    all_goals go_ret2
    all_goals exact ⟨rfl, q1a q1⟩
  · skip
    go_enter Tryz.func66, Tryz.ntmps66
    go_wp2_with (go_at_call 87; refine HC.out.mono ?_; rintro x w1 ⟨rfl, q1⟩; obtain ⟨g0, g1, g2, g3, g4⟩ := box0 q1)
    all_goals go_ret2
    all_goals exact ⟨rfl, q1a q1⟩
  · skip
    have hz : (e == 0) = false := beq_eq_false_iff_ne.2 (by omega)
    go_enter Tryz.func66, Tryz.ntmps66
    go_wp2_with (go_at_call 87; refine HC.out.mono ?_; rintro x w1 ⟨rfl, q1⟩)
    go_ret2
    exact ⟨rfl, q1a q1⟩
end Go.Proofs.YtfjpdopmojfchaaGreatDoor
