/- The small functions of package fixnum (size, signed, signWord, Add, Sub, Int): what each returns, at every argument that its kind allows. -/
import Derived.Test.YtfjpdopmojfchaaGreatDoorRows
import Derived.Test.YtfjpdopmojfchaaGreatDoorZ
import Derived.WalkKit
import Derived.WalkSpells
import Derived.WalkLawsBesides
namespace Go.Proofs.YtfjpdopmojfchaaGreatDoor
open Go.RowKit
/-- a number that a Fix can be -/
structure Fx (a : Int) : Prop where
  lo : -9223372036854775808 ≤ a
  hi : a ≤ 9223372036854775807
theorem ret_int {k : IntKind} {a b : Int} (h : a = b) : Ending.returned (.int k a) = .returned (.int k b) := by rw [h]
theorem ret_pair {k : IntKind} {a b : Int} {c : Bool} (h : a = b) : Ending.returned (.tuple #[.int k a, .bool c]) = .returned (.tuple #[.int k b, .bool c]) := by rw [h]
theorem fitB_yes {n : Int} (h0 : -9223372036854775808 ≤ n) (h1 : n ≤ 9223372036854775807) : fitB n = true := by unfold fitB; simp; omega
theorem fitB_no {n : Int} (h : n < -9223372036854775808 ∨ 9223372036854775807 < n) : fitB n = false := by unfold fitB; simp; omega
theorem keep_yes {n : Int} (h : fitB n = true) : keep n = n := by unfold keep; rw [h]; rfl
theorem keep_no {n : Int} (h : fitB n = false) : keep n = 0 := by unfold keep; rw [h]; rfl
theorem fit_of {n : Int} (h : fitB n = true) : Fx n := by unfold fitB at h; simp at h; exact ⟨h.1, h.2⟩
theorem fit_not {n : Int} (h : fitB n = false) : n < -9223372036854775808 ∨ 9223372036854775807 < n := by unfold fitB at h; simp at h; omega
set_option maxHeartbeats 400000 in
theorem size_any (a : Int) (w : World) (h : Fx a) :
    Calls Tryz.prog 124 #[.int .i64 a] w fun e w' => e = .returned (.int .u64 (a.natAbs : Int)) ∧ w' = w := by
  obtain ⟨h0, h1⟩ := h
  by_cases hn : a < 0
  · have H : Hid (-(a + 1) + 1 = (a.natAbs : Int)) := by show -(a + 1) + 1 = (a.natAbs : Int); omega
    go_enter Tryz.func124, Tryz.ntmps124
    go_wp2
    go_ret
    exact ⟨ret_int H.out, rfl⟩
  · have H : Hid (a = (a.natAbs : Int)) := by show a = (a.natAbs : Int); omega
    go_enter Tryz.func124, Tryz.ntmps124
    go_wp2
    go_ret
    exact ⟨ret_int H.out, rfl⟩
set_option maxHeartbeats 400000 in
theorem add_any (a b : Int) (w : World) (ha : Fx a) (hb : Fx b) :
    Calls Tryz.prog 82 #[.int .i64 a, .int .i64 b] w fun e w' => e = .returned (.tuple #[.int .i64 (keep (a + b)), .bool (fitB (a + b))]) ∧ w' = w := by
  obtain ⟨ha0, ha1⟩ := ha
  obtain ⟨hb0, hb1⟩ := hb
  by_cases h0 : -9223372036854775808 ≤ a + b
  · by_cases h1 : a + b ≤ 9223372036854775807
    · have hf := fitB_yes h0 h1
      rw [keep_yes hf, hf]
      clear hf
      go_enter Tryz.func82, Tryz.ntmps82
      go_wp2
      all_goals go_ret2
      all_goals exact ⟨rfl, rfl⟩
    · have hf := fitB_no (n := a + b) (by omega)
      rw [keep_no hf, hf]
      clear hf
      go_enter Tryz.func82, Tryz.ntmps82
      go_wp2
      all_goals go_ret2
      all_goals exact ⟨rfl, rfl⟩
  · have hf := fitB_no (n := a + b) (by omega)
    rw [keep_no hf, hf]
    clear hf
    go_enter Tryz.func82, Tryz.ntmps82
    go_wp2
    all_goals go_ret2
    all_goals exact ⟨rfl, rfl⟩
set_option maxHeartbeats 400000 in
theorem sub_any (a b : Int) (w : World) (ha : Fx a) (hb : Fx b) :
    Calls Tryz.prog 83 #[.int .i64 a, .int .i64 b] w fun e w' => e = .returned (.tuple #[.int .i64 (keep (a - b)), .bool (fitB (a - b))]) ∧ w' = w := by
  obtain ⟨ha0, ha1⟩ := ha
  obtain ⟨hb0, hb1⟩ := hb
  by_cases h0 : -9223372036854775808 ≤ a - b
  · by_cases h1 : a - b ≤ 9223372036854775807
    · have hf := fitB_yes h0 h1
      rw [keep_yes hf, hf]
      clear hf
      go_enter Tryz.func83, Tryz.ntmps83
      go_wp2
      all_goals go_ret2
      all_goals exact ⟨rfl, rfl⟩
    · have hf := fitB_no (n := a - b) (by omega)
      rw [keep_no hf, hf]
      clear hf
      go_enter Tryz.func83, Tryz.ntmps83
      go_wp2
      all_goals go_ret2
      all_goals exact ⟨rfl, rfl⟩
  · have hf := fitB_no (n := a - b) (by omega)
    rw [keep_no hf, hf]
    clear hf
    go_enter Tryz.func83, Tryz.ntmps83
    go_wp2
    all_goals go_ret2
    all_goals exact ⟨rfl, rfl⟩
set_option maxHeartbeats 400000 in
theorem signWord_any (a : Int) (w : World) :
    Calls Tryz.prog 137 #[.int .i64 a] w fun e w' => e = .returned (.int .i64 (if a < 0 then -1 else 0)) ∧ w' = w := by
  by_cases h : a < 0
  · go_enter Tryz.func137, Tryz.ntmps137
    go_wp2
    go_ret
    exact ⟨ret_int (by simp), rfl⟩
  · go_enter Tryz.func137, Tryz.ntmps137
    go_wp2
    go_ret
    exact ⟨ret_int (by simp), rfl⟩
set_option maxHeartbeats 400000 in
theorem signed_any (n : Int) (neg : Bool) (w : World) (h0 : 0 ≤ n) (hn : n < 18446744073709551616) :
    Calls Tryz.prog 143 #[.int .u64 n, .bool neg] w fun e w' => e = .returned (.tuple #[.int .i64 (keep (sgn n neg)), .bool (fitB (sgn n neg))]) ∧ w' = w := by
  cases neg
  · have e : sgn n false = n := rfl
    rw [e]
    clear e
    by_cases h1 : n < 9223372036854775808
    · have hf : fitB n = true := fitB_yes (by omega) (by omega)
      rw [keep_yes hf, hf]
      clear hf
      go_enter Tryz.func143, Tryz.ntmps143
      go_wp2
      all_goals go_ret2
      all_goals exact ⟨rfl, rfl⟩
    · have hf : fitB n = false := fitB_no (by omega)
      rw [keep_no hf, hf]
      clear hf
      go_enter Tryz.func143, Tryz.ntmps143
      go_wp2
      all_goals go_ret2
      all_goals exact ⟨rfl, rfl⟩
  · have e : sgn n true = -n := rfl
    rw [e]
    clear e
    by_cases h1 : n < 9223372036854775808
    · have hf : fitB (-n) = true := fitB_yes (by omega) (by omega)
      rw [keep_yes hf, hf]
      clear hf
      go_enter Tryz.func143, Tryz.ntmps143
      go_wp2
      all_goals go_ret2
      all_goals exact ⟨rfl, rfl⟩
    · by_cases h2 : n = 9223372036854775808
      · have hf : fitB (-n) = true := fitB_yes (by omega) (by omega)
        rw [keep_yes hf, hf]
        have e : -n = -9223372036854775808 := by rw [h2]
        rw [e]
        have h3 : (n == 9223372036854775808) = true := by rw [h2]; rfl
        clear hf e h2
        go_enter Tryz.func143, Tryz.ntmps143
        go_wp2
        all_goals go_ret2
        all_goals exact ⟨rfl, rfl⟩
      · have hf : fitB (-n) = false := fitB_no (by omega)
        rw [keep_no hf, hf]
        have h3 : (n == 9223372036854775808) = false := beq_eq_false_iff_ne.2 h2
        clear hf h2
        go_enter Tryz.func143, Tryz.ntmps143
        go_wp2
        all_goals go_ret2
        all_goals exact ⟨rfl, rfl⟩
set_option maxHeartbeats 400000 in
theorem int_any (n : Int) (w : World) (hn : Fx n) :
    Calls Tryz.prog 138 #[.int .i64 n] w fun e w' => e = .returned (.tuple #[.int .i64 (keep (n * 10000)), .bool (fitB (n * 10000))]) ∧ w' = w := by
  obtain ⟨h0, h1⟩ := hn
  by_cases k1 : 922337203685477 < n
  · have hf := fitB_no (n := n * 10000) (by omega)
    rw [keep_no hf, hf]
    clear hf
    go_enter Tryz.func138, Tryz.ntmps138
    go_wp2
    all_goals go_ret2
    all_goals exact ⟨rfl, rfl⟩
  · by_cases k0 : n < -922337203685477
    · have hf := fitB_no (n := n * 10000) (by omega)
      rw [keep_no hf, hf]
      clear hf
      go_enter Tryz.func138, Tryz.ntmps138
      go_wp2
      all_goals go_ret2
      all_goals exact ⟨rfl, rfl⟩
    · have hf := fitB_yes (n := n * 10000) (by omega) (by omega)
      rw [keep_yes hf, hf]
      clear hf
      go_enter Tryz.func138, Tryz.ntmps138
      go_wp2
      all_goals go_ret2
      all_goals exact ⟨rfl, rfl⟩
end Go.Proofs.YtfjpdopmojfchaaGreatDoor
