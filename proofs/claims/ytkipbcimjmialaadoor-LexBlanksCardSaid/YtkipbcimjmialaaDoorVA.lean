/- The small functions of package fixnum (size, signed, signWord, Add, Sub, Int): what each returns, at every argument that its kind allows. -/
import Derived.Test.YtkipbcimjmialaaDoorQ
import Derived.Test.YtkipbcimjmialaaDoorVZ
namespace Go.Proofs.YtkipbcimjmialaaDoor.V
open Go.RowKit

/-- a number that a Fix can be -/
structure Fx (a : Int) : Prop where
  lo : -9223372036854775808 ≤ a
  hi : a ≤ 9223372036854775807

theorem ret_int {k : IntKind} {a b : Int} (h : a = b) : Ending.returned (.int k a) = .returned (.int k b) := by rw [h]
theorem ret_pair {k : IntKind} {a b : Int} {c : Bool} (h : a = b) : Ending.returned (.tuple #[.int k a, .bool c]) = .returned (.tuple #[.int k b, .bool c]) := by rw [h]

theorem fitB_yes {n : Int} (h0 : -9223372036854775808 ≤ n) (h1 : n ≤ 9223372036854775807) : fitB n = true := by unfold fitB; simp; omega
theorem fitB_no {n : Int} (h : n < -9223372036854775808 ∨ 9223372036854775807 < n) : fitB n = false := by unfold fitB; simp; omega
theorem keep_yes {n : Int} (h : fitB n = true) : keep n = n := by unfold keep; rw [h]; rfl
theorem keep_no {n : Int} (h : fitB n = false) : keep n = 0 := by unfold keep; rw [h]; rfl
theorem fit_of {n : Int} (h : fitB n = true) : Fx n := by unfold fitB at h; simp at h; exact ⟨h.1, h.2⟩
theorem fit_not {n : Int} (h : fitB n = false) : n < -9223372036854775808 ∨ 9223372036854775807 < n := by unfold fitB at h; simp at h; omega


set_option maxHeartbeats 400000 in
theorem signed_any (n : Int) (neg : Bool) (w : World) (h0 : 0 ≤ n) (hn : n < 18446744073709551616) :
    Calls Tryd.prog 52 #[.int .u64 n, .bool neg] w fun e w' => e = .returned (.tuple #[.int .i64 (keep (sgn n neg)), .bool (fitB (sgn n neg))]) ∧ w' = w := by
  cases neg
  · have e : sgn n false = n := rfl
    rw [e]
    clear e
    by_cases h1 : n < 9223372036854775808
    · have hf : fitB n = true := fitB_yes (by omega) (by omega)
      rw [keep_yes hf, hf]
      clear hf
      go_enter Tryd.func52, Tryd.ntmps52
      go_wp2
      all_goals go_ret2
      all_goals exact ⟨rfl, rfl⟩
    · have hf : fitB n = false := fitB_no (by omega)
      rw [keep_no hf, hf]
      clear hf
      go_enter Tryd.func52, Tryd.ntmps52
      go_wp2
      all_goals go_ret2
      all_goals exact ⟨rfl, rfl⟩
  · have e : sgn n true = -n := rfl
    rw [e]
    clear e
    by_cases h1 : n < 9223372036854775808
    · have hf : fitB (-n) = true := fitB_yes (by omega) (by omega)
      rw [keep_yes hf, hf]
      clear hf
      go_enter Tryd.func52, Tryd.ntmps52
      go_wp2
      all_goals go_ret2
      all_goals exact ⟨rfl, rfl⟩
    · by_cases h2 : n = 9223372036854775808
      · have hf : fitB (-n) = true := fitB_yes (by omega) (by omega)
        rw [keep_yes hf, hf]
        have e : -n = -9223372036854775808 := by rw [h2]
        rw [e]
        have h3 : (n == 9223372036854775808) = true := by rw [h2]; rfl
        clear hf e h2
        go_enter Tryd.func52, Tryd.ntmps52
        go_wp2
        all_goals go_ret2
        all_goals exact ⟨rfl, rfl⟩
      · have hf : fitB (-n) = false := fitB_no (by omega)
        rw [keep_no hf, hf]
        have h3 : (n == 9223372036854775808) = false := beq_eq_false_iff_ne.2 h2
        clear hf h2
        go_enter Tryd.func52, Tryd.ntmps52
        go_wp2
        all_goals go_ret2
        all_goals exact ⟨rfl, rfl⟩
end Go.Proofs.YtkipbcimjmialaaDoor.V
