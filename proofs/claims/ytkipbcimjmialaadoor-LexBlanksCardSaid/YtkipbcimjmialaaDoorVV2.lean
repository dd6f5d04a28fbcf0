/- Package value and its reference: which values may be, and errors' names. -/
import Derived.Test.YtkipbcimjmialaaDoorVV1
import Derived.Test.YtkipbcimjmialaaDoorValid
namespace Go.Proofs.YtkipbcimjmialaaDoor.V
open Go.RowKit
set_option linter.unusedVariables false
set_option linter.unusedSimpArgs false

theorem vret_str {a b : List UInt8} (h : a = b) : Ending.returned (.string ⟨a.toArray⟩) = .returned (.string ⟨b.toArray⟩) := by rw [h]

theorem enL_no {e : Int} (h : e < 1 ∨ 7 < e) : [] = enL e := by
  unfold enL
  rw [if_neg (by omega), if_neg (by omega), if_neg (by omega), if_neg (by omega), if_neg (by omega), if_neg (by omega), if_neg (by omega)]

set_option maxHeartbeats 1000000 in
theorem name_any (e : Int) (w : World) (h : Nam w) : Calls Tryd.prog 27 #[.int .i64 e] w fun x w' => x = .returned (.string ⟨(enL e).toArray⟩) ∧ w' = w := by
  by_cases h0 : e < 0
  · have H := hid (enL_no (e := e) (by omega))
    go_enter Tryd.func27, Tryd.ntmps27
    go_wp2
    go_ret
    exact ⟨vret_str H.out, rfl⟩
  · by_cases h8 : 8 ≤ e
    · have H := hid (enL_no (e := e) (by omega))
      go_enter Tryd.func27, Tryd.ntmps27
      go_wp2
      go_ret
      exact ⟨vret_str H.out, rfl⟩
    · have c0 := h.2 0 (by omega)
      have c1 := h.2 1 (by omega)
      have c2 := h.2 2 (by omega)
      have c3 := h.2 3 (by omega)
      have c4 := h.2 4 (by omega)
      have c5 := h.2 5 (by omega)
      have c6 := h.2 6 (by omega)
      have c7 := h.2 7 (by omega)
      clear h
      rcases (by omega : e = 0 ∨ e = 1 ∨ e = 2 ∨ e = 3 ∨ e = 4 ∨ e = 5 ∨ e = 6 ∨ e = 7) with rfl | rfl | rfl | rfl | rfl | rfl | rfl | rfl
      all_goals
        clear h0 h8
        go_enter Tryd.func27, Tryd.ntmps27
        go_wp2
        go_ret
        exact ⟨rfl, rfl⟩

set_option maxHeartbeats 1000000 in
theorem rname_any (e : Int) (w : World) : Calls Tryd.prog 22 #[.int .i64 e] w fun x w' => x = .returned (.string ⟨(enL e).toArray⟩) ∧ Q w w' := by
  by_cases h0 : e < 1
  · have H := hid (enL_no (e := e) (by omega))
    go_enter Tryd.func22, Tryd.ntmps22
    go_wp2
    go_ret
    exact ⟨vret_str H.out, (Q.refl _).alloc _⟩
  · by_cases h8 : 7 < e
    · have H := hid (enL_no (e := e) (by omega))
      go_enter Tryd.func22, Tryd.ntmps22
      go_wp2
      go_ret
      exact ⟨vret_str H.out, (Q.refl _).alloc _⟩
    · rcases (by omega : e = 1 ∨ e = 2 ∨ e = 3 ∨ e = 4 ∨ e = 5 ∨ e = 6 ∨ e = 7) with rfl | rfl | rfl | rfl | rfl | rfl | rfl
      all_goals
        clear h0 h8
        go_enter Tryd.func22, Tryd.ntmps22
        go_wp2
        go_ret
        exact ⟨rfl, (Q.refl _).alloc _⟩

/-- a text that a value may have -/
def mtB (l : List UInt8) : Bool := decide (l.length ≤ 200) && Lib.validD l

set_option maxHeartbeats 1000000 in
theorem mayText_any (s : ByteArray) (w : World) (h : Std w) (hs : (s.size : Int) ≤ 9223372036854775000) : Calls Tryd.prog 45 #[.string s] w fun x w' => x = .returned (.bool (mtB s.data.toList)) ∧ Q w w' := by
  have hl : s.data.toList.length = s.size := by simp
  by_cases h1 : (s.size : Int) ≤ 200
  · have H : Hid (Lib.validD s.data.toList = mtB s.data.toList) := by show _ = _; unfold mtB; rw [hl]; simp; omega
    have HC := hid (Tryd.utf8_ValidString s w (by omega) h.utf)
    clear hl
    go_enter Tryd.func45, Tryd.ntmps45
    go_wp2_with (go_at_call 57; refine HC.out.mono ?_; rintro e w1 ⟨rfl, q1⟩)
    go_ret
    exact ⟨vret_bool H.out, q1⟩
  · have H : Hid (false = mtB s.data.toList) := by show _ = _; unfold mtB; rw [hl]; simp; intro; omega
    clear hl
    go_enter Tryd.func45, Tryd.ntmps45
    go_wp2
    go_ret
    exact ⟨vret_bool H.out, Q.refl _⟩
end Go.Proofs.YtkipbcimjmialaaDoor.V
