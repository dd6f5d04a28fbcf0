/- Package value and its reference: which values may be, and errors' names. -/
import Derived.Test.YtfjpdopmojfchaaGreatDoorP
import Derived.Test.YtfjpdopmojfchaaGreatDoorValid
import Derived.Test.YtfjpdopmojfchaaGreatDoorV1
namespace Go.Proofs.YtfjpdopmojfchaaGreatDoor
open Go.RowKit
set_option linter.unusedVariables false
set_option linter.unusedSimpArgs false
/-- how an error is written -/
def nmL (e : Int) : List UInt8 :=
  if e = 1 then [35, 82, 69, 70, 33] else if e = 2 then [35, 67, 89, 67, 76, 69, 33] else if e = 3 then [35, 68, 73, 86, 47, 48, 33]
  else if e = 4 then [35, 78, 85, 77, 33] else if e = 5 then [35, 86, 65, 76, 85, 69, 33] else if e = 6 then [35, 78, 65, 77, 69, 63]
  else if e = 7 then [35, 78, 47, 65] else []
/-- the table of names lies in its variable -/
def Nam (w : World) : Prop := 0 < w.heap.size ∧ ∀ i : Nat, i < 8 → w.cell? ⟨0, i, none⟩ = some (.string ⟨(nmL i).toArray⟩)
theorem Nam.on {w w' : World} (h : Nam w) (q : Q w w') : Nam w' := ⟨q.lt h.1, fun i hi => by rw [q.cell h.1]; exact h.2 i hi⟩
/-- What of the world package value's functions ask. -/
structure Std2 (w : World) : Prop where
  std : Std w
  utf : Lib.Utf8Tabs 1 2 w
  nam : Nam w
theorem Std2.on {w w' : World} (h : Std2 w) (q : Q w w') : Std2 w' := ⟨h.std.on q, Utf8Tabs_below h.utf q, h.nam.on q⟩
theorem vret_str {a b : List UInt8} (h : a = b) : Ending.returned (.string ⟨a.toArray⟩) = .returned (.string ⟨b.toArray⟩) := by rw [h]
theorem nmL_no {e : Int} (h : e < 1 ∨ 7 < e) : [] = nmL e := by
  unfold nmL
  rw [if_neg (by omega), if_neg (by omega), if_neg (by omega), if_neg (by omega), if_neg (by omega), if_neg (by omega), if_neg (by omega)]
set_option maxHeartbeats 1000000 in
theorem name_any (e : Int) (w : World) (h : Nam w) : Calls Tryz.prog 122 #[.int .i64 e] w fun x w' => x = .returned (.string ⟨(nmL e).toArray⟩) ∧ w' = w := by
  by_cases h0 : e < 0
  · have H := hid (nmL_no (e := e) (by omega))
    go_enter Tryz.func122, Tryz.ntmps122
    go_wp2
    go_ret
    exact ⟨vret_str H.out, rfl⟩
  · by_cases h8 : 8 ≤ e
    · have H := hid (nmL_no (e := e) (by omega))
      go_enter Tryz.func122, Tryz.ntmps122
      go_wp2
      go_ret
      exact ⟨vret_str H.out, rfl⟩
    · have c0 := h.2 0 (by omega)
      have c1 := h.2 1 (by omega)
      have c2 := h.2 2 (by omega)
      have c3 := h.2 3 (by omega)
      have c4 := h.2 4 (by omega)
      have c5 := h.2 5 (by omega)
      have c6 := h.2 6 (by omega)
      have c7 := h.2 7 (by omega)
      clear h
      rcases (by omega : e = 0 ∨ e = 1 ∨ e = 2 ∨ e = 3 ∨ e = 4 ∨ e = 5 ∨ e = 6 ∨ e = 7) with rfl | rfl | rfl | rfl | rfl | rfl | rfl | rfl
      all_goals
        clear h0 h8
        go_enter Tryz.func122, Tryz.ntmps122
        go_wp2
        go_ret
        exact ⟨rfl, rfl⟩
/-- a text that a value may have -/
def mtB (l : List UInt8) : Bool := decide (l.length ≤ 200) && Lib.validD l
set_option maxHeartbeats 1000000 in
theorem mayText_any (s : ByteArray) (w : World) (h : Std2 w) (hs : (s.size : Int) ≤ 9223372036854775000) : Calls Tryz.prog 121 #[.string s] w fun x w' => x = .returned (.bool (mtB s.data.toList)) ∧ Q w w' := by
  have hl : s.data.toList.length = s.size := by simp
  by_cases h1 : (s.size : Int) ≤ 200
  · have H : Hid (Lib.validD s.data.toList = mtB s.data.toList) := by show _ = _; unfold mtB; rw [hl]; simp; omega
    have HC := hid (Tryz.utf8_ValidString s w (by omega) h.utf)
    clear hl
    go_enter Tryz.func121, Tryz.ntmps121
    go_wp2_with (go_at_call 141; refine HC.out.mono ?_; rintro e w1 ⟨rfl, q1⟩)
    go_ret
    exact ⟨vret_bool H.out, q1⟩
  · have H : Hid (false = mtB s.data.toList) := by show _ = _; unfold mtB; rw [hl]; simp; intro; omega
    clear hl
    go_enter Tryz.func121, Tryz.ntmps121
    go_wp2
    go_ret
    exact ⟨vret_bool H.out, Q.refl _⟩
end Go.Proofs.YtfjpdopmojfchaaGreatDoor
