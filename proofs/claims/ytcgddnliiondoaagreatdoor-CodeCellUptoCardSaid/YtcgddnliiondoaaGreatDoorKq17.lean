/- The reference of package value: which values may be. -/
import Derived.Test.YtcgddnliiondoaaGreatDoorKq06
import Derived.Test.YtcgddnliiondoaaGreatDoorKq15
set_option linter.unusedVariables false
set_option linter.unusedSimpArgs false
set_option maxRecDepth 100000
set_option maxHeartbeats 8000000
namespace Go.Proofs.YtcgddnliiondoaaGreatDoor.V
open Go.RowKit
theorem mtB_yes {s : ByteArray} (h : (s.size : Int) ≤ 200) : mtB s.toList = Lib.validD s.data.toList := by
  have hl : s.data.toList.length = s.size := by simp
  unfold mtB
  rw [Lib.toList_data, hl]
  simp
  omega
theorem mtB_no {s : ByteArray} (h : 200 < (s.size : Int)) : mtB s.toList = false := by
  have hl : s.data.toList.length = s.size := by simp
  unfold mtB
  rw [Lib.toList_data, hl]
  simp
  omega
set_option maxHeartbeats 2000000 in
theorem rmay_2 (n : Int) (t : ByteArray) (b : Bool) (e : Int) (w : World) (hs : (t.size : Int) ≤ 9223372036854775000) :
    Calls Tryz.prog 32 #[vv 2 n t b e] w fun x w' => x = .returned (.bool (mayB 2 n t.toList b e)) ∧ Q w w' := by
  have HU := hid (fun w => utf8_any t w hs)
  rcases Int.lt_or_le 200 (t.size : Int) with h2 | h2
  · have HM := mtB_no h2
    by_cases he : e = 0
    · subst he
      unfold vv
      go_enter Tryz.func32, Tryz.ntmps32
      go_wp2
      all_goals go_ret
      all_goals exact ⟨vret_bool (by first | (simp [mayB, *]; done) | (simp [mayB, *]; omega)), (Q.refl _).alloc _⟩
    · have he' : (e != 0) = true := bne_iff_ne.2 he
      unfold vv
      go_enter Tryz.func32, Tryz.ntmps32
      go_wp2
      all_goals go_ret
      all_goals exact ⟨vret_bool (by first | (simp [mayB, *]; done) | (simp [mayB, *]; omega)), (Q.refl _).alloc _⟩
  · have HM := mtB_yes h2
    by_cases he : e = 0
    · subst he
      unfold vv
      go_enter Tryz.func32, Tryz.ntmps32
      go_wp2_with (go_at_call 59; refine (HU.out _).mono ?_; rintro x w1 ⟨rfl, rfl⟩)
      all_goals go_ret
      all_goals exact ⟨vret_bool (by first | (simp [mayB, *]; done) | (simp [mayB, *]; omega)), (Q.refl _).alloc _⟩
    · have he' : (e != 0) = true := bne_iff_ne.2 he
      unfold vv
      go_enter Tryz.func32, Tryz.ntmps32
      go_wp2_with (go_at_call 59; refine (HU.out _).mono ?_; rintro x w1 ⟨rfl, rfl⟩)
      all_goals go_ret
      all_goals exact ⟨vret_bool (by first | (simp [mayB, *]; done) | (simp [mayB, *]; omega)), (Q.refl _).alloc _⟩
set_option maxHeartbeats 2000000 in
theorem rmay_4 (n : Int) (t : ByteArray) (b : Bool) (e : Int) (w : World) :
    Calls Tryz.prog 32 #[vv 4 n t b e] w fun x w' => x = .returned (.bool (mayB 4 n t.toList b e)) ∧ Q w w' := by
  unfold vv
  go_enter Tryz.func32, Tryz.ntmps32
  go_wp2
  all_goals go_ret
  all_goals exact ⟨vret_bool (by first | (simp [mayB, *]; done) | (simp [mayB, *]; omega)), (Q.refl _).alloc _⟩
set_option maxHeartbeats 2000000 in
theorem rmay_0 (n : Int) (t : ByteArray) (b : Bool) (e : Int) (w : World) :
    Calls Tryz.prog 32 #[vv 0 n t b e] w fun x w' => x = .returned (.bool (mayB 0 n t.toList b e)) ∧ Q w w' := by
  by_cases he : e = 0
  · subst he
    unfold vv
    go_enter Tryz.func32, Tryz.ntmps32
    go_wp2
    all_goals go_ret
    all_goals exact ⟨vret_bool (by first | (simp [mayB, *]; done) | (simp [mayB, *]; omega)), (Q.refl _).alloc _⟩
  · have he' : (e != 0) = true := bne_iff_ne.2 he
    unfold vv
    go_enter Tryz.func32, Tryz.ntmps32
    go_wp2
    all_goals go_ret
    all_goals exact ⟨vret_bool (by first | (simp [mayB, *]; done) | (simp [mayB, *]; omega)), (Q.refl _).alloc _⟩
set_option maxHeartbeats 2000000 in
theorem rmay_1 (n : Int) (t : ByteArray) (b : Bool) (e : Int) (w : World) :
    Calls Tryz.prog 32 #[vv 1 n t b e] w fun x w' => x = .returned (.bool (mayB 1 n t.toList b e)) ∧ Q w w' := by
  by_cases he : e = 0
  · subst he
    unfold vv
    go_enter Tryz.func32, Tryz.ntmps32
    go_wp2
    all_goals go_ret
    all_goals exact ⟨vret_bool (by first | (simp [mayB, *]; done) | (simp [mayB, *]; omega)), (Q.refl _).alloc _⟩
  · have he' : (e != 0) = true := bne_iff_ne.2 he
    unfold vv
    go_enter Tryz.func32, Tryz.ntmps32
    go_wp2
    all_goals go_ret
    all_goals exact ⟨vret_bool (by first | (simp [mayB, *]; done) | (simp [mayB, *]; omega)), (Q.refl _).alloc _⟩
set_option maxHeartbeats 2000000 in
theorem rmay_3 (n : Int) (t : ByteArray) (b : Bool) (e : Int) (w : World) :
    Calls Tryz.prog 32 #[vv 3 n t b e] w fun x w' => x = .returned (.bool (mayB 3 n t.toList b e)) ∧ Q w w' := by
  by_cases he : e = 0
  · subst he
    unfold vv
    go_enter Tryz.func32, Tryz.ntmps32
    go_wp2
    all_goals go_ret
    all_goals exact ⟨vret_bool (by first | (simp [mayB, *]; done) | (simp [mayB, *]; omega)), (Q.refl _).alloc _⟩
  · have he' : (e != 0) = true := bne_iff_ne.2 he
    unfold vv
    go_enter Tryz.func32, Tryz.ntmps32
    go_wp2
    all_goals go_ret
    all_goals exact ⟨vret_bool (by first | (simp [mayB, *]; done) | (simp [mayB, *]; omega)), (Q.refl _).alloc _⟩
set_option maxHeartbeats 2000000 in
theorem rmay_other (k n : Int) (t : ByteArray) (b : Bool) (e : Int) (w : World) (h0 : k ≠ 0) (h1 : k ≠ 1) (h2 : k ≠ 2) (h3 : k ≠ 3) (h4 : k ≠ 4) :
    Calls Tryz.prog 32 #[vv k n t b e] w fun x w' => x = .returned (.bool (mayB k n t.toList b e)) ∧ Q w w' := by
  have H := hid (mayB_other (n := n) (t := t.toList) (b := b) (e := e) h0 h1 h2 h3 h4)
  unfold vv
  go_enter Tryz.func32, Tryz.ntmps32
  go_wp2
  all_goals go_ret
  all_goals exact ⟨vret_bool H.out, (Q.refl _).alloc _⟩
theorem rmay_any (k n : Int) (t : ByteArray) (b : Bool) (e : Int) (w : World) (hs : (t.size : Int) ≤ 9223372036854775000) :
    Calls Tryz.prog 32 #[vv k n t b e] w fun x w' => x = .returned (.bool (mayB k n t.toList b e)) ∧ Q w w' := by
  by_cases h0 : k = 0
  · subst h0; exact rmay_0 n t b e w
  by_cases h1 : k = 1
  · subst h1; exact rmay_1 n t b e w
  by_cases h2 : k = 2
  · subst h2; exact rmay_2 n t b e w hs
  by_cases h3 : k = 3
  · subst h3; exact rmay_3 n t b e w
  by_cases h4 : k = 4
  · subst h4; exact rmay_4 n t b e w
  exact rmay_other k n t b e w h0 h1 h2 h3 h4
end Go.Proofs.YtcgddnliiondoaaGreatDoor.V
