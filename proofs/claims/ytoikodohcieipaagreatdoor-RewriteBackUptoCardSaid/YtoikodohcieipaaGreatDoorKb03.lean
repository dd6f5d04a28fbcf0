/- Where lines and gaps go: what . -/
import Derived.Test.YtoikodohcieipaaGreatDoorKb01
import Derived.Deep.CutBlock
import Derived.Deep.RegionHeld3
set_option linter.unusedVariables false
set_option linter.unusedSimpArgs false
set_option maxRecDepth 100000
set_option maxHeartbeats 8000000
namespace Go.Proofs.YtoikodohcieipaaGreatDoor.L
open Go.RowKit
theorem ix_no {k a t i : Int} (h : mayB k a t = false) : -1 = ix k a t i := by unfold ix; rw [h, if_neg (by simp)]
theorem ix_far {k a t i : Int} (h : plB i = false) : -1 = ix k a t i := by unfold ix; rw [h, if_neg (by simp)]
theorem ix_yes {k a t i : Int} (h : mayB k a t = true) (g : plB i = true) : ix k a t i = Ax.idx k a t i := by unfold ix; rw [if_pos ⟨h, g⟩]
theorem pl_bd {i : Int} (h : plB i = true) : 0 ≤ i ∧ i ≤ 1152921504606846976 := by unfold plB at h; simpa using h
theorem may_bd {k a t : Int} (h : mayB k a t = true) : (0 ≤ a ∧ a < 2199023255552) ∧ (0 ≤ t ∧ t < 2199023255552) ∧ Ax.okB k a t = true := by unfold mayB at h; exact of_decide_eq_true h
theorem may_k {k a t : Int} (h : mayB k a t = true) : k = 1 ∨ k = 2 ∨ k = 3 := by
  have := (Ax.okB_iff k a t).1 (may_bd h).2.2
  unfold Ax.ok at this
  omega
theorem lf_bd {n a : Int} (h : 0 ≤ n) (ha : 0 ≤ a) : 0 ≤ Ax.lf n a ∧ Ax.lf n a ≤ n := by unfold Ax.lf; split <;> omega
theorem idx1 (a t i : Int) : og i a true = Ax.idx 1 a t i := by unfold og Ax.idx; simp; split <;> split <;> omega
theorem idx2 {a t i : Int} (h : i ≠ a) : Ax.lf i a = Ax.idx 2 a t i := by unfold Ax.idx; simp [h]
theorem idx2e {a t : Int} : -1 = Ax.idx 2 a t a := by unfold Ax.idx; simp
theorem idx3e {a t : Int} : Ax.lf t a = Ax.idx 3 a t a := by unfold Ax.idx; simp
theorem idx3 {a t i : Int} (h : i ≠ a) : og (Ax.lf i a) (Ax.lf t a) true = Ax.idx 3 a t i := by unfold Ax.idx og; simp [h]; split <;> split <;> omega
end Go.Proofs.YtoikodohcieipaaGreatDoor.L
