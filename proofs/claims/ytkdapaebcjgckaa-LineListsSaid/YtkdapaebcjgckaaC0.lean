/- Where lines and gaps go: what the walks want of it. -/
import Derived.Test.YtkdapaebcjgckaaB
import Derived.Deep.CutBlock
import Derived.Deep.RegionHeld3
namespace Go.Proofs.Ytkdapaebcjgckaa
open Go.RowKit
set_option linter.unusedVariables false
set_option linter.unusedSimpArgs false

theorem ix_no {k a t i : Int} (h : mayB k a t = false) : -1 = ix k a t i := by unfold ix; rw [h, if_neg (by simp)]
theorem ix_far {k a t i : Int} (h : plB i = false) : -1 = ix k a t i := by unfold ix; rw [h, if_neg (by simp)]
theorem ix_yes {k a t i : Int} (h : mayB k a t = true) (g : plB i = true) : ix k a t i = Ax.idx k a t i := by unfold ix; rw [if_pos ⟨h, g⟩]
theorem gp_no {k a t i : Int} {b : Bool} (h : mayB k a t = false) : -1 = gp k a t i b := by unfold gp; rw [h, if_neg (by simp)]
theorem gp_far {k a t i : Int} {b : Bool} (h : plB i = false) : -1 = gp k a t i b := by unfold gp; rw [h, if_neg (by simp)]
theorem gp_yes {k a t i : Int} {b : Bool} (h : mayB k a t = true) (g : plB i = true) : gp k a t i b = Ax.gap k a t i b := by unfold gp; rw [if_pos ⟨h, g⟩]
theorem bk_no {k a t i : Int} (h : mayB k a t = false) : -1 = bk k a t i := by unfold bk; rw [h, if_neg (by simp)]
theorem bk_far {k a t i : Int} (h : plB i = false) : -1 = bk k a t i := by unfold bk; rw [h, if_neg (by simp)]
theorem bk_yes {k a t i : Int} (h : mayB k a t = true) (g : plB i = true) : bk k a t i = Ax.bk k a t i := by unfold bk; rw [if_pos ⟨h, g⟩]
theorem pl_bd {i : Int} (h : plB i = true) : 0 ≤ i ∧ i ≤ 1152921504606846976 := by unfold plB at h; simpa using h
theorem may_bd {k a t : Int} (h : mayB k a t = true) : (0 ≤ a ∧ a < 2199023255552) ∧ (0 ≤ t ∧ t < 2199023255552) ∧ Ax.okB k a t = true := by unfold mayB at h; exact of_decide_eq_true h
theorem may_k {k a t : Int} (h : mayB k a t = true) : k = 1 ∨ k = 2 ∨ k = 3 := by
  have := (Ax.okB_iff k a t).1 (may_bd h).2.2
  unfold Ax.ok at this
  omega
theorem lf_bd {n a : Int} (h : 0 ≤ n) (ha : 0 ≤ a) : 0 ≤ Ax.lf n a ∧ Ax.lf n a ≤ n := by unfold Ax.lf; split <;> omega
theorem idx1 (a t i : Int) : og i a true = Ax.idx 1 a t i := by unfold og Ax.idx; simp; split <;> split <;> omega
theorem idx2 {a t i : Int} (h : i ≠ a) : Ax.lf i a = Ax.idx 2 a t i := by unfold Ax.idx; simp [h]
theorem idx2e {a t : Int} : -1 = Ax.idx 2 a t a := by unfold Ax.idx; simp
theorem idx3e {a t : Int} : Ax.lf t a = Ax.idx 3 a t a := by unfold Ax.idx; simp
theorem idx3 {a t i : Int} (h : i ≠ a) : og (Ax.lf i a) (Ax.lf t a) true = Ax.idx 3 a t i := by unfold Ax.idx og; simp [h]; split <;> split <;> omega
theorem gap1 (a t g : Int) (b : Bool) : og g a b = Ax.gap 1 a t g b := by unfold og Ax.gap; simp
theorem gap2 (a t g : Int) (b : Bool) : Ax.lf g a = Ax.gap 2 a t g b := by unfold Ax.gap; simp
theorem gap3 (a t g : Int) (b : Bool) : og (Ax.lf g a) (Ax.lf t a) b = Ax.gap 3 a t g b := by unfold og Ax.gap; simp
theorem bk1e (a t : Int) : -1 = Ax.bk 1 a t a := by unfold Ax.bk; simp
theorem bk1 {a t i : Int} (h : i ≠ a) : Ax.lf i a = Ax.bk 1 a t i := by unfold Ax.bk Ax.lf; simp; split <;> split <;> omega
theorem bk2 (a t i : Int) : og i a true = Ax.bk 2 a t i := by unfold Ax.bk og; simp; split <;> split <;> omega
theorem bk3e {a t i : Int} (h : i = Ax.lf t a) : a = Ax.bk 3 a t i := by unfold Ax.bk; simp [h]
theorem bk3 {a t i : Int} (h : i ≠ Ax.lf t a) : og (Ax.lf i (Ax.lf t a)) a true = Ax.bk 3 a t i := by unfold Ax.bk og; simp [h]; split <;> split <;> omega
end Go.Proofs.Ytkdapaebcjgckaa
