/- An operation behind another one: what comes out, plainly. -/
import Derived.Test.YtkdapaebcjgckaaC0
namespace Go.Proofs.Ytkdapaebcjgckaa
open Go.RowKit
set_option linter.unusedVariables false
set_option linter.unusedSimpArgs false

theorem Q.setCell {a w : World} (h : Q a w) {b k : Nat} (hb : a.heap.size ≤ b) (v : Value) : Q a (w.setCell ⟨b, k, none⟩ v) := Below.setCell h hb v
theorem bcell {W w1 : World} (hb : Q W w1) : (∀ b o, b < W.heap.size → w1.cell? ⟨b, o, none⟩ = W.cell? ⟨b, o, none⟩) ∧ (∀ b o, b < W.heap.size → w1.frozen? ⟨b, o, none⟩ = W.frozen? ⟨b, o, none⟩) :=
  ⟨fun b o h => Below.cell hb (p := ⟨b, o, none⟩) h, fun b o h => Below.frozen hb (p := ⟨b, o, none⟩) h⟩
/-- do both move the same line? -/
def smB (k a k' a' : Int) : Bool := decide (k = 3 ∧ k' = 3 ∧ a = a')
/-- where, and to where, an operation is to be done behind another one -/
def tA (k a t k' a' t' : Int) (pr : Bool) : Int := if k = 1 then gp k' a' t' a (!pr) else ix k' a' t' a
def tT (k a t k' a' t' : Int) (pr : Bool) : Int := if k = 3 then gp k' a' t' t (!pr) else t
/-- is anything to be done? -/
def trB (k a t k' a' t' : Int) (pr : Bool) : Bool := mayB k a t && mayB k' a' t' && !(pr && smB k a k' a') && mayB k (tA k a t k' a' t' pr) (tT k a t k' a' t' pr)
def trK (k a t k' a' t' : Int) (pr : Bool) : Int := if trB k a t k' a' t' pr then k else 0
def trA (k a t k' a' t' : Int) (pr : Bool) : Int := if trB k a t k' a' t' pr then tA k a t k' a' t' pr else 0
def trT (k a t k' a' t' : Int) (pr : Bool) : Int := if trB k a t k' a' t' pr then tT k a t k' a' t' pr else 0
/-- what Transform answers -/
def trV (k a t k' a' t' : Int) (pr : Bool) : Value := .tuple #[.agg #[.int .i64 (trK k a t k' a' t' pr), .int .i64 (trA k a t k' a' t' pr), .int .i64 (trT k a t k' a' t' pr)], .bool (trB k a t k' a' t' pr)]
theorem trV_no {k a t k' a' t' : Int} {pr : Bool} (h : trB k a t k' a' t' pr = false) : trV k a t k' a' t' pr = .tuple #[.agg #[.int .i64 0, .int .i64 0, .int .i64 0], .bool false] := by
  unfold trV trK trA trT; rw [h]; rfl
theorem trV_yes {k a t k' a' t' : Int} {pr : Bool} (h : trB k a t k' a' t' pr = true) : trV k a t k' a' t' pr = .tuple #[.agg #[.int .i64 k, .int .i64 (tA k a t k' a' t' pr), .int .i64 (tT k a t k' a' t' pr)], .bool true] := by
  unfold trV trK trA trT; rw [h]; rfl
theorem trV_m {k a t k' a' t' : Int} {pr : Bool} (h : mayB k a t = false) : trV k a t k' a' t' pr = .tuple #[.agg #[.int .i64 0, .int .i64 0, .int .i64 0], .bool false] := trV_no (by unfold trB; rw [h]; rfl)
theorem trV_m' {k a t k' a' t' : Int} {pr : Bool} (h : mayB k' a' t' = false) : trV k a t k' a' t' pr = .tuple #[.agg #[.int .i64 0, .int .i64 0, .int .i64 0], .bool false] := trV_no (by unfold trB; rw [h]; simp)
theorem trV_s {k a t k' a' t' : Int} {pr : Bool} (h : (pr && smB k a k' a') = true) : trV k a t k' a' t' pr = .tuple #[.agg #[.int .i64 0, .int .i64 0, .int .i64 0], .bool false] := trV_no (by unfold trB; rw [h]; simp)
theorem trV_x {k a t k' a' t' : Int} {pr : Bool} (h : mayB k (tA k a t k' a' t' pr) (tT k a t k' a' t' pr) = false) : trV k a t k' a' t' pr = .tuple #[.agg #[.int .i64 0, .int .i64 0, .int .i64 0], .bool false] := trV_no (by unfold trB; rw [h]; simp)
theorem trV_o {k a t k' a' t' : Int} {pr : Bool} (h1 : mayB k a t = true) (h2 : mayB k' a' t' = true) (h3 : (pr && smB k a k' a') = false) (h : mayB k (tA k a t k' a' t' pr) (tT k a t k' a' t' pr) = true) :
    trV k a t k' a' t' pr = .tuple #[.agg #[.int .i64 k, .int .i64 (tA k a t k' a' t' pr), .int .i64 (tT k a t k' a' t' pr)], .bool true] := trV_yes (by unfold trB; rw [h1, h2, h3, h]; rfl)
theorem ret_val {u v : Value} (h : u = v) : Ending.returned u = .returned v := by rw [h]
end Go.Proofs.Ytkdapaebcjgckaa
