/- slices.Equal of ranges and of rectangles. -/
import Derived.Test.YtkbpdgghnlnakaaQ
import Derived.Laws.StructEq
import Derived.Deep.CutBlock
import Derived.Shelf.SlicesE.Equal
namespace Go.Proofs.Ytkbpdgghnlnakaa
open Go.RowKit Go.Lib Go.Shelf
set_option linter.unusedVariables false
set_option linter.unusedSimpArgs false

theorem neq40 : NeqAt Try.prog 40 (fun x : Rg.Sp => .agg (sp x).toArray) (fun x y => decide (x.f = y.f ∧ x.t = y.t)) := by
  refine ⟨fun x y w => ?_, GuardAt.agg _ (by kernel_rfl)⟩
  have u2 := Try.underlying2
  have a2 := Try.isAgg2
  have z2 := Try.sizeOf2
  have hS : Try.prog.underlying 40 = some (.struct (Try.prog.fieldsOf 40)) := by kernel_rfl
  have hp : Try.prog.stoodInHeld 40 = false := by kernel_rfl
  simp only [sp]
  rw [run_neq_struct, show (10000 : Nat) = 9999 + 1 from rfl, run_equalIn_agg w 9999 40 _ _ hS hp]
  simp only [Program.fieldsOf, Try.underlying40]
  go_simp
  by_cases h1 : x.f = y.f <;> by_cases h2 : x.t = y.t <;> simp [h1, h2]
theorem neq28 : NeqAt Try.prog 28 (fun x : Rg.Rc => .agg (rc x).toArray) (fun x y => decide (x.a = y.a ∧ x.b = y.b ∧ x.c = y.c ∧ x.d = y.d)) := by
  refine ⟨fun x y w => ?_, GuardAt.agg _ (by kernel_rfl)⟩
  have u2 := Try.underlying2
  have a2 := Try.isAgg2
  have z2 := Try.sizeOf2
  have hS : Try.prog.underlying 28 = some (.struct (Try.prog.fieldsOf 28)) := by kernel_rfl
  have hp : Try.prog.stoodInHeld 28 = false := by kernel_rfl
  simp only [rc]
  rw [run_neq_struct, show (10000 : Nat) = 9999 + 1 from rfl, run_equalIn_agg w 9999 28 _ _ hS hp]
  simp only [Program.fieldsOf, Try.underlying28]
  go_simp
  by_cases h1 : x.a = y.a <;> by_cases h2 : x.b = y.b <;> by_cases h3 : x.c = y.c <;> by_cases h4 : x.d = y.d <;> simp [h1, h2, h3, h4]
end Go.Proofs.Ytkbpdgghnlnakaa
