/- What the list of the row of Re. -/
import Derived.Test.YtoikodohcieipaaGreatDoorKh25
set_option linter.unusedVariables false
set_option linter.unusedSimpArgs false
set_option maxRecDepth 100000
set_option maxHeartbeats 8000000
namespace Go.Proofs.YtoikodohcieipaaGreatDoor
open Go.ChangeShapes Go.WideShapes Go.ChangeAt Go.RowKit
set_option maxRecDepth 100000
set_option linter.unusedVariables false
theorem laid_plain_rewriteSheetUpto:(Rows.rewriteSheetUptoRow.laid.all fun x=>x.2.handleName?.isNone)=true:=by kernel_rfl
theorem gd_rewriteSheetUpto{W:World}(hL:laidMetH Tryz.prog Rows.rewriteSheetUptoRow.laid W)(hsh:W.ShapedOpen Tryz.prog):Gd W:=by
 rw [MakeChecks.laidMetH_plain _ _ _ laid_plain_rewriteSheetUpto]at hL;refine ⟨std_reads (Lib.laidMet.reads hL ?_) (Lib.laidMet.reads hL ?_) (Lib.laidMet.reads hL ?_) (Lib.laidMet.reads hL ?_) hsh,fun W' q=>tab_on (tab_reads (Lib.laidMet.reads hL ?_)) q⟩
 ·rw [←laid_nam]
  exact .tail _ (.tail _ (.tail _ (.tail _ (.head _))))
 ·rw [←laid_first]
  exact .tail _ (.tail _ (.tail _ (.tail _ (.tail _ (.head _)))))
 ·rw [←laid_accept]
  exact .tail _ (.tail _ (.tail _ (.head _)))
 ·exact .tail _ (.head _)
 ·rw [←laid_pow]
  exact .tail _ (.tail _ (.head _))
theorem laid_met_rewriteSheetUpto(os:Os)(args:Array Value):laidMetH Tryz.prog Rows.rewriteSheetUptoRow.laid ((lay (World.holding Tryz.prog os ⟨#[],#[],[]⟩)).forCall (fun _ _=>0) ⟨#[],args,[]⟩).memory:=by
 rw [MakeChecks.laidMetH_plain _ _ _ laid_plain_rewriteSheetUpto];exact laidMet_of_run' 8 (by kernel_rfl) (by kernel_rfl)
end Go.Proofs.YtoikodohcieipaaGreatDoor
