/- A pair's key, walked. -/
import Derived.Test.YtngnakdbhkjbjaaGreatDoorKo05
import Derived.Deep.RegionHeld3
set_option linter.unusedVariables false
set_option linter.unusedSimpArgs false
namespace Go.Proofs.YtngnakdbhkjbjaaGreatDoor
open Go.RowKit
set_option maxRecDepth 100000 in
set_option maxHeartbeats 4000000 in
theorem key_any (b1 o1 b2 o2 n c1 c2 : Nat) (hn : 0 < n) (W : World) : Calls Tryz.prog 66 #[.agg #[.slice (some ⟨b1, o1, none⟩) n c1, .slice (some ⟨b2, o2, none⟩) n c2]] W fun e W' => e = .returned (kyV (b1, o1, b2, o2, n)) ∧ Q W W' := by
  have hn' : (0 : Int) < (n : Int) := by omega
  go_enter Tryz.func66, Tryz.ntmps66
  go_wp2_with fail
  go_region
  go_wp2_with fail
  refine bodyPost_ret (v := kyV (b1, o1, b2, o2, n)) (by simp [results, Tryz.results66, go_sem, kyV]) rfl ⟨rfl, ?_⟩
  repeat (first | with_reducible exact Q.refl _ | with_reducible refine Q.drewN ?_ _ | with_reducible refine Q.drew ?_ | with_reducible refine Q.alloc ?_ _ | with_reducible refine Q.setCell ?_ (by simp) _)
end Go.Proofs.YtngnakdbhkjbjaaGreatDoor
