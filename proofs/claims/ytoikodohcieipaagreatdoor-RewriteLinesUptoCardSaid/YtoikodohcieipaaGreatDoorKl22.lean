/- parse.Parse, walked. -/
import Derived.Test.YtoikodohcieipaaGreatDoorKl15
import Derived.Test.YtoikodohcieipaaGreatDoorKl20
import Derived.Test.YtoikodohcieipaaGreatDoorKl10
import Derived.Test.YtoikodohcieipaaGreatDoorKl06
set_option linter.unusedVariables false
set_option linter.unusedSimpArgs false
set_option maxRecDepth 100000
set_option maxHeartbeats 8000000
namespace Go.Proofs.YtoikodohcieipaaGreatDoor
open Go.RowKit
theorem Q.viax{p:Nat}{a b c:World}(h:Q a b)(k:Qx p b c)(hp:a.heap.size≤p):Q a c:=
 ⟨k.os.trans h.os,k.tape.trans h.tape,k.output.trans h.output,Nat.le_trans h.size k.size,fun i hi=>(k.block i (Nat.lt_of_lt_of_le hi h.size) (fun e=>by have:=Option.some.inj e;omega)).trans (Q.block h hi)⟩
def RepR(W:World)(r:Ex × Nat)(e:Ending)(W':World):Prop:=∃ v,e=.returned (.tuple #[v,.int .i64 (r.2:Int)])∧Rdg (fun b=>W.heap.size≤b) W' r.1 v∧Q W W'
end Go.Proofs.YtoikodohcieipaaGreatDoor
