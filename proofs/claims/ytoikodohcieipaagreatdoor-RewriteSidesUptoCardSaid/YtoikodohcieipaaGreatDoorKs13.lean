/- Transform of both, of any kind. -/
import Derived.Test.YtoikodohcieipaaGreatDoorKs10
import Derived.Test.YtoikodohcieipaaGreatDoorKs03
import Derived.Test.YtoikodohcieipaaGreatDoorKs08
import Derived.Test.YtoikodohcieipaaGreatDoorKs11
set_option linter.unusedVariables false
set_option linter.unusedSimpArgs false
set_option maxRecDepth 100000
set_option maxHeartbeats 8000000
namespace Go.Proofs.YtoikodohcieipaaGreatDoor.L
open Go.RowKit
theorem rtransform_any(k a t k' a' t':Int)(pr:Bool)(w:World):Calls Tryz.prog 20 #[.agg #[.int .i64 k,.int .i64 a,.int .i64 t],.agg #[.int .i64 k',.int .i64 a',.int .i64 t'],.bool pr] w
  fun e w'=>e=.returned (trV k a t k' a' t' pr)∧Q w w':=by
 cases hm:mayB k a t
 ·exact rtransform_no k a t k' a' t' pr w (.inl hm)
 ·cases hm':mayB k' a' t'
  ·exact rtransform_no k a t k' a' t' pr w (.inr ⟨hm,hm'⟩)
  ·cases hs:(pr&&smB k a k' a')
   ·rcases may_k hm with rfl|rfl|rfl
    ·exact rtransform_k1 a t k' a' t' pr w hm hm' hs
    ·exact rtransform_k2 a t k' a' t' pr w hm hm' hs
    ·exact rtransform_k3 a t k' a' t' pr w hm hm' hs
   ·rw [Bool.and_eq_true]at hs
    obtain ⟨h1,h2⟩:=hs;unfold smB at h2
    obtain ⟨rfl,rfl,rfl⟩:=of_decide_eq_true h2;exact rtransform_same a t t' pr w hm hm' h1
theorem may_mk{k a t:Int}(ha:0≤a)(ha':a<2199023255552)(ht:0≤t)(ht':t<2199023255552)(h:Ax.ok k a t):mayB k a t=true:=by
 unfold mayB;exact decide_eq_true ⟨⟨ha,ha'⟩,⟨ht,ht'⟩,(Ax.okB_iff k a t).2 h⟩
theorem pl_mk{i:Int}(h:0≤i)(h':i≤1152921504606846976):plB i=true:=by unfold plB;exact decide_eq_true ⟨h,h'⟩
end Go.Proofs.YtoikodohcieipaaGreatDoor.L
