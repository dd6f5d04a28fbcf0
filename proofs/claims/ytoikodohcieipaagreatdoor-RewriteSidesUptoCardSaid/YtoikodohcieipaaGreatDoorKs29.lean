/- Two operations side by side: T. -/
import Derived.Test.YtoikodohcieipaaGreatDoorKs28
import Derived.Test.YtoikodohcieipaaGreatDoorKs13
set_option linter.unusedVariables false
set_option linter.unusedSimpArgs false
set_option maxRecDepth 100000
set_option maxHeartbeats 8000000
namespace Go.Proofs.YtoikodohcieipaaGreatDoor.L
open Go.RowKit
theorem may_ok{k a t:Int}(h:mayB k a t=true):Ax.ok k a t:=(Ax.okB_iff k a t).1 (may_bd h).2.2
theorem tr_plain{k a t k' a' t' m:Int}(pr:Bool)(hm:mayB k a t=true)(hm':mayB k' a' t'=true)(h1:a≤m)(h2:t≤m)(h3:a'≤m)(h4:t'≤m)(h5:m+1<2199023255552) :
  (trB k a t k' a' t' pr=true↔Ax.trO k a t k' a' t' pr)∧tA k a t k' a' t' pr=Ax.trA k a t k' a' t' pr∧tT k a t k' a' t' pr=Ax.trT k a t k' a' t' pr:=by
 obtain ⟨⟨a0,a1⟩,⟨t0,t1⟩,_⟩:=may_bd hm;obtain ⟨⟨b0,b1⟩,⟨u0,u1⟩,_⟩:=may_bd hm';have ho:=may_ok hm;have ho':=may_ok hm';have eA:tA k a t k' a' t' pr=Ax.trA k a t k' a' t' pr:=by
  unfold tA Ax.trA
  rw [gp_yes hm' (pl_mk a0 (by omega)),ix_yes hm' (pl_mk a0 (by omega))]
 have eT:tT k a t k' a' t' pr=Ax.trT k a t k' a' t' pr:=by
  unfold tT Ax.trT
  rw [gp_yes hm' (pl_mk t0 (by omega))]
  split
  ·rfl
  ·rename_i hk
   exact may_t0 hm hk
 refine ⟨?_,eA,eT⟩
 unfold trB
 rw [eA,eT,hm,hm'];simp only [Bool.true_and,Bool.and_eq_true,Bool.not_eq_true',Bool.and_eq_false_iff]
 constructor
 ·rintro ⟨hs,hx⟩
  obtain ⟨⟨x0,x1⟩,⟨y0,y1⟩,_⟩:=may_bd hx;have ox:=may_ok hx;refine ⟨?_,x0,?_⟩
  ·rintro ⟨e1,e2,e3,e4⟩
   rcases hs with hs|hs
   ·rw [e4]at hs;cases hs
   ·unfold smB at hs
    have:=of_decide_eq_false hs
    exact this ⟨e1,e2,e3.symm⟩
  ·intro hk
   unfold Ax.ok at ox
   omega
 ·intro hO
  have hb:=Ax.tr_may k a t k' a' t' pr a0 t0 ho b0 u0 ho' hO m h1 h2 h3 h4;refine ⟨?_,may_mk hO.2.1 (by omega) hb.2.1 (by omega) hb.1⟩
  cases pr
  ·exact .inl rfl
  ·right
   unfold smB
   refine decide_eq_false ?_
   rintro ⟨e1,e2,e3⟩
   exact hO.1 ⟨e1,e2,e3.symm,rfl⟩
def en(k a t x0 x1 x2:Int)(xb:Bool)(n:Int):Int:=if ix k a t n<0∨xb=false then ix k a t n else ix x0 x1 x2 (ix k a t n)
theorem en_two{k a t k' a' t' m n:Int}(pr:Bool)(hm:mayB k a t=true)(hm':mayB k' a' t'=true)(h1:a≤m)(h2:t≤m)(h3:a'≤m)(h4:t'≤m)(h5:m+1<2199023255552)(h6:0≤n)(h7:n≤576460752303423488) :
  en k a t (trK k' a' t' k a t pr) (trA k' a' t' k a t pr) (trT k' a' t' k a t pr) (trB k' a' t' k a t pr) n=Ax.two k a t k' a' t' n pr:=by
 obtain ⟨⟨a0,a1⟩,⟨t0,t1⟩,_⟩:=may_bd hm;have hp:=tr_plain pr hm' hm h3 h4 h1 h2 h5;unfold en Ax.two
 rw [ix_yes hm (pl_mk h6 (by omega))]
 have hu:=Ax.idx_hi k a t n 576460752303423488 (may_ok hm) a0 t0 h6 h7 (by omega)
 cases hb:trB k' a' t' k a t pr
 ·have hn:¬ Ax.trO k' a' t' k a t pr:=fun hO=>by
   have:=hp.1.2 hO
   rw [hb]at this;cases this
  rw [if_pos (.inr rfl),if_pos (.inr hn)]
 ·have hO:=hp.1.1 hb
  by_cases hn:Ax.idx k a t n<0
  ·rw [if_pos (.inl hn),if_pos (.inl hn)]
  ·rw [if_neg (by rintro (h|h);exact hn h;cases h),if_neg (by rintro (h|h);exact hn h;exact h hO)]
   unfold trK trA trT
   rw [hb,if_pos rfl,if_pos rfl,if_pos rfl,hp.2.1,hp.2.2];refine ix_yes ?_ (pl_mk (by omega) (by omega))
   unfold trB at hb
   simp only [Bool.and_eq_true]at hb
   rw [←hp.2.1,←hp.2.2];exact hb.2
theorem en_eq{k a t k' a' t' m n:Int}(hm:mayB k a t=true)(hm':mayB k' a' t'=true)(h1:a≤m)(h2:t≤m)(h3:a'≤m)(h4:t'≤m)(h5:m+1<2199023255552)(h6:0≤n)(h7:n≤576460752303423488) :
  en k a t (trK k' a' t' k a t false) (trA k' a' t' k a t false) (trT k' a' t' k a t false) (trB k' a' t' k a t false) n
   = en k' a' t' (trK k a t k' a' t' true) (trA k a t k' a' t' true) (trT k a t k' a' t' true) (trB k a t k' a' t' true) n:=by
 obtain ⟨⟨a0,a1⟩,⟨t0,t1⟩,_⟩:=may_bd hm;obtain ⟨⟨b0,b1⟩,⟨u0,u1⟩,_⟩:=may_bd hm';rw [en_two false hm hm' h1 h2 h3 h4 h5 h6 h7,en_two true hm' hm h3 h4 h1 h2 h5 h6 h7];exact Ax.sides k a t k' a' t' n a0 t0 (may_ok hm) b0 u0 (may_ok hm') h6
end Go.Proofs.YtoikodohcieipaaGreatDoor.L
