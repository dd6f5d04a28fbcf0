/- parse.mayNode, walked; parse.m. -/
import Derived.Test.YtoikodohcieipaaGreatDoorKl10
import Derived.Test.YtoikodohcieipaaGreatDoorKl15
import Derived.Test.YtoikodohcieipaaGreatDoorKl12
import Derived.Test.YtoikodohcieipaaGreatDoorKl05
import Derived.Test.YtoikodohcieipaaGreatDoorKl09
import Derived.Test.YtoikodohcieipaaGreatDoorKl06
import Derived.Test.YtoikodohcieipaaGreatDoorRows
import Derived.ProofKit
import Derived.OpenShut
import Derived.Test.YtoikodohcieipaaGreatDoorKl00
import Derived.Test.YtoikodohcieipaaGreatDoorKl04
import Derived.Lib.AppendStr
set_option linter.unusedVariables false
set_option linter.unusedSimpArgs false
set_option maxRecDepth 100000
set_option maxHeartbeats 8000000
namespace Go.Proofs.YtoikodohcieipaaGreatDoor
open Go.RowKit
def bareB(n:Int)(t:List UInt8)(b:Bool)(e:Int)(l1 l2:Nat):Bool:=decide (n=0∧t=[]∧b=false∧e=0∧l1=0∧l2=0)
theorem bare_b(k n:Int)(t:ByteArray)(b:Bool)(e:Int)(a1:Option Addr)(l1 c1:Nat)(a2:Option Addr)(l2 c2:Nat)(r:Bool)(h:bareB n t.data.toList b e l1 l2=r)(W:World):Calls Tryz.prog 94 #[.agg #[.int .i64 k,.int .i64 n,.string t,.bool b,.int .i64 e,.slice a1 l1 c1,.slice a2 l2 c2]] W fun e' W'=>e'=.returned (.bool r)∧Q W W':=by
 rw [←h];exact bare_any k n t b e a1 l1 c1 a2 l2 c2 W
theorem two_new(W:World)(c0 c1 c2 c3 c4 c5 c6:Value):Tb (((W.alloc (.cells #[c0,c1,c2,c3,c4,c5,c6] 26)).alloc (.cells #[c0,c1,c2,c3,c4,c5,c6] 26)).drew) W.heap.size c0 c1 c2 c3 c4 c5 c6∧Tb (((W.alloc (.cells #[c0,c1,c2,c3,c4,c5,c6] 26)).alloc (.cells #[c0,c1,c2,c3,c4,c5,c6] 26)).drew) (W.heap.size+1) c0 c1 c2 c3 c4 c5 c6:=by
 constructor
 ·exact ((tb_new W c0 c1 c2 c3 c4 c5 c6 26).on ((Qx.refl (W.heap.size+5) _).alloc _) (by omega)).on ((Qx.refl (W.heap.size+5) _).drew) (by omega)
 ·have h:=(tb_new (W.alloc (.cells #[c0,c1,c2,c3,c4,c5,c6] 26)) c0 c1 c2 c3 c4 c5 c6 26).on (p:=W.heap.size+5) ((Qx.refl _ _).drew) (by simp)
  rw [show (W.alloc (.cells #[c0,c1,c2,c3,c4,c5,c6] 26)).heap.size=W.heap.size+1 by simp]at h
  exact h
theorem mn_1(n:Int)(t:ByteArray)(b:Bool)(e:Int)(a1:Option Addr)(l1 c1:Nat)(a2:Option Addr)(l2 c2:Nat)(W:World):Calls Tryz.prog 73 #[.agg #[.int .i64 1,.int .i64 n,.string t,.bool b,.int .i64 e,.slice a1 l1 c1,.slice a2 l2 c2]] W fun e' W'=>e'=.returned (.bool ((decide (0≤n))&&bareB 0 t.data.toList b e l1 l2))∧Q W W':=by
 obtain ⟨rb,hrb⟩:∃ rb,bareB 0 t.data.toList b e l1 l2=rb:=⟨_,rfl⟩;have HB:=hid (fun W'=>bare_b 1 0 t b e a1 l1 c1 a2 l2 c2 rb hrb W')
 obtain ⟨t1,t2⟩:=two_new W (.int .i64 1) (.int .i64 n) (.string t) (.bool b) (.int .i64 e) (.slice a1 l1 c1) (.slice a2 l2 c2);have T1:=hid t1;have T2:=hid t2;have HQ:Hid (Q W (((W.alloc (.cells #[.int .i64 1,.int .i64 n,.string t,.bool b,.int .i64 e,.slice a1 l1 c1,.slice a2 l2 c2] 26)).alloc (.cells #[.int .i64 1,.int .i64 n,.string t,.bool b,.int .i64 e,.slice a1 l1 c1,.slice a2 l2 c2] 26)).drew)):=hid (((Q.refl _).alloc _).alloc _).drew
 have HRB:=hid hrb;clear hrb t1 t2;by_cases h:0≤n
 ·
  have HR:Hid (((decide (0≤n))&&bareB 0 t.data.toList b e l1 l2)=rb):=by
   show _=_
   rw [show (decide (0≤n))=true from decide_eq_true h]
   exact (Bool.true_and _).trans HRB.out
  generalize ((decide (0≤n))&&bareB 0 t.data.toList b e l1 l2)=rr at HR ⊢;go_enter Tryz.func73,Tryz.ntmps73
  go_wp2_with fail
  go_region
  obtain ⟨w1,hw1⟩:∃ w1,w1=(((W.alloc (.cells #[.int .i64 1,.int .i64 n,.string t,.bool b,.int .i64 e,.slice a1 l1 c1,.slice a2 l2 c2] 26)).alloc (.cells #[.int .i64 1,.int .i64 n,.string t,.bool b,.int .i64 e,.slice a1 l1 c1,.slice a2 l2 c2] 26)).drew):=⟨_,rfl⟩;rw [←hw1]at T1 T2 HQ;rw [←hw1];clear hw1;obtain ⟨g0,g1,g2,g3,g4,g5,g6,_⟩:=T1.out;obtain ⟨d0,d1,d2,d3,d4,d5,d6,yf⟩:=T2.out;have y0:=yf 0;have y1:=yf 1;have y2:=yf 2;have y3:=yf 3;have y4:=yf 4;have y5:=yf 5;have y6:=yf 6;clear yf;go_wp2_with (first|(go_at_call 94;refine (HB.out _).mono ?_;rintro e9 w9 ⟨rfl,q9⟩;have Q9:=hid q9;clear q9))
  go_ret
  exact ⟨ret_bool HR.out.symm,Q.trans (by repeat (first|with_reducible exact QC.out|with_reducible exact HQ.out|with_reducible refine Q.drewN ?_ _|with_reducible refine Q.drew ?_|with_reducible refine Q.alloc ?_ _|with_reducible refine Q.setCell ?_ (by simp) _)) Q9.out⟩
 ·
  have HR:Hid (((decide (0≤n))&&bareB 0 t.data.toList b e l1 l2)=false):=by
   show _=_
   rw [show (decide (0≤n))=false from decide_eq_false h]
   exact Bool.false_and _
  generalize ((decide (0≤n))&&bareB 0 t.data.toList b e l1 l2)=rr at HR ⊢;go_enter Tryz.func73,Tryz.ntmps73
  go_wp2_with fail
  go_region
  obtain ⟨w1,hw1⟩:∃ w1,w1=(((W.alloc (.cells #[.int .i64 1,.int .i64 n,.string t,.bool b,.int .i64 e,.slice a1 l1 c1,.slice a2 l2 c2] 26)).alloc (.cells #[.int .i64 1,.int .i64 n,.string t,.bool b,.int .i64 e,.slice a1 l1 c1,.slice a2 l2 c2] 26)).drew):=⟨_,rfl⟩;rw [←hw1]at T1 T2 HQ;rw [←hw1];clear hw1;obtain ⟨g0,g1,g2,g3,g4,g5,g6,_⟩:=T1.out;obtain ⟨d0,d1,d2,d3,d4,d5,d6,yf⟩:=T2.out;have y0:=yf 0;have y1:=yf 1;have y2:=yf 2;have y3:=yf 3;have y4:=yf 4;have y5:=yf 5;have y6:=yf 6;clear yf;go_wp2_with fail
  go_ret
  exact ⟨ret_bool HR.out.symm,(by repeat (first|with_reducible exact QC.out|with_reducible exact HQ.out|with_reducible refine Q.drewN ?_ _|with_reducible refine Q.drew ?_|with_reducible refine Q.alloc ?_ _|with_reducible refine Q.setCell ?_ (by simp) _))⟩
theorem mn_2(n:Int)(t:ByteArray)(b:Bool)(e:Int)(a1:Option Addr)(l1 c1:Nat)(a2:Option Addr)(l2 c2:Nat)(W:World)(hw:Std W)(hs:t.size≤4000000000):Calls Tryz.prog 73 #[.agg #[.int .i64 2,.int .i64 n,.string t,.bool b,.int .i64 e,.slice a1 l1 c1,.slice a2 l2 c2]] W fun e' W'=>e'=.returned (.bool ((V.mayB 2 0 t.toList false 0)&&bareB n [] b e l1 l2))∧Q W W':=by
 obtain ⟨rb,hrb⟩:∃ rb,bareB n [] b e l1 l2=rb:=⟨_,rfl⟩;have HB:=hid (fun W'=>bare_b 2 n ⟨#[]⟩ b e a1 l1 c1 a2 l2 c2 rb hrb W')
 obtain ⟨t1,t2⟩:=two_new W (.int .i64 2) (.int .i64 n) (.string t) (.bool b) (.int .i64 e) (.slice a1 l1 c1) (.slice a2 l2 c2);have T1:=hid t1;have T2:=hid t2;have HQ:Hid (Q W (((W.alloc (.cells #[.int .i64 2,.int .i64 n,.string t,.bool b,.int .i64 e,.slice a1 l1 c1,.slice a2 l2 c2] 26)).alloc (.cells #[.int .i64 2,.int .i64 n,.string t,.bool b,.int .i64 e,.slice a1 l1 c1,.slice a2 l2 c2] 26)).drew)):=hid (((Q.refl _).alloc _).alloc _).drew
 have HRB:=hid hrb;clear hrb t1 t2;have HM:=hid (fun W' (q:Q W W')=>V.may_any 2 0 t false 0 W' (hw.on q) (by omega))
 clear hw;cases h:V.mayB 2 0 t.toList false 0
 ·
  rw [h]at HM;have HR:Hid (((false)&&bareB n [] b e l1 l2)=false):=by
   show _=_
   rw [show (false)=false from rfl]
   exact Bool.false_and _
  generalize ((false)&&bareB n [] b e l1 l2)=rr at HR ⊢;go_enter Tryz.func73,Tryz.ntmps73
  go_wp2_with fail
  go_region
  obtain ⟨w1,hw1⟩:∃ w1,w1=(((W.alloc (.cells #[.int .i64 2,.int .i64 n,.string t,.bool b,.int .i64 e,.slice a1 l1 c1,.slice a2 l2 c2] 26)).alloc (.cells #[.int .i64 2,.int .i64 n,.string t,.bool b,.int .i64 e,.slice a1 l1 c1,.slice a2 l2 c2] 26)).drew):=⟨_,rfl⟩;rw [←hw1]at T1 T2 HQ;rw [←hw1];clear hw1;obtain ⟨g0,g1,g2,g3,g4,g5,g6,_⟩:=T1.out;obtain ⟨d0,d1,d2,d3,d4,d5,d6,yf⟩:=T2.out;have y0:=yf 0;have y1:=yf 1;have y2:=yf 2;have y3:=yf 3;have y4:=yf 4;have y5:=yf 5;have y6:=yf 6;clear yf;go_wp2_with (first|(go_at_call 88;refine (HM.out _ HQ.out).mono ?_;rintro e8 w2 ⟨rfl,q2⟩;have QC:=hid (HQ.out.trans q2);have T3:=hid (T2.out.on (Qx.of (p:=W.heap.size+5) q2) (by omega));clear q2;have v0:=T3.out.g0;have v1:=T3.out.g1;have v2:=T3.out.g2;have v3:=T3.out.g3;have v4:=T3.out.g4;have v5:=T3.out.g5;have v6:=T3.out.g6;have x0:=T3.out.f 0;have x1:=T3.out.f 1;have x2:=T3.out.f 2;have x3:=T3.out.f 3;have x4:=T3.out.f 4;have x5:=T3.out.f 5;have x6:=T3.out.f 6))
  go_ret
  exact ⟨ret_bool HR.out.symm,(by repeat (first|with_reducible exact QC.out|with_reducible exact HQ.out|with_reducible refine Q.drewN ?_ _|with_reducible refine Q.drew ?_|with_reducible refine Q.alloc ?_ _|with_reducible refine Q.setCell ?_ (by simp) _))⟩
 ·
  rw [h]at HM;have HR:Hid (((true)&&bareB n [] b e l1 l2)=rb):=by
   show _=_
   rw [show (true)=true from rfl]
   exact (Bool.true_and _).trans HRB.out
  generalize ((true)&&bareB n [] b e l1 l2)=rr at HR ⊢;go_enter Tryz.func73,Tryz.ntmps73
  go_wp2_with fail
  go_region
  obtain ⟨w1,hw1⟩:∃ w1,w1=(((W.alloc (.cells #[.int .i64 2,.int .i64 n,.string t,.bool b,.int .i64 e,.slice a1 l1 c1,.slice a2 l2 c2] 26)).alloc (.cells #[.int .i64 2,.int .i64 n,.string t,.bool b,.int .i64 e,.slice a1 l1 c1,.slice a2 l2 c2] 26)).drew):=⟨_,rfl⟩;rw [←hw1]at T1 T2 HQ;rw [←hw1];clear hw1;obtain ⟨g0,g1,g2,g3,g4,g5,g6,_⟩:=T1.out;obtain ⟨d0,d1,d2,d3,d4,d5,d6,yf⟩:=T2.out;have y0:=yf 0;have y1:=yf 1;have y2:=yf 2;have y3:=yf 3;have y4:=yf 4;have y5:=yf 5;have y6:=yf 6;clear yf;go_wp2_with (first|(go_at_call 88;refine (HM.out _ HQ.out).mono ?_;rintro e8 w2 ⟨rfl,q2⟩;have QC:=hid (HQ.out.trans q2);have T3:=hid (T2.out.on (Qx.of (p:=W.heap.size+5) q2) (by omega));clear q2;have v0:=T3.out.g0;have v1:=T3.out.g1;have v2:=T3.out.g2;have v3:=T3.out.g3;have v4:=T3.out.g4;have v5:=T3.out.g5;have v6:=T3.out.g6;have x0:=T3.out.f 0;have x1:=T3.out.f 1;have x2:=T3.out.f 2;have x3:=T3.out.f 3;have x4:=T3.out.f 4;have x5:=T3.out.f 5;have x6:=T3.out.f 6)|(go_at_call 94;refine (HB.out _).mono ?_;rintro e9 w9 ⟨rfl,q9⟩;have Q9:=hid q9;clear q9))
  go_ret
  exact ⟨ret_bool HR.out.symm,Q.trans (by repeat (first|with_reducible exact QC.out|with_reducible exact HQ.out|with_reducible refine Q.drewN ?_ _|with_reducible refine Q.drew ?_|with_reducible refine Q.alloc ?_ _|with_reducible refine Q.setCell ?_ (by simp) _)) Q9.out⟩
theorem mn_3(n:Int)(t:ByteArray)(b:Bool)(e:Int)(a1:Option Addr)(l1 c1:Nat)(a2:Option Addr)(l2 c2:Nat)(W:World):Calls Tryz.prog 73 #[.agg #[.int .i64 3,.int .i64 n,.string t,.bool b,.int .i64 e,.slice a1 l1 c1,.slice a2 l2 c2]] W fun e' W'=>e'=.returned (.bool ((true)&&bareB n t.data.toList false e l1 l2))∧Q W W':=by
 obtain ⟨rb,hrb⟩:∃ rb,bareB n t.data.toList false e l1 l2=rb:=⟨_,rfl⟩;have HB:=hid (fun W'=>bare_b 3 n t false e a1 l1 c1 a2 l2 c2 rb hrb W')
 obtain ⟨t1,t2⟩:=two_new W (.int .i64 3) (.int .i64 n) (.string t) (.bool b) (.int .i64 e) (.slice a1 l1 c1) (.slice a2 l2 c2);have T1:=hid t1;have T2:=hid t2;have HQ:Hid (Q W (((W.alloc (.cells #[.int .i64 3,.int .i64 n,.string t,.bool b,.int .i64 e,.slice a1 l1 c1,.slice a2 l2 c2] 26)).alloc (.cells #[.int .i64 3,.int .i64 n,.string t,.bool b,.int .i64 e,.slice a1 l1 c1,.slice a2 l2 c2] 26)).drew)):=hid (((Q.refl _).alloc _).alloc _).drew
 have HRB:=hid hrb;clear hrb t1 t2;have HR:Hid (((true)&&bareB n t.data.toList false e l1 l2)=rb):=by
  show _=_
  rw [show (true)=true from rfl]
  exact (Bool.true_and _).trans HRB.out
 generalize ((true)&&bareB n t.data.toList false e l1 l2)=rr at HR ⊢;go_enter Tryz.func73,Tryz.ntmps73
 go_wp2_with fail
 go_region
 obtain ⟨w1,hw1⟩:∃ w1,w1=(((W.alloc (.cells #[.int .i64 3,.int .i64 n,.string t,.bool b,.int .i64 e,.slice a1 l1 c1,.slice a2 l2 c2] 26)).alloc (.cells #[.int .i64 3,.int .i64 n,.string t,.bool b,.int .i64 e,.slice a1 l1 c1,.slice a2 l2 c2] 26)).drew):=⟨_,rfl⟩;rw [←hw1]at T1 T2 HQ;rw [←hw1];clear hw1;obtain ⟨g0,g1,g2,g3,g4,g5,g6,_⟩:=T1.out;obtain ⟨d0,d1,d2,d3,d4,d5,d6,yf⟩:=T2.out;have y0:=yf 0;have y1:=yf 1;have y2:=yf 2;have y3:=yf 3;have y4:=yf 4;have y5:=yf 5;have y6:=yf 6;clear yf;go_wp2_with (first|(go_at_call 94;refine (HB.out _).mono ?_;rintro e9 w9 ⟨rfl,q9⟩;have Q9:=hid q9;clear q9))
 go_ret
 exact ⟨ret_bool HR.out.symm,Q.trans (by repeat (first|with_reducible exact QC.out|with_reducible exact HQ.out|with_reducible refine Q.drewN ?_ _|with_reducible refine Q.drew ?_|with_reducible refine Q.alloc ?_ _|with_reducible refine Q.setCell ?_ (by simp) _)) Q9.out⟩
theorem mn_4(n:Int)(t:ByteArray)(b:Bool)(e:Int)(a1:Option Addr)(l1 c1:Nat)(a2:Option Addr)(l2 c2:Nat)(W:World)(hw:Std W):Calls Tryz.prog 73 #[.agg #[.int .i64 4,.int .i64 n,.string t,.bool b,.int .i64 e,.slice a1 l1 c1,.slice a2 l2 c2]] W fun e' W'=>e'=.returned (.bool ((decide (enL e≠[]))&&bareB n t.data.toList b 0 l1 l2))∧Q W W':=by
 obtain ⟨rb,hrb⟩:∃ rb,bareB n t.data.toList b 0 l1 l2=rb:=⟨_,rfl⟩;have HB:=hid (fun W'=>bare_b 4 n t b 0 a1 l1 c1 a2 l2 c2 rb hrb W')
 obtain ⟨t1,t2⟩:=two_new W (.int .i64 4) (.int .i64 n) (.string t) (.bool b) (.int .i64 e) (.slice a1 l1 c1) (.slice a2 l2 c2);have T1:=hid t1;have T2:=hid t2;have HQ:Hid (Q W (((W.alloc (.cells #[.int .i64 4,.int .i64 n,.string t,.bool b,.int .i64 e,.slice a1 l1 c1,.slice a2 l2 c2] 26)).alloc (.cells #[.int .i64 4,.int .i64 n,.string t,.bool b,.int .i64 e,.slice a1 l1 c1,.slice a2 l2 c2] 26)).drew)):=hid (((Q.refl _).alloc _).alloc _).drew
 have HRB:=hid hrb;clear hrb t1 t2;have HM:=hid (fun W' (q:Q W W')=>V.name_any e W' (hw.on q).nam)
 clear hw;obtain ⟨S,hS,lS⟩:∃ S:ByteArray,⟨(enL e).toArray⟩=S∧S.data.toList=enL e:=⟨_,rfl,rfl⟩;rw [hS]at HM;by_cases h:enL e≠[]
 ·
  have f4:(S.toList == [])=false:=by rw [toL,lS,beq_eq_false_iff_ne];exact h
  clear hS lS;have HR:Hid (((decide (enL e≠[]))&&bareB n t.data.toList b 0 l1 l2)=rb):=by
   show _=_
   rw [show (decide (enL e≠[]))=true from decide_eq_true h]
   exact (Bool.true_and _).trans HRB.out
  generalize ((decide (enL e≠[]))&&bareB n t.data.toList b 0 l1 l2)=rr at HR ⊢;go_enter Tryz.func73,Tryz.ntmps73
  go_wp2_with fail
  go_region
  obtain ⟨w1,hw1⟩:∃ w1,w1=(((W.alloc (.cells #[.int .i64 4,.int .i64 n,.string t,.bool b,.int .i64 e,.slice a1 l1 c1,.slice a2 l2 c2] 26)).alloc (.cells #[.int .i64 4,.int .i64 n,.string t,.bool b,.int .i64 e,.slice a1 l1 c1,.slice a2 l2 c2] 26)).drew):=⟨_,rfl⟩;rw [←hw1]at T1 T2 HQ;rw [←hw1];clear hw1;obtain ⟨g0,g1,g2,g3,g4,g5,g6,_⟩:=T1.out;obtain ⟨d0,d1,d2,d3,d4,d5,d6,yf⟩:=T2.out;have y0:=yf 0;have y1:=yf 1;have y2:=yf 2;have y3:=yf 3;have y4:=yf 4;have y5:=yf 5;have y6:=yf 6;clear yf;go_wp2_with (first|(go_at_call 89;refine (HM.out _ HQ.out).mono ?_;rintro e8 w2 ⟨rfl,h2⟩;replace h2:=h2.symm;subst h2)|(go_at_call 94;refine (HB.out _).mono ?_;rintro e9 w9 ⟨rfl,q9⟩;have Q9:=hid q9;clear q9))
  go_ret
  exact ⟨ret_bool HR.out.symm,Q.trans (by repeat (first|with_reducible exact QC.out|with_reducible exact HQ.out|with_reducible refine Q.drewN ?_ _|with_reducible refine Q.drew ?_|with_reducible refine Q.alloc ?_ _|with_reducible refine Q.setCell ?_ (by simp) _)) Q9.out⟩
 ·
  have f4:(S.toList == [])=true:=by rw [toL,lS,Classical.not_not.1 h];rfl
  clear hS lS;have HR:Hid (((decide (enL e≠[]))&&bareB n t.data.toList b 0 l1 l2)=false):=by
   show _=_
   rw [show (decide (enL e≠[]))=false from decide_eq_false h]
   exact Bool.false_and _
  generalize ((decide (enL e≠[]))&&bareB n t.data.toList b 0 l1 l2)=rr at HR ⊢;go_enter Tryz.func73,Tryz.ntmps73
  go_wp2_with fail
  go_region
  obtain ⟨w1,hw1⟩:∃ w1,w1=(((W.alloc (.cells #[.int .i64 4,.int .i64 n,.string t,.bool b,.int .i64 e,.slice a1 l1 c1,.slice a2 l2 c2] 26)).alloc (.cells #[.int .i64 4,.int .i64 n,.string t,.bool b,.int .i64 e,.slice a1 l1 c1,.slice a2 l2 c2] 26)).drew):=⟨_,rfl⟩;rw [←hw1]at T1 T2 HQ;rw [←hw1];clear hw1;obtain ⟨g0,g1,g2,g3,g4,g5,g6,_⟩:=T1.out;obtain ⟨d0,d1,d2,d3,d4,d5,d6,yf⟩:=T2.out;have y0:=yf 0;have y1:=yf 1;have y2:=yf 2;have y3:=yf 3;have y4:=yf 4;have y5:=yf 5;have y6:=yf 6;clear yf;go_wp2_with (first|(go_at_call 89;refine (HM.out _ HQ.out).mono ?_;rintro e8 w2 ⟨rfl,h2⟩;replace h2:=h2.symm;subst h2))
  go_ret
  exact ⟨ret_bool HR.out.symm,(by repeat (first|with_reducible exact QC.out|with_reducible exact HQ.out|with_reducible refine Q.drewN ?_ _|with_reducible refine Q.drew ?_|with_reducible refine Q.alloc ?_ _|with_reducible refine Q.setCell ?_ (by simp) _))⟩
theorem mn_7(n:Int)(t:ByteArray)(b:Bool)(e:Int)(a1:Option Addr)(l1 c1:Nat)(a2:Option Addr)(l2 c2:Nat)(W:World):Calls Tryz.prog 73 #[.agg #[.int .i64 7,.int .i64 n,.string t,.bool b,.int .i64 e,.slice a1 l1 c1,.slice a2 l2 c2]] W fun e' W'=>e'=.returned (.bool ((decide (l2=1))&&bareB n t.data.toList b e l1 0))∧Q W W':=by
 obtain ⟨rb,hrb⟩:∃ rb,bareB n t.data.toList b e l1 0=rb:=⟨_,rfl⟩;have HB:=hid (fun W'=>bare_b 7 n t b e a1 l1 c1 none 0 0 rb hrb W')
 obtain ⟨t1,t2⟩:=two_new W (.int .i64 7) (.int .i64 n) (.string t) (.bool b) (.int .i64 e) (.slice a1 l1 c1) (.slice a2 l2 c2);have T1:=hid t1;have T2:=hid t2;have HQ:Hid (Q W (((W.alloc (.cells #[.int .i64 7,.int .i64 n,.string t,.bool b,.int .i64 e,.slice a1 l1 c1,.slice a2 l2 c2] 26)).alloc (.cells #[.int .i64 7,.int .i64 n,.string t,.bool b,.int .i64 e,.slice a1 l1 c1,.slice a2 l2 c2] 26)).drew)):=hid (((Q.refl _).alloc _).alloc _).drew
 have HRB:=hid hrb;clear hrb t1 t2;by_cases h:l2=1
 ·
  have f7:((l2:Int) == 1)=true:=by rw [h];rfl
  have HR:Hid (((decide (l2=1))&&bareB n t.data.toList b e l1 0)=rb):=by
   show _=_
   rw [show (decide (l2=1))=true from decide_eq_true h]
   exact (Bool.true_and _).trans HRB.out
  generalize ((decide (l2=1))&&bareB n t.data.toList b e l1 0)=rr at HR ⊢;clear h;go_enter Tryz.func73,Tryz.ntmps73
  go_wp2_with fail
  go_region
  obtain ⟨w1,hw1⟩:∃ w1,w1=(((W.alloc (.cells #[.int .i64 7,.int .i64 n,.string t,.bool b,.int .i64 e,.slice a1 l1 c1,.slice a2 l2 c2] 26)).alloc (.cells #[.int .i64 7,.int .i64 n,.string t,.bool b,.int .i64 e,.slice a1 l1 c1,.slice a2 l2 c2] 26)).drew):=⟨_,rfl⟩;rw [←hw1]at T1 T2 HQ;rw [←hw1];clear hw1;obtain ⟨g0,g1,g2,g3,g4,g5,g6,_⟩:=T1.out;obtain ⟨d0,d1,d2,d3,d4,d5,d6,yf⟩:=T2.out;have y0:=yf 0;have y1:=yf 1;have y2:=yf 2;have y3:=yf 3;have y4:=yf 4;have y5:=yf 5;have y6:=yf 6;clear yf;go_wp2_with (first|(go_at_call 94;refine (HB.out _).mono ?_;rintro e9 w9 ⟨rfl,q9⟩;have Q9:=hid q9;clear q9))
  go_ret
  exact ⟨ret_bool HR.out.symm,Q.trans (by repeat (first|with_reducible exact QC.out|with_reducible exact HQ.out|with_reducible refine Q.drewN ?_ _|with_reducible refine Q.drew ?_|with_reducible refine Q.alloc ?_ _|with_reducible refine Q.setCell ?_ (by simp) _)) Q9.out⟩
 ·
  have f7:((l2:Int) == 1)=false:=by rw [beq_eq_false_iff_ne];omega
  have HR:Hid (((decide (l2=1))&&bareB n t.data.toList b e l1 0)=false):=by
   show _=_
   rw [show (decide (l2=1))=false from decide_eq_false h]
   exact Bool.false_and _
  generalize ((decide (l2=1))&&bareB n t.data.toList b e l1 0)=rr at HR ⊢;go_enter Tryz.func73,Tryz.ntmps73
  go_wp2_with fail
  go_region
  obtain ⟨w1,hw1⟩:∃ w1,w1=(((W.alloc (.cells #[.int .i64 7,.int .i64 n,.string t,.bool b,.int .i64 e,.slice a1 l1 c1,.slice a2 l2 c2] 26)).alloc (.cells #[.int .i64 7,.int .i64 n,.string t,.bool b,.int .i64 e,.slice a1 l1 c1,.slice a2 l2 c2] 26)).drew):=⟨_,rfl⟩;rw [←hw1]at T1 T2 HQ;rw [←hw1];clear hw1;obtain ⟨g0,g1,g2,g3,g4,g5,g6,_⟩:=T1.out;obtain ⟨d0,d1,d2,d3,d4,d5,d6,yf⟩:=T2.out;have y0:=yf 0;have y1:=yf 1;have y2:=yf 2;have y3:=yf 3;have y4:=yf 4;have y5:=yf 5;have y6:=yf 6;clear yf;go_wp2_with fail
  go_ret
  exact ⟨ret_bool HR.out.symm,(by repeat (first|with_reducible exact QC.out|with_reducible exact HQ.out|with_reducible refine Q.drewN ?_ _|with_reducible refine Q.drew ?_|with_reducible refine Q.alloc ?_ _|with_reducible refine Q.setCell ?_ (by simp) _))⟩
theorem mn_8(n:Int)(t:ByteArray)(b:Bool)(e:Int)(a1:Option Addr)(l1 c1:Nat)(a2:Option Addr)(l2 c2:Nat)(W:World):Calls Tryz.prog 73 #[.agg #[.int .i64 8,.int .i64 n,.string t,.bool b,.int .i64 e,.slice a1 l1 c1,.slice a2 l2 c2]] W fun e' W'=>e'=.returned (.bool ((decide (1≤lvl t.data.toList)&&decide (l2=2))&&bareB n [] b e l1 0))∧Q W W':=by
 obtain ⟨rb,hrb⟩:∃ rb,bareB n [] b e l1 0=rb:=⟨_,rfl⟩;have HB:=hid (fun W'=>bare_b 8 n ⟨#[]⟩ b e a1 l1 c1 none 0 0 rb hrb W')
 obtain ⟨t1,t2⟩:=two_new W (.int .i64 8) (.int .i64 n) (.string t) (.bool b) (.int .i64 e) (.slice a1 l1 c1) (.slice a2 l2 c2);have T1:=hid t1;have T2:=hid t2;have HQ:Hid (Q W (((W.alloc (.cells #[.int .i64 8,.int .i64 n,.string t,.bool b,.int .i64 e,.slice a1 l1 c1,.slice a2 l2 c2] 26)).alloc (.cells #[.int .i64 8,.int .i64 n,.string t,.bool b,.int .i64 e,.slice a1 l1 c1,.slice a2 l2 c2] 26)).drew)):=hid (((Q.refl _).alloc _).alloc _).drew
 have HRB:=hid hrb;clear hrb t1 t2;have HM:=hid (fun W'=>strength_any t W')
 obtain ⟨lv,hlv⟩:∃ lv,lvl t.data.toList=lv:=⟨_,rfl⟩;rw [hlv]at HM ⊢;by_cases h:1≤lv
 ·have f8:(1:Int)≤(lv:Int):=by omega
  by_cases h2:l2=2
  ·
   have f7:((l2:Int) == 2)=true:=by rw [h2];rfl
   have HR:Hid (((decide (1≤lv)&&decide (l2=2))&&bareB n [] b e l1 0)=rb):=by
    show _=_
    rw [show (decide (1≤lv)&&decide (l2=2))=true from by rw [decide_eq_true h,decide_eq_true h2];rfl]
    exact (Bool.true_and _).trans HRB.out
   generalize ((decide (1≤lv)&&decide (l2=2))&&bareB n [] b e l1 0)=rr at HR ⊢;clear h2;go_enter Tryz.func73,Tryz.ntmps73
   go_wp2_with fail
   go_region
   obtain ⟨w1,hw1⟩:∃ w1,w1=(((W.alloc (.cells #[.int .i64 8,.int .i64 n,.string t,.bool b,.int .i64 e,.slice a1 l1 c1,.slice a2 l2 c2] 26)).alloc (.cells #[.int .i64 8,.int .i64 n,.string t,.bool b,.int .i64 e,.slice a1 l1 c1,.slice a2 l2 c2] 26)).drew):=⟨_,rfl⟩;rw [←hw1]at T1 T2 HQ;rw [←hw1];clear hw1;obtain ⟨g0,g1,g2,g3,g4,g5,g6,_⟩:=T1.out;obtain ⟨d0,d1,d2,d3,d4,d5,d6,yf⟩:=T2.out;have y0:=yf 0;have y1:=yf 1;have y2:=yf 2;have y3:=yf 3;have y4:=yf 4;have y5:=yf 5;have y6:=yf 6;clear yf;go_wp2_with (first|(go_at_call 92;refine (HM.out _).mono ?_;rintro e8 w2 ⟨rfl,h2⟩;replace h2:=h2.symm;subst h2)|(go_at_call 94;refine (HB.out _).mono ?_;rintro e9 w9 ⟨rfl,q9⟩;have Q9:=hid q9;clear q9))
   go_ret
   exact ⟨ret_bool HR.out.symm,Q.trans (by repeat (first|with_reducible exact QC.out|with_reducible exact HQ.out|with_reducible refine Q.drewN ?_ _|with_reducible refine Q.drew ?_|with_reducible refine Q.alloc ?_ _|with_reducible refine Q.setCell ?_ (by simp) _)) Q9.out⟩
  ·
   have f7:((l2:Int) == 2)=false:=by rw [beq_eq_false_iff_ne];omega
   have HR:Hid (((decide (1≤lv)&&decide (l2=2))&&bareB n [] b e l1 0)=false):=by
    show _=_
    rw [show (decide (1≤lv)&&decide (l2=2))=false from by rw [decide_eq_false h2,Bool.and_false]]
    exact Bool.false_and _
   generalize ((decide (1≤lv)&&decide (l2=2))&&bareB n [] b e l1 0)=rr at HR ⊢;go_enter Tryz.func73,Tryz.ntmps73
   go_wp2_with fail
   go_region
   obtain ⟨w1,hw1⟩:∃ w1,w1=(((W.alloc (.cells #[.int .i64 8,.int .i64 n,.string t,.bool b,.int .i64 e,.slice a1 l1 c1,.slice a2 l2 c2] 26)).alloc (.cells #[.int .i64 8,.int .i64 n,.string t,.bool b,.int .i64 e,.slice a1 l1 c1,.slice a2 l2 c2] 26)).drew):=⟨_,rfl⟩;rw [←hw1]at T1 T2 HQ;rw [←hw1];clear hw1;obtain ⟨g0,g1,g2,g3,g4,g5,g6,_⟩:=T1.out;obtain ⟨d0,d1,d2,d3,d4,d5,d6,yf⟩:=T2.out;have y0:=yf 0;have y1:=yf 1;have y2:=yf 2;have y3:=yf 3;have y4:=yf 4;have y5:=yf 5;have y6:=yf 6;clear yf;go_wp2_with (first|(go_at_call 92;refine (HM.out _).mono ?_;rintro e8 w2 ⟨rfl,h2⟩;replace h2:=h2.symm;subst h2))
   go_ret
   exact ⟨ret_bool HR.out.symm,(by repeat (first|with_reducible exact QC.out|with_reducible exact HQ.out|with_reducible refine Q.drewN ?_ _|with_reducible refine Q.drew ?_|with_reducible refine Q.alloc ?_ _|with_reducible refine Q.setCell ?_ (by simp) _))⟩
 ·have f8:¬ (1:Int)≤(lv:Int):=by omega
  have HR:Hid (((decide (1≤lv)&&decide (l2=2))&&bareB n [] b e l1 0)=false):=by
   show _=_
   rw [show (decide (1≤lv)&&decide (l2=2))=false from by rw [decide_eq_false h,Bool.false_and]]
   exact Bool.false_and _
  generalize ((decide (1≤lv)&&decide (l2=2))&&bareB n [] b e l1 0)=rr at HR ⊢;go_enter Tryz.func73,Tryz.ntmps73
  go_wp2_with fail
  go_region
  obtain ⟨w1,hw1⟩:∃ w1,w1=(((W.alloc (.cells #[.int .i64 8,.int .i64 n,.string t,.bool b,.int .i64 e,.slice a1 l1 c1,.slice a2 l2 c2] 26)).alloc (.cells #[.int .i64 8,.int .i64 n,.string t,.bool b,.int .i64 e,.slice a1 l1 c1,.slice a2 l2 c2] 26)).drew):=⟨_,rfl⟩;rw [←hw1]at T1 T2 HQ;rw [←hw1];clear hw1;obtain ⟨g0,g1,g2,g3,g4,g5,g6,_⟩:=T1.out;obtain ⟨d0,d1,d2,d3,d4,d5,d6,yf⟩:=T2.out;have y0:=yf 0;have y1:=yf 1;have y2:=yf 2;have y3:=yf 3;have y4:=yf 4;have y5:=yf 5;have y6:=yf 6;clear yf;go_wp2_with (first|(go_at_call 92;refine (HM.out _).mono ?_;rintro e8 w2 ⟨rfl,h2⟩;replace h2:=h2.symm;subst h2))
  go_ret
  exact ⟨ret_bool HR.out.symm,(by repeat (first|with_reducible exact QC.out|with_reducible exact HQ.out|with_reducible refine Q.drewN ?_ _|with_reducible refine Q.drew ?_|with_reducible refine Q.alloc ?_ _|with_reducible refine Q.setCell ?_ (by simp) _))⟩
theorem mn_9(n:Int)(t:ByteArray)(b:Bool)(e:Int)(a1:Option Addr)(l1 c1:Nat)(a2:Option Addr)(l2 c2:Nat)(W:World)(hs:t.size≤4000000000):Calls Tryz.prog 73 #[.agg #[.int .i64 9,.int .i64 n,.string t,.bool b,.int .i64 e,.slice a1 l1 c1,.slice a2 l2 c2]] W fun e' W'=>e'=.returned (.bool ((namF t.data.toList&&decide (l2≤30))&&bareB n [] b e l1 0))∧Q W W':=by
 obtain ⟨rb,hrb⟩:∃ rb,bareB n [] b e l1 0=rb:=⟨_,rfl⟩;have HB:=hid (fun W'=>bare_b 9 n ⟨#[]⟩ b e a1 l1 c1 none 0 0 rb hrb W')
 obtain ⟨t1,t2⟩:=two_new W (.int .i64 9) (.int .i64 n) (.string t) (.bool b) (.int .i64 e) (.slice a1 l1 c1) (.slice a2 l2 c2);have T1:=hid t1;have T2:=hid t2;have HQ:Hid (Q W (((W.alloc (.cells #[.int .i64 9,.int .i64 n,.string t,.bool b,.int .i64 e,.slice a1 l1 c1,.slice a2 l2 c2] 26)).alloc (.cells #[.int .i64 9,.int .i64 n,.string t,.bool b,.int .i64 e,.slice a1 l1 c1,.slice a2 l2 c2] 26)).drew)):=hid (((Q.refl _).alloc _).alloc _).drew
 have HRB:=hid hrb;clear hrb t1 t2;have HM:=hid (fun W'=>mayname_any t W' hs)
 cases h:namF t.data.toList
 ·
  rw [h]at HM;have HR:Hid (((false&&decide (l2≤30))&&bareB n [] b e l1 0)=false):=by
   show _=_
   rw [show (false&&decide (l2≤30))=false from Bool.false_and _]
   exact Bool.false_and _
  generalize ((false&&decide (l2≤30))&&bareB n [] b e l1 0)=rr at HR ⊢;go_enter Tryz.func73,Tryz.ntmps73
  go_wp2_with fail
  go_region
  obtain ⟨w1,hw1⟩:∃ w1,w1=(((W.alloc (.cells #[.int .i64 9,.int .i64 n,.string t,.bool b,.int .i64 e,.slice a1 l1 c1,.slice a2 l2 c2] 26)).alloc (.cells #[.int .i64 9,.int .i64 n,.string t,.bool b,.int .i64 e,.slice a1 l1 c1,.slice a2 l2 c2] 26)).drew):=⟨_,rfl⟩;rw [←hw1]at T1 T2 HQ;rw [←hw1];clear hw1;obtain ⟨g0,g1,g2,g3,g4,g5,g6,_⟩:=T1.out;obtain ⟨d0,d1,d2,d3,d4,d5,d6,yf⟩:=T2.out;have y0:=yf 0;have y1:=yf 1;have y2:=yf 2;have y3:=yf 3;have y4:=yf 4;have y5:=yf 5;have y6:=yf 6;clear yf;go_wp2_with (first|(go_at_call 93;refine (HM.out _).mono ?_;rintro e8 w2 ⟨rfl,h2⟩;replace h2:=h2.symm;subst h2))
  go_ret
  exact ⟨ret_bool HR.out.symm,(by repeat (first|with_reducible exact QC.out|with_reducible exact HQ.out|with_reducible refine Q.drewN ?_ _|with_reducible refine Q.drew ?_|with_reducible refine Q.alloc ?_ _|with_reducible refine Q.setCell ?_ (by simp) _))⟩
 ·rw [h]at HM
  by_cases h2:l2≤30
  ·
   have f7:(l2:Int)≤30:=by omega
   have HR:Hid (((true&&decide (l2≤30))&&bareB n [] b e l1 0)=rb):=by
    show _=_
    rw [show (true&&decide (l2≤30))=true from by rw [decide_eq_true h2];rfl]
    exact (Bool.true_and _).trans HRB.out
   generalize ((true&&decide (l2≤30))&&bareB n [] b e l1 0)=rr at HR ⊢;go_enter Tryz.func73,Tryz.ntmps73
   go_wp2_with fail
   go_region
   obtain ⟨w1,hw1⟩:∃ w1,w1=(((W.alloc (.cells #[.int .i64 9,.int .i64 n,.string t,.bool b,.int .i64 e,.slice a1 l1 c1,.slice a2 l2 c2] 26)).alloc (.cells #[.int .i64 9,.int .i64 n,.string t,.bool b,.int .i64 e,.slice a1 l1 c1,.slice a2 l2 c2] 26)).drew):=⟨_,rfl⟩;rw [←hw1]at T1 T2 HQ;rw [←hw1];clear hw1;obtain ⟨g0,g1,g2,g3,g4,g5,g6,_⟩:=T1.out;obtain ⟨d0,d1,d2,d3,d4,d5,d6,yf⟩:=T2.out;have y0:=yf 0;have y1:=yf 1;have y2:=yf 2;have y3:=yf 3;have y4:=yf 4;have y5:=yf 5;have y6:=yf 6;clear yf;go_wp2_with (first|(go_at_call 93;refine (HM.out _).mono ?_;rintro e8 w2 ⟨rfl,h2⟩;replace h2:=h2.symm;subst h2)|(go_at_call 94;refine (HB.out _).mono ?_;rintro e9 w9 ⟨rfl,q9⟩;have Q9:=hid q9;clear q9))
   go_ret
   exact ⟨ret_bool HR.out.symm,Q.trans (by repeat (first|with_reducible exact QC.out|with_reducible exact HQ.out|with_reducible refine Q.drewN ?_ _|with_reducible refine Q.drew ?_|with_reducible refine Q.alloc ?_ _|with_reducible refine Q.setCell ?_ (by simp) _)) Q9.out⟩
  ·
   have f7:¬ (l2:Int)≤30:=by omega
   have HR:Hid (((true&&decide (l2≤30))&&bareB n [] b e l1 0)=false):=by
    show _=_
    rw [show (true&&decide (l2≤30))=false from by rw [decide_eq_false h2];rfl]
    exact Bool.false_and _
   generalize ((true&&decide (l2≤30))&&bareB n [] b e l1 0)=rr at HR ⊢;go_enter Tryz.func73,Tryz.ntmps73
   go_wp2_with fail
   go_region
   obtain ⟨w1,hw1⟩:∃ w1,w1=(((W.alloc (.cells #[.int .i64 9,.int .i64 n,.string t,.bool b,.int .i64 e,.slice a1 l1 c1,.slice a2 l2 c2] 26)).alloc (.cells #[.int .i64 9,.int .i64 n,.string t,.bool b,.int .i64 e,.slice a1 l1 c1,.slice a2 l2 c2] 26)).drew):=⟨_,rfl⟩;rw [←hw1]at T1 T2 HQ;rw [←hw1];clear hw1;obtain ⟨g0,g1,g2,g3,g4,g5,g6,_⟩:=T1.out;obtain ⟨d0,d1,d2,d3,d4,d5,d6,yf⟩:=T2.out;have y0:=yf 0;have y1:=yf 1;have y2:=yf 2;have y3:=yf 3;have y4:=yf 4;have y5:=yf 5;have y6:=yf 6;clear yf;go_wp2_with (first|(go_at_call 93;refine (HM.out _).mono ?_;rintro e8 w2 ⟨rfl,h2⟩;replace h2:=h2.symm;subst h2))
   go_ret
   exact ⟨ret_bool HR.out.symm,(by repeat (first|with_reducible exact QC.out|with_reducible exact HQ.out|with_reducible refine Q.drewN ?_ _|with_reducible refine Q.drew ?_|with_reducible refine Q.alloc ?_ _|with_reducible refine Q.setCell ?_ (by simp) _))⟩
theorem mn_k(k:Int)(n:Int)(t:ByteArray)(b:Bool)(e:Int)(a1:Option Addr)(l1 c1:Nat)(a2:Option Addr)(l2 c2:Nat)(W:World)(hk:k<1∨9<k):Calls Tryz.prog 73 #[.agg #[.int .i64 k,.int .i64 n,.string t,.bool b,.int .i64 e,.slice a1 l1 c1,.slice a2 l2 c2]] W fun e' W'=>e'=.returned (.bool false)∧Q W W':=by
 have k1:(k == 1)=false:=by rw [beq_eq_false_iff_ne];omega
 have k2:(k == 2)=false:=by rw [beq_eq_false_iff_ne];omega
 have k3:(k == 3)=false:=by rw [beq_eq_false_iff_ne];omega
 have k4:(k == 4)=false:=by rw [beq_eq_false_iff_ne];omega
 have k5:(k == 5)=false:=by rw [beq_eq_false_iff_ne];omega
 have k6:(k == 6)=false:=by rw [beq_eq_false_iff_ne];omega
 have k7:(k == 7)=false:=by rw [beq_eq_false_iff_ne];omega
 have k8:(k == 8)=false:=by rw [beq_eq_false_iff_ne];omega
 have k9:(k == 9)=false:=by rw [beq_eq_false_iff_ne];omega
 clear hk;go_enter Tryz.func73,Tryz.ntmps73
 go_wp2_with fail
 go_region
 go_wp2_with fail
 go_ret
 exact ⟨rfl,(((Q.refl _).alloc _).alloc _).drew⟩
def MRf(W:World)(x:Rf):Prop:=∀ W',Q W W'→Calls Tryz.prog 90 #[.agg #[.string ⟨x.1.toArray⟩,.int .i64 x.2.1,.int .i64 x.2.2.1,.bool x.2.2.2.1,.bool x.2.2.2.2]] W' fun e w'=>e=.returned (.bool (mayR x.1 x.2.1 x.2.2.1))∧Q W' w'
def rngB:List Rf→Bool
 |[x,y]=>mayR x.1 x.2.1 x.2.2.1&&(mayR y.1 y.2.1 y.2.2.1&&decide (y.1=[]))
 |_=>false
theorem rng_no{rs:List Rf}(h:rs.length≠2):rngB rs=false:=by
 match rs with
 |[]=>rfl
 |[_]=>rfl
 |[_,_]=>exact absurd rfl h
 |_::_::_::_=>rfl
theorem mrange_any(rs:List Rf)(v:Value)(W:World)(h:Sl rf 5 W v rs)(HM:Hid (∀ x∈rs,MRf W x)):Calls Tryz.prog 91 #[v] W fun e W'=>e=.returned (.bool (rngB rs))∧Q W W':=by
 by_cases hl:rs.length=2
 ·obtain ⟨b,off,cap,hv,_,_,hc⟩:=h.rc (by omega)
  match rs,hl with
  |[x,y],_=>
   obtain ⟨xs,xr,xc,xa,xb⟩:=x;obtain ⟨ys,yr,yc,ya,yb⟩:=y;have HX:=hid (HM.out _ (by simp:(xs,xr,xc,xa,xb)∈[(xs,xr,xc,xa,xb),(ys,yr,yc,ya,yb)]))
   have HY:=hid (HM.out _ (by simp:(ys,yr,yc,ya,yb)∈[(xs,xr,xc,xa,xb),(ys,yr,yc,ya,yb)]))
   have H0:=hc 0 (by simp)
   have H1:=hc 1 (by simp)
   simp only [List.getElem_cons_zero,List.getElem_cons_succ,Nat.zero_mul,Nat.add_zero,Nat.one_mul]at H0 H1
   simp only [List.length_cons,List.length_nil,Nat.zero_add]at hv
   subst hv;obtain ⟨x0,x1,x2,x3,x4⟩:=H0;obtain ⟨y0,y1,y2,y3,y4⟩:=H1;unfold MRf at HX HY
   simp only at HX HY
   obtain ⟨SX,hSX⟩:∃ S:ByteArray,S=⟨xs.toArray⟩:=⟨_,rfl⟩;obtain ⟨SY,hSY,lSY⟩:∃ S:ByteArray,S=⟨ys.toArray⟩∧S.data.toList=ys:=⟨_,rfl,rfl⟩;rw [←hSX]at HX x0;rw [←hSY]at HY y0;have LS:=hid lSY;have HD:=hid (show rngB [(xs,xr,xc,xa,xb),(ys,yr,yc,ya,yb)]=(mayR xs xr xc&&(mayR ys yr yc&&decide (ys=[]))) from rfl)
   generalize rngB [(xs,xr,xc,xa,xb),(ys,yr,yc,ya,yb)]=rr at HD ⊢;have HYc:=hid (fun (W1:World) (q:Q W W1)=>(q.cell (World.block_lt_of_cell? W ⟨b,off+5,none⟩ y0)).trans y0)
   have HYd:=hid (fun (W1:World) (q:Q W W1)=>(q.cell (World.block_lt_of_cell? W ⟨b,off+5+1,none⟩ y1)).trans y1)
   have HYe:=hid (fun (W1:World) (q:Q W W1)=>(q.cell (World.block_lt_of_cell? W ⟨b,off+5+2,none⟩ y2)).trans y2)
   have HYf:=hid (fun (W1:World) (q:Q W W1)=>(q.cell (World.block_lt_of_cell? W ⟨b,off+5+3,none⟩ y3)).trans y3)
   have HYg:=hid (fun (W1:World) (q:Q W W1)=>(q.cell (World.block_lt_of_cell? W ⟨b,off+5+4,none⟩ y4)).trans y4)
   clear HM hc hSX hSY lSY h;cases hx:mayR xs xr xc
   ·have HR:Hid (rr=false):=by show _=_;rw [HD.out,hx];rfl
    rw [hx]at HX;go_enter Tryz.func91,Tryz.ntmps91
    go_wp2_with (go_at_call 90;refine (HX.out _ (Q.refl _)).mono ?_;rintro e w1 ⟨rfl,q1⟩;have Q1:=hid q1;clear q1)
    go_ret
    exact ⟨ret_bool HR.out.symm,Q1.out⟩
   ·rw [hx]at HX
    cases hy:mayR ys yr yc
    ·have HR:Hid (rr=false):=by show _=_;rw [HD.out,hx,hy];rfl
     rw [hy]at HY;go_enter Tryz.func91,Tryz.ntmps91
     go_wp2_with (first|(go_at_call_of 90 SX;refine (HX.out _ (Q.refl _)).mono ?_;rintro e w1 ⟨rfl,q1⟩;have Q1:=hid q1;clear q1;have n0:=HYc.out w1 Q1.out;have n1:=HYd.out w1 Q1.out;have n2:=HYe.out w1 Q1.out;have n3:=HYf.out w1 Q1.out;have n4:=HYg.out w1 Q1.out)|(go_at_call_of 90 SY;refine (HY.out _ Q1.out).mono ?_;rintro e w2 ⟨rfl,q2⟩;have Q2:=hid (Q1.out.trans q2);clear q2;have m0:=HYc.out w2 Q2.out))
     go_ret
     exact ⟨ret_bool HR.out.symm,Q2.out⟩
    ·rw [hy]at HY
     by_cases hz:ys=[]
     ·have HR:Hid (rr=true):=by show _=_;rw [HD.out,hx,hy,decide_eq_true hz];rfl
      have fz:(SY.toList == [])=true:=by rw [toL,LS.out,hz];rfl
      clear hz;go_enter Tryz.func91,Tryz.ntmps91
      go_wp2_with (first|(go_at_call_of 90 SX;refine (HX.out _ (Q.refl _)).mono ?_;rintro e w1 ⟨rfl,q1⟩;have Q1:=hid q1;clear q1;have n0:=HYc.out w1 Q1.out;have n1:=HYd.out w1 Q1.out;have n2:=HYe.out w1 Q1.out;have n3:=HYf.out w1 Q1.out;have n4:=HYg.out w1 Q1.out)|(go_at_call_of 90 SY;refine (HY.out _ Q1.out).mono ?_;rintro e w2 ⟨rfl,q2⟩;have Q2:=hid (Q1.out.trans q2);clear q2;have m0:=HYc.out w2 Q2.out))
      go_ret
      exact ⟨ret_bool HR.out.symm,Q2.out⟩
     ·have HR:Hid (rr=false):=by show _=_;rw [HD.out,hx,hy,decide_eq_false hz];rfl
      have fz:(SY.toList == [])=false:=by rw [toL,LS.out,beq_eq_false_iff_ne];exact hz
      clear hz;go_enter Tryz.func91,Tryz.ntmps91
      go_wp2_with (first|(go_at_call_of 90 SX;refine (HX.out _ (Q.refl _)).mono ?_;rintro e w1 ⟨rfl,q1⟩;have Q1:=hid q1;clear q1;have n0:=HYc.out w1 Q1.out;have n1:=HYd.out w1 Q1.out;have n2:=HYe.out w1 Q1.out;have n3:=HYf.out w1 Q1.out;have n4:=HYg.out w1 Q1.out)|(go_at_call_of 90 SY;refine (HY.out _ Q1.out).mono ?_;rintro e w2 ⟨rfl,q2⟩;have Q2:=hid (Q1.out.trans q2);clear q2;have m0:=HYc.out w2 Q2.out))
      go_ret
      exact ⟨ret_bool HR.out.symm,Q2.out⟩
 ·rw [rng_no hl]
  obtain ⟨ao,cap,rfl,_⟩:=h.len;have f2:((rs.length:Int) == 2)=false:=by rw [beq_eq_false_iff_ne];omega
  clear h hl HM;go_enter Tryz.func91,Tryz.ntmps91
  go_wp2_with fail
  go_ret
  exact ⟨rfl,Q.refl _⟩
def oneB:List Rf→Bool
 |[x]=>mayR x.1 x.2.1 x.2.2.1
 |_=>false
theorem one_no{rs:List Rf}(h:rs.length≠1):oneB rs=false:=by
 match rs with
 |[]=>rfl
 |[_]=>exact absurd rfl h
 |_::_::_=>rfl
theorem mn_5(n:Int)(t:ByteArray)(b:Bool)(e:Int)(a1:Option Addr)(l1 c1:Nat)(a2:Option Addr)(l2 c2:Nat)(W:World)(rs:List Rf)(hr:Sl rf 5 W (.slice a1 l1 c1) rs)(HM:Hid (∀ x∈rs,MRf W x)):Calls Tryz.prog 73 #[.agg #[.int .i64 5,.int .i64 n,.string t,.bool b,.int .i64 e,.slice a1 l1 c1,.slice a2 l2 c2]] W fun e' W'=>e'=.returned (.bool ((oneB rs)&&bareB n t.data.toList b e 0 l2))∧Q W W':=by
 obtain ⟨rb,hrb⟩:∃ rb,bareB n t.data.toList b e 0 l2=rb:=⟨_,rfl⟩;have HB:=hid (fun W'=>bare_b 5 n t b e none 0 0 a2 l2 c2 rb hrb W')
 obtain ⟨t1,t2⟩:=two_new W (.int .i64 5) (.int .i64 n) (.string t) (.bool b) (.int .i64 e) (.slice a1 l1 c1) (.slice a2 l2 c2);have T1:=hid t1;have T2:=hid t2;have HQ:Hid (Q W (((W.alloc (.cells #[.int .i64 5,.int .i64 n,.string t,.bool b,.int .i64 e,.slice a1 l1 c1,.slice a2 l2 c2] 26)).alloc (.cells #[.int .i64 5,.int .i64 n,.string t,.bool b,.int .i64 e,.slice a1 l1 c1,.slice a2 l2 c2] 26)).drew)):=hid (((Q.refl _).alloc _).alloc _).drew
 have HRB:=hid hrb;clear hrb t1 t2;have hll:rs.length=l1:=by
  obtain ⟨_,_,hv,_⟩:=hr;simp only [Value.slice.injEq]at hv
  exact hv.2.1.symm
 by_cases h:l1=1
 ·obtain ⟨bb,off,cap,hv,_,_,hc⟩:=hr.rc (by omega)
  rw [h]at hll
  match rs,hll with
  |[x],_=>
   obtain ⟨xs,xr,xc,xa,xb⟩:=x;have HX:=hid (HM.out _ (by simp:(xs,xr,xc,xa,xb)∈[(xs,xr,xc,xa,xb)]))
   have H0:=hc 0 (by simp)
   simp only [List.getElem_cons_zero,Nat.zero_mul,Nat.add_zero]at H0
   simp only [List.length_cons,List.length_nil,Nat.zero_add,Value.slice.injEq]at hv
   obtain ⟨rfl,rfl,rfl⟩:=hv;unfold MRf at HX
   simp only at HX
   have H0':=hid (H0.on HQ.out);obtain ⟨SX,hSX⟩:∃ S:ByteArray,S=⟨xs.toArray⟩:=⟨_,rfl⟩;rw [←hSX]at HX H0';clear HM hc hSX H0 hr;have hone:oneB [(xs,xr,xc,xa,xb)]=mayR xs xr xc:=rfl
   rw [hone];clear hone h;cases hx:mayR xs xr xc
   ·rw [hx]at HX
    have HR:Hid (((false)&&bareB n t.data.toList b e 0 l2)=false):=by
     show _=_
     rw [show (false)=false from rfl]
     exact Bool.false_and _
    generalize ((false)&&bareB n t.data.toList b e 0 l2)=rr at HR ⊢;go_enter Tryz.func73,Tryz.ntmps73
    go_wp2_with fail
    go_region
    obtain ⟨w1,hw1⟩:∃ w1,w1=(((W.alloc (.cells #[.int .i64 5,.int .i64 n,.string t,.bool b,.int .i64 e,.slice (some ⟨bb,off,none⟩) 1 c1,.slice a2 l2 c2] 26)).alloc (.cells #[.int .i64 5,.int .i64 n,.string t,.bool b,.int .i64 e,.slice (some ⟨bb,off,none⟩) 1 c1,.slice a2 l2 c2] 26)).drew):=⟨_,rfl⟩;rw [←hw1]at T1 T2 HQ H0';obtain ⟨r0,r1,r2,r3,r4⟩:=H0'.out;rw [←hw1];clear hw1;obtain ⟨g0,g1,g2,g3,g4,g5,g6,_⟩:=T1.out;obtain ⟨d0,d1,d2,d3,d4,d5,d6,yf⟩:=T2.out;have y0:=yf 0;have y1:=yf 1;have y2:=yf 2;have y3:=yf 3;have y4:=yf 4;have y5:=yf 5;have y6:=yf 6;clear yf;go_wp2_with (first|(go_at_call 90;refine (HX.out _ HQ.out).mono ?_;rintro e8 w2 ⟨rfl,q2⟩;have QC:=hid (HQ.out.trans q2);have T3:=hid (T2.out.on (Qx.of (p:=W.heap.size+5) q2) (by omega));clear q2;have v0:=T3.out.g0;have v1:=T3.out.g1;have v2:=T3.out.g2;have v3:=T3.out.g3;have v4:=T3.out.g4;have v5:=T3.out.g5;have v6:=T3.out.g6;have x0:=T3.out.f 0;have x1:=T3.out.f 1;have x2:=T3.out.f 2;have x3:=T3.out.f 3;have x4:=T3.out.f 4;have x5:=T3.out.f 5;have x6:=T3.out.f 6))
    go_ret
    exact ⟨ret_bool HR.out.symm,(by repeat (first|with_reducible exact QC.out|with_reducible exact HQ.out|with_reducible refine Q.drewN ?_ _|with_reducible refine Q.drew ?_|with_reducible refine Q.alloc ?_ _|with_reducible refine Q.setCell ?_ (by simp) _))⟩
   ·rw [hx]at HX
    have HR:Hid (((true)&&bareB n t.data.toList b e 0 l2)=rb):=by
     show _=_
     rw [show (true)=true from rfl]
     exact (Bool.true_and _).trans HRB.out
    generalize ((true)&&bareB n t.data.toList b e 0 l2)=rr at HR ⊢;go_enter Tryz.func73,Tryz.ntmps73
    go_wp2_with fail
    go_region
    obtain ⟨w1,hw1⟩:∃ w1,w1=(((W.alloc (.cells #[.int .i64 5,.int .i64 n,.string t,.bool b,.int .i64 e,.slice (some ⟨bb,off,none⟩) 1 c1,.slice a2 l2 c2] 26)).alloc (.cells #[.int .i64 5,.int .i64 n,.string t,.bool b,.int .i64 e,.slice (some ⟨bb,off,none⟩) 1 c1,.slice a2 l2 c2] 26)).drew):=⟨_,rfl⟩;rw [←hw1]at T1 T2 HQ H0';obtain ⟨r0,r1,r2,r3,r4⟩:=H0'.out;rw [←hw1];clear hw1;obtain ⟨g0,g1,g2,g3,g4,g5,g6,_⟩:=T1.out;obtain ⟨d0,d1,d2,d3,d4,d5,d6,yf⟩:=T2.out;have y0:=yf 0;have y1:=yf 1;have y2:=yf 2;have y3:=yf 3;have y4:=yf 4;have y5:=yf 5;have y6:=yf 6;clear yf;go_wp2_with (first|(go_at_call 90;refine (HX.out _ HQ.out).mono ?_;rintro e8 w2 ⟨rfl,q2⟩;have QC:=hid (HQ.out.trans q2);have T3:=hid (T2.out.on (Qx.of (p:=W.heap.size+5) q2) (by omega));clear q2;have v0:=T3.out.g0;have v1:=T3.out.g1;have v2:=T3.out.g2;have v3:=T3.out.g3;have v4:=T3.out.g4;have v5:=T3.out.g5;have v6:=T3.out.g6;have x0:=T3.out.f 0;have x1:=T3.out.f 1;have x2:=T3.out.f 2;have x3:=T3.out.f 3;have x4:=T3.out.f 4;have x5:=T3.out.f 5;have x6:=T3.out.f 6)|(go_at_call 94;refine (HB.out _).mono ?_;rintro e9 w9 ⟨rfl,q9⟩;have Q9:=hid q9;clear q9))
    go_ret
    exact ⟨ret_bool HR.out.symm,Q.trans (by repeat (first|with_reducible exact QC.out|with_reducible exact HQ.out|with_reducible refine Q.drewN ?_ _|with_reducible refine Q.drew ?_|with_reducible refine Q.alloc ?_ _|with_reducible refine Q.setCell ?_ (by simp) _)) Q9.out⟩
 ·rw [one_no (by omega)]
  clear HM hr;have f5:((l1:Int) == 1)=false:=by rw [beq_eq_false_iff_ne];omega
  have HR:Hid (((false)&&bareB n t.data.toList b e 0 l2)=false):=by
   show _=_
   rw [show (false)=false from rfl]
   exact Bool.false_and _
  generalize ((false)&&bareB n t.data.toList b e 0 l2)=rr at HR ⊢;go_enter Tryz.func73,Tryz.ntmps73
  go_wp2_with fail
  go_region
  obtain ⟨w1,hw1⟩:∃ w1,w1=(((W.alloc (.cells #[.int .i64 5,.int .i64 n,.string t,.bool b,.int .i64 e,.slice a1 l1 c1,.slice a2 l2 c2] 26)).alloc (.cells #[.int .i64 5,.int .i64 n,.string t,.bool b,.int .i64 e,.slice a1 l1 c1,.slice a2 l2 c2] 26)).drew):=⟨_,rfl⟩;rw [←hw1]at T1 T2 HQ;rw [←hw1];clear hw1;obtain ⟨g0,g1,g2,g3,g4,g5,g6,_⟩:=T1.out;obtain ⟨d0,d1,d2,d3,d4,d5,d6,yf⟩:=T2.out;have y0:=yf 0;have y1:=yf 1;have y2:=yf 2;have y3:=yf 3;have y4:=yf 4;have y5:=yf 5;have y6:=yf 6;clear yf;go_wp2_with fail
  go_ret
  exact ⟨ret_bool HR.out.symm,(by repeat (first|with_reducible exact QC.out|with_reducible exact HQ.out|with_reducible refine Q.drewN ?_ _|with_reducible refine Q.drew ?_|with_reducible refine Q.alloc ?_ _|with_reducible refine Q.setCell ?_ (by simp) _))⟩
theorem mn_6(n:Int)(t:ByteArray)(b:Bool)(e:Int)(a1:Option Addr)(l1 c1:Nat)(a2:Option Addr)(l2 c2:Nat)(W:World)(rs:List Rf)(hr:Sl rf 5 W (.slice a1 l1 c1) rs)(HM:Hid (∀ x∈rs,MRf W x)):Calls Tryz.prog 73 #[.agg #[.int .i64 6,.int .i64 n,.string t,.bool b,.int .i64 e,.slice a1 l1 c1,.slice a2 l2 c2]] W fun e' W'=>e'=.returned (.bool ((rngB rs)&&bareB n t.data.toList b e 0 l2))∧Q W W':=by
 obtain ⟨rb,hrb⟩:∃ rb,bareB n t.data.toList b e 0 l2=rb:=⟨_,rfl⟩;have HB:=hid (fun W'=>bare_b 6 n t b e none 0 0 a2 l2 c2 rb hrb W')
 obtain ⟨t1,t2⟩:=two_new W (.int .i64 6) (.int .i64 n) (.string t) (.bool b) (.int .i64 e) (.slice a1 l1 c1) (.slice a2 l2 c2);have T1:=hid t1;have T2:=hid t2;have HQ:Hid (Q W (((W.alloc (.cells #[.int .i64 6,.int .i64 n,.string t,.bool b,.int .i64 e,.slice a1 l1 c1,.slice a2 l2 c2] 26)).alloc (.cells #[.int .i64 6,.int .i64 n,.string t,.bool b,.int .i64 e,.slice a1 l1 c1,.slice a2 l2 c2] 26)).drew)):=hid (((Q.refl _).alloc _).alloc _).drew
 have HRB:=hid hrb;clear hrb t1 t2;have HN:=hid (fun W' (q:Q W W')=>mrange_any rs (.slice a1 l1 c1) W' (hr.on q) (hid (fun x hx W2 q2=>HM.out x hx W2 (q.trans q2))))
 clear hr HM;cases h:rngB rs
 ·rw [h]at HN
  have HR:Hid (((false)&&bareB n t.data.toList b e 0 l2)=false):=by
   show _=_
   rw [show (false)=false from rfl]
   exact Bool.false_and _
  generalize ((false)&&bareB n t.data.toList b e 0 l2)=rr at HR ⊢;go_enter Tryz.func73,Tryz.ntmps73
  go_wp2_with fail
  go_region
  obtain ⟨w1,hw1⟩:∃ w1,w1=(((W.alloc (.cells #[.int .i64 6,.int .i64 n,.string t,.bool b,.int .i64 e,.slice a1 l1 c1,.slice a2 l2 c2] 26)).alloc (.cells #[.int .i64 6,.int .i64 n,.string t,.bool b,.int .i64 e,.slice a1 l1 c1,.slice a2 l2 c2] 26)).drew):=⟨_,rfl⟩;rw [←hw1]at T1 T2 HQ;rw [←hw1];clear hw1;obtain ⟨g0,g1,g2,g3,g4,g5,g6,_⟩:=T1.out;obtain ⟨d0,d1,d2,d3,d4,d5,d6,yf⟩:=T2.out;have y0:=yf 0;have y1:=yf 1;have y2:=yf 2;have y3:=yf 3;have y4:=yf 4;have y5:=yf 5;have y6:=yf 6;clear yf;go_wp2_with (first|(go_at_call 91;refine (HN.out _ HQ.out).mono ?_;rintro e8 w2 ⟨rfl,q2⟩;have QC:=hid (HQ.out.trans q2);have T3:=hid (T2.out.on (Qx.of (p:=W.heap.size+5) q2) (by omega));clear q2;have v0:=T3.out.g0;have v1:=T3.out.g1;have v2:=T3.out.g2;have v3:=T3.out.g3;have v4:=T3.out.g4;have v5:=T3.out.g5;have v6:=T3.out.g6;have x0:=T3.out.f 0;have x1:=T3.out.f 1;have x2:=T3.out.f 2;have x3:=T3.out.f 3;have x4:=T3.out.f 4;have x5:=T3.out.f 5;have x6:=T3.out.f 6))
  go_ret
  exact ⟨ret_bool HR.out.symm,(by repeat (first|with_reducible exact QC.out|with_reducible exact HQ.out|with_reducible refine Q.drewN ?_ _|with_reducible refine Q.drew ?_|with_reducible refine Q.alloc ?_ _|with_reducible refine Q.setCell ?_ (by simp) _))⟩
 ·rw [h]at HN
  have HR:Hid (((true)&&bareB n t.data.toList b e 0 l2)=rb):=by
   show _=_
   rw [show (true)=true from rfl]
   exact (Bool.true_and _).trans HRB.out
  generalize ((true)&&bareB n t.data.toList b e 0 l2)=rr at HR ⊢;go_enter Tryz.func73,Tryz.ntmps73
  go_wp2_with fail
  go_region
  obtain ⟨w1,hw1⟩:∃ w1,w1=(((W.alloc (.cells #[.int .i64 6,.int .i64 n,.string t,.bool b,.int .i64 e,.slice a1 l1 c1,.slice a2 l2 c2] 26)).alloc (.cells #[.int .i64 6,.int .i64 n,.string t,.bool b,.int .i64 e,.slice a1 l1 c1,.slice a2 l2 c2] 26)).drew):=⟨_,rfl⟩;rw [←hw1]at T1 T2 HQ;rw [←hw1];clear hw1;obtain ⟨g0,g1,g2,g3,g4,g5,g6,_⟩:=T1.out;obtain ⟨d0,d1,d2,d3,d4,d5,d6,yf⟩:=T2.out;have y0:=yf 0;have y1:=yf 1;have y2:=yf 2;have y3:=yf 3;have y4:=yf 4;have y5:=yf 5;have y6:=yf 6;clear yf;go_wp2_with (first|(go_at_call 91;refine (HN.out _ HQ.out).mono ?_;rintro e8 w2 ⟨rfl,q2⟩;have QC:=hid (HQ.out.trans q2);have T3:=hid (T2.out.on (Qx.of (p:=W.heap.size+5) q2) (by omega));clear q2;have v0:=T3.out.g0;have v1:=T3.out.g1;have v2:=T3.out.g2;have v3:=T3.out.g3;have v4:=T3.out.g4;have v5:=T3.out.g5;have v6:=T3.out.g6;have x0:=T3.out.f 0;have x1:=T3.out.f 1;have x2:=T3.out.f 2;have x3:=T3.out.f 3;have x4:=T3.out.f 4;have x5:=T3.out.f 5;have x6:=T3.out.f 6)|(go_at_call 94;refine (HB.out _).mono ?_;rintro e9 w9 ⟨rfl,q9⟩;have Q9:=hid q9;clear q9))
  go_ret
  exact ⟨ret_bool HR.out.symm,Q.trans (by repeat (first|with_reducible exact QC.out|with_reducible exact HQ.out|with_reducible refine Q.drewN ?_ _|with_reducible refine Q.drew ?_|with_reducible refine Q.alloc ?_ _|with_reducible refine Q.setCell ?_ (by simp) _)) Q9.out⟩
def mayN:Ex→Bool
 |.mk k n t b e rs ks=>
  if k=1 then decide (0≤n)&&bareB 0 t b e rs.length ks.length
  else if k=2 then V.mayB 2 0 t false 0&&bareB n [] b e rs.length ks.length
  else if k=3 then true&&bareB n t false e rs.length ks.length
  else if k=4 then decide (enL e≠[])&&bareB n t b 0 rs.length ks.length
  else if k=5 then oneB rs&&bareB n t b e 0 ks.length
  else if k=6 then rngB rs&&bareB n t b e 0 ks.length
  else if k=7 then decide (ks.length=1)&&bareB n t b e rs.length 0
  else if k=8 then (decide (1≤lvl t)&&decide (ks.length=2))&&bareB n [] b e rs.length 0
  else if k=9 then (namF t&&decide (ks.length≤30))&&bareB n [] b e rs.length 0
  else false
def Sm:Ex→Prop
 |.mk _ _ t _ _ rs ks=>t.length≤1000000∧(∀ r∈rs,r.1.length≤2000000)∧SmL ks
 where
 SmL:List Ex→Prop
 |[]=>True
 |x::xs=>Sm x∧SmL xs
theorem sm_kid:∀ {ks:List Ex},Sm.SmL ks→∀ y∈ks,Sm y
 |[],_,y,hy=>absurd hy (by simp)
 |x::xs,h,y,hy=>by
  rw [Sm.SmL]at h;simp at hy
  rcases hy with rfl|hy
  ·exact h.1
  ·exact sm_kid h.2 y hy
theorem sm_kids(k n:Int)(t:List UInt8)(b:Bool)(e:Int)(rs:List Rf)(ks:List Ex)(h:Sm (.mk k n t b e rs ks)):∀ y∈ks,Sm y:=by
 rw [Sm]at h;exact sm_kid h.2.2
def Gd(W:World):Prop:=Std W∧∀ W',Q W W'→Lib.TabIs Tryz.prog W' "internal/strconv.uint64pow10" .u64 Lib.pow10Tab
theorem Gd.on{W W':World}(h:Gd W)(q:Q W W'):Gd W':=⟨h.1.on q,fun W2 q2=>h.2 W2 (q.trans q2)⟩
theorem mrf_of{W:World}(h:Gd W)(x:Rf)(hs:x.1.length≤2000000):MRf W x:=by
 intro W' q
 have h':=h.on q;exact pmayref_big ⟨x.1.toArray⟩ x.2.1 x.2.2.1 x.2.2.2.1 x.2.2.2.2 W' h'.1 h'.2 (by show x.1.toArray.size≤2000000;simpa using hs)
theorem maynode_any(x:Ex)(v:Value)(W:World)(hg:Gd W)(hs:Sm x)(hr:Rd W x v):Calls Tryz.prog 73 #[v] W fun e W'=>e=.returned (.bool (mayN x))∧Q W W':=by
 obtain ⟨k,n,t,b,e,rs,ks,rv',kv,ao,cap,rfl,hp⟩:=hr.prt;obtain ⟨ar,cr,hrv,hl⟩:=hp.rl;have hsl:Sl rf 5 W (.slice ar rs.length cr) rs:=hrv ▸ hp.rl
 obtain rfl:=hp.kl;subst hrv;have hx:=hp.ex;subst hx;rw [Sm]at hs;obtain ⟨s1,s2,_⟩:=hs;have st:t.size≤1000000:=by rw [←len_data];exact s1
 have hm:Hid (∀ y∈rs,MRf W y):=hid (fun y hy=>mrf_of hg y (s2 y hy))
 have tl:t.toList=t.data.toList:=toL t
 rw [mayN];by_cases h1:k=1
 ·subst h1
  rw [if_pos rfl];exact mn_1 n t b e ar rs.length cr ao ks.length cap W
 by_cases h2:k=2
 ·subst h2
  rw [if_neg (by decide),if_pos rfl,←tl]
  exact mn_2 n t b e ar rs.length cr ao ks.length cap W hg.1 (by omega)
 by_cases h3:k=3
 ·subst h3
  rw [if_neg (by decide),if_neg (by decide),if_pos rfl]
  exact mn_3 n t b e ar rs.length cr ao ks.length cap W
 by_cases h4:k=4
 ·subst h4
  rw [if_neg (by decide),if_neg (by decide),if_neg (by decide),if_pos rfl]
  exact mn_4 n t b e ar rs.length cr ao ks.length cap W hg.1
 by_cases h5:k=5
 ·subst h5
  rw [if_neg (by decide),if_neg (by decide),if_neg (by decide),if_neg (by decide),if_pos rfl]
  exact mn_5 n t b e ar rs.length cr ao ks.length cap W rs hsl hm
 by_cases h6:k=6
 ·subst h6
  rw [if_neg (by decide),if_neg (by decide),if_neg (by decide),if_neg (by decide),if_neg (by decide),if_pos rfl]
  exact mn_6 n t b e ar rs.length cr ao ks.length cap W rs hsl hm
 by_cases h7:k=7
 ·subst h7
  rw [if_neg (by decide),if_neg (by decide),if_neg (by decide),if_neg (by decide),if_neg (by decide),if_neg (by decide),if_pos rfl]
  exact mn_7 n t b e ar rs.length cr ao ks.length cap W
 by_cases h8:k=8
 ·subst h8
  rw [if_neg (by decide),if_neg (by decide),if_neg (by decide),if_neg (by decide),if_neg (by decide),if_neg (by decide),if_neg (by decide),if_pos rfl]
  exact mn_8 n t b e ar rs.length cr ao ks.length cap W
 by_cases h9:k=9
 ·subst h9
  rw [if_neg (by decide),if_neg (by decide),if_neg (by decide),if_neg (by decide),if_neg (by decide),if_neg (by decide),if_neg (by decide),if_neg (by decide),if_pos rfl]
  exact mn_9 n t b e ar rs.length cr ao ks.length cap W (by omega)
 rw [if_neg h1,if_neg h2,if_neg h3,if_neg h4,if_neg h5,if_neg h6,if_neg h7,if_neg h8,if_neg h9];exact mn_k k n t b e ar rs.length cr ao ks.length cap W (by omega)
theorem pmayall_any(x:Ex)(v:Value)(W:World)(hg:Gd W)(hs:Sm x)(hr:Rd W x v):Calls Tryz.prog 50 #[v] W fun e W'=>e=.returned (.bool (mall mayN x))∧Q W W':=
 mayall_any mayN Gd (fun _ _ h q=>h.on q) Sm sm_kids (hid maynode_any) (SizeOf.sizeOf x) x v W (Nat.le_refl _) hg hs hr
theorem pmay_any(x:Ex)(v:Value)(W:World)(hg:Gd W)(hs:Sm x)(hr:Rd W x v):Calls Tryz.prog 24 #[v] W fun e W'=>e=.returned (.bool (fitB x&&mall mayN x))∧Q W W':=by
 have HF:=hid (fun W' (q:Q W W')=>fits_any x v W' (Rd.on q _ _ hr))
 have HA:=hid (fun W' (q:Q W W')=>pmayall_any x v W' (hg.on q) hs (Rd.on q _ _ hr))
 obtain ⟨k,n,t,b,e,a1,l1,c1,a2,l2,c2,rfl⟩:=hr.shape;have HX:=hid (Bx.start W (.int .i64 k) (.int .i64 n) (.string t) (.bool b) (.int .i64 e) (.slice a1 l1 c1) (.slice a2 l2 c2) 26);clear hr hg hs;cases h:fitB x
 ·rw [h]at HF
  go_enter Tryz.func24,Tryz.ntmps24
  go_wp2_with (go_at_call 49;refine (HF.out _ ((Q.refl _).alloc _)).mono ?_;rintro e9 w1 ⟨rfl,q1⟩;have Q1:Hid (Q W w1):=hid (((Q.refl _).alloc _).trans q1);clear q1)
  go_ret
  exact ⟨rfl,Q1.out⟩
 ·rw [h]at HF
  obtain ⟨r,hr⟩:∃ r,mall mayN x=r:=⟨_,rfl⟩;rw [hr]at HA ⊢;clear h hr;go_enter Tryz.func24,Tryz.ntmps24
  go_wp2_with (first|(go_at_call 49;refine (HF.out _ ((Q.refl _).alloc _)).mono ?_;rintro e9 w1 ⟨rfl,q1⟩;have Q1:Hid (Q W w1):=hid (((Q.refl _).alloc _).trans q1);have X1:=hid (HX.out.on q1);clear q1;obtain ⟨_,_,g0,g1,g2,g3,g4,g5,g6⟩:=X1.out)|(go_at_call 50;refine (HA.out _ Q1.out).mono ?_;rintro e9 w2 ⟨rfl,q2⟩;have Q2:Hid (Q W w2):=hid (Q1.out.trans q2);clear q2))
  go_ret
  exact ⟨by simp,Q2.out⟩
def RdI(W:World):Ex→Value→Prop
 |.mk k n t b e rs ks,v=>∃ rv kv,v=.agg #[.int .i64 k,.int .i64 n,.string ⟨t.toArray⟩,.bool b,.int .i64 e,rv,kv]∧Sl rf 5 W rv rs ∧
   ∃ (ao:Option Addr) (cap:Nat),kv=.slice ao ks.length cap∧ks.length≤cap∧cap≤maxLen∧(ks≠[]→∃ b' off,ao=some ⟨b',off,none⟩∧RdIL W ks b' off)
 where
 RdIL (W:World):List Ex→Nat→Nat→Prop
 |[],_,_=>True
 |x::xs,b,off=>(∃ c0 c1 c2 c3 c4 c5 c6,W.cell? ⟨b,off,none⟩=some c0∧W.cell? ⟨b,off+1,none⟩=some c1∧W.cell? ⟨b,off+2,none⟩=some c2∧W.cell? ⟨b,off+3,none⟩=some c3∧W.cell? ⟨b,off+4,none⟩=some c4∧W.cell? ⟨b,off+5,none⟩=some c5∧W.cell? ⟨b,off+6,none⟩=some c6∧RdI W x (.agg #[c0,c1,c2,c3,c4,c5,c6]))∧RdIL W xs b (off+7)
structure KidI (W:World) (x:Ex) (b off:Nat) (c0 c1 c2 c3 c4 c5 c6:Value):Prop where
 g0:W.cell? ⟨b,off,none⟩=some c0
 g1:W.cell? ⟨b,off+1,none⟩=some c1
 g2:W.cell? ⟨b,off+2,none⟩=some c2
 g3:W.cell? ⟨b,off+3,none⟩=some c3
 g4:W.cell? ⟨b,off+4,none⟩=some c4
 g5:W.cell? ⟨b,off+5,none⟩=some c5
 g6:W.cell? ⟨b,off+6,none⟩=some c6
 rd:RdI W x (.agg #[c0,c1,c2,c3,c4,c5,c6])
theorem RdI.RdIL.kid{W:World}:∀ {ks:List Ex} {b off:Nat},RdI.RdIL W ks b off→∀ i (h:i<ks.length),∃ c0 c1 c2 c3 c4 c5 c6,KidI W ks[i] b (off+i*7) c0 c1 c2 c3 c4 c5 c6
 |[],_,_,_,i,h=>absurd h (by simp)
 |x::xs,b,off,hr,i,h=>by
  unfold RdI.RdIL at hr
  obtain ⟨⟨c0,c1,c2,c3,c4,c5,c6,g0,g1,g2,g3,g4,g5,g6,hx⟩,hr⟩:=hr;cases i with
  |zero=>exact ⟨c0,c1,c2,c3,c4,c5,c6,by simpa using g0,by simpa using g1,by simpa using g2,by simpa using g3,by simpa using g4,by simpa using g5,by simpa using g6,hx⟩
  |succ i=>
   obtain ⟨c0,c1,c2,c3,c4,c5,c6,hk⟩:=RdI.RdIL.kid hr i (by simpa using h)
   rw [show off+7+i*7=off+(i+1)*7 by omega]at hk
   exact ⟨c0,c1,c2,c3,c4,c5,c6,hk⟩
theorem RdI.shape{W:World}{x:Ex}{v:Value}(h:RdI W x v):∃ k n t b e a1 l1 c1 a2 l2 c2,v=.agg #[.int .i64 k,.int .i64 n,.string t,.bool b,.int .i64 e,.slice a1 l1 c1,.slice a2 l2 c2]:=by
 cases x with
 |mk k n t b e rs ks=>
  unfold RdI at h
  obtain ⟨rv,kv,hv,hr,ao,cap,hk,_⟩:=h;obtain ⟨a1,c1,hr,_⟩:=hr;subst hr hk
  exact ⟨_,_,_,_,_,_,_,_,_,_,_,hv⟩
def cutE:Ex→Nat→Nat→Ex × Nat
 |.mk k n t b e rs ks,d,l=>(.mk k n (t.take 250) b e (rs.take 4) (cutL ks d (l-1)).1,(cutL ks d (l-1)).2)
 where
 cutL:List Ex→Nat→Nat→List Ex × Nat
 |[],_,l=>([],l)
 |x::xs,d,l=>if 0<l∧d<60 then ((cutE x (d+1) l).1::(cutL xs d (cutE x (d+1) l).2).1,(cutL xs d (cutE x (d+1) l).2).2) else ([],l)
theorem cut_nodes:∀ (x:Ex) (d l:Nat),0<l→nodes (cutE x d l).1+(cutE x d l).2=l
 |.mk k n t b e rs ks,d,l,h=>by
  rw [cutE,nodes];have:=go ks d (l-1)
  simp only
  omega
 where
 go:∀ (ks:List Ex) (d l:Nat),nodes.nodesL (cutE.cutL ks d l).1+(cutE.cutL ks d l).2=l
 |[],d,l=>by rw [cutE.cutL];simp [nodes.nodesL]
 |x::xs,d,l=>by
  rw [cutE.cutL]
  split
  ·rename_i h
   have h1:=cut_nodes x (d+1) l h.1;have h2:=go xs d (cutE x (d+1) l).2;simp only [nodes.nodesL]
   omega
  ·simp [nodes.nodesL]
def Shs(B:Nat):Ex→Prop
 |.mk _ _ _ _ _ rs ks=>(∀ r∈rs,r.1.length≤B)∧ShsL B ks
 where
 ShsL (B:Nat):List Ex→Prop
 |[]=>True
 |x::xs=>Shs B x∧ShsL B xs
def rm:Ex→Nat→Bool
 |.mk k n t b e rs ks,d=>decide (d≤50)&&(mayN (.mk k n t b e rs ks)&&rmL ks (d+1))
 where
 rmL:List Ex→Nat→Bool
 |[],_=>true
 |x::xs,d=>rm x d&&rmL xs d
theorem rmL_all(ks:List Ex)(d:Nat):rm.rmL ks d=ks.all (fun x=>rm x d):=by
 induction ks with
 |nil=>rfl
 |cons x xs ih=>rw [rm.rmL,ih];rfl
theorem rm_shl:∀ (x:Ex) (d m:Nat),d+m=51→rm x d=(shl m x&&mall mayN x)
 |.mk k n t b e rs ks,d,m,h=>by
  rw [rm,mall];cases m with
  |zero=>
   rw [decide_eq_false (by omega),Bool.false_and]
   rfl
  |succ m=>
   rw [decide_eq_true (by omega),Bool.true_and,go ks (d+1) m (by omega)]
   show _=(ks.all (shl m)&&_)
   cases mayN (.mk k n t b e rs ks) <;> cases ks.all (shl m) <;> simp
 where
 go:∀ (ks:List Ex) (d m:Nat),d+m=51→rm.rmL ks d=(ks.all (shl m)&&mall.mallL mayN ks)
 |[],_,_,_=>by rw [rm.rmL,mall.mallL];rfl
 |x::xs,d,m,h=>by
  rw [rm.rmL,rm_shl x d m h,go xs d m h,mall.mallL,List.all_cons];cases shl m x <;> cases mall mayN x <;> cases xs.all (shl m) <;> simp
theorem cnt_nodes:∀ (x:Ex) (n:Nat),n≤200→min (cnt x n) 201=min (n+nodes x) 201
 |.mk k m t b e rs ks,n,h=>by
  rw [cnt,nodes,go ks (n+1) (by omega)]
  congr 1
  omega
 where
 go:∀ (ks:List Ex) (n:Nat),n≤201→min (cnt.cntL ks n) 201=min (n+nodes.nodesL ks) 201
 |[],n,_=>by rw [cnt.cntL,nodes.nodesL,Nat.add_zero]
 |x::xs,n,h=>by
  rw [cnt.cntL,nodes.nodesL]
  split
  ·rename_i h'
   have h1:=cnt_nodes x n h';have h2:=cnt_le x n h';rw [go xs (cnt x n) h2];omega
  ·omega
end Go.Proofs.YtoikodohcieipaaGreatDoor
namespace Go.Proofs.YtoikodohcieipaaGreatDoor
open Go.ChangeShapes Go.WideShapes Go.ChangeAt Go.RowKit
theorem cells59:Tryz.prog.cellsOf 40=5:=by kernel_rfl
theorem cells28':Tryz.prog.cellsOf 26=7:=by kernel_rfl
theorem one_of{v u:Value}(h:[v]=[u]):v=u:=(List.cons.inj h).1
theorem bulk_mem{H:Type}{d:DataW H}:∀ {l:List (DataW H)},d∈l→Rows.uptoBulk d≤Rows.uptoBulkAll l
 |[],h=>absurd h (by simp)
 |x::xs,h=>by
  rw [Rows.uptoBulkAll]
  rcases List.mem_cons.1 h with rfl|h
  ·omega
  ·have:=bulk_mem h
   omega
theorem bulk_agg{H:Type}{d:DataW H}{l:List (DataW H)}(h:d∈l):Rows.uptoBulk d≤Rows.uptoBulk (.agg l):=by
 rw [Rows.uptoBulk];have:=bulk_mem h
 omega
theorem bulk_elem{H:Type}{d:DataW H}{l r:List (DataW H)}(h:d∈l):Rows.uptoBulk d≤Rows.uptoBulk (.slice l r):=by
 rw [Rows.uptoBulk];have:=bulk_mem h
 omega
theorem shs_mono{B C:Nat}(hBC:B≤C):∀ (x:Ex),Shs B x→Shs C x
 |.mk k n t b e rs ks,h=>by
  rw [Shs]at h ⊢;exact ⟨fun r hr=>Nat.le_trans (h.1 r hr) hBC,go hBC ks h.2⟩
 where
 go {B C:Nat} (hBC:B≤C):∀ (ks:List Ex),Shs.ShsL B ks→Shs.ShsL C ks
 |[],_=>by rw [Shs.ShsL];trivial
 |x::xs,h=>by
  rw [Shs.ShsL]at h ⊢;exact ⟨shs_mono hBC x h.1,go hBC xs h.2⟩
theorem shsl_of{B:Nat}:∀ (ks:List Ex),(∀ i (h:i<ks.length),Shs B ks[i])→Shs.ShsL B ks
 |[],_=>by rw [Shs.ShsL];trivial
 |x::xs,h=>by
  rw [Shs.ShsL];exact ⟨h 0 (by simp),shsl_of xs (fun i hi=>h (i+1) (by simpa using hi))⟩
theorem open_rf{H:Type}{enc:TypeId × Value→H}{W:World}{sp:Nat→Bool}{held:Bool}{fuel base:Nat}{cs:List Value}{x:DataW H × List MemPlace}
  (h:DataW.trod enc Tryz.prog W base sp held fuel 40 cs=some x):∃ y:Rf,cs=rf y∧y.1.length≤Rows.uptoBulk x.1:=by
 obtain ⟨xs,m,_,hx,hl,hlen,hf⟩:=DataW.trod_struct Tryz.underlying40 h;rw [cells59]at hl;have hlen':xs.length=5:=hlen
 match cs,hl with
 |[v0,v1,v2,v3,v4],_=>
  have g0:=hf 0 _ rfl;have g1:=hf 1 _ rfl;have g2:=hf 2 _ rfl;have g3:=hf 3 _ rfl;have g4:=hf 4 _ rfl
  match xs,hlen' with
  |[y0,y1,y2,y3,y4],_=>
   obtain ⟨t,e0,z0,_⟩:=DataW.trod_string Tryz.underlying9 g0;obtain ⟨k,e1,_,_⟩:=DataW.trod_int Tryz.underlying2 g1;obtain ⟨n,e2,_,_⟩:=DataW.trod_int Tryz.underlying2 g2;obtain ⟨b,e3,_⟩:=DataW.trod_bool Tryz.underlying4 g3;obtain ⟨c,e4,_⟩:=DataW.trod_bool Tryz.underlying4 g4;have hb:t.data.toList.length≤Rows.uptoBulk x.1:=by
    have h1:Rows.uptoBulk y0.1≤Rows.uptoBulk x.1:=by rw [hx];exact bulk_agg (by simp)
    rw [z0]at h1;simp only [Rows.uptoBulk]at h1
    omega
   refine ⟨(t.data.toList,k,n,b,c),?_,hb⟩
   have f0:v0=.string t:=one_of e0
   have f1:v1=.int .i64 k:=one_of e1
   have f2:v2=.int .i64 n:=one_of e2
   have f3:v3=.bool b:=one_of e3
   have f4:v4=.bool c:=one_of e4
   rw [f0,f1,f2,f3,f4]
   rfl
theorem list_of{α:Type}(P:Nat→α→Prop):∀ n,(∀ i,i<n→∃ x,P i x)→∃ l:List α,l.length=n∧∀ i (h:i<l.length),P i l[i]
 |0,_=>⟨[],rfl,fun i hi=>absurd hi (by simp)⟩
 |n+1,h=>by
  obtain ⟨l,hl,hp⟩:=list_of P n (fun i hi=>h i (by omega))
  obtain ⟨x,hx⟩:=h n (by omega)
  refine ⟨l++[x],by simp [hl],fun i hi=>?_⟩
  by_cases hin:i<l.length
  ·rw [List.getElem_append_left hin]
   exact hp i hin
  ·have hie:i=l.length:=by simp at hi;omega
   subst hie;simp
   rw [hl];exact hx
theorem add_plain(b o n:Nat):(⟨b,o,none⟩:Addr).add n=⟨b,o+n,none⟩:=by
 unfold Addr.add
 by_cases h:n=0
 ·subst h;simp
 ·simp [h]
theorem open_refs{H:Type}{enc:TypeId × Value→H}{W:World}{sp:Nat→Bool}{held:Bool}{fuel base:Nat}{v:Value}{z:DataW H × List MemPlace}
  (hf:DataW.trod enc Tryz.prog W base sp held fuel 23 [v]=some z):∃ L:List Rf,Sl rf 5 W v L∧∀ r∈L,r.1.length≤Rows.uptoBulk z.1:=by
 rcases DataW.trod_slice Tryz.underlying23 hf with ⟨hcs,_⟩|⟨x,l,c,elems,rest,m,_,hcs,hz,hb,hl,hm,hlen,hel,_,_⟩
 ·exact ⟨[],by rw [one_of hcs];exact sl_nil W,fun r hr=>absurd hr (by simp)⟩
 ·have hv:=one_of hcs
  subst hv;have hcell:∀ i,i<l→∃ y:Rf,(∀ j u,(rf y)[j]?=some u→W.cell? ((x.add (i*5)).add j)=some u)∧y.1.length≤Rows.uptoBulk z.1:=by
   intro i hi
   have hi':=hel i hi;rw [cells59,List.getElem?_eq_getElem (by omega),Option.bind_eq_some_iff]at hi'
   obtain ⟨cs,h1,h2⟩:=hi';obtain ⟨y,rfl,hy⟩:=open_rf h2;obtain ⟨_,_,h3⟩:=World.cells?_some h1;refine ⟨y,fun j u hu=>?_,Nat.le_trans hy (by rw [hz];exact bulk_elem (List.mem_map.2 ⟨_,List.getElem_mem _,rfl⟩))⟩
   have hj:j<5:=by rw [←rf_len y];exact (List.getElem?_eq_some_iff.1 hu).1
   rw [h3 j (by omega)]
   exact hu
  rcases Nat.eq_zero_or_pos l with rfl|hp
  ·exact ⟨[],⟨some x,c,rfl,Nat.zero_le _,hm,fun h=>absurd h (by simp)⟩,fun r hr=>absurd hr (by simp)⟩
  ·obtain ⟨b,off,spot⟩:=x
   obtain ⟨c0,hc0,_⟩:=hcell 0 hp;have hspot:spot=none:=by simpa [Addr.add] using World.cell?_spot (hc0 0 _ rfl)
   subst hspot;obtain ⟨L,hL,hP⟩:=list_of (fun i y=>Ats rf W b (off+i*5) y∧y.1.length≤Rows.uptoBulk z.1) l (fun i hi=>by
    obtain ⟨y,g,gb⟩:=hcell i hi;refine ⟨y,fun j u hu=>?_,gb⟩
    have:=g j u hu
    rw [add_plain,add_plain]at this;exact this)
   subst hL;refine ⟨L,⟨some ⟨b,off,none⟩,c,rfl,hl,hm,fun _=>⟨b,off,rfl,fun i hi=>(hP i hi).1⟩⟩,fun r hr=>?_⟩
   obtain ⟨i,hi,rfl⟩:=List.mem_iff_getElem.1 hr;exact (hP i hi).2
theorem rdil_of{W:World}:∀ (ks:List Ex) (b off:Nat),(∀ i (h:i<ks.length),∃ c0 c1 c2 c3 c4 c5 c6,KidI W ks[i] b (off+i*7) c0 c1 c2 c3 c4 c5 c6)→RdI.RdIL W ks b off
 |[],b,off,_=>by unfold RdI.RdIL;trivial
 |x::xs,b,off,h=>by
  unfold RdI.RdIL
  obtain ⟨c0,c1,c2,c3,c4,c5,c6,hk⟩:=h 0 (by simp)
  simp only [List.getElem_cons_zero,Nat.zero_mul,Nat.add_zero]at hk
  refine ⟨⟨c0,c1,c2,c3,c4,c5,c6,hk.g0,hk.g1,hk.g2,hk.g3,hk.g4,hk.g5,hk.g6,hk.rd⟩,rdil_of xs b (off+7) (fun i hi=>?_)⟩
  obtain ⟨d0,d1,d2,d3,d4,d5,d6,hd⟩:=h (i+1) (by simpa using hi)
  simp only [List.getElem_cons_succ]at hd
  rw [show off+(i+1)*7=off+7+i*7 by omega]at hd
  exact ⟨d0,d1,d2,d3,d4,d5,d6,hd⟩
end Go.Proofs.YtoikodohcieipaaGreatDoor
namespace Go.Proofs.YtoikodohcieipaaGreatDoor
open Go.RowKit
def Rn:Ex→Prop
 |.mk _ n _ _ _ _ ks=>n≤9223372036854775807∧RnL ks
 where
 RnL:List Ex→Prop
 |[]=>True
 |x::xs=>Rn x∧RnL xs
theorem rnL_of:∀ {ks:List Ex},(∀ y∈ks,Rn y)→Rn.RnL ks
 |[],_=>by rw [Rn.RnL];trivial
 |x::xs,h=>by rw [Rn.RnL];exact ⟨h x (by simp),rnL_of fun y hy=>h y (List.mem_cons_of_mem _ hy)⟩
end Go.Proofs.YtoikodohcieipaaGreatDoor
namespace Go.Proofs.YtoikodohcieipaaGreatDoor
open Go.ChangeShapes Go.WideShapes Go.ChangeAt Go.RowKit
theorem wf_le{n:Int}(h:(Lit.int .i64 n).wf=true):n≤9223372036854775807:=by
 unfold Lit.wf at h
 simp only [Bool.and_eq_true,decide_eq_true_eq]at h
 exact h.2
theorem open_exn{H:Type}{enc:TypeId × Value→H}{W:World}{sp:Nat→Bool}{held:Bool}{base:Nat}:∀ (fuel:Nat) (cs:List Value) (z:DataW H × List MemPlace),
  DataW.trod enc Tryz.prog W base sp held fuel 26 cs=some z→∃ x:Ex,RdI W x (.agg cs.toArray)∧Shs (Rows.uptoBulk z.1) x∧Rn x:=by
 intro fuel
 induction fuel using Nat.strongRecOn with
 |_ fuel ih=>
  intro cs z h
  obtain ⟨xs,m,hm0,hz,hl,hlen,hf⟩:=DataW.trod_struct Tryz.underlying26 h;rw [cells28']at hl;have hlen':xs.length=7:=hlen
  match cs,hl with
  |[v0,v1,v2,v3,v4,v5,v6],_=>
   have g0:=hf 0 _ rfl;have g1:=hf 1 _ rfl;have g2:=hf 2 _ rfl;have g3:=hf 3 _ rfl;have g4:=hf 4 _ rfl;have g5:=hf 5 _ rfl;have g6:=hf 6 _ rfl
   match xs,hlen' with
   |[y0,y1,y2,y3,y4,y5,y6],_=>
    obtain ⟨k,e0,_,_⟩:=DataW.trod_int Tryz.underlying3 g0;obtain ⟨n,e1,_,wn⟩:=DataW.trod_int Tryz.underlying22 g1;have hn:n≤9223372036854775807:=wf_le wn
    obtain ⟨t,e2,_,_⟩:=DataW.trod_string Tryz.underlying9 g2;obtain ⟨b,e3,_⟩:=DataW.trod_bool Tryz.underlying4 g3;obtain ⟨e,e4,_,_⟩:=DataW.trod_int Tryz.underlying3 g4;obtain ⟨rs,hrs,brs0⟩:=open_refs (v:=v5) g5;have brs:∀ r∈rs,r.1.length≤Rows.uptoBulk z.1:=fun r hr=>Nat.le_trans (brs0 r hr) (by rw [hz];exact bulk_agg (by simp))
    have b6:Rows.uptoBulk y6.1≤Rows.uptoBulk z.1:=by rw [hz];exact bulk_agg (by simp)
    have f0:v0=.int .i64 k:=one_of e0
    have f1:v1=.int .i64 n:=one_of e1
    have f2:v2=.string t:=one_of e2
    have f3:v3=.bool b:=one_of e3
    have f4:v4=.int .i64 e:=one_of e4
    subst f0 f1 f2 f3 f4;have et:(⟨t.data.toList.toArray⟩:ByteArray)=t:=by
     apply ByteArray.ext
     simp
    rcases DataW.trod_slice (cs:=[v6]) Tryz.underlying24 g6 with ⟨hcs,_⟩|⟨x,l,c,elems,rest,m2,hm2,hcs,hz6,hb,hle,hm,hlen2,hel,_,_⟩
    ·have hv:=one_of hcs
     subst hv;refine ⟨.mk k n t.data.toList b e rs [],?_,by rw [Shs,Shs.ShsL];exact ⟨brs,trivial⟩,by rw [Rn,Rn.RnL];exact ⟨hn,trivial⟩⟩
     unfold RdI
     exact ⟨v5,_,by rw [et];rfl,hrs,none,0,rfl,Nat.le_refl _,Nat.zero_le _,fun h=>absurd rfl h⟩
    ·have hv:=one_of hcs
     subst hv;have hcell:∀ i,i<l→∃ y:Ex,∃ c0 c1 c2 c3 c4 c5 c6,(∀ j u,([c0,c1,c2,c3,c4,c5,c6]:List Value)[j]?=some u→W.cell? ((x.add (i*7)).add j)=some u)∧RdI W y (.agg #[c0,c1,c2,c3,c4,c5,c6])∧Shs (Rows.uptoBulk z.1) y∧Rn y:=by
      intro i hi
      have hi':=hel i hi;rw [cells28',List.getElem?_eq_getElem (by omega),Option.bind_eq_some_iff]at hi'
      obtain ⟨cs,h1,h2⟩:=hi';obtain ⟨y,hy,hsy0,hny⟩:=ih m2 (by omega) cs _ h2
      have hsy:Shs (Rows.uptoBulk z.1) y:=shs_mono (Nat.le_trans (Nat.le_trans (bulk_elem (List.mem_map.2 ⟨_,List.getElem_mem _,rfl⟩)) (Nat.le_of_eq (by rw [hz6]))) b6) y hsy0
      obtain ⟨hc1,hc2,h3⟩:=World.cells?_some h1;have hcl:cs.length=7:=by
       obtain ⟨_,_,_,_,hl7,_,_⟩:=DataW.trod_struct Tryz.underlying26 h2;rw [hl7,cells28']
      match cs,hcl with
      |[c0,c1,c2,c3,c4,c5,c6],_=>
       refine ⟨y,c0,c1,c2,c3,c4,c5,c6,fun j u hu=>?_,hy,hsy,hny⟩
       have hj:j<7:=(List.getElem?_eq_some_iff.1 hu).1
       rw [h3 j (by omega)]
       exact hu
     rcases Nat.eq_zero_or_pos l with rfl|hp
     ·refine ⟨.mk k n t.data.toList b e rs [],?_,by rw [Shs,Shs.ShsL];exact ⟨brs,trivial⟩,by rw [Rn,Rn.RnL];exact ⟨hn,trivial⟩⟩
      unfold RdI
      exact ⟨v5,_,by rw [et];rfl,hrs,some x,c,rfl,Nat.zero_le _,hm,fun h=>absurd rfl h⟩
     ·obtain ⟨bb,off,spot⟩:=x
      obtain ⟨_,q0,q1,q2,q3,q4,q5,q6,hc0,_⟩:=hcell 0 hp;have hspot:spot=none:=by simpa [Addr.add] using World.cell?_spot (hc0 0 _ rfl)
      subst hspot;obtain ⟨L,hL,hP⟩:=list_of (fun i (y:Ex)=>(∃ c0 c1 c2 c3 c4 c5 c6,KidI W y bb (off+i*7) c0 c1 c2 c3 c4 c5 c6)∧Shs (Rows.uptoBulk z.1) y∧Rn y) l (fun i hi=>by
       obtain ⟨y,c0,c1,c2,c3,c4,c5,c6,g,hy,hsy,hny⟩:=hcell i hi;have gg:∀ j u,([c0,c1,c2,c3,c4,c5,c6]:List Value)[j]?=some u→W.cell? ⟨bb,off+i*7+j,none⟩=some u:=fun j u hu=>by
        have:=g j u hu
        rw [add_plain,add_plain]at this;exact this
       exact ⟨y,⟨c0,c1,c2,c3,c4,c5,c6,gg 0 _ rfl,gg 1 _ rfl,gg 2 _ rfl,gg 3 _ rfl,gg 4 _ rfl,gg 5 _ rfl,gg 6 _ rfl,hy⟩,hsy,hny⟩)
      subst hL;refine ⟨.mk k n t.data.toList b e rs L,?_,by rw [Shs];exact ⟨brs,shsl_of L (fun i hi=>(hP i hi).2.1)⟩,by rw [Rn];exact ⟨hn,rnL_of fun y hy=>by obtain ⟨i,hi,e⟩:=List.getElem_of_mem hy;rw [←e];exact (hP i hi).2.2⟩⟩
      unfold RdI
      exact ⟨v5,_,by rw [et],hrs,some ⟨bb,off,none⟩,c,rfl,hle,hm,fun _=>⟨bb,off,rfl,rdil_of L bb off (fun i hi=>(hP i hi).1)⟩⟩
end Go.Proofs.YtoikodohcieipaaGreatDoor
