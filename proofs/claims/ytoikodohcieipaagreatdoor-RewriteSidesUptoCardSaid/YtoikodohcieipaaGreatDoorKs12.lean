/- Two moves side by side, some o. -/
import Derived.Test.YtoikodohcieipaaGreatDoorKs00
set_option linter.unusedVariables false
set_option linter.unusedSimpArgs false
set_option maxRecDepth 100000
set_option maxHeartbeats 8000000
namespace Go.Proofs.YtoikodohcieipaaGreatDoor.L.Ax
set_option linter.unusedVariables false
set_option linter.unusedSimpArgs false
set_option maxHeartbeats 4000000
theorem q1(a s b t i:Int)(ha:0≤a)(hs:0≤s)(hb:0≤b)(ht:0≤t)(h1:t≠b)(h2:t≠b+1)(h3:s≠a)(h4:s≠a+1)(hi:0≤i)(c1:a<b)(c2:s<a)(c3:t<b)(c4:i=a):two 3 a s 3 b t i false=two 3 b t 3 a s i true:=by
 have d0:(a<b)=True:=eq_true (by omega)
 have d1:(b<a)=False:=eq_false (by omega)
 have d2:(b=a)=False:=eq_false (by omega)
 have d3:(a=b)=False:=eq_false (by omega)
 have d4:(a<s)=False:=eq_false (by omega)
 have d5:(b<t)=False:=eq_false (by omega)
 have d6:(a<i)=False:=eq_false (by omega)
 have d7:(i=a)=True:=eq_true (by omega)
 unfold two trO trA trT idx gap lf;simp only [Int.reduceEq,reduceIte,if_true,if_false,Bool.not_true,Bool.not_false,and_true,and_false,or_false,true_and,false_and,not_false_eq_true,true_or,Bool.false_eq_true,reduceCtorEq,false_implies,forall_const,not_true_eq_false,imp_self,ne_eq,d0,d1,d2,d3,d4,d5,d6,d7];omega
theorem q5(a s b t i:Int)(ha:0≤a)(hs:0≤s)(hb:0≤b)(ht:0≤t)(h1:t≠b)(h2:t≠b+1)(h3:s≠a)(h4:s≠a+1)(hi:0≤i)(c1:a<b)(c2:s<a)(c3:b+1<t)(c4:a<i):two 3 a s 3 b t i false=two 3 b t 3 a s i true:=by
 have d0:(a<b)=True:=eq_true (by omega)
 have d1:(b<a)=False:=eq_false (by omega)
 have d2:(b=a)=False:=eq_false (by omega)
 have d3:(a=b)=False:=eq_false (by omega)
 have d4:(a<s)=False:=eq_false (by omega)
 have d5:(b<t)=True:=eq_true (by omega)
 have d6:(a<i)=True:=eq_true (by omega)
 have d7:(i=a)=False:=eq_false (by omega)
 unfold two trO trA trT idx gap lf;simp only [Int.reduceEq,reduceIte,if_true,if_false,Bool.not_true,Bool.not_false,and_true,and_false,or_false,true_and,false_and,not_false_eq_true,true_or,Bool.false_eq_true,reduceCtorEq,false_implies,forall_const,not_true_eq_false,imp_self,ne_eq,d0,d1,d2,d3,d4,d5,d6,d7];omega
theorem q9(a s b t i:Int)(ha:0≤a)(hs:0≤s)(hb:0≤b)(ht:0≤t)(h1:t≠b)(h2:t≠b+1)(h3:s≠a)(h4:s≠a+1)(hi:0≤i)(c1:a<b)(c2:a+1<s)(c3:b+1<t)(c4:i<a):two 3 a s 3 b t i false=two 3 b t 3 a s i true:=by
 have d0:(a<b)=True:=eq_true (by omega)
 have d1:(b<a)=False:=eq_false (by omega)
 have d2:(b=a)=False:=eq_false (by omega)
 have d3:(a=b)=False:=eq_false (by omega)
 have d4:(a<s)=True:=eq_true (by omega)
 have d5:(b<t)=True:=eq_true (by omega)
 have d6:(a<i)=False:=eq_false (by omega)
 have d7:(i=a)=False:=eq_false (by omega)
 unfold two trO trA trT idx gap lf;simp only [Int.reduceEq,reduceIte,if_true,if_false,Bool.not_true,Bool.not_false,and_true,and_false,or_false,true_and,false_and,not_false_eq_true,true_or,Bool.false_eq_true,reduceCtorEq,false_implies,forall_const,not_true_eq_false,imp_self,ne_eq,d0,d1,d2,d3,d4,d5,d6,d7];omega
theorem q13(a s b t i:Int)(ha:0≤a)(hs:0≤s)(hb:0≤b)(ht:0≤t)(h1:t≠b)(h2:t≠b+1)(h3:s≠a)(h4:s≠a+1)(hi:0≤i)(c1:a=b)(c2:s<a)(c3:t<b)(c4:i=a):two 3 a s 3 b t i false=two 3 b t 3 a s i true:=by
 unfold two trO trA trT idx gap lf;simp only [Int.reduceEq,reduceIte,if_true,if_false,Bool.not_true,Bool.not_false,and_true,and_false,or_false,true_and,false_and,not_false_eq_true,true_or,Bool.false_eq_true,reduceCtorEq,false_implies,forall_const,not_true_eq_false,imp_self,ne_eq];omega
theorem q17(a s b t i:Int)(ha:0≤a)(hs:0≤s)(hb:0≤b)(ht:0≤t)(h1:t≠b)(h2:t≠b+1)(h3:s≠a)(h4:s≠a+1)(hi:0≤i)(c1:a=b)(c2:s<a)(c3:b+1<t)(c4:a<i):two 3 a s 3 b t i false=two 3 b t 3 a s i true:=by
 unfold two trO trA trT idx gap lf;simp only [Int.reduceEq,reduceIte,if_true,if_false,Bool.not_true,Bool.not_false,and_true,and_false,or_false,true_and,false_and,not_false_eq_true,true_or,Bool.false_eq_true,reduceCtorEq,false_implies,forall_const,not_true_eq_false,imp_self,ne_eq];omega
theorem q21(a s b t i:Int)(ha:0≤a)(hs:0≤s)(hb:0≤b)(ht:0≤t)(h1:t≠b)(h2:t≠b+1)(h3:s≠a)(h4:s≠a+1)(hi:0≤i)(c1:a=b)(c2:a+1<s)(c3:b+1<t)(c4:i<a):two 3 a s 3 b t i false=two 3 b t 3 a s i true:=by
 unfold two trO trA trT idx gap lf;simp only [Int.reduceEq,reduceIte,if_true,if_false,Bool.not_true,Bool.not_false,and_true,and_false,or_false,true_and,false_and,not_false_eq_true,true_or,Bool.false_eq_true,reduceCtorEq,false_implies,forall_const,not_true_eq_false,imp_self,ne_eq];omega
theorem q25(a s b t i:Int)(ha:0≤a)(hs:0≤s)(hb:0≤b)(ht:0≤t)(h1:t≠b)(h2:t≠b+1)(h3:s≠a)(h4:s≠a+1)(hi:0≤i)(c1:b<a)(c2:s<a)(c3:t<b)(c4:i=a):two 3 a s 3 b t i false=two 3 b t 3 a s i true:=by
 have d0:(a<b)=False:=eq_false (by omega)
 have d1:(b<a)=True:=eq_true (by omega)
 have d2:(b=a)=False:=eq_false (by omega)
 have d3:(a=b)=False:=eq_false (by omega)
 have d4:(a<s)=False:=eq_false (by omega)
 have d5:(b<t)=False:=eq_false (by omega)
 have d6:(a<i)=False:=eq_false (by omega)
 have d7:(i=a)=True:=eq_true (by omega)
 unfold two trO trA trT idx gap lf;simp only [Int.reduceEq,reduceIte,if_true,if_false,Bool.not_true,Bool.not_false,and_true,and_false,or_false,true_and,false_and,not_false_eq_true,true_or,Bool.false_eq_true,reduceCtorEq,false_implies,forall_const,not_true_eq_false,imp_self,ne_eq,d0,d1,d2,d3,d4,d5,d6,d7];omega
theorem q29(a s b t i:Int)(ha:0≤a)(hs:0≤s)(hb:0≤b)(ht:0≤t)(h1:t≠b)(h2:t≠b+1)(h3:s≠a)(h4:s≠a+1)(hi:0≤i)(c1:b<a)(c2:s<a)(c3:b+1<t)(c4:a<i):two 3 a s 3 b t i false=two 3 b t 3 a s i true:=by
 have d0:(a<b)=False:=eq_false (by omega)
 have d1:(b<a)=True:=eq_true (by omega)
 have d2:(b=a)=False:=eq_false (by omega)
 have d3:(a=b)=False:=eq_false (by omega)
 have d4:(a<s)=False:=eq_false (by omega)
 have d5:(b<t)=True:=eq_true (by omega)
 have d6:(a<i)=True:=eq_true (by omega)
 have d7:(i=a)=False:=eq_false (by omega)
 unfold two trO trA trT idx gap lf;simp only [Int.reduceEq,reduceIte,if_true,if_false,Bool.not_true,Bool.not_false,and_true,and_false,or_false,true_and,false_and,not_false_eq_true,true_or,Bool.false_eq_true,reduceCtorEq,false_implies,forall_const,not_true_eq_false,imp_self,ne_eq,d0,d1,d2,d3,d4,d5,d6,d7];omega
theorem q33(a s b t i:Int)(ha:0≤a)(hs:0≤s)(hb:0≤b)(ht:0≤t)(h1:t≠b)(h2:t≠b+1)(h3:s≠a)(h4:s≠a+1)(hi:0≤i)(c1:b<a)(c2:a+1<s)(c3:b+1<t)(c4:i<a):two 3 a s 3 b t i false=two 3 b t 3 a s i true:=by
 have d0:(a<b)=False:=eq_false (by omega)
 have d1:(b<a)=True:=eq_true (by omega)
 have d2:(b=a)=False:=eq_false (by omega)
 have d3:(a=b)=False:=eq_false (by omega)
 have d4:(a<s)=True:=eq_true (by omega)
 have d5:(b<t)=True:=eq_true (by omega)
 have d6:(a<i)=False:=eq_false (by omega)
 have d7:(i=a)=False:=eq_false (by omega)
 unfold two trO trA trT idx gap lf;simp only [Int.reduceEq,reduceIte,if_true,if_false,Bool.not_true,Bool.not_false,and_true,and_false,or_false,true_and,false_and,not_false_eq_true,true_or,Bool.false_eq_true,reduceCtorEq,false_implies,forall_const,not_true_eq_false,imp_self,ne_eq,d0,d1,d2,d3,d4,d5,d6,d7];omega
end Go.Proofs.YtoikodohcieipaaGreatDoor.L.Ax
