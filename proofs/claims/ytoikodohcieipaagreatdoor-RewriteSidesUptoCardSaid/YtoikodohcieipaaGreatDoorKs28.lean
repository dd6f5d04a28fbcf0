/- Operations on lines, plainly: . -/
import Derived.Test.YtoikodohcieipaaGreatDoorKs17
import Derived.Test.YtoikodohcieipaaGreatDoorKs12
import Derived.Test.YtoikodohcieipaaGreatDoorKs09
import Derived.Test.YtoikodohcieipaaGreatDoorKs16
set_option linter.unusedVariables false
set_option linter.unusedSimpArgs false
set_option maxRecDepth 100000
set_option maxHeartbeats 8000000
namespace Go.Proofs.YtoikodohcieipaaGreatDoor.L.Ax
set_option linter.unusedVariables false
set_option linter.unusedSimpArgs false
set_option maxHeartbeats 4000000
theorem s11(a b i:Int)(ha:0≤a)(hb:0≤b)(hi:0≤i):two 1 a 0 1 b 0 i false=two 1 b 0 1 a 0 i true:=by
 unfold two trO trA trT idx gap lf;simp only [Int.reduceEq,reduceIte,if_true,if_false,Bool.not_true,Bool.not_false,and_true,and_false,or_false,true_and,false_and,not_false_eq_true,true_or,Bool.false_eq_true,reduceCtorEq,false_implies,forall_const,not_true_eq_false,imp_self,ne_eq];omega
theorem s12(a b i:Int)(ha:0≤a)(hb:0≤b)(hi:0≤i):two 1 a 0 2 b 0 i false=two 2 b 0 1 a 0 i true:=by
 unfold two trO trA trT idx gap lf;simp only [Int.reduceEq,reduceIte,if_true,if_false,Bool.not_true,Bool.not_false,and_true,and_false,or_false,true_and,false_and,not_false_eq_true,true_or,Bool.false_eq_true,reduceCtorEq,false_implies,forall_const,not_true_eq_false,imp_self,ne_eq];omega
theorem s21(a b i:Int)(ha:0≤a)(hb:0≤b)(hi:0≤i):two 2 a 0 1 b 0 i false=two 1 b 0 2 a 0 i true:=by
 unfold two trO trA trT idx gap lf;simp only [Int.reduceEq,reduceIte,if_true,if_false,Bool.not_true,Bool.not_false,and_true,and_false,or_false,true_and,false_and,not_false_eq_true,true_or,Bool.false_eq_true,reduceCtorEq,false_implies,forall_const,not_true_eq_false,imp_self,ne_eq];omega
theorem s22(a b i:Int)(ha:0≤a)(hb:0≤b)(hi:0≤i):two 2 a 0 2 b 0 i false=two 2 b 0 2 a 0 i true:=by
 unfold two trO trA trT idx gap lf;simp only [Int.reduceEq,reduceIte,if_true,if_false,Bool.not_true,Bool.not_false,and_true,and_false,or_false,true_and,false_and,not_false_eq_true,true_or,Bool.false_eq_true,reduceCtorEq,false_implies,forall_const,not_true_eq_false,imp_self,ne_eq];omega
theorem s13(a b t i:Int)(ha:0≤a)(hb:0≤b)(ht:0≤t)(h1:t≠b)(h2:t≠b+1)(hi:0≤i):two 1 a 0 3 b t i false=two 3 b t 1 a 0 i true:=by
 unfold two trO trA trT idx gap lf;simp only [Int.reduceEq,reduceIte,if_true,if_false,Bool.not_true,Bool.not_false,and_true,and_false,or_false,true_and,false_and,not_false_eq_true,true_or,Bool.false_eq_true,reduceCtorEq,false_implies,forall_const,not_true_eq_false,imp_self,ne_eq];omega
theorem s31(a b t i:Int)(ha:0≤a)(hb:0≤b)(ht:0≤t)(h1:t≠a)(h2:t≠a+1)(hi:0≤i):two 3 a t 1 b 0 i false=two 1 b 0 3 a t i true:=by
 unfold two trO trA trT idx gap lf;simp only [Int.reduceEq,reduceIte,if_true,if_false,Bool.not_true,Bool.not_false,and_true,and_false,or_false,true_and,false_and,not_false_eq_true,true_or,Bool.false_eq_true,reduceCtorEq,false_implies,forall_const,not_true_eq_false,imp_self,ne_eq];omega
theorem s23(a b t i:Int)(ha:0≤a)(hb:0≤b)(ht:0≤t)(h1:t≠b)(h2:t≠b+1)(hi:0≤i):two 2 a 0 3 b t i false=two 3 b t 2 a 0 i true:=by
 unfold two trO trA trT idx gap lf;simp only [Int.reduceEq,reduceIte,if_true,if_false,Bool.not_true,Bool.not_false,and_true,and_false,or_false,true_and,false_and,not_false_eq_true,true_or,Bool.false_eq_true,reduceCtorEq,false_implies,forall_const,not_true_eq_false,imp_self,ne_eq];omega
theorem s32(a b t i:Int)(ha:0≤a)(hb:0≤b)(ht:0≤t)(h1:t≠a)(h2:t≠a+1)(hi:0≤i):two 3 a t 2 b 0 i false=two 2 b 0 3 a t i true:=by
 unfold two trO trA trT idx gap lf;simp only [Int.reduceEq,reduceIte,if_true,if_false,Bool.not_true,Bool.not_false,and_true,and_false,or_false,true_and,false_and,not_false_eq_true,true_or,Bool.false_eq_true,reduceCtorEq,false_implies,forall_const,not_true_eq_false,imp_self,ne_eq];omega
theorem s33(a s b t i:Int)(ha:0≤a)(hs:0≤s)(hb:0≤b)(ht:0≤t)(h1:t≠b)(h2:t≠b+1)(h3:s≠a)(h4:s≠a+1)(hi:0≤i):two 3 a s 3 b t i false=two 3 b t 3 a s i true:=by
 have hx:a<b∨a=b∨b<a:=by omega
 have hy:s<a∨a+1<s:=by omega
 have hz:t<b∨b+1<t:=by omega
 have hu:i<a∨i=a∨a<i:=by omega
 rcases hx with c1|c1|c1 <;> rcases hy with c2|c2 <;> rcases hz with c3|c3 <;> rcases hu with c4|c4|c4
 ·exact q0 a s b t i ha hs hb ht h1 h2 h3 h4 hi c1 c2 c3 c4
 ·exact q1 a s b t i ha hs hb ht h1 h2 h3 h4 hi c1 c2 c3 c4
 ·exact q2 a s b t i ha hs hb ht h1 h2 h3 h4 hi c1 c2 c3 c4
 ·exact q3 a s b t i ha hs hb ht h1 h2 h3 h4 hi c1 c2 c3 c4
 ·exact q4 a s b t i ha hs hb ht h1 h2 h3 h4 hi c1 c2 c3 c4
 ·exact q5 a s b t i ha hs hb ht h1 h2 h3 h4 hi c1 c2 c3 c4
 ·exact q6 a s b t i ha hs hb ht h1 h2 h3 h4 hi c1 c2 c3 c4
 ·exact q7 a s b t i ha hs hb ht h1 h2 h3 h4 hi c1 c2 c3 c4
 ·exact q8 a s b t i ha hs hb ht h1 h2 h3 h4 hi c1 c2 c3 c4
 ·exact q9 a s b t i ha hs hb ht h1 h2 h3 h4 hi c1 c2 c3 c4
 ·exact q10 a s b t i ha hs hb ht h1 h2 h3 h4 hi c1 c2 c3 c4
 ·exact q11 a s b t i ha hs hb ht h1 h2 h3 h4 hi c1 c2 c3 c4
 ·exact q12 a s b t i ha hs hb ht h1 h2 h3 h4 hi c1 c2 c3 c4
 ·exact q13 a s b t i ha hs hb ht h1 h2 h3 h4 hi c1 c2 c3 c4
 ·exact q14 a s b t i ha hs hb ht h1 h2 h3 h4 hi c1 c2 c3 c4
 ·exact q15 a s b t i ha hs hb ht h1 h2 h3 h4 hi c1 c2 c3 c4
 ·exact q16 a s b t i ha hs hb ht h1 h2 h3 h4 hi c1 c2 c3 c4
 ·exact q17 a s b t i ha hs hb ht h1 h2 h3 h4 hi c1 c2 c3 c4
 ·exact q18 a s b t i ha hs hb ht h1 h2 h3 h4 hi c1 c2 c3 c4
 ·exact q19 a s b t i ha hs hb ht h1 h2 h3 h4 hi c1 c2 c3 c4
 ·exact q20 a s b t i ha hs hb ht h1 h2 h3 h4 hi c1 c2 c3 c4
 ·exact q21 a s b t i ha hs hb ht h1 h2 h3 h4 hi c1 c2 c3 c4
 ·exact q22 a s b t i ha hs hb ht h1 h2 h3 h4 hi c1 c2 c3 c4
 ·exact q23 a s b t i ha hs hb ht h1 h2 h3 h4 hi c1 c2 c3 c4
 ·exact q24 a s b t i ha hs hb ht h1 h2 h3 h4 hi c1 c2 c3 c4
 ·exact q25 a s b t i ha hs hb ht h1 h2 h3 h4 hi c1 c2 c3 c4
 ·exact q26 a s b t i ha hs hb ht h1 h2 h3 h4 hi c1 c2 c3 c4
 ·exact q27 a s b t i ha hs hb ht h1 h2 h3 h4 hi c1 c2 c3 c4
 ·exact q28 a s b t i ha hs hb ht h1 h2 h3 h4 hi c1 c2 c3 c4
 ·exact q29 a s b t i ha hs hb ht h1 h2 h3 h4 hi c1 c2 c3 c4
 ·exact q30 a s b t i ha hs hb ht h1 h2 h3 h4 hi c1 c2 c3 c4
 ·exact q31 a s b t i ha hs hb ht h1 h2 h3 h4 hi c1 c2 c3 c4
 ·exact q32 a s b t i ha hs hb ht h1 h2 h3 h4 hi c1 c2 c3 c4
 ·exact q33 a s b t i ha hs hb ht h1 h2 h3 h4 hi c1 c2 c3 c4
 ·exact q34 a s b t i ha hs hb ht h1 h2 h3 h4 hi c1 c2 c3 c4
 ·exact q35 a s b t i ha hs hb ht h1 h2 h3 h4 hi c1 c2 c3 c4
/- lists of operations -/
structure Ln where
 k:Int
 a:Int
 t:Int
def tr(x y:Ln)(pr:Bool):Option Ln:=if trO x.k x.a x.t y.k y.a y.t pr then some ⟨x.k,trA x.k x.a x.t y.k y.a y.t pr,trT x.k x.a x.t y.k y.a y.t pr⟩ else none
theorem sides(ka aa ta kb ab tb i:Int)(ha:0≤aa)(hta:0≤ta)(h:ok ka aa ta)(hb:0≤ab)(htb:0≤tb)(h':ok kb ab tb)(hi:0≤i):two ka aa ta kb ab tb i false=two kb ab tb ka aa ta i true:=by
 rcases h with ⟨rfl,rfl⟩|⟨rfl,rfl⟩|⟨rfl,g1,g2⟩ <;> rcases h' with ⟨rfl,rfl⟩|⟨rfl,rfl⟩|⟨rfl,g3,g4⟩
 ·exact s11 aa ab i ha hb hi
 ·exact s12 aa ab i ha hb hi
 ·exact s13 aa ab tb i ha hb htb g3 g4 hi
 ·exact s21 aa ab i ha hb hi
 ·exact s22 aa ab i ha hb hi
 ·exact s23 aa ab tb i ha hb htb g3 g4 hi
 ·exact s31 aa ab ta i ha hb hta g1 g2 hi
 ·exact s32 aa ab ta i ha hb hta g1 g2 hi
 ·exact s33 aa ta ab tb i ha hta hb htb g3 g4 g1 g2 hi
def pass:Ln→List Ln→Option Ln × List Ln
 |x,[]=>(some x,[])
 |x,y::r=>match tr x y true with
  |none=>(none,(tr y x false).toList++r)
  |some z=>((pass z r).1,(tr y x false).toList++(pass z r).2)
def lists:List Ln→List Ln→List Ln × List Ln
 |[],r=>([],r)
 |x::l,r=>((pass x r).1.toList++(lists l (pass x r).2).1,(lists l (pass x r).2).2)
end Go.Proofs.YtoikodohcieipaaGreatDoor.L.Ax
