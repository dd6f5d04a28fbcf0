/- An operation on lines, opened. -/
import Derived.Test.YtoikodohcieipaaGreatDoorKs32
import Derived.ChangeOld
set_option linter.unusedVariables false
set_option linter.unusedSimpArgs false
set_option maxRecDepth 100000
set_option maxHeartbeats 8000000
namespace Go.Proofs.YtoikodohcieipaaGreatDoor
open Go.ChangeShapes Go.WideShapes Go.ChangeAt Go.RowKit
theorem cells28r:Tryz.prog.cellsOf 28=3:=by kernel_rfl
theorem open_cells{H:Type}{enc:TypeId × Value→H}{W:World}{sp:Nat→Bool}{held:Bool}{fuel base:Nat}{cs:List Value}{x:DataW H × List MemPlace}
  (h:DataW.trod enc Tryz.prog W base sp held fuel 28 cs=some x) :
  ∃ (k a t:Int),cs=[.int .i64 k,.int .i64 a,.int .i64 t]∧(Lit.int .i64 k).wf=true∧(Lit.int .i64 a).wf=true∧(Lit.int .i64 t).wf=true:=by
 obtain ⟨xs,m,_,_,hl,hlen,hf⟩:=DataW.trod_struct Tryz.underlying28 h;rw [cells28r]at hl;have hlen':xs.length=3:=hlen
 match cs,hl with
 |[v0,v1,v2],_=>
  have g0:=hf 0 _ rfl;have g1:=hf 1 _ rfl;have g2:=hf 2 _ rfl
  match xs,hlen' with
  |[y0,y1,y2],_=>
   obtain ⟨k,e0,_,wk⟩:=DataW.trod_int Tryz.underlying3 g0;obtain ⟨a,e1,_,wa⟩:=DataW.trod_int Tryz.underlying2 g1;obtain ⟨t,e2,_,wt⟩:=DataW.trod_int Tryz.underlying2 g2;refine ⟨k,a,t,?_,wk,wa,wt⟩
   have f0:v0=.int .i64 k:=by
    have:[v0]=[.int .i64 k]:=e0
    exact (List.cons.inj this).1
   have f1:v1=.int .i64 a:=by
    have:[v1]=[.int .i64 a]:=e1
    exact (List.cons.inj this).1
   have f2:v2=.int .i64 t:=by
    have:[v2]=[.int .i64 t]:=e2
    exact (List.cons.inj this).1
   rw [f0,f1,f2]
theorem open_line{H:Type}{enc:TypeId × Value→H}{W:World}{sp:Nat→Bool}{held:Bool}{base base':Nat}{v:Value}{d:DataW H}{p:List MemPlace}{r:Reach}
  (hv:Value.okWide Tryz.prog W r base' 28 v) (h:DataW.Trod enc Tryz.prog W base sp held 28 v d p) :
  ∃ (k a t:Int),v=.agg #[.int .i64 k,.int .i64 a,.int .i64 t]∧(Lit.int .i64 k).wf=true∧(Lit.int .i64 a).wf=true∧(Lit.int .i64 t).wf=true:=by
 obtain ⟨cs,rfl,hsz⟩:=okWide_struct Tryz.underlying28 hv;obtain ⟨fuel,hf⟩:=h;have hf':DataW.trod enc Tryz.prog W base sp held fuel 28 cs.toList=some (d,p):=hf
 obtain ⟨k,a,t,hcs,w1,w2,w3⟩:=open_cells hf';refine ⟨k,a,t,?_,w1,w2,w3⟩
 congr 1
 exact Array.ext' hcs
end Go.Proofs.YtoikodohcieipaaGreatDoor
