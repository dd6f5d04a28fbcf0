/- The law counterpanelaw9.RewriteLines returns true for every tree, two texts, bool and operation on lines that are read as data, of bulk at most 1048576 (the second form's condition): references go where their cells go, or are lost, and everything else stays; no condition beyond the given row's own. -/
import Derived.Test.YtoikodohcieipaaGreatDoorKl32
import Derived.Test.YtoikodohcieipaaGreatDoorKl45
import Derived.Test.YtoikodohcieipaaGreatDoorKl18
import Derived.ChangeOld
set_option linter.unusedVariables false
set_option linter.unusedSimpArgs false
set_option maxRecDepth 100000
set_option maxHeartbeats 8000000
namespace Go.Proofs.YtoikodohcieipaaGreatDoor
namespace rewriteLines
open Go.ChangeShapes Go.WideShapes Go.ChangeAt Go.RowKit
theorem laidOut:laidOutB Tryz.prog=true:=by kernel_rfl
theorem open_tree{H:Type}{enc:TypeId × Value→H}{W:World}{sp:Nat→Bool}{held:Bool}{base base':Nat}{v:Value}{d:DataW H}{p:List MemPlace}{r:Reach}
  (hv:Value.okWide Tryz.prog W r base' 26 v) (h:DataW.Trod enc Tryz.prog W base sp held 26 v d p):∃ x:Ex,RdI W x v∧Shs (Rows.uptoBulk d) x:=by
 obtain ⟨cs,rfl,hsz⟩:=okWide_struct Tryz.underlying26 hv;obtain ⟨fuel,hf⟩:=h;have hf':DataW.trod enc Tryz.prog W base sp held fuel 26 cs.toList=some (d,p):=hf
 obtain ⟨x,h1,h2,_⟩:=open_exn fuel _ _ hf';exact ⟨x,by simpa using h1,h2⟩
theorem contract(H:Type)(enc:TypeId × Value→H)(W:World)(base:Nat)(args:Array Value)(ds gs:List (DataW H))(before:List MemPlace)
  (hval:∀ (j:Nat) t v,Tryz.f3.params[j]?=some t→args[j]?=some v→Value.okWide Tryz.prog W .any base t v)
  (hW:DataW.Whole enc Tryz.prog Tryz.f3.params.toList Rows.rewriteLinesSpec.vars false W args.toList ds gs before) (hB:Rows.uptoSmall H (ds++gs)=true) (hS:Gd W) :
  Calls Tryz.prog 3 args W fun e W'=>∃ v,e=.returned v∧Rows.rewriteLinesSpec.post enc Tryz.prog Tryz.f3 false true false false W args v W':=by
 have hW':=hW;obtain ⟨p,q,hA0,hV,rfl,hfz,hnd⟩:=hW;have hA:DataW.TrodAll enc Tryz.prog W 0 (fun _=>true) true Tryz.f3.params.toList args.toList ds p:=hA0
 rw [Tryz.params3]at hA hval;obtain ⟨v0,vs0,d0,ds0,p0,q0,hargs,rfl,rfl,h0,r0⟩:=trodAll_cons hA;obtain ⟨v1,vs1,d1,ds1,p1,q1,rfl,rfl,rfl,h1,r1⟩:=trodAll_cons r0;obtain ⟨v2,vs2,d2,ds2,p2,q2,rfl,rfl,rfl,h2,r2⟩:=trodAll_cons r1;obtain ⟨v3,vs3,d3,ds3,p3,q3,rfl,rfl,rfl,h3,r3⟩:=trodAll_cons r2;obtain ⟨v4,vs4,d4,ds4,p4,q4,rfl,rfl,rfl,h4,r4⟩:=trodAll_cons r3;obtain ⟨rfl,rfl,rfl⟩:=trodAll_nil r4;obtain rfl:args=#[v0,v1,v2,v3,v4]:=Array.ext' hargs;obtain ⟨rfl,rfl⟩:=trodVars_none hV;have k0:=h0;have lt0:∀ x∈p0,x.block<W.heap.size:=by obtain ⟨m,hm⟩:=k0;exact DataW.trod_lt m _ _ _ hm
 have k1:=h1;have lt1:∀ x∈p1,x.block<W.heap.size:=by obtain ⟨m,hm⟩:=k1;exact DataW.trod_lt m _ _ _ hm
 have k2:=h2;have lt2:∀ x∈p2,x.block<W.heap.size:=by obtain ⟨m,hm⟩:=k2;exact DataW.trod_lt m _ _ _ hm
 have k3:=h3;have lt3:∀ x∈p3,x.block<W.heap.size:=by obtain ⟨m,hm⟩:=k3;exact DataW.trod_lt m _ _ _ hm
 have k4:=h4;have lt4:∀ x∈p4,x.block<W.heap.size:=by obtain ⟨m,hm⟩:=k4;exact DataW.trod_lt m _ _ _ hm
 have hb:=of_decide_eq_true hB;simp only [List.append_nil,Rows.uptoBulkAll]at hb
 obtain ⟨x0,ra0,sa0⟩:=open_tree (hval 0 26 v0 rfl rfl) h0;obtain ⟨s1,rfl⟩:=okWide_string Tryz.underlying9 (hval 1 9 v1 rfl rfl);obtain ⟨s2,rfl⟩:=okWide_string Tryz.underlying9 (hval 2 9 v2 rfl rfl);obtain ⟨b3,rfl⟩:=okWide_bool Tryz.underlying4 (hval 3 4 v3 rfl rfl);obtain ⟨la4,lb4,lc4,rfl,-,-,-⟩:=open_line (hval 4 28 v4 rfl rfl) h4;clear hA0;refine (lilaw_any x0 v0 s1 s2 b3 la4 lb4 lc4 W hS ra0 (cut_sm (by omega) x0 1 220 sa0) (cut_sn (by omega) x0 1 220 (by omega) sa0)).mono fun x W' ⟨he,bel⟩=>?_
 subst he
 exact ⟨_,rfl,_,_,_,[],_,[],hW',trodAll_mk1 (shut_bool Tryz.underlying4 _),
  (trodAll_cons_mk (Below.trod laidOut (by kernel_rfl) (of_decide_eq_true (by kernel_rfl)) k0 bel lt0) (trodAll_cons_mk (Below.trod laidOut (by kernel_rfl) (of_decide_eq_true (by kernel_rfl)) k1 bel lt1) (trodAll_cons_mk (Below.trod laidOut (by kernel_rfl) (of_decide_eq_true (by kernel_rfl)) k2 bel lt2) (trodAll_cons_mk (Below.trod laidOut (by kernel_rfl) (of_decide_eq_true (by kernel_rfl)) k3 bel lt3) (trodAll_cons_mk (Below.trod laidOut (by kernel_rfl) (of_decide_eq_true (by kernel_rfl)) k4 bel lt4) trodAll_mk0))))),rfl,Below.frame bel _,fun h=>by cases h⟩
def wit:Array Value:=#[.agg #[.int .i64 0,.int .i64 0,.string ⟨#[]⟩,.bool false,.int .i64 0,.slice none 0 0,.slice none 0 0],.string ⟨#[]⟩,.string ⟨#[]⟩,.bool false,.agg #[.int .i64 0,.int .i64 0,.int .i64 0]]
theorem lifted(os:Os)(started:os.Started)(H:Type)(enc:TypeId × Value→H)(F:Stop.Interp) :
  ReturnsInHanded {} Tryz.checked os 3 .any ((Rows.OpenSpec.upto Rows.rewriteLinesSpec).preRow enc Tryz.prog Tryz.f3 Rows.rewriteLinesUptoRow.domain false Rows.rewriteLinesUptoRow.laid) (((Rows.OpenSpec.upto Rows.rewriteLinesSpec).at F).post enc Tryz.prog Tryz.f3 false true false false):=by
 have hx:DataW.whole enc Tryz.prog ((lay (World.holding Tryz.prog os ⟨#[],#[],[]⟩)).forCall (fun _ _=>0) ⟨#[],wit,[]⟩).memory Tryz.f3.params.toList (Rows.OpenSpec.upto Rows.rewriteLinesSpec).vars false wit.toList 8=some ([.agg [.lit (.int .i64 0),.lit (.int .i64 0),.lit (.string []),.lit (.bool false),.lit (.int .i64 0),.nil,.nil],.lit (.string []),.lit (.string []),.lit (.bool false),.agg [.lit (.int .i64 0),.lit (.int .i64 0),.lit (.int .i64 0)]],[],[]):=by kernel_rfl
 refine returnsInHanded_of_row (C:=Tryz.checked) (s:=Rows.OpenSpec.upto Rows.rewriteLinesSpec) own started (by kernel_rfl) Tryz.func3
  (witness_row_at (enc:=enc) (C:=Tryz.checked) false (lay (World.holding Tryz.prog os ⟨#[],#[],[]⟩)) wit rfl (by kernel_rfl) (by kernel_rfl) (by kernel_rfl)
   (OpenSpec.preRow_of_cond 8 hx (by kernel_rfl) (fun k hk=>by obtain rfl:=Option.some.inj hk;kernel_rfl) (by kernel_rfl) (laid_met_rewriteLinesUpto os _))) ?_
 intro W base args ds gs before hval hW _ hk _ hL hsh _
 exact contract H enc W base args ds gs before hval hW (hk _ rfl) (gd_rewriteLinesUpto hL hsh)
theorem said:Rows.RewriteLinesUptoSaid:=
 OpenClaim.holds_of_cond 3 Tryz.f3 rfl rfl rfl rfl rfl rfl rfl ⟨rfl,rfl,rfl,rfl,rfl⟩ rfl rfl rfl rfl rfl (by kernel_rfl) Tryz.func3 (by kernel_rfl)
  (of_decide_eq_true (by kernel_rfl)) (by unfold Func.isWrapper;first|(rw [if_pos (by decide +kernel)];kernel_rfl)|(rw [if_neg (by decide +kernel)];exact ⟨rfl,rfl⟩))
  (fun os started H enc _ F=>by rw [OpenClaim.pre_eq_preRow];exact lifted os started H enc F)
theorem plain(f:FuncId)(fn:Func)(hf:Tryz.pinned.checked.prog.funcNamed "counterpane/counterpanelaw9.RewriteLines"=some f)(hfn:Tryz.pinned.checked.prog.funcs[f]?=some fn) :
  false=Tryz.pinned.checked.prog.looks []∧∀ (j:Nat) t,fn.params[j]?=some t→Tryz.pinned.checked.prog.wantsStandIn t=false:=by
 obtain rfl:f=3:=Option.some.inj ((show Tryz.prog.funcNamed "counterpane/counterpanelaw9.RewriteLines"=some 3 by kernel_rfl).symm.trans hf) |>.symm
 obtain rfl:fn=Tryz.f3:=(Option.some.inj (Tryz.func3.symm.trans hfn)).symm;refine ⟨by kernel_rfl,fun j t ht=>?_⟩
 rw [Tryz.params3]at ht;have h':=Array.mem_of_getElem? ht;simp only [List.mem_toArray,List.mem_cons,List.not_mem_nil,or_false]at h'
 rcases h' with rfl|rfl|rfl|rfl|rfl
 ·exact (show Tryz.prog.wantsStandIn 26=false by kernel_rfl)
 ·exact (show Tryz.prog.wantsStandIn 9=false by kernel_rfl)
 ·exact (show Tryz.prog.wantsStandIn 9=false by kernel_rfl)
 ·exact (show Tryz.prog.wantsStandIn 4=false by kernel_rfl)
 ·exact (show Tryz.prog.wantsStandIn 28=false by kernel_rfl)
end rewriteLines
theorem rewriteLines_card:Rows.RewriteLinesUptoCardSaid:=
 Claim7.holds_tied_plain_at .later [] _ _ _ _ rewriteLines.said (fun _ h=>by cases h) (by kernel_rfl) (fun _ h=>by cases h) rewriteLinesUpto_row_tie rfl ⟨rfl,rfl⟩ (by kernel_rfl) rfl rewriteLines.plain (by kernel_rfl)
end Go.Proofs.YtoikodohcieipaaGreatDoor
