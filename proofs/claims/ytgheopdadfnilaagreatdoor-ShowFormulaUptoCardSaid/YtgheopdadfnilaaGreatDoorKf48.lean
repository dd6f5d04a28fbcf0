/- The law counterpanelaw8.ShowFormula returns true for every api.Expr that is read as data, of bulk at most 1048576 (the second form's condition): cut to what a tree may be, it is printed as the document asks (as few brackets as there need be) and read again, or is no formula and not printed; no condition beyond the given row's own. -/
import Derived.Test.YtgheopdadfnilaaGreatDoorKf19
import Derived.Test.YtgheopdadfnilaaGreatDoorKf47
import Derived.ChangeOld
set_option linter.unusedVariables false
set_option linter.unusedSimpArgs false
set_option maxRecDepth 100000
set_option maxHeartbeats 8000000
namespace Go.Proofs.YtgheopdadfnilaaGreatDoor
namespace showFormula
open Go.ChangeShapes Go.WideShapes Go.ChangeAt Go.RowKit
theorem laidOut:laidOutB Tryz.prog=true:=by kernel_rfl
theorem open_tree{H:Type}{enc:TypeId × Value→H}{W:World}{sp:Nat→Bool}{held:Bool}{base base':Nat}{v:Value}{d:DataW H}{p:List MemPlace}{r:Reach}
  (hv:Value.okWide Tryz.prog W r base' 26 v) (h:DataW.Trod enc Tryz.prog W base sp held 26 v d p):∃ x:Ex,RdI W x v∧Shs (Rows.uptoBulk d) x∧Rn x:=by
 obtain ⟨cs,rfl,hsz⟩:=okWide_struct Tryz.underlying26 hv;obtain ⟨fuel,hf⟩:=h;have hf':DataW.trod enc Tryz.prog W base sp held fuel 26 cs.toList=some (d,p):=hf
 obtain ⟨x,h1,h2,h3⟩:=open_exn fuel _ _ hf';exact ⟨x,by simpa using h1,h2,h3⟩
theorem contract(H:Type)(enc:TypeId × Value→H)(W:World)(base:Nat)(args:Array Value)(ds gs:List (DataW H))(before:List MemPlace)
  (hval:∀ (j:Nat) t v,Tryz.f3.params[j]?=some t→args[j]?=some v→Value.okWide Tryz.prog W .any base t v)
  (hW:DataW.Whole enc Tryz.prog Tryz.f3.params.toList Rows.showFormulaSpec.vars false W args.toList ds gs before) (hB:Rows.uptoSmall H (ds++gs)=true) (hS:Gd W) :
  Calls Tryz.prog 3 args W fun e W'=>∃ v,e=.returned v∧Rows.showFormulaSpec.post enc Tryz.prog Tryz.f3 false true false false W args v W':=by
 have hW':=hW;obtain ⟨p,q,hA0,hV,rfl,hfz,hnd⟩:=hW;have hA:DataW.TrodAll enc Tryz.prog W 0 (fun _=>true) true Tryz.f3.params.toList args.toList ds p:=hA0
 rw [Tryz.params3]at hA hval;obtain ⟨v0,vs0,d0,ds0,p0,q0,hargs,rfl,rfl,h0,r0⟩:=trodAll_cons hA;obtain ⟨rfl,rfl,rfl⟩:=trodAll_nil r0;obtain rfl:args=#[v0]:=Array.ext' hargs;obtain ⟨rfl,rfl⟩:=trodVars_none hV;have k0:=h0;have lt0:∀ x∈p0,x.block<W.heap.size:=by obtain ⟨m,hm⟩:=k0;exact DataW.trod_lt m _ _ _ hm
 obtain ⟨xa,ra,sa,na⟩:=open_tree (hval 0 26 v0 rfl rfl) h0;have hb:=of_decide_eq_true hB;simp only [List.append_nil,Rows.uptoBulkAll]at hb
 clear hA0;refine (showformula_any xa v0 W hS ra (cut_sm (by omega) xa 1 220 sa) (cut_rn xa 1 220 na)).mono fun x W' ⟨he,bel⟩=>?_
 subst he
 exact ⟨_,rfl,_,_,_,[],_,[],hW',trodAll_mk1 (shut_bool Tryz.underlying4 _),
  trodAll_cons_mk (Below.trod laidOut (by kernel_rfl) (of_decide_eq_true (by kernel_rfl)) k0 bel lt0) (trodAll_mk0),rfl,Below.frame bel _,fun h=>by cases h⟩
theorem lifted(os:Os)(started:os.Started)(H:Type)(enc:TypeId × Value→H)(F:Stop.Interp) :
  ReturnsInHanded {} Tryz.checked os 3 .any ((Rows.OpenSpec.upto Rows.showFormulaSpec).preRow enc Tryz.prog Tryz.f3 Rows.showFormulaUptoRow.domain false Rows.showFormulaUptoRow.laid) (((Rows.OpenSpec.upto Rows.showFormulaSpec).at F).post enc Tryz.prog Tryz.f3 false true false false):=by
 have hx:DataW.whole enc Tryz.prog ((lay (World.holding Tryz.prog os ⟨#[],#[],[]⟩)).forCall (fun _ _=>0) ⟨#[],#[Value.agg #[.int .i64 0,.int .i64 0,.string ⟨#[]⟩,.bool false,.int .i64 0,.slice none 0 0,.slice none 0 0]],[]⟩).memory Tryz.f3.params.toList (Rows.OpenSpec.upto Rows.showFormulaSpec).vars false #[Value.agg #[.int .i64 0,.int .i64 0,.string ⟨#[]⟩,.bool false,.int .i64 0,.slice none 0 0,.slice none 0 0]].toList 8=some ([.agg [.lit (.int .i64 0),.lit (.int .i64 0),.lit (.string []),.lit (.bool false),.lit (.int .i64 0),.nil,.nil]],[],[]):=by kernel_rfl
 refine returnsInHanded_of_row (C:=Tryz.checked) (s:=Rows.OpenSpec.upto Rows.showFormulaSpec) own started (by kernel_rfl) Tryz.func3
  (witness_row_at (enc:=enc) (C:=Tryz.checked) false (lay (World.holding Tryz.prog os ⟨#[],#[],[]⟩)) #[Value.agg #[.int .i64 0,.int .i64 0,.string ⟨#[]⟩,.bool false,.int .i64 0,.slice none 0 0,.slice none 0 0]] rfl (by kernel_rfl) (by kernel_rfl) (by kernel_rfl)
   (OpenSpec.preRow_of_cond 8 hx (by kernel_rfl) (fun k hk=>by obtain rfl:=Option.some.inj hk;kernel_rfl) (by kernel_rfl) (laid_met_showFormulaUpto os _))) ?_
 intro W base args ds gs before hval hW _ hk _ hL hsh _
 exact contract H enc W base args ds gs before hval hW (hk _ rfl) (gd_showFormulaUpto hL hsh)
theorem said:Rows.ShowFormulaUptoSaid:=
 OpenClaim.holds_of_cond 3 Tryz.f3 rfl rfl rfl rfl rfl rfl rfl ⟨rfl,rfl,rfl,rfl,rfl⟩ rfl rfl rfl rfl rfl (by kernel_rfl) Tryz.func3 (by kernel_rfl)
  (of_decide_eq_true (by kernel_rfl)) (by unfold Func.isWrapper;first|(rw [if_pos (by decide +kernel)];kernel_rfl)|(rw [if_neg (by decide +kernel)];exact ⟨rfl,rfl⟩))
  (fun os started H enc _ F=>by rw [OpenClaim.pre_eq_preRow];exact lifted os started H enc F)
theorem plain(f:FuncId)(fn:Func)(hf:Tryz.pinned.checked.prog.funcNamed "counterpane/counterpanelaw8.ShowFormula"=some f)(hfn:Tryz.pinned.checked.prog.funcs[f]?=some fn) :
  false=Tryz.pinned.checked.prog.looks []∧∀ (j:Nat) t,fn.params[j]?=some t→Tryz.pinned.checked.prog.wantsStandIn t=false:=by
 obtain rfl:f=3:=Option.some.inj ((show Tryz.prog.funcNamed "counterpane/counterpanelaw8.ShowFormula"=some 3 by kernel_rfl).symm.trans hf) |>.symm
 obtain rfl:fn=Tryz.f3:=(Option.some.inj (Tryz.func3.symm.trans hfn)).symm;refine ⟨by kernel_rfl,fun j t ht=>?_⟩
 rw [Tryz.params3]at ht;obtain rfl:t=26:=by simpa using Array.mem_of_getElem? ht
 exact (show Tryz.prog.wantsStandIn 26=false by kernel_rfl)
end showFormula
theorem showFormula_card:Rows.ShowFormulaUptoCardSaid:=
 Claim7.holds_tied_plain_at .later [] _ _ _ _ showFormula.said (fun _ h=>by cases h) (by kernel_rfl) (fun _ h=>by cases h) showFormulaUpto_row_tie rfl ⟨rfl,rfl⟩ (by kernel_rfl) rfl showFormula.plain (by kernel_rfl)
end Go.Proofs.YtgheopdadfnilaaGreatDoor
