/- show.Read, walked; value.Eq of. -/
import Derived.Test.YtgheopdadfnilaaGreatDoorKf38
import Derived.Test.YtgheopdadfnilaaGreatDoorKf34
import Derived.Test.YtgheopdadfnilaaGreatDoorKf35
import Derived.Test.YtgheopdadfnilaaGreatDoorKf37
import Derived.Test.YtgheopdadfnilaaGreatDoorKf23
import Derived.Test.YtgheopdadfnilaaGreatDoorKf12
import Derived.Test.YtgheopdadfnilaaGreatDoorKf31
import Derived.Test.YtgheopdadfnilaaGreatDoorKf20
set_option linter.unusedVariables false
set_option linter.unusedSimpArgs false
set_option maxRecDepth 100000
set_option maxHeartbeats 8000000
namespace Go.Proofs.YtgheopdadfnilaaGreatDoor
open Go.RowKit
def valT(l:List UInt8):Cl × Nat:=if V.mayB (rvT l).1 (rvT l).2.1 (rvT l).2.2.1 (rvT l).2.2.2.1 (rvT l).2.2.2.2 then ((false,rvT l,zeroE),0) else (zC,2)
theorem rvT_len(l:List UInt8):(rvT l).2.2.1.length≤l.length:=by
 unfold rvT
 repeat' split
 all_goals simp
theorem read_eq(s T:ByteArray)(x:Ex × Nat)(w:World)(hw:Std w)(hp:Lib.hasPrefix s.data.toList [61]=true)(hT:(⟨(s.data.toList.drop 1).toArray⟩:ByteArray)=T)(HP:Hid (∀ W,Std W→Calls Tryz.prog 76 #[.string T] W fun e W'=>RepR W x e W')):Calls Tryz.prog 16 #[.string s] w fun e W'=>RepC w (frm x) e W':=by
 have HW:=hid hw;have HC:Hid (∀ W,Calls Tryz.prog 40 #[.string s,.string ⟨#[61]⟩] W fun e w'=>e=.returned (.tuple #[.string T,.bool true])∧w'=W):=by
  intro W
  have:=Tryz.strings_CutPrefix s ⟨#[61]⟩ W
  rw [show (⟨#[61]⟩:ByteArray).data.toList=[61] from rfl,hp]at this
  rw [←hT];have e:Lib.trimPrefix s.data.toList [61]=s.data.toList.drop 1:=by unfold Lib.trimPrefix;rw [hp];rfl
  rw [e]at this;exact this
 have HR:=hid (fun W (g:Std W)=>readFormula_any T x W (hid fun W' q=>HP.out W' (g.on q)))
 have HZ:=hid (cb_new w [.bool false,.int .i64 0,.int .i64 0,.string ⟨#[]⟩,.bool false,.int .i64 0,.int .i64 0,.int .i64 0,.string ⟨#[]⟩,.bool false,.int .i64 0,.slice none 0 0,.slice none 0 0] 39);clear hw hp hT HP;go_enter Tryz.func16,Tryz.ntmps16
 go_wp2_with (first|(go_at_call 40;refine (HC.out _).mono ?_;rintro e9 w9 ⟨rfl,h9⟩;replace h9:=h9.symm;subst h9)|(go_at_call 41;refine (HR.out _ (HW.out.on ((Q.refl _).alloc _))).mono ?_;rintro e9 w1 ⟨v9,rfl,hr,q1⟩;obtain ⟨k,m,t,bb,er,a1,l1,c1,a2,l2,c2,rfl,hrd⟩:=hr;have R1:=hid hrd;have hs1:w.heap.size<w1.heap.size:=(by have:=q1.size;simp at this;omega);have Z1:=hid (HZ.out.on q1);have Q1:Hid (Q w w1):=hid (((Q.refl _).alloc _).trans q1);clear hrd q1;have d0:=Z1.out.c 0 _ rfl;have d1:=Z1.out.c 1 _ rfl;have d2:=Z1.out.c 2 _ rfl;have d3:=Z1.out.c 3 _ rfl;have d4:=Z1.out.c 4 _ rfl;have d5:=Z1.out.c 5 _ rfl;have d6:=Z1.out.c 6 _ rfl;have d7:=Z1.out.c 7 _ rfl;have d8:=Z1.out.c 8 _ rfl;have d9:=Z1.out.c 9 _ rfl;have d10:=Z1.out.c 10 _ rfl;have d11:=Z1.out.c 11 _ rfl;have d12:=Z1.out.c 12 _ rfl;have y0:=Z1.out.f 0;have y1:=Z1.out.f 1;have y2:=Z1.out.f 2;have y3:=Z1.out.f 3;have y4:=Z1.out.f 4;have y5:=Z1.out.f 5;have y6:=Z1.out.f 6;have y7:=Z1.out.f 7;have y8:=Z1.out.f 8;have y9:=Z1.out.f 9;have y10:=Z1.out.f 10;have y11:=Z1.out.f 11;have y12:=Z1.out.f 12))
 refine bodyPost_ret (v:=.tuple #[.agg #[.bool (frm x).1.1,.int .i64 (frm x).1.2.1.1,.int .i64 (frm x).1.2.1.2.1,.string ⟨(frm x).1.2.1.2.2.1.toArray⟩,.bool (frm x).1.2.1.2.2.2.1,.int .i64 (frm x).1.2.1.2.2.2.2,.int .i64 k,.int .i64 m,.string t,.bool bb,.int .i64 er,.slice a1 l1 c1,.slice a2 l2 c2],.int .i64 ((frm x).2:Int)]) (by simp [results,Tryz.results16,go_sem,hs1,d0,d1,d2,d3,d4,d5,d6,d7,d8,d9,d10,d11,d12]) rfl ?_
 refine ⟨_,rfl,⟨k,m,t,bb,er,a1,l1,c1,a2,l2,c2,rfl,?_⟩,by repeat (first|with_reducible exact Q1.out|with_reducible refine Q.setCell ?_ (Nat.le_refl _) _|with_reducible refine Q.alloc ?_ _)⟩
 exact Rdg.mono (fun b hb=>by simp at hb;omega) _ _ (Rdg.on (p:=w.heap.size) (show Qx w.heap.size w1 _ from by repeat (first|with_reducible exact Qx.refl _ _|with_reducible refine Qx.own ?_ _ _|with_reducible refine Qx.alloc ?_ _)) (fun b hb=>by simp at hb;omega) _ _ R1.out)
theorem read_val(s:ByteArray)(w:World)(hw:Std w)(hs:s.size≤100000)(hp:Lib.hasPrefix s.data.toList [61]=false):Calls Tryz.prog 16 #[.string s] w fun e W'=>RepC w (valT s.data.toList) e W':=by
 have HW:=hid hw;have HC:Hid (∀ W,Calls Tryz.prog 40 #[.string s,.string ⟨#[61]⟩] W fun e w'=>e=.returned (.tuple #[.string ⟨(Lib.trimPrefix s.data.toList [61]).toArray⟩,.bool false])∧w'=W):=by
  intro W
  have:=Tryz.strings_CutPrefix s ⟨#[61]⟩ W
  rw [show (⟨#[61]⟩:ByteArray).data.toList=[61] from rfl,hp]at this
  exact this
 generalize (⟨(Lib.trimPrefix s.data.toList [61]).toArray⟩:ByteArray)=T9 at HC;have HV:=hid (fun W (g:Std W)=>readValue_any s W g hs)
 have hl:=rvT_len s.data.toList;unfold valT
 generalize rvT s.data.toList=v at HV hl ⊢;obtain ⟨k,n,t,b,e⟩:=v;simp only at hl ⊢
 rw [len_data]at hl;have HM:=hid (fun W (g:Std W)=>V.may_any k n ⟨t.toArray⟩ b e W g (by rw [size_mk];omega))
 unfold V.vv at HM
 unfold vL vx at HV
 simp only at HV
 rw [show (⟨t.toArray⟩:ByteArray).toList=t from by rw [Lib.toList_data]]at HM
 have HZ:=hid (cb_new w [.bool false,.int .i64 0,.int .i64 0,.string ⟨#[]⟩,.bool false,.int .i64 0,.int .i64 0,.int .i64 0,.string ⟨#[]⟩,.bool false,.int .i64 0,.slice none 0 0,.slice none 0 0] 39);clear hw hp hl;by_cases hm:V.mayB k n t b e=true
 ·rw [hm]at HM
  rw [if_pos hm];have HD:∀ B W,RdC B W (false,(k,n,t,b,e),zeroE) _:=fun B W=>rdc_val B W (k,n,t,b,e) false
  simp only at HD
  generalize (⟨t.toArray⟩:ByteArray)=tt at HM HV HD;clear hm;go_enter Tryz.func16,Tryz.ntmps16
  go_wp2_with (first|(go_at_call 40;refine (HC.out _).mono ?_;rintro e9 w9 ⟨rfl,h9⟩;replace h9:=h9.symm;subst h9)|(go_at_call 42;refine (HV.out _ (HW.out.on ((Q.refl _).alloc _))).mono ?_;rintro e9 w1 ⟨rfl,q1⟩;have hs1:w.heap.size<w1.heap.size:=(by have:=q1.size;simp at this;omega);have Z1:=hid (HZ.out.on q1);have Q1:Hid (Q w w1):=hid (((Q.refl _).alloc _).trans q1);have X1:=hid (cb_new w1 [.int .i64 k,.int .i64 n,.string tt,.bool b,.int .i64 e] 37);clear q1)|(go_at_call 43;refine (HM.out _ (HW.out.on (Q1.out.alloc _))).mono ?_;rintro e9 w2 ⟨rfl,q2⟩;have hs2:w.heap.size<w2.heap.size:=(by have:=q2.size;simp at this;omega);have Z2:=hid (Z1.out.on (((Q.refl _).alloc _).trans q2));have X2:=hid (X1.out.on q2);have Q2:Hid (Q w w2):=hid ((Q1.out.alloc _).trans q2);clear q2;have d0:=Z2.out.c 0 _ rfl;have d1:=Z2.out.c 1 _ rfl;have d2:=Z2.out.c 2 _ rfl;have d3:=Z2.out.c 3 _ rfl;have d4:=Z2.out.c 4 _ rfl;have d5:=Z2.out.c 5 _ rfl;have d6:=Z2.out.c 6 _ rfl;have d7:=Z2.out.c 7 _ rfl;have d8:=Z2.out.c 8 _ rfl;have d9:=Z2.out.c 9 _ rfl;have d10:=Z2.out.c 10 _ rfl;have d11:=Z2.out.c 11 _ rfl;have d12:=Z2.out.c 12 _ rfl;have y0:=Z2.out.f 0;have y1:=Z2.out.f 1;have y2:=Z2.out.f 2;have y3:=Z2.out.f 3;have y4:=Z2.out.f 4;have y5:=Z2.out.f 5;have y6:=Z2.out.f 6;have y7:=Z2.out.f 7;have y8:=Z2.out.f 8;have y9:=Z2.out.f 9;have y10:=Z2.out.f 10;have y11:=Z2.out.f 11;have y12:=Z2.out.f 12;have n0:=X2.out.c 0 _ rfl;have n1:=X2.out.c 1 _ rfl;have n2:=X2.out.c 2 _ rfl;have n3:=X2.out.c 3 _ rfl;have n4:=X2.out.c 4 _ rfl))
  refine bodyPost_ret (v:=.tuple #[.agg #[.bool false,.int .i64 k,.int .i64 n,.string tt,.bool b,.int .i64 e,.int .i64 0,.int .i64 0,.string ⟨#[]⟩,.bool false,.int .i64 0,.slice none 0 0,.slice none 0 0],.int .i64 0]) (by simp [results,Tryz.results16,go_sem,hs2,d0,d1,d2,d3,d4,d5,d6,d7,d8,d9,d10,d11,d12]) rfl ?_
  exact ⟨_,rfl,HD _ _,by repeat (first|with_reducible exact Q2.out|with_reducible refine Q.setCell ?_ (Nat.le_refl _) _|with_reducible refine Q.alloc ?_ _)⟩
 ·have hm':V.mayB k n t b e=false:=by simpa using hm
  rw [hm']at HM;rw [if_neg hm];generalize (⟨t.toArray⟩:ByteArray)=tt at HM HV;clear hm hm';go_enter Tryz.func16,Tryz.ntmps16
  go_wp2_with (first|(go_at_call 40;refine (HC.out _).mono ?_;rintro e9 w9 ⟨rfl,h9⟩;replace h9:=h9.symm;subst h9)|(go_at_call 42;refine (HV.out _ (HW.out.on ((Q.refl _).alloc _))).mono ?_;rintro e9 w1 ⟨rfl,q1⟩;have hs1:w.heap.size<w1.heap.size:=(by have:=q1.size;simp at this;omega);have Z1:=hid (HZ.out.on q1);have Q1:Hid (Q w w1):=hid (((Q.refl _).alloc _).trans q1);clear q1)|(go_at_call 43;refine (HM.out _ (HW.out.on (Q1.out.alloc _))).mono ?_;rintro e9 w2 ⟨rfl,q2⟩;have hs2:w.heap.size<w2.heap.size:=(by have:=q2.size;simp at this;omega);have Z2:=hid (Z1.out.on (((Q.refl _).alloc _).trans q2));have Q2:Hid (Q w w2):=hid ((Q1.out.alloc _).trans q2);clear q2;have d0:=Z2.out.c 0 _ rfl;have d1:=Z2.out.c 1 _ rfl;have d2:=Z2.out.c 2 _ rfl;have d3:=Z2.out.c 3 _ rfl;have d4:=Z2.out.c 4 _ rfl;have d5:=Z2.out.c 5 _ rfl;have d6:=Z2.out.c 6 _ rfl;have d7:=Z2.out.c 7 _ rfl;have d8:=Z2.out.c 8 _ rfl;have d9:=Z2.out.c 9 _ rfl;have d10:=Z2.out.c 10 _ rfl;have d11:=Z2.out.c 11 _ rfl;have d12:=Z2.out.c 12 _ rfl;have y0:=Z2.out.f 0;have y1:=Z2.out.f 1;have y2:=Z2.out.f 2;have y3:=Z2.out.f 3;have y4:=Z2.out.f 4;have y5:=Z2.out.f 5;have y6:=Z2.out.f 6;have y7:=Z2.out.f 7;have y8:=Z2.out.f 8;have y9:=Z2.out.f 9;have y10:=Z2.out.f 10;have y11:=Z2.out.f 11;have y12:=Z2.out.f 12))
  refine bodyPost_ret (v:=.tuple #[.agg #[.bool false,.int .i64 0,.int .i64 0,.string ⟨#[]⟩,.bool false,.int .i64 0,.int .i64 0,.int .i64 0,.string ⟨#[]⟩,.bool false,.int .i64 0,.slice none 0 0,.slice none 0 0],.int .i64 2]) (by simp [results,Tryz.results16,go_sem,hs2,d0,d1,d2,d3,d4,d5,d6,d7,d8,d9,d10,d11,d12]) rfl ?_
  exact ⟨_,rfl,rdc_val _ _ zV false,by repeat (first|with_reducible exact Q2.out|with_reducible refine Q.setCell ?_ (Nat.le_refl _) _|with_reducible refine Q.alloc ?_ _)⟩
theorem veq_any(k n:Int)(t:ByteArray)(b:Bool)(e:Int)(k' n':Int)(t':ByteArray)(b':Bool)(e':Int)(w:World):Calls Tryz.prog 51 #[vx k n t b e,vx k' n' t' b' e'] w fun x w'=>x=.returned (.bool (decide (k=k'∧n=n'∧t.data.toList=t'.data.toList∧b=b'∧e=e')))∧Q w w':=by
 by_cases h0:k=k'
 ·by_cases h1:n=n'
  ·by_cases h2:t.data.toList=t'.data.toList
   ·by_cases h3:b=b'
    ·by_cases h4:e=e'
     ·have ht:t=t':=by rw [←bytes_of t,h2,bytes_of]
      subst h0 h1 ht h3 h4;rw [decide_eq_true ⟨rfl,rfl,rfl,rfl,rfl⟩];exact veq_same k n t b e w
     ·rw [decide_eq_false (fun x=>h4 x.2.2.2.2)]
      have e0:(k == k')=true:=by simpa using h0
      have e1:(n == n')=true:=by simpa using h1
      have e2:(t.toList == t'.toList)=true:=by rw [Lib.toList_data,Lib.toList_data];simpa using h2
      have e3:(b == b')=true:=by simpa using h3
      have e4:(e == e')=false:=by simpa using h4
      clear h0 h1 h2 h3 h4;unfold vx
      go_enter Tryz.func51,Tryz.ntmps51
      go_wp2_with fail
      go_ret
      exact ⟨rfl,((Q.refl _).alloc _).alloc _⟩
    ·rw [decide_eq_false (fun x=>h3 x.2.2.2.1)]
     have e0:(k == k')=true:=by simpa using h0
     have e1:(n == n')=true:=by simpa using h1
     have e2:(t.toList == t'.toList)=true:=by rw [Lib.toList_data,Lib.toList_data];simpa using h2
     have e3:(b == b')=false:=by simpa using h3
     clear h0 h1 h2 h3;unfold vx
     go_enter Tryz.func51,Tryz.ntmps51
     go_wp2_with fail
     go_ret
     exact ⟨rfl,((Q.refl _).alloc _).alloc _⟩
   ·rw [decide_eq_false (fun x=>h2 x.2.2.1)]
    have e0:(k == k')=true:=by simpa using h0
    have e1:(n == n')=true:=by simpa using h1
    have e2:(t.toList == t'.toList)=false:=by rw [Lib.toList_data,Lib.toList_data];simpa using h2
    clear h0 h1 h2;unfold vx
    go_enter Tryz.func51,Tryz.ntmps51
    go_wp2_with fail
    go_ret
    exact ⟨rfl,((Q.refl _).alloc _).alloc _⟩
  ·rw [decide_eq_false (fun x=>h1 x.2.1)]
   have e0:(k == k')=true:=by simpa using h0
   have e1:(n == n')=false:=by simpa using h1
   clear h0 h1;unfold vx
   go_enter Tryz.func51,Tryz.ntmps51
   go_wp2_with fail
   go_ret
   exact ⟨rfl,((Q.refl _).alloc _).alloc _⟩
 ·rw [decide_eq_false (fun x=>h0 x.1)]
  exact veq_kind k n t b e k' n' t' b' e' w h0
theorem may_sm:∀ (m:Nat) (x:Ex),nodes x≤m→mall mayN x=true→Sm x:=by
 intro m
 induction m with
 |zero=>
  intro x h
  obtain ⟨k,n,t,b,e,rs,ks⟩:=x;rw [nodes]at h;omega
 |succ m ih=>
  intro x hm hx
  obtain ⟨hn,hk⟩:mayN x=true∧∀ y∈x.ks,mall mayN y=true:=by
   obtain ⟨k,n,t,b,e,rs,ks⟩:=x;exact mall_kids hx
  have hkm:∀ y∈x.ks,nodes y≤m:=by
   obtain ⟨k,n,t,b,e,rs,ks⟩:=x;rw [nodes]at hm;intro y hy
   have:=nodes_lt (show y∈ks from hy)
   omega
  have IH:∀ y∈x.ks,Sm y:=fun y hy=>ih y (hkm y hy) (hk y hy)
  have smL:∀ ks:List Ex,(∀ y∈ks,Sm y)→Sm.SmL ks:=by
   intro ks
   induction ks with
   |nil=>intro _;rw [Sm.SmL];trivial
   |cons y ys ih2=>intro h;rw [Sm.SmL];exact ⟨h y (by simp),ih2 fun z hz=>h z (List.mem_cons_of_mem _ hz)⟩
  rcases may_cases x hn with ⟨n,rfl,h0⟩|⟨t,rfl,h0⟩|⟨b,rfl⟩|⟨e,rfl,h0,h1⟩|⟨r,rfl,h0⟩|⟨r,q,rfl,h0,h1,h2⟩|⟨y,rfl⟩|⟨o,y,z,rfl,h0⟩|⟨t,ks,rfl,h0,h1⟩
  ·unfold numE;rw [Sm];exact ⟨by simp,by simp,smL _ IH⟩
  ·unfold textE;rw [Sm];exact ⟨by have:=mtB_len h0;omega,by simp,smL _ IH⟩
  ·unfold boolE;rw [Sm];exact ⟨by simp,by simp,smL _ IH⟩
  ·unfold errE;rw [Sm];exact ⟨by simp,by simp,smL _ IH⟩
  ·unfold refE;rw [Sm];exact ⟨by simp,by intro a ha;rw [List.mem_singleton.1 ha];have:=sheet_len h0;omega,smL _ IH⟩
  ·unfold rangeE;rw [Sm]
   refine ⟨by simp,?_,smL _ IH⟩
   intro a ha
   simp only [List.mem_cons,List.not_mem_nil,or_false]at ha
   rcases ha with rfl|rfl
   ·have:=sheet_len h0;omega
   ·have:=sheet_len h1;omega
  ·unfold negE;rw [Sm];exact ⟨by simp,by simp,smL _ IH⟩
  ·unfold binE;rw [Sm];exact ⟨by have:=lvl_len h0;omega,by simp,smL _ IH⟩
  ·unfold callE;rw [Sm]
   refine ⟨?_,by simp,smL _ IH⟩
   unfold namF at h0
   simp only [Bool.and_eq_true,decide_eq_true_eq]at h0
   omega
theorem fit_nodes{x:Ex}(h:fitB x=true):nodes x≤200:=by
 unfold fitB at h
 simp only [Bool.and_eq_true,decide_eq_true_eq]at h
 exact h.1
theorem bd_new(W0 W:World)(q:Q W0 W):Bd W0 (W.alloc (.cells #[.pointer none,.slice none 0 0] 54)) W.heap.size []:=by
 refine ⟨.inl ?_,q.alloc _⟩
 exact ⟨q.size,.slice none 0 0,heap_alloc_new W _,World.ownsRow_nil _ _ _ _,by simp [Value.ownBlock]⟩
theorem form_no(x:Ex)(v:Value)(W:World)(hg:Gd W)(hs:Sm x)(hr:Rd W x v)(hm:(fitB x&&mall mayN x)=false):Calls Tryz.prog 10 #[v] W fun e W'=>e=.returned (.string ⟨#[]⟩)∧Q W W':=by
 have HM:=hid (fun W' (q:Q W W')=>pmay_any x v W' (hg.on q) hs (Rd.on q _ _ hr))
 rw [hm]at HM;obtain ⟨k,m,t,bb,er,a1,l1,c1,a2,l2,c2,rfl⟩:=hr.shape;clear hm hr hg;go_enter Tryz.func10,Tryz.ntmps10
 go_wp2_with (go_at_call 27;refine (HM.out _ ((Q.refl _).alloc _)).mono ?_;rintro e9 w1 ⟨rfl,q1⟩;have Q1:Hid (Q W w1):=hid (((Q.refl _).alloc _).trans q1);clear q1)
 go_ret
 exact ⟨rfl,Q1.out⟩
theorem form_of(x:Ex)(T:List UInt8)(hP:Wri x T)(hlen:T.length≤100000)(v:Value)(W:World)(hg:Gd W)(hs:Sm x)(hm:(fitB x&&mall mayN x)=true)(hr:Rd W x v):Calls Tryz.prog 10 #[v] W fun e W'=>e=.returned (.string ⟨T.toArray⟩)∧Q W W':=by
 have HM:=hid (fun W' (q:Q W W')=>pmay_any x v W' (hg.on q) hs (Rd.on q _ _ hr))
 rw [hm]at HM;have HP:=hid (fun W0 W' b (q:Q W W0) (h:Bd W0 W' b [])=>hP W0 W' b [] v (hg.on q) h (Rd.on q _ _ hr) (by simpa using hlen))
 obtain ⟨k,m,t,bb,er,a1,l1,c1,a2,l2,c2,rfl⟩:=hr.shape;clear hm hr hg hs hlen hP;go_enter Tryz.func10,Tryz.ntmps10
 go_upto_region 3 with (go_at_call 27;refine (HM.out _ ((Q.refl _).alloc _)).mono ?_;rintro e9 w1 ⟨rfl,q1⟩;have Q1:Hid (Q W w1):=hid (((Q.refl _).alloc _).trans q1);have Z1:=hid ((cb_new W [.int .i64 k,.int .i64 m,.string t,.bool bb,.int .i64 er,.slice a1 l1 c1,.slice a2 l2 c2] 26).on q1);clear q1)
 have B2:=hid (bd_new w1 w1 (Q.refl w1));have Z2:=hid (Z1.out.on ((Q.refl w1).alloc (.cells #[.pointer none,.slice none 0 0] 54)));have hne:=Z1.out.l;have d0:=Z2.out.c 0 _ rfl;have d1:=Z2.out.c 1 _ rfl;have d2:=Z2.out.c 2 _ rfl;have d3:=Z2.out.c 3 _ rfl;have d4:=Z2.out.c 4 _ rfl;have d5:=Z2.out.c 5 _ rfl;have d6:=Z2.out.c 6 _ rfl;go_upto_region 5 with (go_at_call 28;refine (HP.out _ _ _ Q1.out B2.out).mono ?_;rintro e9 w3 ⟨⟨u,rfl⟩,b3,k3⟩;rw [List.nil_append]at b3;have B3:=hid b3;clear b3 k3)
 have HS:=hid (Tryz.Builder_String_any w1.heap.size w1.heap.size T w3 B3.out.1 B3.out.2.size);clear d0 d1 d2 d3 d4 d5 d6;go_wp2_with (go_at_call 29;refine HS.out.mono ?_;rintro e9 w4 ⟨rfl,q4⟩;have Q4:Hid (Q w1 w4):=hid (Below.trans B3.out.2 q4);clear q4)
 go_ret
 exact ⟨rfl,Q1.out.trans Q4.out⟩
theorem form_yes(x:Ex)(v:Value)(W:World)(hg:Gd W)(hx:MX x)(hf:fitB x=true)(hr:Rd W x v):Calls Tryz.prog 10 #[v] W fun e W'=>e=.returned (.string ⟨(fmE x).toArray⟩)∧Q W W':=by
 have hn:=fit_nodes hf;have hlen:(fmE x).length≤100000:=by have:=fm_len _ x (Nat.le_refl _) hx.1 hx.2;omega
 exact form_of x _ (pr_all _ x (Nat.le_refl _) hx.1 hx.2) hlen v W hg (may_sm _ x (Nat.le_refl _) hx.1) (by rw [hf,hx.1];rfl) hr
def isZ:Ex→Bool
 |.mk k n t b e rs ks=>decide (k=0∧n=0∧t=[]∧b=false∧e=0∧rs=[]∧ks.length=0)
theorem isZ_iff(x:Ex):isZ x=true↔x=zeroE:=by
 obtain ⟨k,n,t,b,e,rs,ks⟩:=x;unfold isZ zeroE
 constructor
 ·intro h
  simp only [decide_eq_true_eq]at h
  obtain ⟨rfl,rfl,rfl,rfl,rfl,rfl,h7⟩:=h;rw [List.eq_nil_of_length_eq_zero h7]
 ·intro h
  cases h
  decide
theorem ans_isZ{x:Ex}{e:Ending}(h:Ans (x=zeroE) e):e=.returned (.bool (isZ x)):=by
 obtain ⟨r,he,hr⟩:=h;rw [he];have:r=isZ x:=by
  cases hz:isZ x
  ·cases r
   ·rfl
   ·have:=(isZ_iff x).2 (hr.1 rfl)
    rw [hz]at this;cases this
  ·exact hr.2 ((isZ_iff x).1 hz)
 rw [this]
theorem smay_form(vk vn:Int)(vt:ByteArray)(vb:Bool)(ve:Int)(k m:Int)(t:ByteArray)(bb:Bool)(er:Int)(a1:Option Addr)(l1 c1:Nat)(a2:Option Addr)(l2 c2:Nat)(X:Ex)(w:World)(hg:Gd w)(hs:Sm X)(hr:Rd w X (.agg #[.int .i64 k,.int .i64 m,.string t,.bool bb,.int .i64 er,.slice a1 l1 c1,.slice a2 l2 c2])):Calls Tryz.prog 21 #[.agg #[.bool true,.int .i64 vk,.int .i64 vn,.string vt,.bool vb,.int .i64 ve,.int .i64 k,.int .i64 m,.string t,.bool bb,.int .i64 er,.slice a1 l1 c1,.slice a2 l2 c2]] w fun e W'=>e=.returned (.bool ((fitB X&&mall mayN X)&&decide (vk=0∧vn=0∧vt.data.toList=[]∧vb=false∧ve=0)))∧Q w W':=by
 have HM:=hid (fun W' (q:Q w W')=>pmay_any X _ W' (hg.on q) hs (Rd.on q _ _ hr))
 have HV:=hid (fun W'=>veq_any vk vn vt vb ve 0 0 ⟨#[]⟩ false 0 W')
 unfold vx at HV
 rw [show (⟨#[]⟩:ByteArray).data.toList=[] from rfl]at HV
 generalize decide (vk=0∧vn=0∧vt.data.toList=[]∧vb=false∧ve=0)=r2 at HV ⊢;clear hr hg hs;cases h1:(fitB X&&mall mayN X)
 ·rw [h1]at HM
  go_enter Tryz.func21,Tryz.ntmps21
  go_wp2_with (go_at_call 27;refine (HM.out _ ((Q.refl _).alloc _)).mono ?_;rintro e9 w1 ⟨rfl,q1⟩;have Q1:Hid (Q w w1):=hid (((Q.refl _).alloc _).trans q1);clear q1)
  go_ret
  exact ⟨by simp,Q1.out⟩
 ·rw [h1]at HM
  go_enter Tryz.func21,Tryz.ntmps21
  go_wp2_with (first|(go_at_call 27;refine (HM.out _ ((Q.refl _).alloc _)).mono ?_;rintro e9 w1 ⟨rfl,q1⟩;have Q1:Hid (Q w w1):=hid (((Q.refl _).alloc _).trans q1);have Z1:=hid ((cb_new w [.bool true,.int .i64 vk,.int .i64 vn,.string vt,.bool vb,.int .i64 ve,.int .i64 k,.int .i64 m,.string t,.bool bb,.int .i64 er,.slice a1 l1 c1,.slice a2 l2 c2] 39).on q1);clear q1;have d0:=Z1.out.c 0 _ rfl;have d1:=Z1.out.c 1 _ rfl;have d2:=Z1.out.c 2 _ rfl;have d3:=Z1.out.c 3 _ rfl;have d4:=Z1.out.c 4 _ rfl;have d5:=Z1.out.c 5 _ rfl;have d6:=Z1.out.c 6 _ rfl;have d7:=Z1.out.c 7 _ rfl;have d8:=Z1.out.c 8 _ rfl;have d9:=Z1.out.c 9 _ rfl;have d10:=Z1.out.c 10 _ rfl;have d11:=Z1.out.c 11 _ rfl;have d12:=Z1.out.c 12 _ rfl)|(go_at_call 51;refine (HV.out _).mono ?_;rintro e9 w2 ⟨rfl,q2⟩;have Q2:=hid (Q1.out.trans q2);clear q2))
  go_ret
  exact ⟨by simp,Q2.out⟩
theorem smay_val(vk vn:Int)(vt:ByteArray)(vb:Bool)(ve:Int)(k m:Int)(t:ByteArray)(bb:Bool)(er:Int)(a1:Option Addr)(l1 c1:Nat)(a2:Option Addr)(l2 c2:Nat)(X:Ex)(w:World)(hg:Gd w)(hv:vt.size≤1000000)(hn:nodes X≤1000)(hr:Rd w X (.agg #[.int .i64 k,.int .i64 m,.string t,.bool bb,.int .i64 er,.slice a1 l1 c1,.slice a2 l2 c2])):Calls Tryz.prog 21 #[.agg #[.bool false,.int .i64 vk,.int .i64 vn,.string vt,.bool vb,.int .i64 ve,.int .i64 k,.int .i64 m,.string t,.bool bb,.int .i64 er,.slice a1 l1 c1,.slice a2 l2 c2]] w fun e W'=>e=.returned (.bool (V.mayB vk vn vt.data.toList vb ve&&isZ X))∧Q w W':=by
 have HM:=hid (fun W' (q:Q w W')=>V.may_any vk vn vt vb ve W' (hg.1.on q) (by omega))
 unfold V.vv at HM
 rw [Lib.toList_data]at HM;have HV:=hid (fun W' (q:Q w W')=>eq_any X zeroE _ _ W' (Rd.on q _ _ hr) (rd_zero W') hn)
 clear hr hg hv hn;cases h1:V.mayB vk vn vt.data.toList vb ve
 ·rw [h1]at HM
  go_enter Tryz.func21,Tryz.ntmps21
  go_wp2_with (go_at_call 43;refine (HM.out _ ((Q.refl _).alloc _)).mono ?_;rintro e9 w1 ⟨rfl,q1⟩;have Q1:Hid (Q w w1):=hid (((Q.refl _).alloc _).trans q1);clear q1)
  go_ret
  exact ⟨by simp,Q1.out⟩
 ·rw [h1]at HM
  go_enter Tryz.func21,Tryz.ntmps21
  go_wp2_with (first|(go_at_call 43;refine (HM.out _ ((Q.refl _).alloc _)).mono ?_;rintro e9 w1 ⟨rfl,q1⟩;have Q1:Hid (Q w w1):=hid (((Q.refl _).alloc _).trans q1);have Z1:=hid ((cb_new w [.bool false,.int .i64 vk,.int .i64 vn,.string vt,.bool vb,.int .i64 ve,.int .i64 k,.int .i64 m,.string t,.bool bb,.int .i64 er,.slice a1 l1 c1,.slice a2 l2 c2] 39).on q1);clear q1;have d0:=Z1.out.c 0 _ rfl;have d1:=Z1.out.c 1 _ rfl;have d2:=Z1.out.c 2 _ rfl;have d3:=Z1.out.c 3 _ rfl;have d4:=Z1.out.c 4 _ rfl;have d5:=Z1.out.c 5 _ rfl;have d6:=Z1.out.c 6 _ rfl;have d7:=Z1.out.c 7 _ rfl;have d8:=Z1.out.c 8 _ rfl;have d9:=Z1.out.c 9 _ rfl;have d10:=Z1.out.c 10 _ rfl;have d11:=Z1.out.c 11 _ rfl;have d12:=Z1.out.c 12 _ rfl)|(go_at_call 52;refine (HV.out _ Q1.out).mono ?_;rintro e9 w2 ⟨ha,q2⟩;have he:=ans_isZ ha;subst he;have Q2:=hid (Q1.out.trans q2);clear q2 ha))
  go_ret
  exact ⟨by simp,Q2.out⟩
theorem scell_form(vk vn:Int)(vt:ByteArray)(vb:Bool)(ve:Int)(k m:Int)(t:ByteArray)(bb:Bool)(er:Int)(a1:Option Addr)(l1 c1:Nat)(a2:Option Addr)(l2 c2:Nat)(T:ByteArray)(w:World)(hT:T.size≤1000000)(HM:Hid (∀ W',Q w W'→Calls Tryz.prog 21 #[.agg #[.bool true,.int .i64 vk,.int .i64 vn,.string vt,.bool vb,.int .i64 ve,.int .i64 k,.int .i64 m,.string t,.bool bb,.int .i64 er,.slice a1 l1 c1,.slice a2 l2 c2]] W' fun e W2=>e=.returned (.bool true)∧Q W' W2))(HF:Hid (∀ W',Q w W'→Calls Tryz.prog 10 #[.agg #[.int .i64 k,.int .i64 m,.string t,.bool bb,.int .i64 er,.slice a1 l1 c1,.slice a2 l2 c2]] W' fun e W2=>e=.returned (.string T)∧Q W' W2)):Calls Tryz.prog 22 #[.agg #[.bool true,.int .i64 vk,.int .i64 vn,.string vt,.bool vb,.int .i64 ve,.int .i64 k,.int .i64 m,.string t,.bool bb,.int .i64 er,.slice a1 l1 c1,.slice a2 l2 c2]] w fun e W'=>e=.returned (.string ⟨(61::T.data.toList).toArray⟩)∧Q w W':=by
 have nS:¬ (9223372036854775807<1+T.size):=by omega
 obtain ⟨S2,hS2⟩:∃ S:ByteArray,(⟨#[61]⟩:ByteArray)++T=S:=⟨_,rfl⟩;have HS2:Hid (S2=⟨(61::T.data.toList).toArray⟩):=by
  show _=_
  rw [←hS2];apply ByteArray.ext
  simp
 rw [←HS2.out];clear hT;go_enter Tryz.func22,Tryz.ntmps22
 go_wp2_with (first|(go_at_call 21;refine (HM.out _ ((Q.refl _).alloc _)).mono ?_;rintro e9 w1 ⟨rfl,q1⟩;have Q1:Hid (Q w w1):=hid (((Q.refl _).alloc _).trans q1);have Z1:=hid ((cb_new w [.bool true,.int .i64 vk,.int .i64 vn,.string vt,.bool vb,.int .i64 ve,.int .i64 k,.int .i64 m,.string t,.bool bb,.int .i64 er,.slice a1 l1 c1,.slice a2 l2 c2] 39).on q1);clear q1;have d0:=Z1.out.c 0 _ rfl;have d1:=Z1.out.c 1 _ rfl;have d2:=Z1.out.c 2 _ rfl;have d3:=Z1.out.c 3 _ rfl;have d4:=Z1.out.c 4 _ rfl;have d5:=Z1.out.c 5 _ rfl;have d6:=Z1.out.c 6 _ rfl;have d7:=Z1.out.c 7 _ rfl;have d8:=Z1.out.c 8 _ rfl;have d9:=Z1.out.c 9 _ rfl;have d10:=Z1.out.c 10 _ rfl;have d11:=Z1.out.c 11 _ rfl;have d12:=Z1.out.c 12 _ rfl)|(go_at_call 10;refine (HF.out _ Q1.out).mono ?_;rintro e9 w2 ⟨rfl,q2⟩;have Q2:=hid (Q1.out.trans q2);clear q2))
 go_ret
 exact ⟨rfl,Q2.out⟩
theorem scell_2(vn:Int)(vt:ByteArray)(vb:Bool)(ve:Int)(k m:Int)(t:ByteArray)(bb:Bool)(er:Int)(a1:Option Addr)(l1 c1:Nat)(a2:Option Addr)(l2 c2:Nat)(T:ByteArray)(w:World)(HM:Hid (∀ W',Q w W'→Calls Tryz.prog 21 #[.agg #[.bool false,.int .i64 2,.int .i64 vn,.string vt,.bool vb,.int .i64 ve,.int .i64 k,.int .i64 m,.string t,.bool bb,.int .i64 er,.slice a1 l1 c1,.slice a2 l2 c2]] W' fun e W2=>e=.returned (.bool true)∧Q W' W2))(HF:Hid (∀ W',Q w W'→Calls Tryz.prog 53 #[.agg #[.int .i64 2,.int .i64 vn,.string vt,.bool vb,.int .i64 ve]] W' fun e W2=>e=.returned (.string T)∧Q W' W2)):Calls Tryz.prog 22 #[.agg #[.bool false,.int .i64 2,.int .i64 vn,.string vt,.bool vb,.int .i64 ve,.int .i64 k,.int .i64 m,.string t,.bool bb,.int .i64 er,.slice a1 l1 c1,.slice a2 l2 c2]] w fun e W'=>e=.returned (.string T)∧Q w W':=by
 go_enter Tryz.func22,Tryz.ntmps22
 go_wp2_with (first|(go_at_call 21;refine (HM.out _ ((Q.refl _).alloc _)).mono ?_;rintro e9 w1 ⟨rfl,q1⟩;have Q1:Hid (Q w w1):=hid (((Q.refl _).alloc _).trans q1);have Z1:=hid ((cb_new w [.bool false,.int .i64 2,.int .i64 vn,.string vt,.bool vb,.int .i64 ve,.int .i64 k,.int .i64 m,.string t,.bool bb,.int .i64 er,.slice a1 l1 c1,.slice a2 l2 c2] 39).on q1);clear q1;have d0:=Z1.out.c 0 _ rfl;have d1:=Z1.out.c 1 _ rfl;have d2:=Z1.out.c 2 _ rfl;have d3:=Z1.out.c 3 _ rfl;have d4:=Z1.out.c 4 _ rfl;have d5:=Z1.out.c 5 _ rfl;have d6:=Z1.out.c 6 _ rfl;have d7:=Z1.out.c 7 _ rfl;have d8:=Z1.out.c 8 _ rfl;have d9:=Z1.out.c 9 _ rfl;have d10:=Z1.out.c 10 _ rfl;have d11:=Z1.out.c 11 _ rfl;have d12:=Z1.out.c 12 _ rfl)|(go_at_call 53;refine (HF.out _ Q1.out).mono ?_;rintro e9 w2 ⟨rfl,q2⟩;have Q2:=hid (Q1.out.trans q2);clear q2))
 go_ret
 exact ⟨rfl,Q2.out⟩
end Go.Proofs.YtgheopdadfnilaaGreatDoor
