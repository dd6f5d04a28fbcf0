/- parse.count, shallow, walked; . -/
import Derived.Test.YtgheopdadfnilaaGreatDoorKf02
import Derived.Test.YtgheopdadfnilaaGreatDoorKf05
import Derived.Test.YtgheopdadfnilaaGreatDoorKf17
set_option linter.unusedVariables false
set_option linter.unusedSimpArgs false
set_option maxRecDepth 100000
set_option maxHeartbeats 8000000
namespace Go.Proofs.YtgheopdadfnilaaGreatDoor
open Go.RowKit
theorem Rd.shape{W:World}{x:Ex}{v:Value}(h:Rd W x v):∃ k n t b e a1 l1 c1 a2 l2 c2,v=.agg #[.int .i64 k,.int .i64 n,.string t,.bool b,.int .i64 e,.slice a1 l1 c1,.slice a2 l2 c2]:=by
 obtain ⟨k,n,t,b,e,rs,ks,rv,kv,ao,cap,rfl,hp⟩:=h.prt;obtain ⟨ar,cr,hr,_⟩:=hp.rl;obtain rfl:=hp.kl;subst hr
 exact ⟨_,_,_,_,_,_,_,_,_,_,_,rfl⟩
theorem nodesL_take(ks:List Ex)(i:Nat)(h:i<ks.length):nodes.nodesL (ks.take (i+1))=nodes.nodesL (ks.take i)+nodes ks[i]:=by
 rw [List.take_succ_eq_append_getElem h,nodesL_snoc]
theorem nodesL_take_le(ks:List Ex)(i:Nat):nodes.nodesL (ks.take i)≤nodes.nodesL ks:=by
 induction ks generalizing i with
 |nil=>simp
 |cons x xs ih=>
  cases i with
  |zero=>simp [nodes.nodesL]
  |succ i=>rw [List.take_succ_cons,nodes.nodesL,nodes.nodesL];have:=ih i;omega
def shl:Nat→Ex→Bool
 |0,_=>false
 |m+1,.mk _ _ _ _ _ _ ks=>ks.all (shl m)
theorem pcount_any:∀ (s:Nat) (x:Ex) (v:Value) (W:World) (M:Int) (m:Nat),SizeOf.sizeOf x≤s→M=(m:Int)→1≤m→m≤201→Rd W x v→Calls Tryz.prog 122 #[v,.int .i64 M] W fun e W'=>e=.returned (.int .i64 (min (nodes x) m:Nat))∧Q W W':=by
 intro s
 induction s with
 |zero=>
  intro x v W M m hs
  cases x with
  |mk k n t b e rs ks=>simp at hs
 |succ s ih=>
  intro x v W M m hs hM h1 h201 hr
  obtain ⟨k,n,t,b,e,rs,ks,rv,kv,ao,cap,rfl,hp⟩:=hr.prt;obtain ⟨ar,cr,hrv,_⟩:=hp.rl;have HD:Hid (nodes x=1+nodes.nodesL ks):=hid (by rw [hp.ex,nodes])
  have IH:=hid (fun (i:Nat) (h:i<ks.length) v W M m=>ih ks[i] v W M m (by have:=kid_size (k:=k) (n:=n) (t:=t.data.toList) (b:=b) (e:=e) (rs:=rs) i h;rw [←hp.ex]at this;omega))
  generalize nodes x=d at HD ⊢;have HP:=hid hp;obtain rfl:=hp.kl;subst hrv;have hroom:ks.length≤9223372036854775807:=by have h1:=hp.le;have h2:=hp.mx;unfold maxLen at h2;omega
  clear hp hr ih hs;subst hM;go_enter Tryz.func122,Tryz.ntmps122
  go_wp2
  go_loopw [5,11,7] (fun y z _ W'=>∃ (i a:Nat),i≤ks.length∧y=.int .i64 (a:Int)∧z=.int .i64 (i:Int)∧a≤m∧Hid (Q W W')∧Hid (a=min (1+nodes.nodesL (ks.take i)) m)) (fun _ z _ _=>ks.length-(intOf z).toNat)
  case atStart=>exact ⟨0,1,Nat.zero_le _,rfl,rfl,h1,hid ((Q.refl _).alloc _),by show _=_;simp [nodes.nodesL];omega⟩
  case round=>
   obtain ⟨i,a,hi,rfl,rfl,ha,hQ,hA⟩:=hrel;by_cases hlt:i<ks.length
   ·have hne:ks≠[]:=by intro h;rw [h]at hlt;simp at hlt
    obtain ⟨b',off,rfl,hl⟩:=(HP.out.on hQ.out).kd hne;obtain ⟨e0,e1,e2,e3,e4,e5,e6,hK⟩:=hl.kid i hlt;obtain ⟨k',n',t',b1',e',a1',l1',c1',a2',l2',c2',hsh⟩:=hK.rd.shape;simp only [Value.agg.injEq,Array.mk.injEq,List.cons.injEq,and_true]at hsh
    obtain ⟨rfl,rfl,rfl,rfl,rfl,rfl,rfl⟩:=hsh;obtain ⟨h0,g1,h2,h3,h4,h5,h6,hrd⟩:=hK;by_cases ham:a=m
    ·have HA2:Hid ((min d m:Nat)=m):=by
      show _=_
      have:=hA.out
      have:=nodesL_take_le ks i
      have:=HD.out
      omega
     have eam:((a:Int) == (m:Int))=true:=by rw [ham];exact beq_self_eq_true _
     have HAM:=hid ham;clear hl hrd hA ham;go_wp2_with fail
     go_ret
     exact ⟨ret_int (by rw [HA2.out,HAM.out]),hQ.out.trans (by repeat (first|with_reducible exact Q.refl _|with_reducible refine Q.alloc ?_ _))⟩
    ·have eam:((a:Int) == (m:Int))=false:=by rw [beq_eq_false_iff_ne];omega
     have HRD:=hid hrd;have HI:=hid (fun W1 (q:Q wr W1)=>IH.out i hlt _ W1 ((m:Int)-(a:Int)) (m-a) (by omega) (by omega) (by omega) (Rd.on q _ _ HRD.out))
     have HA2:Hid (a+min (nodes ks[i]) (m-a)=min (1+nodes.nodesL (ks.take (i+1))) m):=by
      show _=_
      have:=hA.out
      rw [nodesL_take ks i hlt];omega
     have hdl:min (nodes ks[i]) (m-a)≤m-a:=Nat.min_le_right _ _
     generalize min (nodes ks[i]) (m-a)=dd at HI HA2 hdl;clear hl hrd hA ham;go_wp2_with (go_at_call 122;refine (HI.out _ (by repeat (first|with_reducible exact Q.refl _|with_reducible refine Q.alloc ?_ _))).mono ?_;rintro e9 w9 ⟨rfl,q9⟩;have Q9:Hid (Q wr w9):=hid (Q.trans (by repeat (first|with_reducible exact Q.refl _|with_reducible refine Q.alloc ?_ _)) q9);clear q9)
     go_roundw
     case rel=>exact ⟨i+1,a+dd,by omega,by go_num,by go_num,by omega,hid (hQ.out.trans Q9.out),HA2⟩
     case measure=>simp [intOf];omega
   ·have HA2:Hid ((min d m:Nat)=a):=by
     show _=_
     have:=hA.out
     rw [List.take_of_length_le (by omega)]at this
     rw [HD.out,this]
    clear hA;go_wp2_with fail
    go_ret
    exact ⟨ret_int (by rw [HA2.out]),hQ.out⟩
theorem shallow_any:∀ (m:Nat) (x:Ex) (v:Value) (W:World) (M:Int),M=(m:Int)→m≤100→Rd W x v→Calls Tryz.prog 92 #[v,.int .i64 M] W fun e W'=>e=.returned (.bool (shl m x))∧Q W W':=by
 intro m
 induction m with
 |zero=>
  intro x v W M hM hm hr
  obtain ⟨k,n,t,b,e,a1,l1,c1,a2,l2,c2,rfl⟩:=hr.shape;have HD:Hid (shl 0 x=false):=hid (by unfold shl;rfl)
  generalize shl 0 x=d at HD ⊢;have e0:(M == 0)=true:=by rw [hM];rfl
  clear hr hM;go_enter Tryz.func92,Tryz.ntmps92
  go_wp2_with fail
  go_ret
  exact ⟨ret_bool HD.out.symm,(Q.refl _).alloc _⟩
 |succ m ih=>
  intro x v W M hM hm hr
  obtain ⟨k,n,t,b,e,rs,ks,rv,kv,ao,cap,rfl,hp⟩:=hr.prt;obtain ⟨ar,cr,hrv,_⟩:=hp.rl;have HD:Hid (shl (m+1) x=ks.all (shl m)):=hid (by rw [hp.ex];rfl)
  generalize shl (m+1) x=d at HD ⊢;have IH:=hid (fun x v W h=>ih x v W (M-1) (by omega) (by omega) h)
  have e0:(M == 0)=false:=by rw [beq_eq_false_iff_ne];omega
  have hM0:0<M:=by omega
  have hM1:M≤200:=by omega
  have HP:=hid hp;obtain rfl:=hp.kl;subst hrv;have hroom:ks.length≤9223372036854775807:=by have h1:=hp.le;have h2:=hp.mx;unfold maxLen at h2;omega
  clear hp hr ih hM;go_enter Tryz.func92,Tryz.ntmps92
  go_wp2_with fail
  go_loopw [12,6] (fun z _ W'=>∃ (i:Nat),i≤ks.length∧z=.int .i64 (i:Int)∧Hid (Q W W')∧Hid ((ks.take i).all (shl m)=true)) (fun z _ _=>ks.length-(intOf z).toNat)
  case atStart=>exact ⟨0,Nat.zero_le _,rfl,hid ((Q.refl _).alloc _),rfl⟩
  case round=>
   obtain ⟨i,hi,rfl,hQ,hA⟩:=hrel;by_cases hlt:i<ks.length
   ·have hne:ks≠[]:=by intro h;rw [h]at hlt;simp at hlt
    obtain ⟨b',off,rfl,hl⟩:=(HP.out.on hQ.out).kd hne;obtain ⟨e0',e1,e2,e3,e4,e5,e6,hK⟩:=hl.kid i hlt;obtain ⟨k',n',t',b1',e',a1',l1',c1',a2',l2',c2',hsh⟩:=hK.rd.shape;simp only [Value.agg.injEq,Array.mk.injEq,List.cons.injEq,and_true]at hsh
    obtain ⟨rfl,rfl,rfl,rfl,rfl,rfl,rfl⟩:=hsh;obtain ⟨h0,g1,h2,h3,h4,h5,h6,hrd⟩:=hK;have HRD:=hid hrd;have HI:=hid (fun W1 (q:Q wr W1)=>IH.out ks[i] _ W1 (Rd.on q _ _ HRD.out))
    cases hb:shl m ks[i]
    ·rw [hb]at HI
     have HA2:Hid (d=false):=by
      show _=_
      rw [HD.out,Bool.eq_false_iff];intro e
      rw [List.all_eq_true]at e;have:=e ks[i] (List.getElem_mem hlt)
      rw [hb]at this;cases this
     clear hl hrd hA;go_wp2_with (go_at_call 92;refine (HI.out _ (by repeat (first|with_reducible exact Q.refl _|with_reducible refine Q.alloc ?_ _))).mono ?_;rintro e9 w9 ⟨rfl,q9⟩;have Q9:Hid (Q wr w9):=hid (Q.trans (by repeat (first|with_reducible exact Q.refl _|with_reducible refine Q.alloc ?_ _)) q9);clear q9)
     go_ret
     exact ⟨ret_bool HA2.out.symm,hQ.out.trans Q9.out⟩
    ·rw [hb]at HI
     have HA2:Hid ((ks.take (i+1)).all (shl m)=true):=by
      show _=_
      rw [List.take_succ_eq_append_getElem hlt,List.all_append,hA.out];simp [hb]
     clear hl hrd hA;go_wp2_with (go_at_call 92;refine (HI.out _ (by repeat (first|with_reducible exact Q.refl _|with_reducible refine Q.alloc ?_ _))).mono ?_;rintro e9 w9 ⟨rfl,q9⟩;have Q9:Hid (Q wr w9):=hid (Q.trans (by repeat (first|with_reducible exact Q.refl _|with_reducible refine Q.alloc ?_ _)) q9);clear q9)
     go_roundw
     case rel=>exact ⟨i+1,by omega,by go_num,hid (hQ.out.trans Q9.out),HA2⟩
     case measure=>simp [intOf];omega
   ·have HA2:Hid (d=true):=by
     show _=_
     have:=hA.out
     rw [List.take_of_length_le (by omega)]at this
     rw [HD.out,this]
    clear hA;go_wp2_with fail
    go_ret
    exact ⟨ret_bool HA2.out.symm,hQ.out⟩
def mall(nd:Ex→Bool):Ex→Bool
 |.mk k n t b e rs ks=>nd (.mk k n t b e rs ks)&&mallL nd ks
 where
 mallL (nd:Ex→Bool):List Ex→Bool
 |[]=>true
 |x::xs=>mall nd x&&mallL nd xs
theorem mallL_all(nd:Ex→Bool)(ks:List Ex):mall.mallL nd ks=ks.all (mall nd):=by
 induction ks with
 |nil=>simp [mall.mallL]
 |cons x xs ih=>rw [mall.mallL,ih,List.all_cons]
theorem mayall_any(nd:Ex→Bool)(G:World→Prop)(hG:∀ W W',G W→Q W W'→G W')(P:Ex→Prop)(hP:∀ k n t b e rs ks,P (.mk k n t b e rs ks)→∀ y∈ks,P y)(HN:Hid (∀ x v W,G W→P x→Rd W x v→Calls Tryz.prog 93 #[v] W fun e W'=>e=.returned (.bool (nd x))∧Q W W')) :
  ∀ (s:Nat) (x:Ex) (v:Value) (W:World),SizeOf.sizeOf x≤s→G W→P x→Rd W x v→Calls Tryz.prog 57 #[v] W fun e W'=>e=.returned (.bool (mall nd x))∧Q W W':=by
 intro s
 induction s with
 |zero=>
  intro x v W hs
  cases x with
  |mk k n t b e rs ks=>simp at hs
 |succ s ih=>
  intro x v W hs hg hpx hr
  have HNx:=hid (fun W1 (q:Q W W1)=>HN.out x v W1 (hG _ _ hg q) hpx (Rd.on q _ _ hr))
  obtain ⟨k,n,t,b,e,rs,ks,rv,kv,ao,cap,rfl,hp⟩:=hr.prt;obtain ⟨ar,cr,hrv,_⟩:=hp.rl;have HD:Hid (mall nd x=(nd x&&ks.all (mall nd))):=hid (by rw [hp.ex,mall,mallL_all])
  have HPK:Hid (∀ i (h:i<ks.length),P ks[i]):=hid (fun i h=>hP k n t.data.toList b e rs ks (hp.ex ▸ hpx) _ (List.getElem_mem h))
  have IH:=hid (fun (i:Nat) (h:i<ks.length) v W=>ih ks[i] v W (by have:=kid_size (k:=k) (n:=n) (t:=t.data.toList) (b:=b) (e:=e) (rs:=rs) i h;rw [←hp.ex]at this;omega))
  generalize mall nd x=d at HD ⊢;have HP:=hid hp;have HGW:=hid hg;obtain rfl:=hp.kl;subst hrv;have hroom:ks.length≤9223372036854775807:=by have h1:=hp.le;have h2:=hp.mx;unfold maxLen at h2;omega
  have HX:=hid (Bx.start W (.int .i64 k) (.int .i64 n) (.string t) (.bool b) (.int .i64 e) (.slice ar rs.length cr) (.slice ao ks.length cap) 26);clear hp hr ih hs hg hpx;cases hnd:nd x
  ·rw [hnd]at HNx
   have HR:Hid (d=false):=by show _=_;rw [HD.out,hnd];rfl
   go_enter Tryz.func57,Tryz.ntmps57
   go_wp2_with (go_at_call 93;refine (HNx.out _ ((Q.refl _).alloc _)).mono ?_;rintro e9 w1 ⟨rfl,q1⟩;have Q1:Hid (Q W w1):=hid (((Q.refl _).alloc _).trans q1);clear q1)
   go_ret
   exact ⟨ret_bool HR.out.symm,Q1.out⟩
  ·rw [hnd]at HNx
   have HR:Hid (d=ks.all (mall nd)):=by show _=_;rw [HD.out,hnd,Bool.true_and]
   go_enter Tryz.func57,Tryz.ntmps57
   go_wp2_with (go_at_call 93;refine (HNx.out _ ((Q.refl _).alloc _)).mono ?_;rintro e9 w1 ⟨rfl,q1⟩;have Q1:Hid (Q W w1):=hid (((Q.refl _).alloc _).trans q1);have X1:=hid (HX.out.on q1);clear q1;have c6:=X1.out.g6)
   go_loopw [11,4] (fun z _ W'=>∃ (i:Nat),i≤ks.length∧z=.int .i64 (i:Int)∧Hid (Q W W')∧Hid ((ks.take i).all (mall nd)=true)) (fun z _ _=>ks.length-(intOf z).toNat)
   case atStart=>exact ⟨0,Nat.zero_le _,rfl,Q1,rfl⟩
   case round=>
    obtain ⟨i,hi,rfl,hQ,hA⟩:=hrel;by_cases hlt:i<ks.length
    ·have hne:ks≠[]:=by intro h;rw [h]at hlt;simp at hlt
     obtain ⟨b',off,rfl,hl⟩:=(HP.out.on hQ.out).kd hne;obtain ⟨e0',e1,e2,e3,e4,e5,e6,hK⟩:=hl.kid i hlt;obtain ⟨k',n',t',b1',e',a1',l1',c1',a2',l2',c2',hsh⟩:=hK.rd.shape;simp only [Value.agg.injEq,Array.mk.injEq,List.cons.injEq,and_true]at hsh
     obtain ⟨rfl,rfl,rfl,rfl,rfl,rfl,rfl⟩:=hsh;obtain ⟨h0,g1,h2,h3,h4,h5,h6,hrd⟩:=hK;have HRD:=hid hrd;have HI:=hid (fun W1 (q:Q wr W1)=>IH.out i hlt _ W1 (hG _ _ HGW.out (hQ.out.trans q)) (HPK.out i hlt) (Rd.on q _ _ HRD.out))
     cases hb:mall nd ks[i]
     ·rw [hb]at HI
      have HA2:Hid (d=false):=by
       show _=_
       rw [HR.out,Bool.eq_false_iff];intro e
       rw [List.all_eq_true]at e;have:=e ks[i] (List.getElem_mem hlt)
       rw [hb]at this;cases this
      clear hl hrd hA;go_wp2_with (go_at_call 57;refine (HI.out _ (by repeat (first|with_reducible exact Q.refl _|with_reducible refine Q.alloc ?_ _))).mono ?_;rintro e9 w9 ⟨rfl,q9⟩;have Q9:Hid (Q wr w9):=hid (Q.trans (by repeat (first|with_reducible exact Q.refl _|with_reducible refine Q.alloc ?_ _)) q9);clear q9)
      go_ret
      exact ⟨ret_bool HA2.out.symm,hQ.out.trans Q9.out⟩
     ·rw [hb]at HI
      have HA2:Hid ((ks.take (i+1)).all (mall nd)=true):=by
       show _=_
       rw [List.take_succ_eq_append_getElem hlt,List.all_append,hA.out];simp [hb]
      clear hl hrd hA;go_wp2_with (go_at_call 57;refine (HI.out _ (by repeat (first|with_reducible exact Q.refl _|with_reducible refine Q.alloc ?_ _))).mono ?_;rintro e9 w9 ⟨rfl,q9⟩;have Q9:Hid (Q wr w9):=hid (Q.trans (by repeat (first|with_reducible exact Q.refl _|with_reducible refine Q.alloc ?_ _)) q9);clear q9)
      go_roundw
      case rel=>exact ⟨i+1,by omega,by go_num,hid (hQ.out.trans Q9.out),HA2⟩
      case measure=>simp [intOf];omega
    ·have HA2:Hid (d=true):=by
      show _=_
      have:=hA.out
      rw [List.take_of_length_le (by omega)]at this
      rw [HR.out,this]
     clear hA;go_wp2_with fail
     go_ret
     exact ⟨ret_bool HA2.out.symm,hQ.out⟩
theorem pCount_any(x:Ex)(v:Value)(W:World)(hr:Rd W x v):Calls Tryz.prog 91 #[v] W fun e W'=>e=.returned (.int .i64 (min (nodes x) 201:Nat))∧Q W W':=by
 have HC:=hid (fun W1 (q:Q W W1)=>pcount_any _ x v W1 201 201 (Nat.le_refl _) rfl (by omega) (by omega) (Rd.on q _ _ hr))
 obtain ⟨k,m,t,bb,er,a1,l1,c1,a2,l2,c2,rfl⟩:=hr.shape;generalize min (nodes x) 201=d at HC ⊢;clear hr;go_enter Tryz.func91,Tryz.ntmps91
 go_wp2_with (go_at_call 122;refine (HC.out _ ((Q.refl _).alloc _)).mono ?_;rintro e w1 ⟨rfl,q1⟩;have Q1:Hid (Q W w1):=hid (((Q.refl _).alloc _).trans q1);clear q1)
 go_ret
 exact ⟨rfl,Q1.out⟩
def fitB(x:Ex):Bool:=decide (nodes x≤200)&&shl 50 x
theorem fits_any(x:Ex)(v:Value)(W:World)(hr:Rd W x v):Calls Tryz.prog 56 #[v] W fun e W'=>e=.returned (.bool (fitB x))∧Q W W':=by
 have HC:=hid (fun W1 (q:Q W W1)=>pCount_any x v W1 (Rd.on q _ _ hr))
 have HS:=hid (fun W1 (q:Q W W1)=>shallow_any 50 x v W1 50 rfl (by omega) (Rd.on q _ _ hr))
 obtain ⟨k,m,t,bb,er,a1,l1,c1,a2,l2,c2,rfl⟩:=hr.shape;clear hr;by_cases hn:nodes x≤200
 ·have HF:Hid (fitB x=shl 50 x):=by show _=_;unfold fitB;rw [decide_eq_true hn,Bool.true_and]
  have c200:((min (nodes x) 201:Nat):Int)≤200:=by omega
  generalize ((min (nodes x) 201:Nat):Int)=d at HC c200;generalize fitB x=r at HF ⊢;generalize shl 50 x=sh at HS HF;go_enter Tryz.func56,Tryz.ntmps56
  go_wp2_with (first|(go_at_call 91;refine (HC.out _ ((Q.refl _).alloc _)).mono ?_;rintro e w1 ⟨rfl,q1⟩;have Q1:Hid (Q W w1):=hid (((Q.refl _).alloc _).trans q1);have X1:=hid ((tb_new W (.int .i64 k) (.int .i64 m) (.string t) (.bool bb) (.int .i64 er) (.slice a1 l1 c1) (.slice a2 l2 c2) 26).on (p:=W.heap.size+1) (Qx.of q1) (by omega));clear q1;have n0:=X1.out.g0;have n1:=X1.out.g1;have n2:=X1.out.g2;have n3:=X1.out.g3;have n4:=X1.out.g4;have n5:=X1.out.g5;have n6:=X1.out.g6)|(go_at_call 92;refine (HS.out _ Q1.out).mono ?_;rintro e w2 ⟨rfl,q2⟩;have Q2:=hid q2;clear q2))
  go_ret
  exact ⟨ret_bool HF.out.symm,Q1.out.trans Q2.out⟩
 ·have HF:Hid (fitB x=false):=by show _=_;unfold fitB;rw [decide_eq_false hn,Bool.false_and]
  have c200:¬ ((min (nodes x) 201:Nat):Int)≤200:=by omega
  generalize ((min (nodes x) 201:Nat):Int)=d at HC c200;generalize fitB x=r at HF ⊢;go_enter Tryz.func56,Tryz.ntmps56
  go_wp2_with (go_at_call 91;refine (HC.out _ ((Q.refl _).alloc _)).mono ?_;rintro e w1 ⟨rfl,q1⟩;have Q1:Hid (Q W w1):=hid (((Q.refl _).alloc _).trans q1);clear q1)
  go_ret
  exact ⟨ret_bool HF.out.symm,Q1.out⟩
theorem dp_shl : ∀ (m : Nat) (x : Ex), decide (dp (m + 1) x ≤ m) = shl m x
  | 0, .mk _ _ _ _ _ _ ks => by
    unfold dp shl
    rw [decide_eq_false]
    omega
  | m + 1, .mk k n t b e rs ks => by
    unfold shl
    rw [show dp (m + 1 + 1) (.mk k n t b e rs ks) = mxN (ks.map (dp (m + 1))) + 1 from rfl]
    rw [Bool.eq_iff_iff]
    simp only [decide_eq_true_eq, List.all_eq_true]
    have key : ∀ (l : List Nat) (a : Nat), (l.foldl max a ≤ m ↔ a ≤ m ∧ ∀ y ∈ l, y ≤ m) := by
      intro l
      induction l with
      | nil => intro a; simp
      | cons z zs ih => intro a; rw [List.foldl_cons, ih]; simp [Nat.max_le]; constructor
                        · rintro ⟨⟨h1, h2⟩, h3⟩; exact ⟨h1, h2, h3⟩
                        · rintro ⟨h1, h2, h3⟩; exact ⟨⟨h1, h2⟩, h3⟩
    constructor
    · intro h x hx
      have h' : mxN (ks.map (dp (m + 1))) ≤ m := by omega
      unfold mxN at h'
      have := ((key _ _).1 h').2 (dp (m + 1) x) (List.mem_map.2 ⟨x, hx, rfl⟩)
      rw [← dp_shl m x]
      exact decide_eq_true this
    · intro h
      have : mxN (ks.map (dp (m + 1))) ≤ m := by
        unfold mxN
        refine (key _ _).2 ⟨Nat.zero_le _, fun y hy => ?_⟩
        obtain ⟨x, hx, rfl⟩ := List.mem_map.1 hy
        have := h x hx
        rw [← dp_shl m x] at this
        exact of_decide_eq_true this
      omega
def mayN:Ex→Bool
 |.mk k n t b e rs ks=>
  if k=1 then decide (0≤n)&&bareB 0 t b e rs.length ks.length
  else if k=2 then V.mayB 2 0 t false 0&&bareB n [] b e rs.length ks.length
  else if k=3 then true&&bareB n t false e rs.length ks.length
  else if k=4 then decide (enL e≠[])&&bareB n t b 0 rs.length ks.length
  else if k=5 then oneB rs&&bareB n t b e 0 ks.length
  else if k=6 then rngB rs&&bareB n t b e 0 ks.length
  else if k=7 then decide (ks.length=1)&&bareB n t b e rs.length 0
  else if k=8 then (decide (1≤lvl t)&&decide (ks.length=2))&&bareB n [] b e rs.length 0
  else if k=9 then (namF t&&decide (ks.length≤30))&&bareB n [] b e rs.length 0
  else false
def Sm:Ex→Prop
 |.mk _ _ t _ _ rs ks=>t.length≤1000000∧(∀ r∈rs,r.1.length≤2000000)∧SmL ks
 where
 SmL:List Ex→Prop
 |[]=>True
 |x::xs=>Sm x∧SmL xs
theorem sm_kid:∀ {ks:List Ex},Sm.SmL ks→∀ y∈ks,Sm y
 |[],_,y,hy=>absurd hy (by simp)
 |x::xs,h,y,hy=>by
  rw [Sm.SmL]at h;simp at hy
  rcases hy with rfl|hy
  ·exact h.1
  ·exact sm_kid h.2 y hy
theorem sm_kids(k n:Int)(t:List UInt8)(b:Bool)(e:Int)(rs:List Rf)(ks:List Ex)(h:Sm (.mk k n t b e rs ks)):∀ y∈ks,Sm y:=by
 rw [Sm]at h;exact sm_kid h.2.2
def Gd(W:World):Prop:=Std W∧∀ W',Q W W'→Lib.TabIs Tryz.prog W' "internal/strconv.uint64pow10" .u64 Lib.pow10Tab
theorem Gd.on{W W':World}(h:Gd W)(q:Q W W'):Gd W':=⟨h.1.on q,fun W2 q2=>h.2 W2 (q.trans q2)⟩
theorem mrf_of{W:World}(h:Gd W)(x:Rf)(hs:x.1.length≤2000000):MRf W x:=by
 intro W' q
 have h':=h.on q;exact pmayref_big ⟨x.1.toArray⟩ x.2.1 x.2.2.1 x.2.2.2.1 x.2.2.2.2 W' h'.1 h'.2 (by show x.1.toArray.size≤2000000;simpa using hs)
theorem maynode_any(x:Ex)(v:Value)(W:World)(hg:Gd W)(hs:Sm x)(hr:Rd W x v):Calls Tryz.prog 93 #[v] W fun e W'=>e=.returned (.bool (mayN x))∧Q W W':=by
 obtain ⟨k,n,t,b,e,rs,ks,rv',kv,ao,cap,rfl,hp⟩:=hr.prt;obtain ⟨ar,cr,hrv,hl⟩:=hp.rl;have hsl:Sl rf 5 W (.slice ar rs.length cr) rs:=hrv ▸ hp.rl
 obtain rfl:=hp.kl;subst hrv;have hx:=hp.ex;subst hx;rw [Sm]at hs;obtain ⟨s1,s2,_⟩:=hs;have st:t.size≤1000000:=by rw [←len_data];exact s1
 have hm:Hid (∀ y∈rs,MRf W y):=hid (fun y hy=>mrf_of hg y (s2 y hy))
 have tl:t.toList=t.data.toList:=toL t
 rw [mayN];by_cases h1:k=1
 ·subst h1
  rw [if_pos rfl];exact mn_1 n t b e ar rs.length cr ao ks.length cap W
 by_cases h2:k=2
 ·subst h2
  rw [if_neg (by decide),if_pos rfl,←tl]
  exact mn_2 n t b e ar rs.length cr ao ks.length cap W hg.1 (by omega)
 by_cases h3:k=3
 ·subst h3
  rw [if_neg (by decide),if_neg (by decide),if_pos rfl]
  exact mn_3 n t b e ar rs.length cr ao ks.length cap W
 by_cases h4:k=4
 ·subst h4
  rw [if_neg (by decide),if_neg (by decide),if_neg (by decide),if_pos rfl]
  exact mn_4 n t b e ar rs.length cr ao ks.length cap W hg.1
 by_cases h5:k=5
 ·subst h5
  rw [if_neg (by decide),if_neg (by decide),if_neg (by decide),if_neg (by decide),if_pos rfl]
  exact mn_5 n t b e ar rs.length cr ao ks.length cap W rs hsl hm
 by_cases h6:k=6
 ·subst h6
  rw [if_neg (by decide),if_neg (by decide),if_neg (by decide),if_neg (by decide),if_neg (by decide),if_pos rfl]
  exact mn_6 n t b e ar rs.length cr ao ks.length cap W rs hsl hm
 by_cases h7:k=7
 ·subst h7
  rw [if_neg (by decide),if_neg (by decide),if_neg (by decide),if_neg (by decide),if_neg (by decide),if_neg (by decide),if_pos rfl]
  exact mn_7 n t b e ar rs.length cr ao ks.length cap W
 by_cases h8:k=8
 ·subst h8
  rw [if_neg (by decide),if_neg (by decide),if_neg (by decide),if_neg (by decide),if_neg (by decide),if_neg (by decide),if_neg (by decide),if_pos rfl]
  exact mn_8 n t b e ar rs.length cr ao ks.length cap W
 by_cases h9:k=9
 ·subst h9
  rw [if_neg (by decide),if_neg (by decide),if_neg (by decide),if_neg (by decide),if_neg (by decide),if_neg (by decide),if_neg (by decide),if_neg (by decide),if_pos rfl]
  exact mn_9 n t b e ar rs.length cr ao ks.length cap W (by omega)
 rw [if_neg h1,if_neg h2,if_neg h3,if_neg h4,if_neg h5,if_neg h6,if_neg h7,if_neg h8,if_neg h9];exact mn_k k n t b e ar rs.length cr ao ks.length cap W (by omega)
theorem pmayall_any(x:Ex)(v:Value)(W:World)(hg:Gd W)(hs:Sm x)(hr:Rd W x v):Calls Tryz.prog 57 #[v] W fun e W'=>e=.returned (.bool (mall mayN x))∧Q W W':=
 mayall_any mayN Gd (fun _ _ h q=>h.on q) Sm sm_kids (hid maynode_any) (SizeOf.sizeOf x) x v W (Nat.le_refl _) hg hs hr
theorem pmay_any(x:Ex)(v:Value)(W:World)(hg:Gd W)(hs:Sm x)(hr:Rd W x v):Calls Tryz.prog 27 #[v] W fun e W'=>e=.returned (.bool (fitB x&&mall mayN x))∧Q W W':=by
 have HF:=hid (fun W' (q:Q W W')=>fits_any x v W' (Rd.on q _ _ hr))
 have HA:=hid (fun W' (q:Q W W')=>pmayall_any x v W' (hg.on q) hs (Rd.on q _ _ hr))
 obtain ⟨k,n,t,b,e,a1,l1,c1,a2,l2,c2,rfl⟩:=hr.shape;have HX:=hid (Bx.start W (.int .i64 k) (.int .i64 n) (.string t) (.bool b) (.int .i64 e) (.slice a1 l1 c1) (.slice a2 l2 c2) 26);clear hr hg hs;cases h:fitB x
 ·rw [h]at HF
  go_enter Tryz.func27,Tryz.ntmps27
  go_wp2_with (go_at_call 56;refine (HF.out _ ((Q.refl _).alloc _)).mono ?_;rintro e9 w1 ⟨rfl,q1⟩;have Q1:Hid (Q W w1):=hid (((Q.refl _).alloc _).trans q1);clear q1)
  go_ret
  exact ⟨rfl,Q1.out⟩
 ·rw [h]at HF
  obtain ⟨r,hr⟩:∃ r,mall mayN x=r:=⟨_,rfl⟩;rw [hr]at HA ⊢;clear h hr;go_enter Tryz.func27,Tryz.ntmps27
  go_wp2_with (first|(go_at_call 56;refine (HF.out _ ((Q.refl _).alloc _)).mono ?_;rintro e9 w1 ⟨rfl,q1⟩;have Q1:Hid (Q W w1):=hid (((Q.refl _).alloc _).trans q1);have X1:=hid (HX.out.on q1);clear q1;obtain ⟨_,_,g0,g1,g2,g3,g4,g5,g6⟩:=X1.out)|(go_at_call 57;refine (HA.out _ Q1.out).mono ?_;rintro e9 w2 ⟨rfl,q2⟩;have Q2:Hid (Q W w2):=hid (Q1.out.trans q2);clear q2))
  go_ret
  exact ⟨by simp,Q2.out⟩
end Go.Proofs.YtgheopdadfnilaaGreatDoor
