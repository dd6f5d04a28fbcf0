/- rewrite.copied, walked; rewrit. -/
import Derived.Test.YtoikodohcieipaaGreatDoorKs18
set_option linter.unusedVariables false
set_option linter.unusedSimpArgs false
set_option maxRecDepth 100000
set_option maxHeartbeats 8000000
namespace Go.Proofs.YtoikodohcieipaaGreatDoor
open Go.RowKit
theorem Ow.shape{W:World}{x:Ex}{v:Value}{lo hi:Nat}(h:Ow W x v lo hi):∃ k n t b e a1 l1 c1 a2 l2 c2,v=.agg #[.int .i64 k,.int .i64 n,.string t,.bool b,.int .i64 e,.slice a1 l1 c1,.slice a2 l2 c2]:=(Ow.rdg (g:=fun _=>True) x v lo hi (fun _ _ _=>trivial) h).shape
theorem md_keep{w w6 w7:World}{pm b o2 o5:Nat}{v v2 v5:Value}(hm:w.cell? ⟨pm,0,none⟩=some v)(hne:pm≠b)(q6:Q w w6)(q7:Q (w6.setCell ⟨b,o2,none⟩ v2) w7):(w7.setCell ⟨b,o5,none⟩ v5).cell? ⟨pm,0,none⟩=some v:=by
 have h6:w6.cell? ⟨pm,0,none⟩=some v:=(q6.cell (World.block_lt_of_cell? w ⟨pm,0,none⟩ hm)).trans hm
 have h6':(w6.setCell ⟨b,o2,none⟩ v2).cell? ⟨pm,0,none⟩=some v:=(World.cell?_setCell_other _ _ _ _ (by intro e;injection e with e;exact hne e.symm)).trans h6
 have h7:w7.cell? ⟨pm,0,none⟩=some v:=(q7.cell (World.block_lt_of_cell? _ ⟨pm,0,none⟩ h6')).trans h6'
 exact (World.cell?_setCell_other _ _ _ _ (by intro e;injection e with e;exact hne e.symm)).trans h7
theorem CI.round{W0 Ws:World}{x:Ex}{r n1 wb pm:Nat}{W w1 w2 w3:World}{X:Nat→Prop}{ov:Value}{S:List Pd}{b o:Nat}{k n:Int}{t:List UInt8}{bb:Bool}{e:Int}{rs:List Rf}{ks:List Ex}{c5 c6 rv:Value}{ao:Option Addr}{cap:Nat}
  (h:CI W0 Ws x r n1 wb pm W X ov S ((b,o,1,[.mk k n t bb e rs ks])::S))
  (hn:Nd W b o (.int .i64 k) (.int .i64 n) (.string ⟨t.toArray⟩) (.bool bb) (.int .i64 e) c5 c6)
  (q1:Q W w1) (q2:Q (w1.setCell ⟨b,o+2,none⟩ (.string ⟨t.toArray⟩)) w2) (hr:OwR w2 rv rs (w1.setCell ⟨b,o+2,none⟩ (.string ⟨t.toArray⟩)).heap.size w2.heap.size)
  (q3:Q (w2.setCell ⟨b,o+5,none⟩ rv) w3) (hcap:ks.length≤cap) (hmx:cap≤maxLen)
  (hk:ks≠[]→∃ kb,ao=some ⟨kb,0,none⟩∧(w2.setCell ⟨b,o+5,none⟩ rv).heap.size≤kb∧kb<w3.heap.size∧Pl w3 kb∧PdL W0 w3 ks kb 0) :
  ∃ T3,CI W0 Ws x r n1 wb pm (w3.setCell ⟨b,o+6,none⟩ (.slice ao ks.length cap)) X ov S T3∧wgtP T3<wgtP ((b,o,1,[.mk k n t bb e rs ks])::S)∧((ks.length=0∧T3=S)∨∃ kb ks',0<ks.length∧ao=some ⟨kb,0,none⟩∧ks.length=ks'.length∧T3=(kb,0,cap,ks')::S):=by
 have hb:b<W.heap.size:=hn.pl.lt
 have s1:=q1.size;have s2:=q2.size;have s3:=q3.size;have e1:(w1.setCell ⟨b,o+2,none⟩ (.string ⟨t.toArray⟩)).heap.size=w1.heap.size:=by simp [World.setCell]
 have e2:(w2.setCell ⟨b,o+5,none⟩ rv).heap.size=w2.heap.size:=by simp [World.setCell]
 rw [e1]at s2 hr;rw [e2]at s3 hk;have c1:Ch7 W w1 b o:=(Ch7.refl W b o).q' hb q1
 have c2:Ch7 W w2 b o:=(c1.set 2 (by omega) _).q' hb q2
 have c3:Ch7 W w3 b o:=(c2.set 5 (by omega) rv).q' hb q3
 have n3:=((((((hn.on q1).set2 (.string ⟨t.toArray⟩)).on q2).set5 rv).on q3).set6 (.slice ao ks.length cap));refine h.node (m:=w2.heap.size) (c3.set 6 (by omega) _) n3 ?_ (by simp [World.setCell];omega) hcap hmx (fun hne=>?_)
 ·refine (hr.mono s1 (Nat.le_refl _)).on (fun i h1 h2=>?_)
  refine Bs.of ?_
  rw [Below.heap_setCell _ _ _ _ (fun e=>by simp at e;omega),Q.block q3 (by omega),Below.heap_setCell _ _ _ _ (fun e=>by simp at e;omega)]
 ·obtain ⟨kb,k1,k2,k3,k4,k5⟩:=hk hne
  refine ⟨kb,k1,k2,by simp [World.setCell];exact k3,k4.set _ _ _,k5.on (fun j _ _=>?_)⟩
  exact World.cell?_setCell_other _ _ _ _ (by intro e;injection e with e;omega)
theorem copied_any(x:Ex)(v:Value)(W:World)(hx:Rd W x v)(hs:Sn x)(hk:nodes x≤200) :
  Calls Tryz.prog 23 #[v] W fun e W'=>∃ v',e=.returned v'∧Q W W'∧∃ lo hi,W.heap.size≤lo∧hi≤W'.heap.size∧Ow W' x v' lo hi:=by
 obtain ⟨k,n,t,b,e,a1,l1,c1,a2,l2,c2,rfl⟩:=hx.shape;have HST:=hid (fun w2=>copied_start x _ _ _ _ _ _ _ W w2 hx hs hk)
 have HF:Hid (Calls Tryz.prog 43 #[.slice (some ⟨W.heap.size+1+1,0,none⟩) 1 1] (((W.alloc (.cells #[.int .i64 k,.int .i64 n,.string t,.bool b,.int .i64 e,.slice a1 l1 c1,.slice a2 l2 c2] 26)).alloc (.cells #[.int .i64 0,.int .i64 0,.string ⟨#[]⟩,.bool false,.int .i64 0,.slice none 0 0,.slice none 0 0] 26)).alloc (.cells #[.int .i64 k,.int .i64 n,.string t,.bool b,.int .i64 e,.slice a1 l1 c1,.slice a2 l2 c2] 26)) fun e9 W'=>e9=.returned (.bool true)∧Q (((W.alloc (.cells #[.int .i64 k,.int .i64 n,.string t,.bool b,.int .i64 e,.slice a1 l1 c1,.slice a2 l2 c2] 26)).alloc (.cells #[.int .i64 0,.int .i64 0,.string ⟨#[]⟩,.bool false,.int .i64 0,.slice none 0 0,.slice none 0 0] 26)).alloc (.cells #[.int .i64 k,.int .i64 n,.string t,.bool b,.int .i64 e,.slice a1 l1 c1,.slice a2 l2 c2] 26)) W'):=by
  have n1:=nd_new ((W.alloc (.cells #[.int .i64 k,.int .i64 n,.string t,.bool b,.int .i64 e,.slice a1 l1 c1,.slice a2 l2 c2] 26)).alloc (.cells #[.int .i64 0,.int .i64 0,.string ⟨#[]⟩,.bool false,.int .i64 0,.slice none 0 0,.slice none 0 0] 26)) (.int .i64 k) (.int .i64 n) (.string t) (.bool b) (.int .i64 e) (.slice a1 l1 c1) (.slice a2 l2 c2) 26;rw [show ((W.alloc (.cells #[.int .i64 k,.int .i64 n,.string t,.bool b,.int .i64 e,.slice a1 l1 c1,.slice a2 l2 c2] 26)).alloc (.cells #[.int .i64 0,.int .i64 0,.string ⟨#[]⟩,.bool false,.int .i64 0,.slice none 0 0,.slice none 0 0] 26)).heap.size=W.heap.size+1+1 by simp]at n1
  exact fits_apart x (W.heap.size+1+1) _ _ _ _ _ _ _ _ ⟨n1.g0,n1.g1,n1.g2,n1.g3,n1.g4,n1.g5,n1.g6,Rd.on ((((Q.refl _).alloc _).alloc _).alloc _) _ _ hx⟩ hk
 clear hx hs hk;go_enter Tryz.func23,Tryz.ntmps23
 go_wp2_with (first
  |(go_at_call 43;refine HF.out.mono ?_;rintro e9 w2 ⟨rfl,q2⟩;obtain ⟨Ws,M,T0,hM1,hM2,he⟩:=HST.out w2 q2;have HE:=hid he;clear he q2)
  |(go_at_call 44;refine HE.out.mono ?_;rintro e9 w4 ⟨⟨u,rfl⟩,X4,ov4,ci4⟩;have C4:=hid ci4;clear ci4)
  |(go_at_call 45;refine (next_ci C4.out).mono ?_;rintro e9 w5 ⟨v5,rfl,cr5⟩;have R5:=hid cr5;clear cr5))
 go_loopw [6,7,8] (fun v _ _ wr=>∃ kk,CR W Ws x (W.heap.size+1+1) M (w2.heap.size+1) w2.heap.size kk v wr) (fun v _ _ wr=>Classical.epsilon (fun kk=>CR W Ws x (W.heap.size+1+1) M (w2.heap.size+1) w2.heap.size kk v wr∧∀ j,CR W Ws x (W.heap.size+1+1) M (w2.heap.size+1) w2.heap.size j v wr→kk≤j))
 case atStart=>exact ⟨_,R5.out⟩
 case round=>
  have hmu:=mu_ex hrel;obtain ⟨K,hK⟩:∃ K,Classical.epsilon (fun kk=>CR W Ws x (W.heap.size+1+1) M (w2.heap.size+1) w2.heap.size kk u6 wr∧∀ j,CR W Ws x (W.heap.size+1+1) M (w2.heap.size+1) w2.heap.size j u6 wr→kk≤j)=K:=⟨_,rfl⟩
  rw [hK]at hmu;have HKK:=hid hK;clear hK;obtain ⟨⟨X,ov,S,hcr⟩,_⟩:=hmu;clear hrel HST HF HE
  rcases hcr with ⟨rfl,hk0,ci⟩|⟨b',o,y,rfl,hkk,ci⟩
  ·have ow:=ci.prm.done
   unfold Ow.OwL at ow
   obtain ⟨m,⟨d0,d1,d2,d3,d4,d5,d6,g0,g1,g2,g3,g4,g5,g6,hx⟩,hm⟩:=ow;unfold Ow.OwL at hm
   obtain ⟨k',n',t',b1',e',a1',l1',c1',a2',l2',c2',hsh⟩:=hx.shape;simp only [Value.agg.injEq,Array.mk.injEq,List.cons.injEq,and_true]at hsh
   obtain ⟨rfl,rfl,rfl,rfl,rfl,rfl,rfl⟩:=hsh;have tb:=T0.out.blk (ci.kp (W.heap.size+1) (by omega) (by omega) (by omega))
   obtain ⟨z0,z1,z2,z3,z4,z5,z6,zf⟩:=tb;have y0:=zf 0;have y1:=zf 1;have y2:=zf 2;have y3:=zf 3;have y4:=zf 4;have y5:=zf 5;have y6:=zf 6;have HO:=hid hx;have HC:=hid ci;have HMM:=hid hm;clear hx ci hm zf HKK;simp only [Nat.zero_add]at g1 g2 g3 g4 g5 g6
   go_wp2_with fail
   refine bodyPost_ret (v:=.agg #[.int .i64 k',.int .i64 n',.string t',.bool b1',.int .i64 e',.slice a1' l1' c1',.slice a2' l2' c2']) (by simp [results,Tryz.results23,go_sem,z0,z1,z2,z3,z4,z5,z6]) rfl ?_
   have QF:Qx (W.heap.size+1) wr (((((((wr.setCell ⟨W.heap.size+1,0,none⟩ (.int .i64 k')).setCell ⟨W.heap.size+1,1,none⟩ (.int .i64 n')).setCell ⟨W.heap.size+1,2,none⟩ (.string t')).setCell ⟨W.heap.size+1,3,none⟩ (.bool b1')).setCell ⟨W.heap.size+1,4,none⟩ (.int .i64 e')).setCell ⟨W.heap.size+1,5,none⟩ (.slice a1' l1' c1')).setCell ⟨W.heap.size+1,6,none⟩ (.slice a2' l2' c2')):=(((((((Qx.refl _ _).own _ _).own _ _).own _ _).own _ _).own _ _).own _ _).own _ _
   refine ⟨_,rfl,⟨QF.os.trans HC.out.q.os,QF.tape.trans HC.out.q.tape,QF.output.trans HC.out.q.output,Nat.le_trans HC.out.q.size QF.size,fun i hi=>(QF.block i (Nat.lt_of_lt_of_le hi HC.out.q.size) (fun e=>by have:=Option.some.inj e;omega)).trans (Q.block HC.out.q hi)⟩,M,m,by omega,Nat.le_trans HMM.out QF.size,Ow.on _ _ _ _ (fun i h1 h2=>Bs.of (QF.block i (by have:=HMM.out;omega) (fun e=>by have:=Option.some.inj e;omega))) HO.out⟩
  ·have hp:=ci.pd _ (List.mem_cons_self ..)
   have hpd:=hp.pd;unfold PdL at hpd
   obtain ⟨⟨d0,d1,d2,d3,d4,d5,d6,g0,g1,g2,g3,g4,g5,g6,hy⟩,_⟩:=hpd;have hsn:=hp.sn _ (List.mem_cons_self ..);have hb0:W.heap.size≤b'∧w2.heap.size≠b':=by
    have h1:=hp.at_;have h2:=ci.lo;simp only at h1
    omega
   cases y with
   |mk k' n' t' bb' e' rs ks=>
    unfold Rd at hy
    obtain ⟨rv,kv,hv,hr,ao,cap,hkv,hc1,hc2,hk3⟩:=hy;simp only [Value.agg.injEq,Array.mk.injEq,List.cons.injEq,and_true]at hv
    obtain ⟨rfl,rfl,rfl,rfl,rfl,rfl,rfl⟩:=hv;subst hkv;obtain ⟨ar,cr,rfl,hr1,hr2⟩:=hr.len;unfold Sn at hsn
    have HN:Hid (Nd wr b' o _ _ _ _ _ _ _):=hid ⟨g0,g1,g2,g3,g4,g5,g6,hp.pl⟩
    have HCI:=hid ci;have HR:=hid hr;have HK3:=hid hk3;have HSN:=hid hsn;have HKW:=hid hkk;have HCL:=hid (clone_any ⟨t'.toArray⟩ wr (by rw [size_mk];omega))
    have HMD:=hid ci.md;clear hp ci hr hk3 hsn hkk T0 C4 R5;simp only at g0 g1 g2 g3 g4 g5 g6
    go_wp2_with (first
     |(go_at_call 46;refine HCL.out.mono ?_;rintro e9 w6 ⟨rfl,q6⟩;have Q6:=hid q6;have N6:=hid (HN.out.on q6);clear q6;obtain ⟨z0,z1,z2,z3,z4,z5,z6,zp⟩:=N6.out;have y2:=zp.frozen (o+2);have QA:Hid (Q W (w6.setCell ⟨b',o+2,none⟩ (.string ⟨t'.toArray⟩))):=hid ((HCI.out.q.trans Q6.out).setCell hb0.1 _);clear zp)
     |(go_at_call 47;refine (copiedRefs_any rs _ _ (HR.out.on QA.out) HSN.out.2.1 HSN.out.2.2.1).mono ?_;rintro e9 w7 ⟨v7,rfl,or7,q7⟩;have N7:=hid ((N6.out.set2 _).on q7);clear z0 z1 z2 z3 z4 z5 z6 y2;obtain ⟨z0,z1,z2,z3,z4,z5,z6,zp⟩:=N7.out;have y5:=zp.frozen (o+5);clear zp;obtain ⟨a7,l7,c7,rfl⟩:=or7.shape;have QB:Hid (Q W (w7.setCell ⟨b',o+5,none⟩ (.slice a7 l7 c7))):=hid ((QA.out.trans q7).setCell hb0.1 _);have MB:Hid ((w7.setCell ⟨b',o+5,none⟩ (.slice a7 l7 c7)).cell? ⟨w2.heap.size,0,none⟩=some (.bool true)):=hid (md_keep HMD.out hb0.2 Q6.out q7);have O7:=hid or7;have Q7:=hid q7;clear or7 q7)
     |(go_at_call 48;refine (of_ci w2.heap.size ao ks cap W _ QB.out MB.out HSN.out.2.2.2.1 HK3.out).mono ?_;rintro e9 w8 ⟨ao8,cap8,rfl,q8,hc8,hm8,hk8⟩;have N8:=hid ((N7.out.set5 (.slice a7 l7 c7)).on q8);clear z0 z1 z2 z3 z4 z5 z6 y5;obtain ⟨z0,z1,z2,z3,z4,z5,z6,zp⟩:=N8.out;have y6:=zp.frozen (o+6);clear zp;have R8:=hid (HCI.out.round HN.out Q6.out Q7.out O7.out q8 hc8 hm8 hk8);clear q8 hc8 hm8 hk8)
     |(go_at_call 44;obtain ⟨T3,ci9,hlt9,hk9⟩:=R8.out;refine (enter_ci ci9 HSN.out.2.2.2.1 hk9).mono ?_;rintro e9 w10 ⟨⟨u,rfl⟩,X10,ov10,ci10⟩;have C10:=hid ci10;have L9:=hid hlt9;clear ci9 hlt9 hk9 ci10 R8)
     |(go_at_call 45;refine (next_ci C10.out).mono ?_;rintro e9 w11 ⟨v11,rfl,cr11⟩;have R11:=hid cr11;clear cr11))
    go_roundw
    case rel=>exact ⟨_,R11.out⟩
    case measure=>
     rw [HKK.out];have h1:=(mu_ex (P:=fun kk=>CR W Ws x (W.heap.size+1+1) M (w2.heap.size+1) w2.heap.size kk v11 w11) ⟨_,R11.out⟩).2 _ R11.out
     have h2:=L9.out;have h3:=HKW.out;omega
def FR(W:World)(x:Ex)(wb k:Nat)(l lf v:Value)(W':World):Prop:=
 ∃ ov S R,k≤300∧FI W wb W' ov S∧Own rf 40 5 (wb+1) W' l R∧lf=.int .i64 (65536+(k:Int)-(nodes x:Int)-(R.length:Int)) ∧
  ((v=.pointer none∧k=0∧S=[]∧R=rfs x)∨∃ b o y,v=.pointer (some ⟨b,o,none⟩)∧PdL W W [y] b o∧Sn y∧k=nodes y+wgtP S∧R++(rfs y++rfsS S)=rfs x)
theorem own_newb{B:Nat}{W:World}{l:Value}{R:List Rf}{wb:Nat}(h:Own rf 40 5 (wb+1) W l R):l.ownBlock≠some wb:=fun e=>by have:=h.blk wb e;omega
theorem RdL_pdl{W:World}:∀ {ks:List Ex} {b o:Nat},Rd.RdL W ks b o→PdL W W ks b o
 |[],_,_,_=>by unfold PdL;trivial
 |x::xs,b,o,h=>by
  unfold Rd.RdL at h
  unfold PdL
  exact ⟨h.1,RdL_pdl h.2⟩
theorem fr_start{W w3:World}{x:Ex}{wb:Nat}{ov3 v3:Value}{S2 S3:List Pd}(f3:FI W wb w3 ov3 S3)(h3:(v3=.pointer none∧S2=[]∧S3=[])∨∃ b o y,v3=.pointer (some ⟨b,o,none⟩)∧PdL W W [y] b o∧Sn y∧nodes y+wgtP S3=wgtP S2∧rfs y++rfsS S3=rfsS S2)(hkx:nodes x≤300)(hw:wgtP S2=nodes.nodesL [x]+wgtP [])(hr:rfsS S2=rfs.rfsL [x]++rfsS []):FR W x wb (nodes x) (.slice none 0 0) (.int .i64 65536) v3 w3:=by
 simp only [wgtP,nodes.nodesL,Nat.add_zero]at hw
 simp only [rfsS,rfs.rfsL,List.append_nil]at hr
 refine ⟨ov3,S3,[],hkx,f3,own_nil _,?_,?_⟩
 ·congr 1
  simp only [List.length_nil]
  omega
 ·rcases h3 with ⟨_,e,_⟩|⟨b,o,y,e,h1,h2,h4,h5⟩
  ·rw [e]at hw
   simp only [wgtP]at hw
   have:=nodes_pos x
   omega
  ·exact .inr ⟨b,o,y,e,h1,h2,by omega,by rw [List.nil_append,h5,hr]⟩
theorem fr_next{W w5 w6:World}{x:Ex}{wb k:Nat}{ov6 v6 l:Value}{S5 S6:List Pd}{R:List Rf}(f6:FI W wb w6 ov6 S6)(o6:Own rf 40 5 (wb+1) w6 l R)(h:(v6=.pointer none∧S5=[]∧S6=[])∨∃ b o y,v6=.pointer (some ⟨b,o,none⟩)∧PdL W W [y] b o∧Sn y∧nodes y+wgtP S6=wgtP S5∧rfs y++rfsS S6=rfsS S5)(hk3:k≤300)(hk:k=wgtP S5)(hr:R++rfsS S5=rfs x):FR W x wb k l (.int .i64 (65536+(k:Int)-(nodes x:Int)-(R.length:Int))) v6 w6:=by
 refine ⟨ov6,S6,R,hk3,f6,o6,rfl,?_⟩
 rcases h with ⟨e1,e2,e3⟩|⟨b,o,y,e,h1,h2,h4,h5⟩
 ·subst e2
  exact .inl ⟨e1,by rw [hk];rfl,e3,by simpa [rfsS] using hr⟩
 ·exact .inr ⟨b,o,y,e,h1,h2,by omega,by rw [h5];exact hr⟩
theorem front_any(x:Ex)(r:Nat)(W:World)(hp:PdL W W [x] r 0)(hs:Sn x)(hk:nodes x≤300)(hl:(rfs x).length≤10000) :
  Calls Tryz.prog 35 #[.slice (some ⟨r,0,none⟩) 1 1] W fun e W'=>∃ v',e=.returned (.tuple #[v',.bool true])∧Own rf 40 5 W.heap.size W' v' (rfs x)∧Q W W':=by
 obtain ⟨i0,hi,hz0,hz1,hz2⟩:=inf_of info23r;have HK:=hid (And.intro hk hl);have HF0:Hid (FI W W.heap.size (W.alloc (.cells #[.slice none 0 0] 86)) (.slice none 0 0) []):=hid ⟨(Q.refl _).alloc _,⟨by simp,by simp,own_nil _,.inl rfl,fun j hj=>by cases hj⟩,fun j hj=>(by
  rcases hj with e|e
  ·omega
  ·cases e),fun p hp'=>absurd hp' (by simp),by simp [wgtP]⟩
 have HEN:=hid (enter_fi (ks:=[x]) (ao:=some ⟨r,0,none⟩) (cap:=1) HF0.out (by simp only [nodes.nodesL,wgtP];omega) (by simp) (by simp) (by unfold maxLen;omega) (fun y hy=>by simp at hy;subst hy;exact hs) (fun _=>⟨r,0,rfl,hp⟩))
 clear hp hs hk hl HF0;go_enter Tryz.func35,Tryz.ntmps35
 go_wp2_with (first
  |(go_at_call 44;refine HEN.out.mono ?_;rintro e9 w2 ⟨⟨u,rfl⟩,ov2,S2,f2,_,_,hw2,hr2⟩;have F2:=hid f2;have HW2:=hid (And.intro hw2 hr2);clear f2 hw2 hr2)
  |(go_at_call 45;refine (next_fi F2.out).mono ?_;rintro e9 w3 ⟨v3,rfl,ov3,S3,f3,_,_,h3⟩;have R3:Hid (FR W x W.heap.size (nodes x) (.slice none 0 0) (.int .i64 65536) v3 w3):=hid (fr_start f3 h3 HK.out.1 HW2.out.1 HW2.out.2);clear f3 h3))
 go_loopw [4,6,7,8,9] (fun l lf wh v _ W'=>∃ kk,wh=.bool true∧FR W x W.heap.size kk l lf v W') (fun l lf wh v _ W'=>Classical.epsilon (fun kk=>FR W x W.heap.size kk l lf v W'∧∀ j,FR W x W.heap.size j l lf v W'→kk≤j))
 case atStart=>exact ⟨_,rfl,R3.out⟩
 case round=>
  obtain ⟨kx,rfl,hkx⟩:=hrel;have hmu:=mu_ex (P:=fun kk=>FR W x W.heap.size kk u4 u6 u8 wr) ⟨kx,hkx⟩
  obtain ⟨K,hK⟩:∃ K,Classical.epsilon (fun kk=>FR W x W.heap.size kk u4 u6 u8 wr∧∀ j,FR W x W.heap.size j u4 u6 u8 wr→kk≤j)=K:=⟨_,rfl⟩
  rw [hK]at hmu;have HKK:=hid hK;clear hK hkx;obtain ⟨⟨ov,S,R,hk300,fi,ow,rfl,hcr⟩,_⟩:=hmu;clear HEN R3 F2
  rcases hcr with ⟨rfl,hk0,hS,hR⟩|⟨b,o,y,rfl,hpd,hsn,hkk,hre⟩
  ·have HO:=hid ow
   have HF:=hid fi;have HR:=hid hR;clear ow fi hk0 hS hR HKK;go_wp2_with fail
   go_ret2
   exact ⟨_,rfl,by rw [←HR.out];exact HO.out.mono (Nat.le_succ _),HF.out.q⟩
  ·unfold PdL at hpd
   obtain ⟨⟨d0,d1,d2,d3,d4,d5,d6,g0,g1,g2,g3,g4,g5,g6,hy⟩,_⟩:=hpd;cases y with
   |mk k' n' t' bb' e' rs ks=>
    unfold Rd at hy
    obtain ⟨rv,kv,hv,hr,ao,cap,hkv,hc1,hc2,hk3⟩:=hy;simp only [Value.agg.injEq,Array.mk.injEq,List.cons.injEq,and_true]at hv
    obtain ⟨rfl,rfl,rfl,rfl,rfl,rfl,rfl⟩:=hv;subst hkv;obtain ⟨ar,cr,rfl,hr1,hr2⟩:=hr.len;unfold Sn at hsn
    have hfw:1+nodes.nodesL ks+wgtP S=K:=by rw [hkk,nodes]
    have hlR:R.length+(rs.length+(rfs.rfsL ks).length+(rfsS S).length)=(rfs x).length:=by rw [←hre,rfs];simp only [List.length_append]
    have h12:=HK.out;have HFI:=hid fi;have HOW:=hid ow;have HSL:=hid hr;have HSN:=hid hsn;have HK3:=hid hk3;have HRE:=hid hre;have HFW:=hid hfw;have HLR:=hid hlR;have HLT:=hid (World.block_lt_of_cell? W ⟨b,o,none⟩ g0);have z5:wr.cell? ⟨b,o+5,none⟩=some (.slice ar rs.length cr):=(fi.q.cell HLT.out).trans g5
    have z6:wr.cell? ⟨b,o+6,none⟩=some (.slice ao ks.length cap):=(fi.q.cell HLT.out).trans g6
    have HG6:=hid ((HFI.out.q.cell (o:=o+6) HLT.out).symm.trans z6);have HC12:=hid (And.intro hc1 hc2);have HPK:Hid (ks≠[]→∃ b o,ao=some ⟨b,o,none⟩∧PdL W W ks b o):=hid (fun hne=>by
     obtain ⟨b',off,e,_,hl⟩:=hk3 hne;exact ⟨b',off,e,RdL_pdl hl⟩)
    obtain ⟨aov,cov,hov,_⟩:=(fi.wk.ow.sl sv_len (by omega)).len
    simp only [List.length_map,List.length_reverse]at hov
    have hSl:=FI.len (wb:=0) (W:=W) (ov:=ov) fi.pd;have HLE:Hid (K≤300):=hid hk300
    have hS16:(S.length:Int)≤16384:=by have:=fi.wg;omega
    obtain ⟨LF,hLF⟩:∃ LF,65536+(K:Int)-(nodes x:Int)-(R.length:Int)=LF:=⟨_,rfl⟩;have hmin:min (rs.length:Int) LF=(rs.length:Int):=by omega
    have hge:0≤LF-(1+(rs.length:Int)):=by omega
    have hle:LF≤70000:=by omega
    rw [hLF];have HLF:=hid hLF;have hroom:rs.length≤9223372036854775807:=by omega
    have hroom2:ks.length≤9223372036854775807:=by unfold maxLen at hc2;omega
    subst hov;clear fi ow hr hsn hk3 hre g0 g1 g2 g3 g4 g5 g6 hkk hLF hlR hfw
    rcases Nat.eq_zero_or_pos ks.length with hz|hz
    ·obtain rfl:ks=[]:=List.eq_nil_of_length_eq_zero hz
     simp only [List.length_nil]at z6 HG6 HC12
     have c0:=HFI.out.wk.c;go_wp2_with (first
      |(go_at_call 47;refine (copiedRefs_any rs _ _ (HSL.out.on HFI.out.q) HSN.out.2.1 HSN.out.2.2.1).mono ?_;rintro e9 w7 ⟨v7,rfl,or7,q7⟩;have S7:=hid (sl_src (or7.slg (g:=fun _=>True) (fun _ _ _=>trivial)).sl);have O7:=hid (HOW.out.on q7);have F7:=hid (HFI.out.on q7);clear or7 q7)
      |(at_builtin;refine wpList_append_src rfl _ _ 23 rfl (W.heap.size+1) 40 i0 (.agg #[.string ⟨#[]⟩,.int .i64 0,.int .i64 0,.bool false,.bool false]) 5 40 Tryz.underlying23 hi hz0 hz1 hz2 rfl (by decide) _ R.length (flat rf R) rfl O7.out _ rfl rs.length (flat rf rs) S7.out (flat_len rf rf_len _) (flat_one' rf_one) (by have:=HLR.out;unfold maxLen;omega) (by have:=HLR.out;omega) (by have:=F7.out.wk.lt;omega) ?_;intro v8 w8 o8 g8 p8;have O8:Hid (Own rf 40 5 (W.heap.size+1) w8 v8 (R++rs)):=hid (own_app o8 rfl);have F8:Hid (FI W W.heap.size w8 (.slice aov S.length cov) S):=hid (F7.out.qp (P:=fun i=>some i=Value.ownBlock u4) ⟨g8.os,g8.tape,g8.output,g8.size,fun i h1 h2=>g8.block i h1 h2⟩ (fun i e=>⟨row_apart F7.out.wk O7.out (own_newb (B:=0) O7.out) i e.symm,by have:=O7.out.blk i e.symm;omega⟩));clear o8 g8 p8;have c8:=F8.out.wk.c;have z8:=(F8.out.q.cell (o:=o+6) HLT.out).trans HG6.out)
      |(go_at_call 44;refine (enter_fi (ks:=[]) F8.out (by have:=HFW.out;have:=HK.out;have:=HLE.out;omega) HSN.out.2.2.2.1 HC12.out.1 HC12.out.2 (sn_kid HSN.out.2.2.2.2) HPK.out).mono ?_;rintro e9 w9 ⟨⟨u9,rfl⟩,ov9,S9,f9,q9,_,hw9,hr9⟩;have F9:=hid f9;have O9:Hid (Own rf 40 5 (W.heap.size+1) w9 v8 (R++rs)):=hid (O8.out.qp q9 (row_apart F8.out.wk O8.out (own_newb (B:=0) O8.out)));have HW9:=hid (And.intro hw9 hr9);clear f9 q9 hw9 hr9)
      |(go_at_call 45;refine (next_fi F9.out).mono ?_;rintro e9 w10 ⟨v10,rfl,ov10,S10,f10,q10,_,h10⟩;have R10:=hid (fr_next (x:=x) (k:=nodes.nodesL []+wgtP S) (w5:=w9) f10 (O9.out.qp q10 (row_apart F9.out.wk O9.out (own_newb (B:=0) O9.out))) h10 (by have:=HFW.out;have:=HLE.out;omega) HW9.out.1.symm (by rw [HW9.out.2,←HRE.out,rfs];simp only [List.append_assoc]));clear f10 q10 h10))
     go_roundw
     case rel=>
      refine ⟨nodes.nodesL []+wgtP S,rfl,?_⟩
      have h:=R10.out;have e:(65536+((nodes.nodesL []+wgtP S:Nat):Int)-(nodes x:Int)-((R++rs).length:Int))=LF-(1+(rs.length:Int)):=by
       have h1:=HFW.out;have h2:=HLF.out;rw [List.length_append];omega
      rw [e]at h;exact h
     case measure=>
      have hkk:=HKK.out;rw [HLF.out]at hkk;rw [hkk];have h:=R10.out;have e:(65536+((nodes.nodesL []+wgtP S:Nat):Int)-(nodes x:Int)-((R++rs).length:Int))=LF-(1+(rs.length:Int)):=by
       have h1:=HFW.out;have h2:=HLF.out;rw [List.length_append];omega
      rw [e]at h;have h1:=(mu_ex (P:=fun kk=>FR W x W.heap.size kk v8 (.int .i64 (LF-(1+(rs.length:Int)))) v10 w10) ⟨_,h⟩).2 _ h
      have h2:=HFW.out;omega
    ·have hz':(0:Int)<(ks.length:Int):=by omega
     have c0:=HFI.out.wk.c;go_wp2_with (first
      |(go_at_call 47;refine (copiedRefs_any rs _ _ (HSL.out.on HFI.out.q) HSN.out.2.1 HSN.out.2.2.1).mono ?_;rintro e9 w7 ⟨v7,rfl,or7,q7⟩;have S7:=hid (sl_src (or7.slg (g:=fun _=>True) (fun _ _ _=>trivial)).sl);have O7:=hid (HOW.out.on q7);have F7:=hid (HFI.out.on q7);clear or7 q7)
      |(at_builtin;refine wpList_append_src rfl _ _ 23 rfl (W.heap.size+1) 40 i0 (.agg #[.string ⟨#[]⟩,.int .i64 0,.int .i64 0,.bool false,.bool false]) 5 40 Tryz.underlying23 hi hz0 hz1 hz2 rfl (by decide) _ R.length (flat rf R) rfl O7.out _ rfl rs.length (flat rf rs) S7.out (flat_len rf rf_len _) (flat_one' rf_one) (by have:=HLR.out;unfold maxLen;omega) (by have:=HLR.out;omega) (by have:=F7.out.wk.lt;omega) ?_;intro v8 w8 o8 g8 p8;have O8:Hid (Own rf 40 5 (W.heap.size+1) w8 v8 (R++rs)):=hid (own_app o8 rfl);have F8:Hid (FI W W.heap.size w8 (.slice aov S.length cov) S):=hid (F7.out.qp (P:=fun i=>some i=Value.ownBlock u4) ⟨g8.os,g8.tape,g8.output,g8.size,fun i h1 h2=>g8.block i h1 h2⟩ (fun i e=>⟨row_apart F7.out.wk O7.out (own_newb (B:=0) O7.out) i e.symm,by have:=O7.out.blk i e.symm;omega⟩));clear o8 g8 p8;have c8:=F8.out.wk.c;have z8:=(F8.out.q.cell (o:=o+6) HLT.out).trans HG6.out)
      |(go_at_call 44;refine (enter_fi F8.out (by have:=HFW.out;have:=HK.out;have:=HLE.out;omega) HSN.out.2.2.2.1 HC12.out.1 HC12.out.2 (sn_kid HSN.out.2.2.2.2) HPK.out).mono ?_;rintro e9 w9 ⟨⟨u9,rfl⟩,ov9,S9,f9,q9,_,hw9,hr9⟩;have F9:=hid f9;have O9:Hid (Own rf 40 5 (W.heap.size+1) w9 v8 (R++rs)):=hid (O8.out.qp q9 (row_apart F8.out.wk O8.out (own_newb (B:=0) O8.out)));have HW9:=hid (And.intro hw9 hr9);clear f9 q9 hw9 hr9)
      |(go_at_call 45;refine (next_fi F9.out).mono ?_;rintro e9 w10 ⟨v10,rfl,ov10,S10,f10,q10,_,h10⟩;have R10:=hid (fr_next (x:=x) (k:=nodes.nodesL ks+wgtP S) (w5:=w9) f10 (O9.out.qp q10 (row_apart F9.out.wk O9.out (own_newb (B:=0) O9.out))) h10 (by have:=HFW.out;have:=HLE.out;omega) HW9.out.1.symm (by rw [HW9.out.2,←HRE.out,rfs];simp only [List.append_assoc]));clear f10 q10 h10))
     go_roundw
     case rel=>
      refine ⟨nodes.nodesL ks+wgtP S,rfl,?_⟩
      have h:=R10.out;have e:(65536+((nodes.nodesL ks+wgtP S:Nat):Int)-(nodes x:Int)-((R++rs).length:Int))=LF-(1+(rs.length:Int)):=by
       have h1:=HFW.out;have h2:=HLF.out;rw [List.length_append];omega
      rw [e]at h;exact h
     case measure=>
      have hkk:=HKK.out;rw [HLF.out]at hkk;rw [hkk];have h:=R10.out;have e:(65536+((nodes.nodesL ks+wgtP S:Nat):Int)-(nodes x:Int)-((R++rs).length:Int))=LF-(1+(rs.length:Int)):=by
       have h1:=HFW.out;have h2:=HLF.out;rw [List.length_append];omega
      rw [e]at h;have h1:=(mu_ex (P:=fun kk=>FR W x W.heap.size kk v8 (.int .i64 (LF-(1+(rs.length:Int)))) v10 w10) ⟨_,h⟩).2 _ h
      have h2:=HFW.out;omega
theorem front_tree(x:Ex)(v0 v1 v2 v3 v4 v5 v6:Value)(W:World)(hx:Rd W x (.agg #[v0,v1,v2,v3,v4,v5,v6]))(hs:Sn x)(hk:nodes x≤300)(hl:(rfs x).length≤10000) :
  Calls Tryz.prog 35 #[.slice (some ⟨W.heap.size+1,0,none⟩) 1 1] ((W.alloc (.cells #[v0,v1,v2,v3,v4,v5,v6] 26)).alloc (.cells #[v0,v1,v2,v3,v4,v5,v6] 26)) fun e W'=>∃ v',e=.returned (.tuple #[v',.bool true])∧Own rf 40 5 W.heap.size W' v' (rfs x)∧Q W W':=by
 have n1:=nd_new (W.alloc (.cells #[v0,v1,v2,v3,v4,v5,v6] 26)) v0 v1 v2 v3 v4 v5 v6 26;rw [show (W.alloc (.cells #[v0,v1,v2,v3,v4,v5,v6] 26)).heap.size=W.heap.size+1 by simp]at n1
 refine (front_any x (W.heap.size+1) _ ?_ hs hk hl).mono ?_
 ·unfold PdL
  exact ⟨⟨v0,v1,v2,v3,v4,v5,v6,n1.g0,n1.g1,n1.g2,n1.g3,n1.g4,n1.g5,n1.g6,Rd.on (((Q.refl _).alloc _).alloc _) _ _ hx⟩,by unfold PdL;trivial⟩
 ·rintro e W' ⟨v',rfl,h1,h2⟩
  exact ⟨v',rfl,h1.mono (by simp;omega),(((Q.refl _).alloc _).alloc _).trans h2⟩
theorem refs_any(x:Ex)(v:Value)(W:World)(hx:Rd W x v)(hs:Sn x)(hk:nodes x≤300)(hl:(rfs x).length≤10000) :
  Calls Tryz.prog 17 #[v] W fun e W'=>∃ v',e=.returned v'∧Own rf 40 5 W.heap.size W' v' (rfs x)∧Q W W':=by
 obtain ⟨k,n,t,b,e,a1,l1,c1,a2,l2,c2,rfl⟩:=hx.shape;have HF:=hid (front_tree x _ _ _ _ _ _ _ W hx hs hk hl);clear hx hs hk hl;go_enter Tryz.func17,Tryz.ntmps17
 go_wp2_with (go_at_call 35;refine HF.out.mono ?_;rintro e9 w1 ⟨v1,rfl,o1,q1⟩;have O1:=hid o1;have Q1:=hid q1;clear o1 q1)
 go_ret
 exact ⟨_,rfl,O1.out,Q1.out⟩
end Go.Proofs.YtoikodohcieipaaGreatDoor
