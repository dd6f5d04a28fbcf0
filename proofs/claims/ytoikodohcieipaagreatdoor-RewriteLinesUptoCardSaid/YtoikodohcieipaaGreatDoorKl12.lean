/- P.tree of the reference, walke. -/
import Derived.Test.YtoikodohcieipaaGreatDoorKl10
import Derived.BigQuiet
set_option linter.unusedVariables false
set_option linter.unusedSimpArgs false
set_option maxRecDepth 100000
set_option maxHeartbeats 8000000
namespace Go.Proofs.YtoikodohcieipaaGreatDoor
open Go.RowKit
def far(p:Nat)(W:World):Nat:=match W.cell? ⟨p,1,none⟩ with
 |some (.int _ i)=>i.toNat
 |_=>0
theorem far_of{W:World}{p:Nat}{L:List Wd}{b off cap i:Nat}{bd:Bool}{n:Nat}(h:PS W p L b off cap i bd n):far p W=i:=by
 unfold far
 rw [h.c1];simp
structure LI (E:Env) (L:List Wd) (p b off cap lv:Nat) (W:World) (X0:Nat) (R:Ex × St) (W':World) (f':Nat) (s1:St) (y:Ex) (k m:Int) (t:ByteArray) (bb:Bool) (er:Int) (a1:Option Addr) (l1 c1:Nat) (a2:Option Addr) (l2 c2:Nat):Prop where
 st:PS W' p L b off cap s1.i s1.bd s1.n
 lt:s1.i<L.length
 nb:s1.n≤s1.i
 fe:treeF.loopF E L f' lv y s1=some R
 xb:Tb W' X0 (.int .i64 k) (.int .i64 m) (.string t) (.bool bb) (.int .i64 er) (.slice a1 l1 c1) (.slice a2 l2 c2)
 zb:Tb W' W.heap.size (.int .i64 0) (.int .i64 0) (.string ⟨#[]⟩) (.bool false) (.int .i64 0) (.slice none 0 0) (.slice none 0 0)
 rd:Rdg (fun b=>W.heap.size+1≤b∧b≠X0) W' y (.agg #[.int .i64 k,.int .i64 m,.string t,.bool bb,.int .i64 er,.slice a1 l1 c1,.slice a2 l2 c2])
 qx:Qx p W W'
theorem loop_stop{E:Env}{L:List Wd}{f lv:Nat}{x:Ex}{s:St}{R:Ex × St}(h:¬ (s.bd=false∧stg L s.i=lv))(e:treeF.loopF E L f lv x s=some R):R=(x,s):=by
 cases f with
 |zero=>unfold treeF.loopF at e;cases e
 |succ f=>rw [treeF.loopF,if_neg h]at e;exact (Option.some.inj e).symm
theorem Tb.put{W:World}{q:Nat}{c0 c1 c2 c3 c4 c5 c6:Value}(h:Tb W q c0 c1 c2 c3 c4 c5 c6)(d0 d1 d2 d3 d4 d5 d6:Value) :
  Tb (((((((W.setCell ⟨q,0,none⟩ d0).setCell ⟨q,1,none⟩ d1).setCell ⟨q,2,none⟩ d2).setCell ⟨q,3,none⟩ d3).setCell ⟨q,4,none⟩ d4).setCell ⟨q,5,none⟩ d5).setCell ⟨q,6,none⟩ d6) q d0 d1 d2 d3 d4 d5 d6:=by
 obtain ⟨h0,h1,h2,h3,h4,h5,h6,hf⟩:=h;have same:∀ {V:World} {j:Nat} {c d:Value},V.cell? ⟨q,j,none⟩=some c→(V.setCell ⟨q,j,none⟩ d).cell? ⟨q,j,none⟩=some d:=fun {V j c d} e=>World.cell?_setCell_same _ _ _ e
 have other:∀ {V:World} {j k:Nat} {d:Value} {o:Option Value},k≠j→V.cell? ⟨q,j,none⟩=o→(V.setCell ⟨q,k,none⟩ d).cell? ⟨q,j,none⟩=o:=fun {V j k d o} hk e=>by
  rw [World.cell?_setCell_other _ _ _ _ (by simp;try omega)];exact e
 have p0:∀ {V:World},V.cell? ⟨q,0,none⟩=some c0→True:=fun _=>trivial
 refine ⟨?_,?_,?_,?_,?_,?_,?_,fun j=>?_⟩
 ·exact other (by omega) (other (by omega) (other (by omega) (other (by omega) (other (by omega) (other (by omega) (same h0))))))
 ·exact other (by omega) (other (by omega) (other (by omega) (other (by omega) (other (by omega) (same (other (by omega) h1))))))
 ·exact other (by omega) (other (by omega) (other (by omega) (other (by omega) (same (other (by omega) (other (by omega) h2))))))
 ·exact other (by omega) (other (by omega) (other (by omega) (same (other (by omega) (other (by omega) (other (by omega) h3))))))
 ·exact other (by omega) (other (by omega) (same (other (by omega) (other (by omega) (other (by omega) (other (by omega) h4))))))
 ·exact other (by omega) (same (other (by omega) (other (by omega) (other (by omega) (other (by omega) (other (by omega) h5))))))
 ·exact same (other (by omega) (other (by omega) (other (by omega) (other (by omega) (other (by omega) (other (by omega) h6))))))
 ·simp only [World.frozen?_setCell]
  exact hf j
structure Tw (W:World) (q:Nat) (c0 c1 c2 c3 c4 c5 c6 d0 d1 d2 d3 d4 d5 d6:Value):Prop where
 g0:W.cell? ⟨q,0,none⟩=some c0
 g1:W.cell? ⟨q,1,none⟩=some c1
 g2:W.cell? ⟨q,2,none⟩=some c2
 g3:W.cell? ⟨q,3,none⟩=some c3
 g4:W.cell? ⟨q,4,none⟩=some c4
 g5:W.cell? ⟨q,5,none⟩=some c5
 g6:W.cell? ⟨q,6,none⟩=some c6
 e0:W.cell? ⟨q,7,none⟩=some d0
 e1:W.cell? ⟨q,8,none⟩=some d1
 e2:W.cell? ⟨q,9,none⟩=some d2
 e3:W.cell? ⟨q,10,none⟩=some d3
 e4:W.cell? ⟨q,11,none⟩=some d4
 e5:W.cell? ⟨q,12,none⟩=some d5
 e6:W.cell? ⟨q,13,none⟩=some d6
theorem tw_new(W:World)(c0 c1 c2 c3 c4 c5 c6 d0 d1 d2 d3 d4 d5 d6:Value)(t:TypeId):Tw (W.alloc (.cells #[c0,c1,c2,c3,c4,c5,c6,d0,d1,d2,d3,d4,d5,d6] t)) W.heap.size c0 c1 c2 c3 c4 c5 c6 d0 d1 d2 d3 d4 d5 d6:=by
 refine ⟨?_,?_,?_,?_,?_,?_,?_,?_,?_,?_,?_,?_,?_,?_⟩
 all_goals simp [World.cell?_alloc_new]
theorem Tw.on{p:Nat}{W W':World}{q:Nat}{c0 c1 c2 c3 c4 c5 c6 d0 d1 d2 d3 d4 d5 d6:Value}(h:Tw W q c0 c1 c2 c3 c4 c5 c6 d0 d1 d2 d3 d4 d5 d6)(x:Qx p W W')(hq:q≠p):Tw W' q c0 c1 c2 c3 c4 c5 c6 d0 d1 d2 d3 d4 d5 d6:=by
 have hl:q<W.heap.size:=World.block_lt_of_cell? W ⟨q,0,none⟩ h.g0
 exact ⟨(x.cell hl hq).trans h.g0,(x.cell hl hq).trans h.g1,(x.cell hl hq).trans h.g2,(x.cell hl hq).trans h.g3,(x.cell hl hq).trans h.g4,(x.cell hl hq).trans h.g5,(x.cell hl hq).trans h.g6,
  (x.cell hl hq).trans h.e0,(x.cell hl hq).trans h.e1,(x.cell hl hq).trans h.e2,(x.cell hl hq).trans h.e3,(x.cell hl hq).trans h.e4,(x.cell hl hq).trans h.e5,(x.cell hl hq).trans h.e6⟩
theorem Tw.two{g:Nat→Prop}{W:World}{q:Nat}{c0 c1 c2 c3 c4 c5 c6 d0 d1 d2 d3 d4 d5 d6:Value}{x y:Ex}(h:Tw W q c0 c1 c2 c3 c4 c5 c6 d0 d1 d2 d3 d4 d5 d6)(hx:Rdg g W x (.agg #[c0,c1,c2,c3,c4,c5,c6]))(hy:Rdg g W y (.agg #[d0,d1,d2,d3,d4,d5,d6])):Rdg.RdLg g W [x,y] q 0:=by
 unfold Rdg.RdLg
 refine ⟨⟨_,_,_,_,_,_,_,h.g0,h.g1,h.g2,h.g3,h.g4,h.g5,h.g6,hx⟩,?_⟩
 unfold Rdg.RdLg
 refine ⟨⟨_,_,_,_,_,_,_,h.e0,h.e1,h.e2,h.e3,h.e4,h.e5,h.e6,hy⟩,?_⟩
 unfold Rdg.RdLg
 trivial
theorem loop_go{E:Env}{L:List Wd}{f lv:Nat}{x:Ex}{s:St}{R:Ex × St}(h:s.bd=false∧stg L s.i=lv)(e:treeF.loopF E L f lv x s=some R):∃ g r,f=g+1∧treeF E L g (lv+1) s.on=some r∧treeF.loopF E L g lv (binE (tAt L s.i) x r.1) r.2.node=some R:=by
 cases f with
 |zero=>unfold treeF.loopF at e;cases e
 |succ f=>
  rw [treeF.loopF,if_pos h]at e;obtain ⟨r,h1,h2⟩:=Option.bind_eq_some_iff.1 e;exact ⟨f,r,rfl,h1,h2⟩
theorem tree_step(E:Env)(L:List Wd)(hE:Ends L)(p b off cap lv:Nat)(s:St)(W:World)(h:PS W p L b off cap s.i s.bd s.n)(hi:s.i<L.length)(hb:s.bd=false)(hv0:1≤lv)(hv:lv≤4)(r0 R:Ex × St)(f0:Nat)(HR:Hid (treeF.loopF E L f0 lv r0.1 r0.2=some R))
  (HT:Hid (∀ W1,PS W1 p L b off cap s.i s.bd s.n→Calls Tryz.prog 41 #[.pointer (some ⟨p,0,none⟩),.int .i64 ((lv:Int)+1)] W1 fun e W'=>Rep p L b off cap W1 r0 e W'))
  (HT2:Hid (∀ f' s1 r W1,f'<f0→treeF E L f' (lv+1) s1=some r→PS W1 p L b off cap s1.i s1.bd s1.n→s1.i<L.length→s1.n≤s1.i→Calls Tryz.prog 41 #[.pointer (some ⟨p,0,none⟩),.int .i64 ((lv:Int)+1)] W1 fun e W'=>Rep p L b off cap W1 r e W'))
  (hroom:L.length≤50000) (hF0:Fwd L s r0.2) (hnb:s.n≤s.i) :
  Calls Tryz.prog 41 #[.pointer (some ⟨p,0,none⟩),.int .i64 (lv:Int)] W fun e W'=>Rep p L b off cap W R e W':=by
 have hlt:=h.lt;have hbW:=h.blk hi;have HP0:=hid (h.on ((Q.refl _).alloc (.cells #[.int .i64 0,.int .i64 0,.string ⟨#[]⟩,.bool false,.int .i64 0,.slice none 0 0,.slice none 0 0] 26)));have g2:=HP0.out.c2;rw [hb]at g2;have HZ:=hid (tb_new W (.int .i64 0) (.int .i64 0) (.string ⟨#[]⟩) (.bool false) (.int .i64 0) (.slice none 0 0) (.slice none 0 0) 26);have h5:((lv:Int) == 5)=false:=by rw [beq_eq_false_iff_ne];omega
 have HFs:=hid hF0;obtain ⟨x,s'⟩:=r0;simp only at HR HFs
 clear h hF0;go_enter Tryz.func41,Tryz.ntmps41
 go_wp2_with (go_at_call 41;refine (HT.out _ HP0.out).mono ?_;rintro e w2 ⟨v,rfl,hr2,q2,p2⟩;obtain ⟨k,m,t,bb,er,a1,l1,c1,a2,l2,c2,rfl⟩:=hr2.shape;have R2:=hid hr2;have Q2:=hid q2;have P2:=hid p2;have Z2:=hid (HZ.out.on Q2.out (by omega));clear hr2 q2 p2)
 have hsz:W.heap.size+1≤w2.heap.size:=by have:=Q2.out.size;simp at this;omega
 have hnb':s'.n≤s'.i:=by have:=HFs.out.nd;omega
 have HI:Hid (LI E L p b off cap lv W w2.heap.size R (w2.alloc (.cells #[.int .i64 k,.int .i64 m,.string t,.bool bb,.int .i64 er,.slice a1 l1 c1,.slice a2 l2 c2] 26)) f0 s' x k m t bb er a1 l1 c1 a2 l2 c2):=hid ⟨P2.out.on ((Q.refl _).alloc _),HFs.out.lt,hnb',HR.out,tb_new _ _ _ _ _ _ _ _ _,Z2.out.on ((Qx.refl p _).alloc _) (by omega),Rdg.on ((Qx.refl p _).alloc _) (fun b hb=>by omega) _ _ (Rdg.mono (fun b hb=>by simp at hb;omega) _ _ (Rdg.in _ _ R2.out)),(((Qx.refl p W).alloc _).trans Q2.out).alloc _⟩
 go_loopw [6] (fun _ W'=>∃ (f':Nat) (s1:St) (y:Ex) (k m:Int) (t:ByteArray) (bb:Bool) (er:Int) (a1:Option Addr) (l1 c1:Nat) (a2:Option Addr) (l2 c2:Nat),f'≤f0∧LI E L p b off cap lv W w2.heap.size R W' f' s1 y k m t bb er a1 l1 c1 a2 l2 c2) (fun _ W'=>L.length-far p W')
 case atStart=>exact ⟨f0,s',x,k,m,t,bb,er,a1,l1,c1,a2,l2,c2,Nat.le_refl _,HI.out⟩
 case round=>
  obtain ⟨f',s1,y,k,m,t,bb,er,a1,l1,c1,a2,l2,c2,hf',hI⟩:=hrel;have HI2:=hid hI;have hlt1:=hI.lt;have z0:=hI.st.c0;have z1:=hI.st.c1;have z2:=hI.st.c2;have v0:=hI.st.sw.k s1.i hI.lt;have v1:=hI.st.sw.t s1.i hI.lt;obtain ⟨T,hT,lT⟩:∃ T:ByteArray,⟨L[s1.i].t.toArray⟩=T∧T.data.toList=L[s1.i].t:=⟨_,rfl,rfl⟩;rw [hT]at v1;have hK:=kAt_get hI.lt;have HLV:=hid (fun W=>level_any T W)
  rw [lT,←hK.2]at HLV;rw [←hK.1]at v0;have HTT:Hid (T.data.toList=tAt L s1.i):=hid (lT.trans hK.2.symm)
  by_cases hgo:s1.bd=false∧stg L s1.i=lv
  ·have e6:kAt L s1.i=6:=stg_six (by omega)
   have e7:lvl (tAt L s1.i)=lv:=by have:=hgo.2;unfold stg at this;rw [if_pos e6]at this;exact this
   have e9:((lv:Int) == (lv:Int))=true:=beq_self_eq_true _
   have HGO:=hid hgo;rw [hgo.1]at z2;rw [e6]at v0;rw [e7]at HLV;obtain ⟨g,r,rfl,ht,hl⟩:=loop_go hgo hI.fe;have hon:s1.on.i<L.length:=hE _ hlt1 (by omega)
   have y1:=hI.st.f1;have hFr:=((fwd_all E L hE g).1 _ _ _ (by omega) ht hon).1
   have hn3:r.2.n≤100000:=by have:=hFr.nd;have:=hFr.lt;have:=hI.nb;have:=hFr.le;simp only [on_i,on_n]at *;omega
   have hXp:w2.heap.size≠p:=by omega
   clear hI hT lT hK hgo;go_wp2_with fail
   go_quiet (first|(go_at_call 56;refine Calls.quiet_of_same (HLV.out _))|(refine Calls.quiet_of_same (HLV.out _)))
   go_wp2_with fail
   go_quiet (fail)
   go_wp2_with (first|(go_at_call 41;refine (HT2.out g s1.on r _ (by omega) ht (PS.set1 (PS.on HI2.out.st (by repeat (first|exact Q.refl _|refine Q.drewN ?_ _|refine Q.drew ?_))) (s1.i+1) _ (by go_num)) hon (by simp only [on_i,on_n];have:=HI2.out.nb;omega)).mono ?_;rintro e w3 ⟨v,rfl,hr3,q3,p3⟩;obtain ⟨k3,m3,t3,bb3,er3,a13,l13,c13,a23,l23,c23,rfl⟩:=hr3.shape;have R3:=hid hr3;have Q3:=hid q3;have P3:=hid p3;clear hr3 q3 p3;have QA:Hid (Qx p wr w3):=hid (Qx.trans (by repeat (first|with_reducible exact Qx.refl _ _|with_reducible refine Qx.own ?_ _ _|with_reducible refine Qx.drewN ?_ _)) Q3.out);have X4:=hid ((HI2.out.xb.on QA.out hXp).on ((Qx.refl p _).alloc (.cells #[.int .i64 k3,.int .i64 m3,.string t3,.bool bb3,.int .i64 er3,.slice a13 l13 c13,.slice a23 l23 c23] 26)) hXp);have d0:=X4.out.g0;have d1:=X4.out.g1;have d2:=X4.out.g2;have d3:=X4.out.g3;have d4:=X4.out.g4;have d5:=X4.out.g5;have d6:=X4.out.g6)|(go_at_call 66;refine (node_any _ p L b off cap _ _ _ ((P3.out.on ((Q.refl _).alloc _)).on ((Q.refl _).alloc _)) hn3 8 0 T false 0 none 0 0 (some ⟨w3.heap.size+1,0,none⟩) 2 2).mono ?_;rintro e w5 ⟨rfl,q5,p5⟩;have Q5:=hid q5;have P5:=hid p5;clear q5 p5;have X5:=hid ((X4.out.on ((Qx.refl p _).alloc _) hXp).on Q5.out hXp);have f0:=X5.out.f 0;have f1:=X5.out.f 1;have f2:=X5.out.f 2;have f3:=X5.out.f 3;have f4:=X5.out.f 4;have f5:=X5.out.f 5;have f6:=X5.out.f 6;have h0:=X5.out.g0;have h1:=X5.out.g1;have h2:=X5.out.g2;have h3:=X5.out.g3;have h4:=X5.out.g4;have h5:=X5.out.g5;have h6:=X5.out.g6))
   have QAo:=QA.out;have s3:wr.heap.size≤w3.heap.size:=QAo.size
   have s5:w3.heap.size+2≤w5.heap.size:=by have:=Q5.out.size;simp at this;omega
   have hXr:w2.heap.size<wr.heap.size:=World.block_lt_of_cell? wr ⟨w2.heap.size,0,none⟩ HI2.out.xb.g0
   have QB:Qx p wr w5:=((QAo.alloc _).alloc _).trans Q5.out
   have QW:Qx p W w5:=HI2.out.qx.trans QB
   have QF:Qx w2.heap.size w5 (((((((w5.setCell ⟨w2.heap.size,0,none⟩ (.int .i64 8)).setCell ⟨w2.heap.size,1,none⟩ (.int .i64 0)).setCell ⟨w2.heap.size,2,none⟩ (.string T)).setCell ⟨w2.heap.size,3,none⟩ (.bool false)).setCell ⟨w2.heap.size,4,none⟩ (.int .i64 0)).setCell ⟨w2.heap.size,5,none⟩ (.slice none 0 0)).setCell ⟨w2.heap.size,6,none⟩ (.slice (some ⟨w3.heap.size+1,0,none⟩) 2 2)):=(((((((Qx.refl _ _).own _ _).own _ _).own _ _).own _ _).own _ _).own _ _).own _ _
   have K5:=(tw_new (w3.alloc (.cells #[.int .i64 k3,.int .i64 m3,.string t3,.bool bb3,.int .i64 er3,.slice a13 l13 c13,.slice a23 l23 c23] 26)) (.int .i64 k) (.int .i64 m) (.string t) (.bool bb) (.int .i64 er) (.slice a1 l1 c1) (.slice a2 l2 c2) (.int .i64 k3) (.int .i64 m3) (.string t3) (.bool bb3) (.int .i64 er3) (.slice a13 l13 c13) (.slice a23 l23 c23) 26).on Q5.out (by simp;omega)
   rw [show (w3.alloc (.cells #[.int .i64 k3,.int .i64 m3,.string t3,.bool bb3,.int .i64 er3,.slice a13 l13 c13,.slice a23 l23 c23] 26)).heap.size=w3.heap.size+1 by simp]at K5
   have K6:=K5.on QF (by omega)
   have P6:=((pl_new (w3.alloc (.cells #[.int .i64 k3,.int .i64 m3,.string t3,.bool bb3,.int .i64 er3,.slice a13 l13 c13,.slice a23 l23 c23] 26)) #[.int .i64 k,.int .i64 m,.string t,.bool bb,.int .i64 er,.slice a1 l1 c1,.slice a2 l2 c2,.int .i64 k3,.int .i64 m3,.string t3,.bool bb3,.int .i64 er3,.slice a13 l13 c13,.slice a23 l23 c23] 26).onx Q5.out (by simp;omega)).onx QF (by simp;omega)
   rw [show (w3.alloc (.cells #[.int .i64 k3,.int .i64 m3,.string t3,.bool bb3,.int .i64 er3,.slice a13 l13 c13,.slice a23 l23 c23] 26)).heap.size=w3.heap.size+1 by simp]at P6
   have RY:=Rdg.on QF (fun b hb=>hb.2) _ _ (Rdg.on QB (fun b hb=>by omega) _ _ HI2.out.rd)
   have RZ:Rdg (fun b=>W.heap.size+1≤b∧b≠w2.heap.size) _ r.1 _:=Rdg.on QF (fun b hb=>hb.2) _ _ (Rdg.on (((Qx.refl p _).alloc _).alloc _ |>.trans Q5.out) (fun b hb=>by omega) _ _ (Rdg.mono (fun b hb=>by simp at hb;omega) _ _ R3.out))
   have HL:LI E L p b off cap lv W w2.heap.size R _ g r.2.node (binE (tAt L s1.i) y r.1) 8 0 T false 0 none 0 0 (some ⟨w3.heap.size+1,0,none⟩) 2 2:=
    ⟨P5.out.onx QF (by omega) (by omega),hFr.lt,by simp only [node_i,node_n];have:=hFr.nd;have:=hFr.le;have:=HI2.out.nb;simp only [on_i,on_n]at *;omega,hl,X5.out.put _ _ _ _ _ _ _,(HI2.out.zb.on QB (by omega)).on QF (by omega),rdg_kids 8 (tAt L s1.i) T HTT.out [y,r.1] (w3.heap.size+1) 2 ⟨by omega,by omega⟩ (by simp) (by unfold maxLen;omega) P6 (K6.two RY RZ),by repeat (first|with_reducible exact QW|with_reducible refine Qx.new ?_ (by omega) _ _)⟩
   go_roundw
   case rel=>exact ⟨g,r.2.node,_,8,0,T,false,0,none,0,0,some ⟨w3.heap.size+1,0,none⟩,2,2,by omega,HL⟩
   case measure=>
    rw [far_of HL.st,far_of HI2.out.st];have:=hFr.le
    simp only [on_i,node_i]at *
    omega
  ·have eR:=loop_stop hgo hI.fe
   have xg0:=hI.xb.g0;have xg1:=hI.xb.g1;have xg2:=hI.xb.g2;have xg3:=hI.xb.g3;have xg4:=hI.xb.g4;have xg5:=hI.xb.g5;have xg6:=hI.xb.g6;have zg0:=hI.zb.g0;have zg1:=hI.zb.g1;have zg2:=hI.zb.g2;have zg3:=hI.zb.g3;have zg4:=hI.zb.g4;have zg5:=hI.zb.g5;have zg6:=hI.zb.g6;have zf0:=hI.zb.f 0;have zf1:=hI.zb.f 1;have zf2:=hI.zb.f 2;have zf3:=hI.zb.f 3;have zf4:=hI.zb.f 4;have zf5:=hI.zb.f 5;have zf6:=hI.zb.f 6;have hXz:w2.heap.size≠W.heap.size:=by omega
   have fin:∀ n:Nat,Rep p L b off cap W R (.returned (.agg #[.int .i64 k,.int .i64 m,.string t,.bool bb,.int .i64 er,.slice a1 l1 c1,.slice a2 l2 c2])) ((((((((wr.drewN n).setCell ⟨W.heap.size,0,none⟩ (.int .i64 k)).setCell ⟨W.heap.size,1,none⟩ (.int .i64 m)).setCell ⟨W.heap.size,2,none⟩ (.string t)).setCell ⟨W.heap.size,3,none⟩ (.bool bb)).setCell ⟨W.heap.size,4,none⟩ (.int .i64 er)).setCell ⟨W.heap.size,5,none⟩ (.slice a1 l1 c1)).setCell ⟨W.heap.size,6,none⟩ (.slice a2 l2 c2)):=by
    intro n
    rw [eR];exact fin7 k m t bb er a1 l1 c1 a2 l2 c2 hlt hbW (HI2.out.qx.drewN n) (Rdg.on ((Qx.refl p _).drewN n) (fun b hb=>by omega) _ _ (Rdg.mono (fun b hb=>hb.1) _ _ HI2.out.rd)) (HI2.out.st.on ((Q.refl _).drewN n))
   have FIN:=hid fin;clear fin eR;cases hbd:s1.bd
   ·by_cases e6:kAt L s1.i=6
    ·have e7:lvl (tAt L s1.i)≠lv:=fun e=>hgo ⟨hbd,by unfold stg;rw [if_pos e6];exact e⟩
     have e9:((lvl (tAt L s1.i):Int) == (lv:Int))=false:=by rw [beq_eq_false_iff_ne];omega
     rw [hbd]at z2;rw [e6]at v0;generalize lvl (tAt L s1.i)=lw at HLV e9;clear hI hT lT hK hgo e7;go_wp2_with fail
     go_quiet (first|(go_at_call 56;refine Calls.quiet_of_same (HLV.out _))|(refine Calls.quiet_of_same (HLV.out _)))
     go_wp2_with fail
     refine bodyPost_ret (v:=.agg #[.int .i64 k,.int .i64 m,.string t,.bool bb,.int .i64 er,.slice a1 l1 c1,.slice a2 l2 c2]) (by simp [results,Tryz.results41,go_sem,zg0,zg1,zg2,zg3,zg4,zg5,zg6]) rfl ?_
     exact FIN.out _
    ·have e7:((kAt L s1.i:Int) == 6)=false:=by rw [beq_eq_false_iff_ne];omega
     rw [hbd]at z2;generalize (kAt L s1.i:Int)=kk at v0 e7;clear hI hT lT hK hgo;go_wp2_with fail
     go_quiet (fail)
     go_wp2_with fail
     refine bodyPost_ret (v:=.agg #[.int .i64 k,.int .i64 m,.string t,.bool bb,.int .i64 er,.slice a1 l1 c1,.slice a2 l2 c2]) (by simp [results,Tryz.results41,go_sem,zg0,zg1,zg2,zg3,zg4,zg5,zg6]) rfl ?_
     exact FIN.out _
   ·rw [hbd]at z2
    clear hI hT lT hK hgo;go_wp2_with fail
    go_quiet (fail)
    go_wp2_with fail
    refine bodyPost_ret (v:=.agg #[.int .i64 k,.int .i64 m,.string t,.bool bb,.int .i64 er,.slice a1 l1 c1,.slice a2 l2 c2]) (by simp [results,Tryz.results41,go_sem,zg0,zg1,zg2,zg3,zg4,zg5,zg6]) rfl ?_
    exact FIN.out _
end Go.Proofs.YtoikodohcieipaaGreatDoor
