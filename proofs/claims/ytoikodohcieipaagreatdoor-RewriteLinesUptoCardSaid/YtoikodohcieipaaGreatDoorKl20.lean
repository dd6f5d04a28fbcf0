/- P.call of the reference, walke. -/
import Derived.Test.YtoikodohcieipaaGreatDoorKl15
set_option linter.unusedVariables false
set_option linter.unusedSimpArgs false
set_option maxRecDepth 100000
set_option maxHeartbeats 8000000
namespace Go.Proofs.YtoikodohcieipaaGreatDoor
open Go.RowKit
theorem one7(k m:Int)(t:ByteArray)(bb:Bool)(er:Int)(a1:Option Addr)(l1 c1:Nat)(a2:Option Addr)(l2 c2:Nat):∀ u∈([.int .i64 k,.int .i64 m,.string t,.bool bb,.int .i64 er,.slice a1 l1 c1,.slice a2 l2 c2]:List Value),u.oneCell'=true:=by
 intro u hu
 simp at hu
 rcases hu with rfl|rfl|rfl|rfl|rfl|rfl|rfl <;> rfl
theorem Qx.via{p r:Nat}{a b c:World}(h:Qx p a b)(k:Qx r b c)(hr:a.heap.size≤r):Qx p a c:=
 ⟨k.os.trans h.os,k.tape.trans h.tape,k.output.trans h.output,Nat.le_trans h.size k.size,fun i hi hp=>(k.block i (Nat.lt_of_lt_of_le hi h.size) (fun e=>by have:=Option.some.inj e;omega)).trans (h.block i hi hp)⟩
theorem AI.next{L:List Wd}{p b off cap:Nat}{W:World}{T:ByteArray}{t:List UInt8}{R:Ex × St}{wr w8 w9:World}{f' g:Nat}{ks:List Ex}{s1:St}{Ls:List V7}{ao:Option Addr}{cp:Nat}(h:AI L p b off cap W T t R wr f' ks s1 Ls ao cp)(hp:p<W.heap.size)(hb:b<W.heap.size)
  (r:Ex × St) (x:V7) (Q8:Qx p wr w8) (P8:PS w8 p L b off cap r.2.i r.2.bd r.2.n) (R8:Rdg (fun b=>wr.heap.size≤b) w8 r.1 (agg7 x)) (o1 o2:Obj) (ao':Option Addr) (cp':Nat)
  (ow9:Own enc7 26 7 W.heap.size w9 (.slice ao' (Ls.length+1) cp') (Ls++[x])) (hgrow:((w8.alloc o1).alloc o2).grownBy w9 (Value.slice ao Ls.length cp).ownBlock) (hat:(Value.slice ao' (Ls.length+1) cp').ownBlock=(Value.slice ao Ls.length cp).ownBlock∨(Value.slice ao' (Ls.length+1) cp').ownBlock=some ((w8.alloc o1).alloc o2).heap.size)
  (bv:Bool) (hbv:(argS ks r.2).bd=bv) (hlt:r.2.i<L.length) (hnb:r.2.n+1≤r.2.i) (hfe:treeF.argsF EE L g t (ks++[r.1]) (argS ks r.2)=some R) (hk:ks.length≤30) :
  AI L p b off cap W T t R ((w9.setCell ⟨W.heap.size+2,6,none⟩ (.slice ao' (Ls.length+1) cp')).setCell ⟨p,2,none⟩ (.bool bv)) g (ks++[r.1]) (argS ks r.2) (Ls++[x]) ao' cp':=by
 have hlen:(Ls++[x]).length=Ls.length+1:=by simp
 have hs8:wr.heap.size≤w8.heap.size:=Q8.size
 have hsA:((w8.alloc o1).alloc o2).heap.size=w8.heap.size+2:=by simp
 obtain ⟨r9,Qr,hr9,hro⟩:=grown_qx (n:=W.heap.size+3) hgrow (by have:=h.sz;omega) h.ob
 have hs9:w8.heap.size+2≤w9.heap.size:=by have:=Qr.size;omega
 have QA:Qx p wr ((w8.alloc o1).alloc o2):=(Q8.alloc _).alloc _
 have QS:Qx (W.heap.size+2) w9 (w9.setCell ⟨W.heap.size+2,6,none⟩ (.slice ao' (Ls.length+1) cp')):=(Qx.refl _ _).own _ _
 have QP:Qx p (w9.setCell ⟨W.heap.size+2,6,none⟩ (.slice ao' (Ls.length+1) cp')) ((w9.setCell ⟨W.heap.size+2,6,none⟩ (.slice ao' (Ls.length+1) cp')).setCell ⟨p,2,none⟩ (.bool bv)):=(Qx.refl _ _).own _ _
 have hob:∀ j,(Value.slice ao' (Ls.length+1) cp').ownBlock=some j→W.heap.size+3≤j:=by
  intro j hj
  rcases hat with e|e
  ·exact h.ob j (e ▸ hj)
  ·rw [e]at hj
   have:=Option.some.inj hj
   have:=h.sz
   omega
 have hlt':=h.ow.lt;refine ⟨?_,hlt,hnb,hfe,?_,?_,?_,by rw [hlen,List.length_append,h.ln];rfl,?_,?_,?_,by simp;omega,fun e=>?_,?_⟩
 ·have P9:=((((P8.on ((Q.refl _).alloc o1)).on ((Q.refl _).alloc o2)).onx Qr (by omega) (by omega)).onx QS (by omega) (by omega)).set2 bv
  rw [hbv];exact P9
 ·rw [hlen]
  exact (((h.xb.on QA (by omega)).on Qr (by omega)).put6 _).on QP (by omega)
 ·exact (((h.zb.on QA (by omega)).on Qr (by omega)).on QS (by omega)).on QP (by omega)
 ·rw [hlen]
  refine (ow9.grown QS (.inr fun e=>?_)).grown QP (.inr fun e=>?_)
  ·have:=hob _ e;omega
  ·have:=hob _ e;omega
 ·rw [hlen]
  exact hob
 ·have hob2:(Value.slice ao' (Ls++[x]).length cp').ownBlock=(Value.slice ao' (Ls.length+1) cp').ownBlock:=by rw [hlen]
  have fin:∀ {y:Ex} {v:Value} {gg:Nat→Prop},(∀ b,gg b→W.heap.size+3≤b∧(Value.slice ao Ls.length cp).ownBlock≠some b∧b<w8.heap.size)→Rdg gg ((w8.alloc o1).alloc o2) y v→Rdg (fun b=>W.heap.size+3≤b∧(Value.slice ao' (Ls.length+1) cp').ownBlock≠some b) ((w9.setCell ⟨W.heap.size+2,6,none⟩ (.slice ao' (Ls.length+1) cp')).setCell ⟨p,2,none⟩ (.bool bv)) y v:=by
   intro y v gg hg hy
   refine Rdg.mono (fun b hb=>⟨(hg b hb).1,fun e=>?_⟩) _ _ (Rdg.on QP (fun b hb=>by have:=hg b hb;omega) _ _ (Rdg.on QS (fun b hb=>by have:=hg b hb;omega) _ _ (Rdg.on Qr (fun b hb e=>?_) _ _ hy)))
   ·subst e
    rcases hro with e'|e'
    ·exact (hg _ hb).2.1 e'
    ·have:=(hg _ hb).2.2;omega
   ·rcases hat with e'|e'
    ·rw [e']at e;exact (hg b hb).2.1 e
    ·rw [e']at e
     have:=Option.some.inj e
     have:=(hg b hb).2.2
     omega
  intro i h1 h2
  refine Rdg.mono (g:=fun b=>W.heap.size+3≤b∧(Value.slice ao' (Ls.length+1) cp').ownBlock≠some b) (fun b hb=>⟨hb.1,by rw [hob2];exact hb.2⟩) _ _ ?_
  by_cases hi:i<ks.length
  ·have hi':i<Ls.length:=by rw [←h.ln];exact hi
   rw [List.getElem_append_left hi,List.getElem_append_left hi'];refine fin (gg:=fun b=>(W.heap.size+3≤b∧(Value.slice ao Ls.length cp).ownBlock≠some b)∧b<wr.heap.size) (fun b hb=>⟨hb.1.1,hb.1.2,by have:=hb.2;omega⟩) ?_
   exact Rdg.on QA (fun b hb=>by omega) _ _ (Rdg.in _ _ (h.rd i hi hi'))
  ·have e:i=ks.length:=by simp at h1;omega
   subst e;rw [List.getElem_append_right (by omega),List.getElem_append_right (by rw [h.ln];omega)]
   simp only [h.ln,Nat.sub_self,List.getElem_cons_zero]
   refine fin (gg:=fun b=>wr.heap.size≤b∧b<w8.heap.size) (fun b hb=>⟨by have:=h.sz;omega,fun e=>?_,hb.2⟩) ?_
   ·have:=hlt' _ e;omega
   ·exact Rdg.on ((Qx.refl p _).alloc _) (fun b hb=>by have:=h.sz;omega) _ _ (Rdg.on ((Qx.refl p _).alloc _) (fun b hb=>by have:=h.sz;omega) _ _ (Rdg.in _ _ R8))
 ·exact ((((h.qx.trans QA).via Qr (by omega)).new (by omega) _ _).own _ _)
 ·rw [argS_bd]at e
  simp at e
  simp
  omega
 ·have:=h.sz
  simp [World.setCell]
  omega
theorem AI.call{L:List Wd}{p b off cap:Nat}{W:World}{T:ByteArray}{t:List UInt8}{R:Ex × St}{W' W2:World}{f':Nat}{ks:List Ex}{s1:St}{Ls:List V7}{ao:Option Addr}{cp:Nat}(h:AI L p b off cap W T t R W' f' ks s1 Ls ao cp)(hT:T.data.toList=t)(hp:p<W.heap.size)(q:Qx p W' W2) :
  Rdg (fun b=>W.heap.size≤b∧b≠W.heap.size+1) W2 (callE t ks) (.agg #[.int .i64 9,.int .i64 0,.string T,.bool false,.int .i64 0,.slice none 0 0,.slice ao Ls.length cp]):=by
 refine rdg_call hT (h.ow.grown q ?_) h.ln (fun j hj=>?_) (fun i h1 h2=>Rdg.mono (fun b hb=>⟨by omega,by omega⟩) _ _ (Rdg.on q (fun b hb=>by omega) _ _ (h.rd i h1 h2)))
 ·refine .inr (fun e=>?_)
  have:=h.ob _ e
  omega
 ·have:=h.ob j hj
  exact ⟨by omega,by omega⟩
theorem call_args(L:List Wd)(p b off cap:Nat)(s:St)(W:World)(T:ByteArray)(q:Int)(t:List UInt8)(hT:T.data.toList=t)(h:PS W p L b off cap s.i s.bd s.n)(hi:s.i<L.length)(hr:L.length≤50000)(hn:s.n≤s.i)(hE:Ends L)(ht:¬ (t=truW∨t=flsW))(hw:isW L s.i [40]=true)(hl:t.length≤20)(R:Ex × St)(f0:Nat)(hnb:s.n+1≤s.i)(HR:Hid (treeF.argsF EE L f0 t [] s.on=some R))(HT2:Hid (∀ f' s1 r W1,f'<f0→treeF EE L f' 1 s1=some r→PS W1 p L b off cap s1.i s1.bd s1.n→s1.i<L.length→s1.n≤s1.i→Calls Tryz.prog 41 #[.pointer (some ⟨p,0,none⟩),.int .i64 1] W1 fun e W'=>Rep p L b off cap W1 r e W')) :
  Calls Tryz.prog 103 #[.pointer (some ⟨p,0,none⟩),.agg #[.int .i64 4,.string T,.int .i64 q]] W fun e W'=>Rep p L b off cap W R e W':=by
 have hlt:=h.lt;have hbW:=h.blk hi;have HTT:=hid hT;have et:=hid (toL T);have HP:=hid h;have HB:=hid ((wb_new W (.int .i64 4) (.string T) (.int .i64 q) 78).on ((Qx.refl p _).alloc (.cells #[.int .i64 0,.int .i64 0,.string ⟨#[]⟩,.bool false,.int .i64 0,.slice none 0 0,.slice none 0 0] 26)) (by omega))
 have HZ:=hid (tb_new (W.alloc (.cells #[.int .i64 4,.string T,.int .i64 q] 78)) (.int .i64 0) (.int .i64 0) (.string ⟨#[]⟩) (.bool false) (.int .i64 0) (.slice none 0 0) (.slice none 0 0) 26);rw [show (W.alloc (.cells #[.int .i64 4,.string T,.int .i64 q] 78)).heap.size=W.heap.size+1 by simp]at HZ
 have f1:(T.toList == [84,82,85,69])=false:=by rw [et.out,hT,beq_eq_false_iff_ne];exact fun e=>ht (.inl e)
 have f2:(T.toList == [70,65,76,83,69])=false:=by rw [et.out,hT,beq_eq_false_iff_ne];exact fun e=>ht (.inr e)
 have hc:=hid (fun W1 (g:PS W1 p L b off cap s.i s.bd s.n)=>take_any W1 p L b off cap s.i s.bd s.n ⟨#[40]⟩ g hi)
 rw [show (⟨#[40]⟩:ByteArray).data.toList=[40] from rfl,hw]at hc
 have X0:=hid (tb_new ((W.alloc (.cells #[.int .i64 4,.string T,.int .i64 q] 78)).alloc (.cells #[.int .i64 0,.int .i64 0,.string ⟨#[]⟩,.bool false,.int .i64 0,.slice none 0 0,.slice none 0 0] 26)) (.int .i64 9) (.int .i64 0) (.string T) (.bool false) (.int .i64 0) (.slice none 0 0) (.slice none 0 0) 26);rw [show ((W.alloc (.cells #[.int .i64 4,.string T,.int .i64 q] 78)).alloc (.cells #[.int .i64 0,.int .i64 0,.string ⟨#[]⟩,.bool false,.int .i64 0,.slice none 0 0,.slice none 0 0] 26)).heap.size=W.heap.size+2 by simp]at X0
 have hp0:p≠W.heap.size+1:=by omega
 have hp1:p≠W.heap.size+2:=by omega
 have hsz:¬ (20:Int)<(T.size:Int):=by rw [←hT]at hl;simp at hl;omega
 have hon:s.i+1<L.length:=hE.sign hw
 clear hl hT ht et;clear h;go_enter Tryz.func103,Tryz.ntmps103
 go_wp2_with (go_at_call 85;refine (hc.out _ (HP.out.on (by repeat (first|with_reducible exact Q.refl _|with_reducible refine Q.drewN ?_ _|with_reducible refine Q.drew ?_|with_reducible refine Q.alloc ?_ _|with_reducible refine Q.setCell ?_ (by simp) _)))).mono ?_;rintro e w1 ⟨rfl,q1,p1⟩;have Q1:Hid (Qx p W w1):=hid (Qx.trans (by repeat (first|with_reducible exact Qx.refl _ _|with_reducible refine Qx.drewN ?_ _|with_reducible refine Qx.drew ?_|with_reducible refine Qx.alloc ?_ _|with_reducible refine Qx.own ?_ _ _|with_reducible refine Qx.new ?_ (by simp) _ _)) q1);have P1:=hid p1;have Z1:=hid (HZ.out.on (Qx.trans (by repeat (first|with_reducible exact Qx.refl _ _|with_reducible refine Qx.drewN ?_ _|with_reducible refine Qx.drew ?_|with_reducible refine Qx.alloc ?_ _|with_reducible refine Qx.own ?_ _ _|with_reducible refine Qx.new ?_ (by simp) _ _)) q1) (by omega));have X1:=hid (X0.out.on q1 (by omega));have B1:=hid (HB.out.on (Qx.trans (by repeat (first|with_reducible exact Qx.refl _ _|with_reducible refine Qx.drewN ?_ _|with_reducible refine Qx.drew ?_|with_reducible refine Qx.alloc ?_ _|with_reducible refine Qx.own ?_ _ _|with_reducible refine Qx.new ?_ (by simp) _ _)) q1) (by omega));clear q1 p1;have x2:=P1.out.c2;have z2:=P1.out.f2;have bw:=B1.out.g1)
 have hsw:W.heap.size+3≤w1.heap.size:=World.block_lt_of_cell? w1 ⟨W.heap.size+2,0,none⟩ X1.out.g0
 have HI:Hid (AI L p b off cap W T t R w1 f0 [] s.on [] none 0):=hid ⟨P1.out,hon,by simp only [on_i,on_n];omega,HR.out,X1.out,Z1.out,own_nil _,rfl,(fun j hj=>by cases hj),(fun i h=>absurd h (by simp)),Q1.out,by simp,(fun _=>by simp),hsw⟩
 go_loopw [6] (fun _ W'=>∃ (f':Nat) (ks:List Ex) (s1:St) (Ls:List V7) (ao:Option Addr) (cp:Nat),f'≤f0∧AI L p b off cap W T t R W' f' ks s1 Ls ao cp) (fun _ W'=>mzA L.length p W')
 case atStart=>exact ⟨f0,[],s.on,[],none,0,Nat.le_refl _,HI.out⟩
 case round=>
  obtain ⟨f',ks,s1,Ls,ao,cp,hf',hI⟩:=hrel;clear HI P1 Q1 Z1 X1 B1 x2 z2 bw HR;have HI2:=hid hI;have hlt1:=hI.lt;have hlen:Ls.length≤31:=by rw [←hI.ln];exact hI.kl
  have z2:=hI.st.c2;have y2:=hI.st.f2;have n6:=hI.xb.g6;cases hbd:s1.bd
  ·rw [hbd]at z2
   have hIs:=hid (is_any wr p L b off cap s1.i s1.bd s1.n ⟨#[41]⟩ hI.st hI.lt);rw [show (⟨#[41]⟩:ByteArray).data.toList=[41] from rfl]at hIs
   cases h41:isW L s1.i [41]
   ·rw [h41]at hIs
    by_cases hn:ks≠[]∧isW L s1.i [44]=false
    ·have eR:=args_bad hbd h41 hn hI.fe
     subst eR;have hpos:(0:Int)<(Ls.length:Int):=by have:=hI.ln;have:=List.length_pos_iff.2 hn.1;omega
     have hc4:=hid (fun W1 (g:PS W1 p L b off cap s1.i s1.bd s1.n)=>take_any W1 p L b off cap s1.i s1.bd s1.n ⟨#[44]⟩ g hlt1)
     rw [show (⟨#[44]⟩:ByteArray).data.toList=[44] from rfl,hn.2]at hc4
     clear hI hn n6;go_wp2_with (first|(go_at_call 102;refine hIs.out.mono ?_;rintro e w5 ⟨rfl,q5⟩;have Q5:=hid q5;have P5:=hid (HI2.out.st.on q5);have X5:=hid (HI2.out.xb.on (Qx.of (p:=p) q5) (by omega));clear q5;have n6':=X5.out.g6)|(go_at_call 85;refine (hc4.out _ P5.out).mono ?_;rintro e w6 ⟨rfl,q6,p6⟩;have Q6:Hid (Qx p wr w6):=hid ((Qx.of Q5.out).trans q6);have P6:=hid p6;clear q6 p6;have t2:=P6.out.c2;have s2:=P6.out.f2;have X6:=hid (HI2.out.xb.on Q6.out (by omega));have Z6:=hid (HI2.out.zb.on Q6.out (by omega));have m0:=X6.out.g0;have m1:=X6.out.g1;have m2:=X6.out.g2;have m3:=X6.out.g3;have m4:=X6.out.g4;have m5:=X6.out.g5;have m6:=X6.out.g6;have d0:=Z6.out.g0;have d1:=Z6.out.g1;have d2:=Z6.out.g2;have d3:=Z6.out.g3;have d4:=Z6.out.g4;have d5:=Z6.out.g5;have d6:=Z6.out.g6;have y0:=Z6.out.f 0;have y1:=Z6.out.f 1;have y2:=Z6.out.f 2;have y3:=Z6.out.f 3;have y4:=Z6.out.f 4;have y5:=Z6.out.f 5;have y6:=Z6.out.f 6))
     refine bodyPost_ret (v:=.agg #[.int .i64 9,.int .i64 0,.string T,.bool false,.int .i64 0,.slice none 0 0,.slice ao Ls.length cp]) (by simp [results,Tryz.results103,go_sem,d0,d1,d2,d3,d4,d5,d6,m0,m1,m2,m3,m4,m5,m6,hp0]) rfl ?_
     exact fin7g (s':=s1.bad) (W.heap.size+1) 9 0 T false 0 none 0 0 ao Ls.length cp (by omega) hlt hbW ((HI2.out.qx.trans Q6.out).own 2 (.bool true)) (HI2.out.call HTT.out hlt (Q6.out.own 2 (.bool true))) (P6.out.set2 true)
    ·obtain ⟨g,r,rfl,ht,hl⟩:=args_more hbd h41 hn hI.fe
     obtain ⟨i0,hi0,hz0,hz1,hz2⟩:=inf_of info28;have hop:(Value.slice ao Ls.length cp).ownBlock=none∨(Value.slice ao Ls.length cp).ownBlock≠some p:=.inr (fun e=>by have:=HI2.out.ob _ e;omega)
     have hsW:=HI2.out.sz;by_cases hk0:ks=[]
     ·rw [if_pos hk0]at ht
      have hlen0:¬ (0:Int)<(Ls.length:Int):=by have:=hI.ln;rw [hk0]at this;simp at this;omega
      have hst:s1.i<L.length:=hlt1
      have hsn:s1.n≤s1.i:=by have:=hI.nb;omega
      obtain ⟨hFr,hFp⟩:=(fwd_all EE L hE g).1 _ _ _ (by omega) ht hst
      clear hI hn n6 hk0
      rcases Bool.eq_false_or_eq_true r.2.bd with hrb0|hrb0
      ·have hrb:r.2.bd=true:=hrb0
       go_wp2_with (first|(go_at_call 102;refine hIs.out.mono ?_;rintro e w5 ⟨rfl,q5⟩;have Q5:=hid q5;have P5:=hid (HI2.out.st.on q5);have X5:=hid (HI2.out.xb.on (Qx.of (p:=p) q5) (by omega));clear q5;have n6':=X5.out.g6)|(go_at_call 41;refine (HT2.out g s1 r _ (by omega) ht P5.out hst hsn).mono ?_;rintro e w8 ⟨v,rfl,hr8,q8,p8⟩;obtain ⟨k8,m8,t8,bb8,er8,a18,l18,c18,a28,l28,c28,rfl⟩:=hr8.shape;have hz6:wr.heap.size≤w5.heap.size:=Q5.out.size;have R8:Hid (Rdg (fun b=>wr.heap.size≤b) w8 r.1 (agg7 ⟨.int .i64 k8,.int .i64 m8,.string t8,.bool bb8,.int .i64 er8,.slice a18 l18 c18,.slice a28 l28 c28⟩)):=hid (Rdg.mono (fun b hb=>by omega) _ _ hr8);have Q8:Hid (Qx p wr w8):=hid ((Qx.of Q5.out).trans q8);have P8:=hid p8;have hz8:wr.heap.size≤w8.heap.size:=Q8.out.size;clear hr8 q8 p8;have X8:=hid ((HI2.out.xb.on Q8.out (by omega)).on ((Qx.refl p _).alloc (.cells #[.int .i64 k8,.int .i64 m8,.string t8,.bool bb8,.int .i64 er8,.slice a18 l18 c18,.slice a28 l28 c28] 26)) (by omega));have n68:=X8.out.g6)|(at_builtin;refine wpList_append_own_at _ rfl _ _ 24 rfl W.heap.size 26 i0 (.agg #[.int .i64 0,.int .i64 0,.string ⟨#[]⟩,.bool false,.int .i64 0,.slice none 0 0,.slice none 0 0]) 7 96 Tryz.underlying24 hi0 hz0 hz1 hz2 rfl (by decide) _ _ _ rfl (((HI2.out.ow.grown Q8.out hop).alloc _).alloc _) ⟨w8.heap.size+1,0,none⟩ 1 1 [.int .i64 k8,.int .i64 m8,.string t8,.bool bb8,.int .i64 er8,.slice a18 l18 c18,.slice a28 l28 c28] rfl rfl (news_at _ [.int .i64 k8,.int .i64 m8,.string t8,.bool bb8,.int .i64 er8,.slice a18 l18 c18,.slice a28 l28 c28] 26 _ (by simp)) (one7 _ _ _ _ _ _ _ _ _ _ _) (by unfold maxLen;omega) (by omega) (by simp;omega) ?_;intro v9 w9 hown9 hgrow9 _ hat9;have ow9:=own_snoc' (x:=(⟨.int .i64 k8,.int .i64 m8,.string t8,.bool bb8,.int .i64 er8,.slice a18 l18 c18,.slice a28 l28 c28⟩:V7)) hown9 rfl;obtain ⟨ao9,cp9,hv9,_,_⟩:=(ow9.sl enc7_len (by omega)).len;rw [show (Ls++[(⟨.int .i64 k8,.int .i64 m8,.string t8,.bool bb8,.int .i64 er8,.slice a18 l18 c18,.slice a28 l28 c28⟩:V7)]).length=Ls.length+1 by simp]at hv9;subst hv9;have OW9:=hid ow9;have HG9:=hid hgrow9;have HA9:=hid hat9;obtain ⟨r9,Qr,hr9,_⟩:=grown_qx (n:=W.heap.size+3) hgrow9 (by have:=HI2.out.sz;simp;omega) HI2.out.ob;have X9:=hid ((X8.out.on ((Qx.refl p _).alloc _) (by omega)).on Qr (by omega));have P9:=hid (((P8.out.on ((Q.refl _).alloc _)).on ((Q.refl _).alloc _)).onx Qr (by omega) (by omega));clear hown9 hgrow9 hat9 ow9 Qr hr9;have n69:=X9.out.g6;have f69:=X9.out.f 6;have c29:=P9.out.c2;have f29:=P9.out.f2;rw [hrb0]at c29))
       have HN:=HI2.out.next hlt hbW (g:=g) r ⟨.int .i64 k8,.int .i64 m8,.string t8,.bool bb8,.int .i64 er8,.slice a18 l18 c18,.slice a28 l28 c28⟩ Q8.out P8.out R8.out (.cells #[.int .i64 k8,.int .i64 m8,.string t8,.bool bb8,.int .i64 er8,.slice a18 l18 c18,.slice a28 l28 c28] 26) (.cells #[.int .i64 k8,.int .i64 m8,.string t8,.bool bb8,.int .i64 er8,.slice a18 l18 c18,.slice a28 l28 c28] 26) ao9 cp9 OW9.out HG9.out HA9.out true (by rw [argS_bd,hrb0];simp;try omega) hFr.lt (by have:=hFr.nd;have:=hFr.le;have:=HI2.out.nb;(try simp only [on_i,on_n]at *);omega) hl (HI2.out.kb hbd)
       go_roundw
       case rel=>exact ⟨g,_,_,_,_,_,by omega,HN⟩
       case measure=>
        rw [mzA_of HN.st,mzA_of HI2.out.st,argS_bd,argS_i,hbd,hrb0];have:=hFr.le
        have:=hFr.lt
        try simp only [on_i]at *
        simp
        omega
      ·go_wp2_with (first|(go_at_call 102;refine hIs.out.mono ?_;rintro e w5 ⟨rfl,q5⟩;have Q5:=hid q5;have P5:=hid (HI2.out.st.on q5);have X5:=hid (HI2.out.xb.on (Qx.of (p:=p) q5) (by omega));clear q5;have n6':=X5.out.g6)|(go_at_call 41;refine (HT2.out g s1 r _ (by omega) ht P5.out hst hsn).mono ?_;rintro e w8 ⟨v,rfl,hr8,q8,p8⟩;obtain ⟨k8,m8,t8,bb8,er8,a18,l18,c18,a28,l28,c28,rfl⟩:=hr8.shape;have hz6:wr.heap.size≤w5.heap.size:=Q5.out.size;have R8:Hid (Rdg (fun b=>wr.heap.size≤b) w8 r.1 (agg7 ⟨.int .i64 k8,.int .i64 m8,.string t8,.bool bb8,.int .i64 er8,.slice a18 l18 c18,.slice a28 l28 c28⟩)):=hid (Rdg.mono (fun b hb=>by omega) _ _ hr8);have Q8:Hid (Qx p wr w8):=hid ((Qx.of Q5.out).trans q8);have P8:=hid p8;have hz8:wr.heap.size≤w8.heap.size:=Q8.out.size;clear hr8 q8 p8;have X8:=hid ((HI2.out.xb.on Q8.out (by omega)).on ((Qx.refl p _).alloc (.cells #[.int .i64 k8,.int .i64 m8,.string t8,.bool bb8,.int .i64 er8,.slice a18 l18 c18,.slice a28 l28 c28] 26)) (by omega));have n68:=X8.out.g6)|(at_builtin;refine wpList_append_own_at _ rfl _ _ 24 rfl W.heap.size 26 i0 (.agg #[.int .i64 0,.int .i64 0,.string ⟨#[]⟩,.bool false,.int .i64 0,.slice none 0 0,.slice none 0 0]) 7 96 Tryz.underlying24 hi0 hz0 hz1 hz2 rfl (by decide) _ _ _ rfl (((HI2.out.ow.grown Q8.out hop).alloc _).alloc _) ⟨w8.heap.size+1,0,none⟩ 1 1 [.int .i64 k8,.int .i64 m8,.string t8,.bool bb8,.int .i64 er8,.slice a18 l18 c18,.slice a28 l28 c28] rfl rfl (news_at _ [.int .i64 k8,.int .i64 m8,.string t8,.bool bb8,.int .i64 er8,.slice a18 l18 c18,.slice a28 l28 c28] 26 _ (by simp)) (one7 _ _ _ _ _ _ _ _ _ _ _) (by unfold maxLen;omega) (by omega) (by simp;omega) ?_;intro v9 w9 hown9 hgrow9 _ hat9;have ow9:=own_snoc' (x:=(⟨.int .i64 k8,.int .i64 m8,.string t8,.bool bb8,.int .i64 er8,.slice a18 l18 c18,.slice a28 l28 c28⟩:V7)) hown9 rfl;obtain ⟨ao9,cp9,hv9,_,_⟩:=(ow9.sl enc7_len (by omega)).len;rw [show (Ls++[(⟨.int .i64 k8,.int .i64 m8,.string t8,.bool bb8,.int .i64 er8,.slice a18 l18 c18,.slice a28 l28 c28⟩:V7)]).length=Ls.length+1 by simp]at hv9;subst hv9;have OW9:=hid ow9;have HG9:=hid hgrow9;have HA9:=hid hat9;obtain ⟨r9,Qr,hr9,_⟩:=grown_qx (n:=W.heap.size+3) hgrow9 (by have:=HI2.out.sz;simp;omega) HI2.out.ob;have X9:=hid ((X8.out.on ((Qx.refl p _).alloc _) (by omega)).on Qr (by omega));have P9:=hid (((P8.out.on ((Q.refl _).alloc _)).on ((Q.refl _).alloc _)).onx Qr (by omega) (by omega));clear hown9 hgrow9 hat9 ow9 Qr hr9;have n69:=X9.out.g6;have f69:=X9.out.f 6;have c29:=P9.out.c2;have f29:=P9.out.f2;rw [hrb0]at c29))
       have HN:=HI2.out.next hlt hbW (g:=g) r ⟨.int .i64 k8,.int .i64 m8,.string t8,.bool bb8,.int .i64 er8,.slice a18 l18 c18,.slice a28 l28 c28⟩ Q8.out P8.out R8.out (.cells #[.int .i64 k8,.int .i64 m8,.string t8,.bool bb8,.int .i64 er8,.slice a18 l18 c18,.slice a28 l28 c28] 26) (.cells #[.int .i64 k8,.int .i64 m8,.string t8,.bool bb8,.int .i64 er8,.slice a18 l18 c18,.slice a28 l28 c28] 26) ao9 cp9 OW9.out HG9.out HA9.out (decide (30<(Ls.length:Int)+1)) (by rw [argS_bd,hrb0,HI2.out.ln,Bool.false_or];exact decide_eq_decide.2 (by omega)) hFr.lt (by have:=hFr.nd;have:=hFr.le;have:=HI2.out.nb;(try simp only [on_i,on_n]at *);omega) hl (HI2.out.kb hbd)
       go_roundw
       case rel=>exact ⟨g,_,_,_,_,_,by omega,HN⟩
       case measure=>
        rw [mzA_of HN.st,mzA_of HI2.out.st,argS_bd,argS_i,hbd,hrb0];have:=hFr.le
        have:=hFr.lt
        have:=hFp hrb0
        try simp only [on_i]at *
        simp
        repeat' split
        all_goals omega
     ·rw [if_neg hk0]at ht
      have w44:isW L s1.i [44]=true:=by
       cases hw4:isW L s1.i [44]
       ·exact absurd ⟨hk0,hw4⟩ hn
       ·rfl
      have hlen0:(0:Int)<(Ls.length:Int):=by have:=hI.ln;have:=List.length_pos_iff.2 hk0;omega
      have hc4:=hid (fun W1 (g:PS W1 p L b off cap s1.i s1.bd s1.n)=>take_any W1 p L b off cap s1.i s1.bd s1.n ⟨#[44]⟩ g hlt1)
      rw [show (⟨#[44]⟩:ByteArray).data.toList=[44] from rfl,w44]at hc4
      have hst:s1.on.i<L.length:=hE.sign w44
      have hsn:s1.on.n≤s1.on.i:=by have:=hI.nb;simp only [on_i,on_n];omega
      obtain ⟨hFr,hFp⟩:=(fwd_all EE L hE g).1 _ _ _ (by omega) ht hst
      clear hI hn n6 hk0
      rcases Bool.eq_false_or_eq_true r.2.bd with hrb0|hrb0
      ·have hrb:r.2.bd=true:=hrb0
       go_wp2_with (first|(go_at_call 102;refine hIs.out.mono ?_;rintro e w5 ⟨rfl,q5⟩;have Q5:=hid q5;have P5:=hid (HI2.out.st.on q5);have X5:=hid (HI2.out.xb.on (Qx.of (p:=p) q5) (by omega));clear q5;have n6':=X5.out.g6)|(go_at_call 85;refine (hc4.out _ P5.out).mono ?_;rintro e w6 ⟨rfl,q6,p6⟩;have Q6:Hid (Qx p wr w6):=hid ((Qx.of Q5.out).trans q6);have P6:=hid p6;have hz6:wr.heap.size≤w6.heap.size:=Q6.out.size;clear q6 p6)|(go_at_call 41;refine (HT2.out g s1.on r _ (by omega) ht P6.out hst hsn).mono ?_;rintro e w8 ⟨v,rfl,hr8,q8,p8⟩;obtain ⟨k8,m8,t8,bb8,er8,a18,l18,c18,a28,l28,c28,rfl⟩:=hr8.shape;have R8:Hid (Rdg (fun b=>wr.heap.size≤b) w8 r.1 (agg7 ⟨.int .i64 k8,.int .i64 m8,.string t8,.bool bb8,.int .i64 er8,.slice a18 l18 c18,.slice a28 l28 c28⟩)):=hid (Rdg.mono (fun b hb=>by omega) _ _ hr8);have Q8:Hid (Qx p wr w8):=hid (Q6.out.trans q8);have P8:=hid p8;have hz8:wr.heap.size≤w8.heap.size:=Q8.out.size;clear hr8 q8 p8;have X8:=hid ((HI2.out.xb.on Q8.out (by omega)).on ((Qx.refl p _).alloc (.cells #[.int .i64 k8,.int .i64 m8,.string t8,.bool bb8,.int .i64 er8,.slice a18 l18 c18,.slice a28 l28 c28] 26)) (by omega));have n68:=X8.out.g6)|(at_builtin;refine wpList_append_own_at _ rfl _ _ 24 rfl W.heap.size 26 i0 (.agg #[.int .i64 0,.int .i64 0,.string ⟨#[]⟩,.bool false,.int .i64 0,.slice none 0 0,.slice none 0 0]) 7 96 Tryz.underlying24 hi0 hz0 hz1 hz2 rfl (by decide) _ _ _ rfl (((HI2.out.ow.grown Q8.out hop).alloc _).alloc _) ⟨w8.heap.size+1,0,none⟩ 1 1 [.int .i64 k8,.int .i64 m8,.string t8,.bool bb8,.int .i64 er8,.slice a18 l18 c18,.slice a28 l28 c28] rfl rfl (news_at _ [.int .i64 k8,.int .i64 m8,.string t8,.bool bb8,.int .i64 er8,.slice a18 l18 c18,.slice a28 l28 c28] 26 _ (by simp)) (one7 _ _ _ _ _ _ _ _ _ _ _) (by unfold maxLen;omega) (by omega) (by simp;omega) ?_;intro v9 w9 hown9 hgrow9 _ hat9;have ow9:=own_snoc' (x:=(⟨.int .i64 k8,.int .i64 m8,.string t8,.bool bb8,.int .i64 er8,.slice a18 l18 c18,.slice a28 l28 c28⟩:V7)) hown9 rfl;obtain ⟨ao9,cp9,hv9,_,_⟩:=(ow9.sl enc7_len (by omega)).len;rw [show (Ls++[(⟨.int .i64 k8,.int .i64 m8,.string t8,.bool bb8,.int .i64 er8,.slice a18 l18 c18,.slice a28 l28 c28⟩:V7)]).length=Ls.length+1 by simp]at hv9;subst hv9;have OW9:=hid ow9;have HG9:=hid hgrow9;have HA9:=hid hat9;obtain ⟨r9,Qr,hr9,_⟩:=grown_qx (n:=W.heap.size+3) hgrow9 (by have:=HI2.out.sz;simp;omega) HI2.out.ob;have X9:=hid ((X8.out.on ((Qx.refl p _).alloc _) (by omega)).on Qr (by omega));have P9:=hid (((P8.out.on ((Q.refl _).alloc _)).on ((Q.refl _).alloc _)).onx Qr (by omega) (by omega));clear hown9 hgrow9 hat9 ow9 Qr hr9;have n69:=X9.out.g6;have f69:=X9.out.f 6;have c29:=P9.out.c2;have f29:=P9.out.f2;rw [hrb0]at c29))
       have HN:=HI2.out.next hlt hbW (g:=g) r ⟨.int .i64 k8,.int .i64 m8,.string t8,.bool bb8,.int .i64 er8,.slice a18 l18 c18,.slice a28 l28 c28⟩ Q8.out P8.out R8.out (.cells #[.int .i64 k8,.int .i64 m8,.string t8,.bool bb8,.int .i64 er8,.slice a18 l18 c18,.slice a28 l28 c28] 26) (.cells #[.int .i64 k8,.int .i64 m8,.string t8,.bool bb8,.int .i64 er8,.slice a18 l18 c18,.slice a28 l28 c28] 26) ao9 cp9 OW9.out HG9.out HA9.out true (by rw [argS_bd,hrb0];simp;try omega) hFr.lt (by have:=hFr.nd;have:=hFr.le;have:=HI2.out.nb;(try simp only [on_i,on_n]at *);omega) hl (HI2.out.kb hbd)
       go_roundw
       case rel=>exact ⟨g,_,_,_,_,_,by omega,HN⟩
       case measure=>
        rw [mzA_of HN.st,mzA_of HI2.out.st,argS_bd,argS_i,hbd,hrb0];have:=hFr.le
        have:=hFr.lt
        try simp only [on_i]at *
        simp
        omega
      ·go_wp2_with (first|(go_at_call 102;refine hIs.out.mono ?_;rintro e w5 ⟨rfl,q5⟩;have Q5:=hid q5;have P5:=hid (HI2.out.st.on q5);have X5:=hid (HI2.out.xb.on (Qx.of (p:=p) q5) (by omega));clear q5;have n6':=X5.out.g6)|(go_at_call 85;refine (hc4.out _ P5.out).mono ?_;rintro e w6 ⟨rfl,q6,p6⟩;have Q6:Hid (Qx p wr w6):=hid ((Qx.of Q5.out).trans q6);have P6:=hid p6;have hz6:wr.heap.size≤w6.heap.size:=Q6.out.size;clear q6 p6)|(go_at_call 41;refine (HT2.out g s1.on r _ (by omega) ht P6.out hst hsn).mono ?_;rintro e w8 ⟨v,rfl,hr8,q8,p8⟩;obtain ⟨k8,m8,t8,bb8,er8,a18,l18,c18,a28,l28,c28,rfl⟩:=hr8.shape;have R8:Hid (Rdg (fun b=>wr.heap.size≤b) w8 r.1 (agg7 ⟨.int .i64 k8,.int .i64 m8,.string t8,.bool bb8,.int .i64 er8,.slice a18 l18 c18,.slice a28 l28 c28⟩)):=hid (Rdg.mono (fun b hb=>by omega) _ _ hr8);have Q8:Hid (Qx p wr w8):=hid (Q6.out.trans q8);have P8:=hid p8;have hz8:wr.heap.size≤w8.heap.size:=Q8.out.size;clear hr8 q8 p8;have X8:=hid ((HI2.out.xb.on Q8.out (by omega)).on ((Qx.refl p _).alloc (.cells #[.int .i64 k8,.int .i64 m8,.string t8,.bool bb8,.int .i64 er8,.slice a18 l18 c18,.slice a28 l28 c28] 26)) (by omega));have n68:=X8.out.g6)|(at_builtin;refine wpList_append_own_at _ rfl _ _ 24 rfl W.heap.size 26 i0 (.agg #[.int .i64 0,.int .i64 0,.string ⟨#[]⟩,.bool false,.int .i64 0,.slice none 0 0,.slice none 0 0]) 7 96 Tryz.underlying24 hi0 hz0 hz1 hz2 rfl (by decide) _ _ _ rfl (((HI2.out.ow.grown Q8.out hop).alloc _).alloc _) ⟨w8.heap.size+1,0,none⟩ 1 1 [.int .i64 k8,.int .i64 m8,.string t8,.bool bb8,.int .i64 er8,.slice a18 l18 c18,.slice a28 l28 c28] rfl rfl (news_at _ [.int .i64 k8,.int .i64 m8,.string t8,.bool bb8,.int .i64 er8,.slice a18 l18 c18,.slice a28 l28 c28] 26 _ (by simp)) (one7 _ _ _ _ _ _ _ _ _ _ _) (by unfold maxLen;omega) (by omega) (by simp;omega) ?_;intro v9 w9 hown9 hgrow9 _ hat9;have ow9:=own_snoc' (x:=(⟨.int .i64 k8,.int .i64 m8,.string t8,.bool bb8,.int .i64 er8,.slice a18 l18 c18,.slice a28 l28 c28⟩:V7)) hown9 rfl;obtain ⟨ao9,cp9,hv9,_,_⟩:=(ow9.sl enc7_len (by omega)).len;rw [show (Ls++[(⟨.int .i64 k8,.int .i64 m8,.string t8,.bool bb8,.int .i64 er8,.slice a18 l18 c18,.slice a28 l28 c28⟩:V7)]).length=Ls.length+1 by simp]at hv9;subst hv9;have OW9:=hid ow9;have HG9:=hid hgrow9;have HA9:=hid hat9;obtain ⟨r9,Qr,hr9,_⟩:=grown_qx (n:=W.heap.size+3) hgrow9 (by have:=HI2.out.sz;simp;omega) HI2.out.ob;have X9:=hid ((X8.out.on ((Qx.refl p _).alloc _) (by omega)).on Qr (by omega));have P9:=hid (((P8.out.on ((Q.refl _).alloc _)).on ((Q.refl _).alloc _)).onx Qr (by omega) (by omega));clear hown9 hgrow9 hat9 ow9 Qr hr9;have n69:=X9.out.g6;have f69:=X9.out.f 6;have c29:=P9.out.c2;have f29:=P9.out.f2;rw [hrb0]at c29))
       have HN:=HI2.out.next hlt hbW (g:=g) r ⟨.int .i64 k8,.int .i64 m8,.string t8,.bool bb8,.int .i64 er8,.slice a18 l18 c18,.slice a28 l28 c28⟩ Q8.out P8.out R8.out (.cells #[.int .i64 k8,.int .i64 m8,.string t8,.bool bb8,.int .i64 er8,.slice a18 l18 c18,.slice a28 l28 c28] 26) (.cells #[.int .i64 k8,.int .i64 m8,.string t8,.bool bb8,.int .i64 er8,.slice a18 l18 c18,.slice a28 l28 c28] 26) ao9 cp9 OW9.out HG9.out HA9.out (decide (30<(Ls.length:Int)+1)) (by rw [argS_bd,hrb0,HI2.out.ln,Bool.false_or];exact decide_eq_decide.2 (by omega)) hFr.lt (by have:=hFr.nd;have:=hFr.le;have:=HI2.out.nb;(try simp only [on_i,on_n]at *);omega) hl (HI2.out.kb hbd)
       go_roundw
       case rel=>exact ⟨g,_,_,_,_,_,by omega,HN⟩
       case measure=>
        rw [mzA_of HN.st,mzA_of HI2.out.st,argS_bd,argS_i,hbd,hrb0];have:=hFr.le
        have:=hFr.lt
        have:=hFp hrb0
        try simp only [on_i]at *
        simp
        repeat' split
        all_goals omega
   ·rw [h41]at hIs
    have eR:=args_end hbd h41 hI.fe;have hc4:=hid (fun W1 (g:PS W1 p L b off cap s1.i s1.bd s1.n)=>take_any W1 p L b off cap s1.i s1.bd s1.n ⟨#[41]⟩ g hlt1)
    rw [show (⟨#[41]⟩:ByteArray).data.toList=[41] from rfl,h41]at hc4
    subst eR;clear hI;go_wp2_with (first|(go_at_call 102;refine hIs.out.mono ?_;rintro e w5 ⟨rfl,q5⟩;have Q5:=hid q5;have P5:=hid (HI2.out.st.on q5);clear q5;have u2:=P5.out.c2;rw [hbd]at u2;have v2:=P5.out.f2)|(go_at_call 85;refine (hc4.out _ P5.out).mono ?_;rintro e w6 ⟨rfl,q6,p6⟩;have Q6:Hid (Qx p wr w6):=hid ((Qx.of Q5.out).trans q6);have P6:=hid p6;clear q6 p6;have t2:=P6.out.c2;have s2:=P6.out.f2;have X6:=hid (HI2.out.xb.on Q6.out (by omega));have n0:=X6.out.g0;have n1:=X6.out.g1;have n2:=X6.out.g2;have n3:=X6.out.g3;have n4:=X6.out.g4;have n5:=X6.out.g5;have n6:=X6.out.g6)|(go_at_call 66;refine (node_any _ p L b off cap _ _ _ (P6.out.set2 false) (by have:=HI2.out.nb;omega) 9 0 T false 0 none 0 0 ao Ls.length cp).mono ?_;rintro e w7 ⟨rfl,q7,p7⟩;have Q7:Hid (Qx p w6 w7):=hid (Qx.trans (by repeat (first|with_reducible exact Qx.refl _ _|with_reducible refine Qx.drewN ?_ _|with_reducible refine Qx.drew ?_|with_reducible refine Qx.alloc ?_ _|with_reducible refine Qx.own ?_ _ _|with_reducible refine Qx.new ?_ (by simp) _ _)) q7);have P7:=hid p7;have Z7:=hid ((HI2.out.zb.on Q6.out (by omega)).on Q7.out (by omega));clear q7 p7;have d0:=Z7.out.g0;have d1:=Z7.out.g1;have d2:=Z7.out.g2;have d3:=Z7.out.g3;have d4:=Z7.out.g4;have d5:=Z7.out.g5;have d6:=Z7.out.g6;have y0:=Z7.out.f 0;have y1:=Z7.out.f 1;have y2:=Z7.out.f 2;have y3:=Z7.out.f 3;have y4:=Z7.out.f 4;have y5:=Z7.out.f 5;have y6:=Z7.out.f 6))
    refine bodyPost_ret (v:=.agg #[.int .i64 9,.int .i64 0,.string T,.bool false,.int .i64 0,.slice none 0 0,.slice ao Ls.length cp]) (by simp [results,Tryz.results103,go_sem,d0,d1,d2,d3,d4,d5,d6]) rfl ?_
    exact fin7g (s':=s1.on.node) (W.heap.size+1) 9 0 T false 0 none 0 0 ao Ls.length cp (by omega) hlt hbW ((HI2.out.qx.trans Q6.out).trans Q7.out) (HI2.out.call HTT.out hlt (Q6.out.trans Q7.out)) (by rw [node_bd,on_bd,hbd];exact P7.out)
  ·rw [hbd]at z2
   have eR:=args_done hbd hI.fe;subst eR;have PB:=hid (hI.st.set2 true);have X6:=hid (HI2.out.xb.on ((Qx.refl p _).own 2 (.bool true)) (by omega))
   have m0:=X6.out.g0;have m1:=X6.out.g1;have m2:=X6.out.g2;have m3:=X6.out.g3;have m4:=X6.out.g4;have m5:=X6.out.g5;have m6:=X6.out.g6;clear hI n6;go_wp2_with (go_at_call 66;refine (node_any _ p L b off cap _ _ _ PB.out (by have:=HI2.out.nb;omega) 9 0 T false 0 none 0 0 ao Ls.length cp).mono ?_;rintro e w7 ⟨rfl,q7,p7⟩;have Q7:Hid (Qx p wr w7):=hid (Qx.trans (by repeat (first|with_reducible exact Qx.refl _ _|with_reducible refine Qx.drewN ?_ _|with_reducible refine Qx.drew ?_|with_reducible refine Qx.alloc ?_ _|with_reducible refine Qx.own ?_ _ _|with_reducible refine Qx.new ?_ (by simp) _ _)) q7);have P7:=hid p7;have Z7:=hid (HI2.out.zb.on Q7.out (by omega));clear q7 p7;have d0:=Z7.out.g0;have d1:=Z7.out.g1;have d2:=Z7.out.g2;have d3:=Z7.out.g3;have d4:=Z7.out.g4;have d5:=Z7.out.g5;have d6:=Z7.out.g6;have y0:=Z7.out.f 0;have y1:=Z7.out.f 1;have y2:=Z7.out.f 2;have y3:=Z7.out.f 3;have y4:=Z7.out.f 4;have y5:=Z7.out.f 5;have y6:=Z7.out.f 6)
   refine bodyPost_ret (v:=.agg #[.int .i64 9,.int .i64 0,.string T,.bool false,.int .i64 0,.slice none 0 0,.slice ao Ls.length cp]) (by simp [results,Tryz.results103,go_sem,d0,d1,d2,d3,d4,d5,d6]) rfl ?_
   exact fin7g (s':=s1.node) (W.heap.size+1) 9 0 T false 0 none 0 0 ao Ls.length cp (by omega) hlt hbW (HI2.out.qx.trans Q7.out) (HI2.out.call HTT.out hlt Q7.out) (by rw [node_bd,hbd];exact P7.out)
end Go.Proofs.YtoikodohcieipaaGreatDoor
