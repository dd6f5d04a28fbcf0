/- rewrite.change of any tree; re. -/
import Derived.Test.YtoikodohcieipaaGreatDoorKl34
import Derived.Test.YtoikodohcieipaaGreatDoorKl01
import Derived.Test.YtoikodohcieipaaGreatDoorKl18
import Derived.Test.YtoikodohcieipaaGreatDoorKl15
import Derived.Test.YtoikodohcieipaaGreatDoorKl35
import Derived.Test.YtoikodohcieipaaGreatDoorKl20
import Derived.Test.YtoikodohcieipaaGreatDoorKl22
import Derived.Test.YtoikodohcieipaaGreatDoorKl24
import Derived.Test.YtoikodohcieipaaGreatDoorKl11
set_option linter.unusedVariables false
set_option linter.unusedSimpArgs false
set_option maxRecDepth 100000
set_option maxHeartbeats 8000000
namespace Go.Proofs.YtoikodohcieipaaGreatDoor
open Go.RowKit
theorem change_all(home on:ByteArray)(pr pl:Nat)(rows:Bool)(k a t:Int):∀ (s:Nat) (x:Ex) (W:World) (p o:Nat) (c0 c1 c2 c3 c4 c5 c6:Value) (lo hi:Nat),SizeOf.sizeOf x≤s→Nd W p o c0 c1 c2 c3 c4 c5 c6→Ow W x (.agg #[c0,c1,c2,c3,c4,c5,c6]) lo hi→hi≤W.heap.size→(p<lo∨hi≤p)→Lv W pr pl rows k a t→(pr<lo∨hi≤pr)→(pl<lo∨hi≤pl)→pr≠p→pl≠p →
  Calls Tryz.prog 26 #[.pointer (some ⟨p,o,none⟩),.string home,.string on,.func (.func 27) #[] #[.pointer (some ⟨pr,0,none⟩),.pointer (some ⟨pl,0,none⟩)]] W fun e W'=>(∃ u,e=.returned u)∧Cd home.data.toList on.data.toList (mvB rows k a t) (mvR rows k a t) W W' x p o lo hi:=by
 intro s
 induction s with
 |zero=>
  intro x W p o c0 c1 c2 c3 c4 c5 c6 lo hi hs
  cases x with
  |mk k n t b e rs ks=>simp at hs
 |succ s ih=>
  intro x W p o c0 c1 c2 c3 c4 c5 c6 lo hi hs hn hx hsz hpo hlv hpr hpl hne1 hne2
  cases x with
  |mk k' n' t' b' e' rs ks=>
   have IH:=hid (fun (i:Nat) (h:i<ks.length) (W:World) (p o:Nat) (c0 c1 c2 c3 c4 c5 c6:Value) (lo hi:Nat)=>ih ks[i] W p o c0 c1 c2 c3 c4 c5 c6 lo hi (by have:=kid_size (k:=k') (n:=n') (t:=t') (b:=b') (e:=e') (rs:=rs) i h;omega))
   unfold Ow at hx
   obtain ⟨rv,kv,m,hv,hr,hm,ao,cap,hkv,hc1,hc2,hk3⟩:=hx;simp only [Value.agg.injEq,Array.mk.injEq,List.cons.injEq,and_true]at hv
   obtain ⟨rfl,rfl,rfl,rfl,rfl,rfl,rfl⟩:=hv;subst hkv;by_cases hks:ks=[]
   ·cases hrs:rs with
    |nil=>
     subst hrs;exact change_no0 home on pr pl rows k a t k' n' t' b' e' _ ks W p o lo hi m _ ao cap (hid hn) (hid hr) (hid hm) (hid ⟨hc1,hc2⟩) (hid hsz) (hid hpo) (hid hlv) (hid ⟨hpr,hpl,hne1,hne2⟩) rfl hks
    |cons r0 rs'=>
     rw [←hrs];by_cases hh:orT r0.1 home.data.toList=on.data.toList
     ·exact change_h0 home on pr pl rows k a t k' n' t' b' e' rs ks W p o lo hi m _ ao cap (hid hn) (hid hr) (hid hm) (hid ⟨hc1,hc2⟩) (hid hsz) (hid hpo) (hid hlv) (hid ⟨hpr,hpl,hne1,hne2⟩) r0 rs' (hid hrs) (hid hh) hks
     ·exact change_nh0 home on pr pl rows k a t k' n' t' b' e' rs ks W p o lo hi m _ ao cap (hid hn) (hid hr) (hid hm) (hid ⟨hc1,hc2⟩) (hid hsz) (hid hpo) (hid hlv) (hid ⟨hpr,hpl,hne1,hne2⟩) r0 rs' (hid hrs) (hid hh) hks
   ·obtain ⟨gk,mk',hao,b1,b2,b3,b4⟩:=hk3 hks
    have b5:=Ow.OwL.le _ _ _ _ _ b4;cases hrs:rs with
    |nil=>
     subst hrs;exact change_nok home on pr pl rows k a t k' n' t' b' e' _ ks W p o lo hi m _ ao cap (hid hn) (hid hr) (hid hm) (hid ⟨hc1,hc2⟩) (hid hsz) (hid hpo) (hid hlv) (hid ⟨hpr,hpl,hne1,hne2⟩) gk mk' hao (hid ⟨b1,b2,b5,b3,b4⟩) IH rfl
    |cons r0 rs'=>
     rw [←hrs];by_cases hh:orT r0.1 home.data.toList=on.data.toList
     ·exact change_hk home on pr pl rows k a t k' n' t' b' e' rs ks W p o lo hi m _ ao cap (hid hn) (hid hr) (hid hm) (hid ⟨hc1,hc2⟩) (hid hsz) (hid hpo) (hid hlv) (hid ⟨hpr,hpl,hne1,hne2⟩) gk mk' hao (hid ⟨b1,b2,b5,b3,b4⟩) IH r0 rs' (hid hrs) (hid hh)
     ·exact change_nhk home on pr pl rows k a t k' n' t' b' e' rs ks W p o lo hi m _ ao cap (hid hn) (hid hr) (hid hm) (hid ⟨hc1,hc2⟩) (hid hsz) (hid hpo) (hid hlv) (hid ⟨hpr,hpl,hne1,hne2⟩) gk mk' hao (hid ⟨b1,b2,b5,b3,b4⟩) IH r0 rs' (hid hrs) (hid hh)
def lnE(home on:List UInt8)(rows:Bool)(k a t:Int)(x:Ex):Ex:=if L.mayB k a t=true then chg home on (mvB rows k a t) (mvR rows k a t) x else x
theorem q_chd{W w w':World}{p o lo hi:Nat}(q:Q W w)(h:Chd w w' p o lo hi)(h1:W.heap.size≤p)(h2:W.heap.size≤lo):Q W w':=
 ⟨h.q.os.trans q.os,h.q.tape.trans q.tape,h.q.output.trans q.output,Nat.le_trans q.size h.q.size,fun i hi=>(h.q.block i (Nat.lt_of_lt_of_le hi q.size) (fun e=>by omega)).trans (Q.block q hi)⟩
theorem lines_any(x:Ex)(v:Value)(home on:ByteArray)(rows:Bool)(k a t:Int)(W:World)(hg:Gd W)(hx:Rd W x v)(hs:Sn x)(hm:Sm x)(hk:nodes x≤200)(hmay:(fitB x&&mall mayN x)=true) :
  Calls Tryz.prog 11 #[v,.string home,.string on,.bool rows,.agg #[.int .i64 k,.int .i64 a,.int .i64 t]] W fun e W'=>∃ v',e=.returned v'∧Q W W'∧∃ lo hi,W.heap.size≤lo∧hi≤W'.heap.size∧Ow W' (lnE home.data.toList on.data.toList rows k a t x) v' lo hi:=by
 obtain ⟨k0,n0,t0,b0,e0,a1,l1,c1,a2,l2,c2,rfl⟩:=hx.shape;obtain ⟨w1,hw1⟩:∃ w1,w1=(((W.alloc (.cells #[.int .i64 k0,.int .i64 n0,.string t0,.bool b0,.int .i64 e0,.slice a1 l1 c1,.slice a2 l2 c2] 26)).alloc (.cells #[.bool rows] 4)).alloc (.cells #[.int .i64 k,.int .i64 a,.int .i64 t] 28)).alloc (.cells #[.int .i64 0,.int .i64 0,.string ⟨#[]⟩,.bool false,.int .i64 0,.slice none 0 0,.slice none 0 0] 26):=⟨_,rfl⟩;have q1:Q W w1:=by rw [hw1];exact ((((Q.refl _).alloc _).alloc _).alloc _).alloc _
 have s1:w1.heap.size=W.heap.size+1+1+1+1:=by rw [hw1];simp
 have HLV:Hid (Lv w1 (W.heap.size+1) (W.heap.size+1+1) rows k a t):=by
  rw [hw1];refine ⟨?_,?_,?_,?_⟩ <;> simp [go_sem]
 have HTB:Hid (Tb w1 (W.heap.size+1+1+1) (.int .i64 0) (.int .i64 0) (.string ⟨#[]⟩) (.bool false) (.int .i64 0) (.slice none 0 0) (.slice none 0 0)):=by
  have:=tb_new (((W.alloc (.cells #[.int .i64 k0,.int .i64 n0,.string t0,.bool b0,.int .i64 e0,.slice a1 l1 c1,.slice a2 l2 c2] 26)).alloc (.cells #[.bool rows] 4)).alloc (.cells #[.int .i64 k,.int .i64 a,.int .i64 t] 28)) (.int .i64 0) (.int .i64 0) (.string ⟨#[]⟩) (.bool false) (.int .i64 0) (.slice none 0 0) (.slice none 0 0) 26
  rw [hw1];show Tb _ _ _ _ _ _ _ _ _
  simpa using this
 have HBX:Hid (Tb w1 W.heap.size (.int .i64 k0) (.int .i64 n0) (.string t0) (.bool b0) (.int .i64 e0) (.slice a1 l1 c1) (.slice a2 l2 c2)):=by
  have:=(tb_new W (.int .i64 k0) (.int .i64 n0) (.string t0) (.bool b0) (.int .i64 e0) (.slice a1 l1 c1) (.slice a2 l2 c2) 26).blk (W':=w1) (by rw [hw1];exact Q.block ((((Q.refl _).alloc _).alloc _).alloc _) (by simp))
  exact this
 have HCO:Hid (Calls Tryz.prog 23 #[.agg #[.int .i64 k0,.int .i64 n0,.string t0,.bool b0,.int .i64 e0,.slice a1 l1 c1,.slice a2 l2 c2]] ((((W.alloc (.cells #[.int .i64 k0,.int .i64 n0,.string t0,.bool b0,.int .i64 e0,.slice a1 l1 c1,.slice a2 l2 c2] 26)).alloc (.cells #[.bool rows] 4)).alloc (.cells #[.int .i64 k,.int .i64 a,.int .i64 t] 28)).alloc (.cells #[.int .i64 0,.int .i64 0,.string ⟨#[]⟩,.bool false,.int .i64 0,.slice none 0 0,.slice none 0 0] 26)) fun e W'=>∃ v',e=.returned v'∧Q w1 W'∧∃ lo hi,w1.heap.size≤lo∧hi≤W'.heap.size∧Ow W' x v' lo hi):=by
  rw [←hw1];exact copied_any x _ w1 (Rd.on q1 _ _ hx) hs hk
 have HMY:=hid (fun w (q:Q W w)=>pmay_any x _ w (hg.on q) hm (Rd.on q _ _ hx))
 rw [hmay]at HMY;have HAX:=hid (fun w=>L.may_any k a t w)
 have HCH:=hid (fun w p c0 c1 c2 c3 c4 c5 c6 lo hi=>change_all home on (W.heap.size+1) (W.heap.size+1+1) rows k a t _ x w p 0 c0 c1 c2 c3 c4 c5 c6 lo hi (Nat.le_refl _))
 have HQ1:=hid q1;have HS1:=hid s1;clear hg hx hs hm hk hmay hw1 q1 s1;cases hb:L.mayB k a t
 ·rw [hb]at HAX
  have HLN:Hid (lnE home.data.toList on.data.toList rows k a t x=x):=hid (by unfold lnE;rw [hb];rfl)
  clear hb;go_enter Tryz.func11,Tryz.ntmps11
  go_wp2_with (first
   |(go_at_call 23;refine HCO.out.mono ?_;rintro e9 w2 ⟨v2,rfl,q2,lo,hi,h1,h2,ow2⟩;obtain ⟨k3,n3,t3,b3,e3,a3,l3,c3,a4,l4,c4,rfl⟩:=ow2.shape;have Q2:=hid q2;have O2:=hid ow2;have H12:=hid (And.intro h1 h2);have hl2:W.heap.size+1+1+1<w2.heap.size:=(by have:=HS1.out;have:=q2.size;omega);have hl0:W.heap.size<w2.heap.size:=(by omega);have hl1:W.heap.size+1+1<w2.heap.size:=(by omega);clear h1 h2 ow2;obtain ⟨z0,z1,z2,z3,z4,z5,z6,_⟩:=HBX.out.blk (Q.block q2 (by have:=HS1.out;omega));clear q2)
   |(go_at_call 24;refine (HMY.out _ ((HQ1.out.trans Q2.out).alloc _)).mono ?_;rintro e9 w4 ⟨rfl,q4⟩;have Q4:=hid q4;have N4:=hid ((nd_new w2 (.int .i64 k3) (.int .i64 n3) (.string t3) (.bool b3) (.int .i64 e3) (.slice a3 l3 c3) (.slice a4 l4 c4) 26).on q4);have q24:Q w2 w4:=((Q.refl _).alloc _).trans q4;have Q24:=hid q24;have LV4:=hid (HLV.out.blk (Q.block (Q2.out.trans q24) (by have:=HS1.out;omega)) (Q.block (Q2.out.trans q24) (by have:=HS1.out;omega)));have O4:=hid (Ow.on _ _ _ _ (fun i _ h=>Bs.of (Q.block q24 (by have:=H12.out;omega))) O2.out);have TB4:=hid (HTB.out.blk (Q.block (Q2.out.trans q24) (by have:=HS1.out;omega)));have hl4:w2.heap.size<w4.heap.size:=N4.out.pl.lt;have hl5:W.heap.size+1+1+1<w4.heap.size:=(by omega);clear q4 q24 z0 z1 z2 z3 z4 z5 z6;obtain ⟨_,x0,x1,x2⟩:=LV4.out;obtain ⟨y0,y1,y2,y3,y4,y5,y6,_⟩:=N4.out;obtain ⟨u0,u1,u2,u3,u4,u5,u6,uf⟩:=TB4.out;have f0:=uf 0;have f1:=uf 1;have f2:=uf 2;have f3:=uf 3;have f4:=uf 4;have f5:=uf 5;have f6:=uf 6;clear uf)
   |(go_at_call 25;refine (HAX.out _).mono ?_;rintro e9 w5 ⟨rfl,h5⟩;have q5:Q w4 w5:=(by rw [h5];exact (Q.refl _).alloc _);have Q5:=hid q5;have N5:=hid (N4.out.on q5);have O5:=hid (Ow.on _ _ _ _ (fun i _ h=>Bs.of (Q.block q5 (by have:=H12.out;omega))) O4.out);have LV5:=hid (LV4.out.blk (Q.block q5 (by omega)) (Q.block q5 (by omega)));have TB5:=hid (TB4.out.blk (Q.block q5 (by omega)));clear h5 q5 y0 y1 y2 y3 y4 y5 y6 u0 u1 u2 u3 u4 u5 u6 f0 f1 f2 f3 f4 f5 f6 x0 x1 x2;obtain ⟨y0,y1,y2,y3,y4,y5,y6,_⟩:=N5.out;obtain ⟨u0,u1,u2,u3,u4,u5,u6,uf⟩:=TB5.out;have f0:=uf 0;have f1:=uf 1;have f2:=uf 2;have f3:=uf 3;have f4:=uf 4;have f5:=uf 5;have f6:=uf 6;clear uf;simp only [Nat.zero_add]at y0 y1 y2 y3 y4 y5 y6))
  refine bodyPost_ret (v:=.agg #[.int .i64 k3,.int .i64 n3,.string t3,.bool b3,.int .i64 e3,.slice a3 l3 c3,.slice a4 l4 c4]) (by simp [results,Tryz.results11,go_sem,u0,u1,u2,u3,u4,u5,u6]) rfl ?_
  have QF:Qx (W.heap.size+1+1+1) w5 (((((((w5.setCell ⟨W.heap.size+1+1+1,0,none⟩ (.int .i64 k3)).setCell ⟨W.heap.size+1+1+1,1,none⟩ (.int .i64 n3)).setCell ⟨W.heap.size+1+1+1,2,none⟩ (.string t3)).setCell ⟨W.heap.size+1+1+1,3,none⟩ (.bool b3)).setCell ⟨W.heap.size+1+1+1,4,none⟩ (.int .i64 e3)).setCell ⟨W.heap.size+1+1+1,5,none⟩ (.slice a3 l3 c3)).setCell ⟨W.heap.size+1+1+1,6,none⟩ (.slice a4 l4 c4)):=(((((((Qx.refl _ _).own _ _).own _ _).own _ _).own _ _).own _ _).own _ _).own _ _
  have hq:Q W w5:=((HQ1.out.trans Q2.out).trans Q24.out).trans Q5.out
  have hz:=HS1.out;have h12:=H12.out;have hz4:=Q24.out.size;have hz5:=Q5.out.size;rw [HLN.out];refine ⟨_,rfl,⟨QF.os.trans hq.os,QF.tape.trans hq.tape,QF.output.trans hq.output,Nat.le_trans hq.size QF.size,fun i hi=>(QF.block i (Nat.lt_of_lt_of_le hi hq.size) (fun e=>by have:=Option.some.inj e;omega)).trans (Q.block hq hi)⟩,lo,hi,by omega,Nat.le_trans (by omega) QF.size,?_⟩
  exact Ow.on _ _ _ _ (fun i h1 h2=>Bs.of (QF.block i (by omega) (fun e=>by have:=Option.some.inj e;omega))) O5.out
 ·rw [hb]at HAX
  have HLN:Hid (lnE home.data.toList on.data.toList rows k a t x=chg home.data.toList on.data.toList (mvB rows k a t) (mvR rows k a t) x):=hid (by unfold lnE;rw [hb];rfl)
  clear hb;go_enter Tryz.func11,Tryz.ntmps11
  go_wp2_with (first
   |(go_at_call 23;refine HCO.out.mono ?_;rintro e9 w2 ⟨v2,rfl,q2,lo,hi,h1,h2,ow2⟩;obtain ⟨k3,n3,t3,b3,e3,a3,l3,c3,a4,l4,c4,rfl⟩:=ow2.shape;have Q2:=hid q2;have O2:=hid ow2;have H12:=hid (And.intro h1 h2);have hl2:W.heap.size+1+1+1<w2.heap.size:=(by have:=HS1.out;have:=q2.size;omega);have hl0:W.heap.size<w2.heap.size:=(by omega);have hl1:W.heap.size+1+1<w2.heap.size:=(by omega);clear h1 h2 ow2;obtain ⟨z0,z1,z2,z3,z4,z5,z6,_⟩:=HBX.out.blk (Q.block q2 (by have:=HS1.out;omega));clear q2)
   |(go_at_call 24;refine (HMY.out _ ((HQ1.out.trans Q2.out).alloc _)).mono ?_;rintro e9 w4 ⟨rfl,q4⟩;have Q4:=hid q4;have N4:=hid ((nd_new w2 (.int .i64 k3) (.int .i64 n3) (.string t3) (.bool b3) (.int .i64 e3) (.slice a3 l3 c3) (.slice a4 l4 c4) 26).on q4);have q24:Q w2 w4:=((Q.refl _).alloc _).trans q4;have Q24:=hid q24;have LV4:=hid (HLV.out.blk (Q.block (Q2.out.trans q24) (by have:=HS1.out;omega)) (Q.block (Q2.out.trans q24) (by have:=HS1.out;omega)));have O4:=hid (Ow.on _ _ _ _ (fun i _ h=>Bs.of (Q.block q24 (by have:=H12.out;omega))) O2.out);have TB4:=hid (HTB.out.blk (Q.block (Q2.out.trans q24) (by have:=HS1.out;omega)));have hl4:w2.heap.size<w4.heap.size:=N4.out.pl.lt;have hl5:W.heap.size+1+1+1<w4.heap.size:=(by omega);clear q4 q24 z0 z1 z2 z3 z4 z5 z6;obtain ⟨_,x0,x1,x2⟩:=LV4.out;obtain ⟨y0,y1,y2,y3,y4,y5,y6,_⟩:=N4.out;obtain ⟨u0,u1,u2,u3,u4,u5,u6,uf⟩:=TB4.out;have f0:=uf 0;have f1:=uf 1;have f2:=uf 2;have f3:=uf 3;have f4:=uf 4;have f5:=uf 5;have f6:=uf 6;clear uf)
   |(go_at_call 25;refine (HAX.out _).mono ?_;rintro e9 w5 ⟨rfl,h5⟩;have q5:Q w4 w5:=(by rw [h5];exact (Q.refl _).alloc _);have Q5:=hid q5;have N5:=hid (N4.out.on q5);have O5:=hid (Ow.on _ _ _ _ (fun i _ h=>Bs.of (Q.block q5 (by have:=H12.out;omega))) O4.out);have LV5:=hid (LV4.out.blk (Q.block q5 (by omega)) (Q.block q5 (by omega)));have TB5:=hid (TB4.out.blk (Q.block q5 (by omega)));clear h5 q5 y0 y1 y2 y3 y4 y5 y6 u0 u1 u2 u3 u4 u5 u6 f0 f1 f2 f3 f4 f5 f6 x0 x1 x2;obtain ⟨y0,y1,y2,y3,y4,y5,y6,_⟩:=N5.out;obtain ⟨u0,u1,u2,u3,u4,u5,u6,uf⟩:=TB5.out;have f0:=uf 0;have f1:=uf 1;have f2:=uf 2;have f3:=uf 3;have f4:=uf 4;have f5:=uf 5;have f6:=uf 6;clear uf;simp only [Nat.zero_add]at y0 y1 y2 y3 y4 y5 y6)
   |(go_at_call 26;refine (HCH.out w5 w2.heap.size _ _ _ _ _ _ _ lo hi N5.out O5.out (by have:=H12.out;have:=Q5.out.size;omega) (.inr H12.out.2) LV5.out (.inl (by have:=H12.out;have:=HS1.out;omega)) (.inl (by have:=H12.out;have:=HS1.out;omega)) (by omega) (by omega)).mono ?_;rintro e9 w6 ⟨⟨u9,rfl⟩,cd6⟩;obtain ⟨d0,d1,d2,d3,d4,d5,d6,n6,o6⟩:=cd6.ex;obtain ⟨k7,n7,t7,b7,e7,a7,l7,c7,a8,l8,c8,hsh⟩:=o6.shape;simp only [Value.agg.injEq,Array.mk.injEq,List.cons.injEq,and_true]at hsh;obtain ⟨rfl,rfl,rfl,rfl,rfl,rfl,rfl⟩:=hsh;have C6:=hid cd6.ch;have O6:=hid o6;have TB6:=hid (TB4.out.blk ((C6.out.q.block _ (Q.lt Q5.out hl5) (fun e=>by have:=H12.out;have:=HS1.out;omega)).trans (Q.block Q5.out hl5)));clear y0 y1 y2 y3 y4 y5 y6 u0 u1 u2 u3 u4 u5 u6 f0 f1 f2 f3 f4 f5 f6;obtain ⟨y0,y1,y2,y3,y4,y5,y6,_⟩:=n6;obtain ⟨u0,u1,u2,u3,u4,u5,u6,uf⟩:=TB6.out;have f0:=uf 0;have f1:=uf 1;have f2:=uf 2;have f3:=uf 3;have f4:=uf 4;have f5:=uf 5;have f6:=uf 6;clear uf cd6 o6;simp only [Nat.zero_add]at y0 y1 y2 y3 y4 y5 y6))
  refine bodyPost_ret (v:=.agg #[.int .i64 k7,.int .i64 n7,.string t7,.bool b7,.int .i64 e7,.slice a7 l7 c7,.slice a8 l8 c8]) (by simp [results,Tryz.results11,go_sem,u0,u1,u2,u3,u4,u5,u6]) rfl ?_
  have QF:Qx (W.heap.size+1+1+1) w6 (((((((w6.setCell ⟨W.heap.size+1+1+1,0,none⟩ (.int .i64 k7)).setCell ⟨W.heap.size+1+1+1,1,none⟩ (.int .i64 n7)).setCell ⟨W.heap.size+1+1+1,2,none⟩ (.string t7)).setCell ⟨W.heap.size+1+1+1,3,none⟩ (.bool b7)).setCell ⟨W.heap.size+1+1+1,4,none⟩ (.int .i64 e7)).setCell ⟨W.heap.size+1+1+1,5,none⟩ (.slice a7 l7 c7)).setCell ⟨W.heap.size+1+1+1,6,none⟩ (.slice a8 l8 c8)):=(((((((Qx.refl _ _).own _ _).own _ _).own _ _).own _ _).own _ _).own _ _).own _ _
  have hz:=HS1.out;have h12:=H12.out;have hq:Q W w6:=q_chd (((HQ1.out.trans Q2.out).trans Q24.out).trans Q5.out) C6.out (by omega) (by omega)
  have hz4:=Q24.out.size;have hz5:=Q5.out.size;have hz6:=C6.out.q.size;rw [HLN.out];refine ⟨_,rfl,⟨QF.os.trans hq.os,QF.tape.trans hq.tape,QF.output.trans hq.output,Nat.le_trans hq.size QF.size,fun i hi=>(QF.block i (Nat.lt_of_lt_of_le hi hq.size) (fun e=>by have:=Option.some.inj e;omega)).trans (Q.block hq hi)⟩,lo,hi,by omega,Nat.le_trans (by omega) QF.size,?_⟩
  exact Ow.on _ _ _ _ (fun i h1 h2=>Bs.of (QF.block i (by omega) (fun e=>by have:=Option.some.inj e;omega))) O6.out
theorem first_name(L:List Wd)(p b off cap:Nat)(s:St)(W:World)(h:PS W p L b off cap s.i s.bd s.n)(hi:s.i<L.length)(hr:L.length≤50000)(hn:s.n≤s.i)(hw:isW L s.i [40]=false)(hk:kAt L s.i=4)(r:Ex × St)
  (HC:Hid (∀ W1 (T:ByteArray) (q:Int),T.data.toList=tAt L s.i→PS W1 p L b off cap s.on.i s.on.bd s.on.n→Calls Tryz.prog 103 #[.pointer (some ⟨p,0,none⟩),.agg #[.int .i64 4,.string T,.int .i64 q]] W1 fun e W'=>Rep p L b off cap W1 r e W')) :
  Calls Tryz.prog 86 #[.pointer (some ⟨p,0,none⟩)] W fun e W'=>Rep p L b off cap W r e W':=by
 have hlt:=h.lt;have hbW:=h.blk hi;obtain ⟨T,q,hT,kw⟩:=h.kw hi;have HTT:=hid hT;have HK:=hid kw;rw [hk]at HK;have HP:=hid h;have hroom:(s.i:Int)+1≤9223372036854775807:=by omega
 have HZ:=hid ((tb_new W (.int .i64 0) (.int .i64 0) (.string ⟨#[]⟩) (.bool false) (.int .i64 0) (.slice none 0 0) (.slice none 0 0) 26).on (((Qx.refl p _).alloc (.cells #[.int .i64 4,.string T,.int .i64 q] 78)).drew) (by omega))
 have HB:=hid ((wb_new (W.alloc (.cells #[.int .i64 0,.int .i64 0,.string ⟨#[]⟩,.bool false,.int .i64 0,.slice none 0 0,.slice none 0 0] 26)) (.int .i64 4) (.string T) (.int .i64 q) 78).on ((Qx.refl p _).drew) (by simp;omega))
 rw [show (W.alloc (.cells #[.int .i64 0,.int .i64 0,.string ⟨#[]⟩,.bool false,.int .i64 0,.slice none 0 0,.slice none 0 0] 26)).heap.size=W.heap.size+1 by simp]at HB
 have hc:=hid (fun W1 (g:PS W1 p L b off cap s.i s.bd s.n)=>take_any W1 p L b off cap s.i s.bd s.n ⟨#[40]⟩ g hi)
 rw [show (⟨#[40]⟩:ByteArray).data.toList=[40] from rfl,hw]at hc
 clear h kw hT;go_enter Tryz.func86,Tryz.ntmps86
 go_wp2_with fail
 go_region_held3 (fun V=>V.cell? ⟨p,0,none⟩=some (.slice (some ⟨b,off,none⟩) L.length cap)∧V.cell? ⟨p,1,none⟩=some (.int .i64 (s.i:Int))∧V.cell? ⟨b,off+s.i*3,none⟩=some (.int .i64 4)∧V.cell? ⟨b,off+s.i*3+1,none⟩=some (.string T)∧V.cell? ⟨b,off+s.i*3+2,none⟩=some (.int .i64 q)) (exact HK.out.on (by repeat (first|with_reducible exact Q.refl _|with_reducible refine Q.drewN ?_ _|with_reducible refine Q.drew ?_|with_reducible refine Q.alloc ?_ _|with_reducible refine Q.setCell ?_ (by simp) _))) (fail)
 go_wp2_with (first|(go_at_call 85;refine (hc.out _ (HP.out.on (by repeat (first|with_reducible exact Q.refl _|with_reducible refine Q.drewN ?_ _|with_reducible refine Q.drew ?_|with_reducible refine Q.alloc ?_ _|with_reducible refine Q.setCell ?_ (by simp) _)))).mono ?_;rintro e w1 ⟨rfl,q1,p1⟩;have Q1:Hid (Qx p W w1):=hid (Qx.trans (by repeat (first|with_reducible exact Qx.refl _ _|with_reducible refine Qx.drewN ?_ _|with_reducible refine Qx.drew ?_|with_reducible refine Qx.alloc ?_ _|with_reducible refine Qx.own ?_ _ _|with_reducible refine Qx.new ?_ (by simp) _ _)) q1);have P1:=hid p1;have Z1:=hid (HZ.out.on q1 (by omega));have B1:=hid (HB.out.on q1 (by omega));have hsw:W.heap.size+1<w1.heap.size:=World.block_lt_of_cell? w1 ⟨W.heap.size+1,0,none⟩ B1.out.g0;clear q1 p1;have x1:=P1.out.c1;have z1:=P1.out.f1;have b0:=B1.out.g0;have b1:=B1.out.g1;have b2:=B1.out.g2)|(go_at_call 103;refine (HC.out _ T q HTT.out (P1.out.set1 (s.i+1) _ (by go_num))).mono ?_;rintro e w2 ⟨v,rfl,hr2,q2,p2⟩;obtain ⟨k,m,t,bb,er,a1,l1,c1,a2,l2,c2,rfl⟩:=hr2.shape;have R2:=hid hr2;have Q2:Hid (Qx p w1 w2):=hid (Qx.trans (by repeat (first|with_reducible exact Qx.refl _ _|with_reducible refine Qx.drewN ?_ _|with_reducible refine Qx.drew ?_|with_reducible refine Qx.alloc ?_ _|with_reducible refine Qx.own ?_ _ _|with_reducible refine Qx.new ?_ (by simp) _ _)) q2);have P2:=hid p2;have Z2:=hid (Z1.out.on Q2.out (by omega));clear hr2 q2 p2;have d0:=Z2.out.g0;have d1:=Z2.out.g1;have d2:=Z2.out.g2;have d3:=Z2.out.g3;have d4:=Z2.out.g4;have d5:=Z2.out.g5;have d6:=Z2.out.g6;have y0:=Z2.out.f 0;have y1:=Z2.out.f 1;have y2:=Z2.out.f 2;have y3:=Z2.out.f 3;have y4:=Z2.out.f 4;have y5:=Z2.out.f 5;have y6:=Z2.out.f 6))
 refine bodyPost_ret (v:=.agg #[.int .i64 k,.int .i64 m,.string t,.bool bb,.int .i64 er,.slice a1 l1 c1,.slice a2 l2 c2]) (by simp [results,Tryz.results86,go_sem,d0,d1,d2,d3,d4,d5,d6]) rfl ?_
 have hsz1:(w1.setCell ⟨p,1,none⟩ (.int .i64 ((s.i:Int)+1))).heap.size=w1.heap.size:=by simp [World.setCell]
 exact fin7 (s':=r.2) k m t bb er a1 l1 c1 a2 l2 c2 hlt hbW (Q1.out.trans Q2.out) (Rdg.mono (fun b hb=>by rw [hsz1]at hb;omega) _ _ R2.out) P2.out
theorem ref_all(L:List Wd)(hE:Ends L)(hG:Good EE L)(hK:∀ i,i<L.length→1≤kAt L i∧kAt L i≤7)(hr:L.length≤50000)(hz:∀ i,(tAt L i).length≤1000)(p b off cap:Nat):∀ f:Nat,
  (∀ (lv:Nat) (s:St) (r:Ex × St) (W:World),1≤lv→lv≤5→treeF EE L f lv s=some r→PS W p L b off cap s.i s.bd s.n→s.i<L.length→s.n≤s.i→Calls Tryz.prog 41 #[.pointer (some ⟨p,0,none⟩),.int .i64 (lv:Int)] W fun e W'=>Rep p L b off cap W r e W') ∧
  (∀ (s:St) (r:Ex × St) (W:World),treeF.aheadF EE L f s=some r→PS W p L b off cap s.i s.bd s.n→s.i<L.length→s.n≤s.i→Calls Tryz.prog 65 #[.pointer (some ⟨p,0,none⟩)] W fun e W'=>Rep p L b off cap W r e W') ∧
  (∀ (s:St) (r:Ex × St) (W:World),treeF.firstF EE L f s=some r→PS W p L b off cap s.i s.bd s.n→s.i<L.length→s.n≤s.i→Calls Tryz.prog 86 #[.pointer (some ⟨p,0,none⟩)] W fun e W'=>Rep p L b off cap W r e W'):=by
 intro f
 induction f using Nat.strongRecOn with
 |ind f ih=>
  cases f with
  |zero=>
   refine ⟨?_,?_,?_⟩
   ·intro lv s r W _ _ h;unfold treeF at h;cases h
   ·intro s r W h;unfold treeF.aheadF at h;cases h
   ·intro s r W h;unfold treeF.firstF at h;cases h
  |succ f=>
   have IT:=fun f' (h:f'<f+1)=>(ih f' h).1
   obtain ⟨iT,iA,iF⟩:=ih f (Nat.lt_succ_self f);refine ⟨?_,?_,?_⟩
   ·intro lv s r W hv hv5 h hP hi hn
    rw [treeF]at h
    split at h
    ·rename_i hb
     cases h
     exact tree_bad L p b off cap lv s W hP hi hb
    ·rename_i hb
     have hb':s.bd=false:=by simpa using hb
     split at h
     ·rename_i e5
      subst e5;exact tree_five L p b off cap s r W hP hi hb' (hid fun W1 g=>iA s r W1 h g hi hn)
     ·rename_i hn5
      obtain ⟨r0,h1,h2⟩:=Option.bind_eq_some_iff.1 h;have hF0:=((fwd_all EE L hE f).1 _ _ _ (by omega) h1 hi).1
      refine tree_step EE L hE p b off cap lv s W hP hi hb' hv (by omega) r0 r f (hid h2) (hid fun W1 g=>?_) (hid fun f' s1 r1 W1 hf ht g hi1 hn1=>?_) hr hF0 hn
      ·have:=iT (lv+1) s r0 W1 (by omega) (by omega) h1 g hi hn
       rw [show (((lv+1:Nat):Int))=(lv:Int)+1 by omega]at this
       exact this
      ·have:=IT f' (by omega) (lv+1) s1 r1 W1 (by omega) (by omega) ht g hi1 hn1
       rw [show (((lv+1:Nat):Int))=(lv:Int)+1 by omega]at this
       exact this
   ·intro s r W h hP hi hn
    rw [treeF.aheadF]at h
    split at h
    ·rename_i hw
     obtain ⟨r0,h1,h2⟩:=Option.bind_eq_some_iff.1 h;cases h2
     have hon:=hE.sign hw;have hF0:=((fwd_all EE L hE f).1 _ _ _ (by omega) h1 hon).1
     exact ahead_yes L p b off cap s r0 W hP hi hw (by have:=hF0.nd;have:=hF0.lt;simp only [on_i,on_n]at *;omega) (hid fun W1 g=>iT 5 s.on r0 W1 (by omega) (by omega) h1 g hon (by simp only [on_i,on_n];omega))
    ·rename_i hw
     exact ahead_no L p b off cap s r W hP hi (by simpa using hw) (hid fun W1 g=>iF s r W1 h g hi hn)
   ·intro s r W h hP hi hn
    rw [treeF.firstF]at h
    split at h
    ·rename_i hw
     obtain ⟨r0,h1,h2⟩:=Option.bind_eq_some_iff.1 h;cases h2
     have hon:=hE.sign hw;have hF0:=((fwd_all EE L hE f).1 _ _ _ (by omega) h1 hon).1
     have HT:=hid fun W1 (g:PS W1 p L b off cap s.on.i s.on.bd s.on.n)=>iT 1 s.on r0 W1 (by omega) (by omega) h1 g hon (by simp only [on_i,on_n];omega)
     unfold closeS
     cases hbd:r0.2.bd
     ·cases hw2:isW L r0.2.i [41]
      ·exact first_paren_no L p b off cap s W hP hi hr hn hw r0 hbd hF0.lt hw2 HT
      ·exact first_paren_yes L p b off cap s W hP hi hr hn hw r0 hbd hF0.lt hw2 HT
     ·exact first_paren_bad L p b off cap s W hP hi hr hn hw r0 hbd HT
    ·rename_i hw0
     have hw:isW L s.i [40]=false:=by simpa using hw0
     split at h
     ·rename_i hk
      have hon:=hE s.i hi (by omega)
      refine first_name L p b off cap s W hP hi hr hn hw hk r (hid fun W1 T q hT g=>?_)
      split at h
      ·rename_i ht
       cases h
       by_cases htr:tAt L s.i=truW
       ·exact call_true L p b off cap s.on W1 T q (tAt L s.i) hT g hon hr (by simp only [on_i,on_n];omega) htr
       ·exact call_false L p b off cap s.on W1 T q (tAt L s.i) hT g hon hr (by simp only [on_i,on_n];omega) (ht.resolve_left htr)
      ·rename_i ht
       split at h
       ·rename_i h40
        split at h
        ·rename_i hl
         cases h
         exact call_long L p b off cap s.on W1 T q (tAt L s.i) hT g hon hr (by simp only [on_i,on_n];omega) ht h40 hl
        ·rename_i hl
         exact call_args L p b off cap s.on W1 T q (tAt L s.i) hT g hon hr (by simp only [on_i,on_n];omega) hE ht h40 (by omega) r f (by simp only [on_i,on_n];omega) (hid h) (hid fun f' s1 r1 W2 hf htr g1 hi1 hn1=>IT f' (by omega) 1 s1 r1 W2 (by omega) (by omega) htr g1 hi1 hn1)
       ·rename_i h40
        cases h
        exact call_none L p b off cap s.on W1 T q (tAt L s.i) hT g hon hr (by simp only [on_i,on_n];omega) ht (by show isW L (s.i+1) [40]=false;simpa using h40)
     ·rename_i hk4
      cases h
      unfold oneF
      have hk:=hK s.i hi;by_cases k1:kAt L s.i=1
      ·rw [if_pos k1];exact first_num L p b off cap s W hP hi hr hn hw k1 hz
      ·rw [if_neg k1]
       by_cases k2:kAt L s.i=2
       ·rw [if_pos k2];exact first_text L p b off cap s W hP hi hr hn hw k2
       ·rw [if_neg k2]
        by_cases k5:kAt L s.i=5
        ·rw [if_pos k5,if_neg (hG.err _ hi k5)]
         exact first_err L p b off cap s W hP hi hr hn hw k5 (hG.err _ hi k5)
        ·rw [if_neg k5]
         by_cases k3:kAt L s.i=3
         ·rw [if_pos k3]
          by_cases hc:isW L (s.i+1) [58]=true
          ·rw [if_pos hc]
           by_cases h3:kAt L (s.i+2)=3
           ·by_cases hok:refF (tAt L (s.i+2))=true
            ·by_cases hsh:(refT (tAt L (s.i+2))).1=[]
             ·rw [if_pos ⟨h3,hok,hsh⟩]
              exact first_range L p b off cap s W hP hi hr hn hE hw k3 hz hc h3 hok hsh
             ·rw [if_neg (fun e=>hsh e.2.2)]
              exact first_range_sheet L p b off cap s W hP hi hr hn hE hw k3 hz hc h3 hok hsh
            ·rw [if_neg (fun e=>hok e.2.1)]
             exact first_range_none L p b off cap s W hP hi hr hn hE hw k3 hz hc h3 (by simpa using hok)
           ·rw [if_neg (fun e=>h3 e.1)]
            exact first_range_kind L p b off cap s W hP hi hr hn hE hw k3 hz hc h3
          ·rw [if_neg hc]
           exact first_ref L p b off cap s W hP hi hr hn hE hw k3 hz (by simpa using hc)
         ·rw [if_neg k3]
          exact first_other L p b off cap s W hP hi hr hn hw (by omega)
theorem ps_new(w:World)(L:List Wd)(b off cap:Nat)(h:Sw w L (.slice (some ⟨b,off,none⟩) L.length cap) b off cap)(hpos:0<L.length):PS (w.alloc (.cells #[.slice (some ⟨b,off,none⟩) L.length cap,.int .i64 0,.bool false,.int .i64 0] 75)) w.heap.size L b off cap 0 false 0:=by
 have hb:b<w.heap.size:=World.block_lt_of_cell? w ⟨b,off+0*3,none⟩ (h.k 0 hpos)
 have sv:Sv w L (.slice (some ⟨b,off,none⟩) L.length cap) b off cap:=⟨rfl,h.le,h.mx,h.k,h.t,h.p⟩
 refine ⟨?_,?_,?_,?_,?_,?_,?_,sv.on (p:=w.heap.size) ((Qx.refl _ _).alloc _) (by omega),by omega⟩
 all_goals simp [World.cell?_alloc_new,World.frozen?_alloc_new]
theorem rparse_ok(s:ByteArray)(W:World)(hs:s.size≤100000)(L:List Wd)(n f:Nat)(r:Ex × St)(hn:scanL s.data.toList=(some L,n))(hpt:treeF EE L f 1 ⟨0,false,0⟩=some r)(hb:r.2.bd=false)(hk:kAt L r.2.i=7)(hn2:¬ 200<r.2.n)(hd:¬ 50<dp 51 r.1) :
  Calls Tryz.prog 21 #[.string s] W fun e W'=>RepR W (r.1,0) e W':=by
 have HZ:=hid (tb_new W (.int .i64 0) (.int .i64 0) (.string ⟨#[]⟩) (.bool false) (.int .i64 0) (.slice none 0 0) (.slice none 0 0) 26);have HSc:=hid (fun W1=>rscan_any s W1 hs)
 have HN:=hid hn;obtain ⟨hpos,hr,hE,hG,hK,hz⟩:=scan_good hn;have HPr:=hid (fun W1 p b off cap (g:PS W1 p L b off cap 0 false 0)=>(ref_all L hE hG hK hr hz p b off cap f).1 1 ⟨0,false,0⟩ r W1 (by omega) (by omega) hpt g hpos (Nat.le_refl _))
 have hF:=((fwd_all EE L hE f).1 _ _ _ (by omega) hpt hpos).1
 have hil:r.2.i<L.length:=hF.lt
 have hnl:r.2.n≤50000:=by have h1:=hF.nd;have h2:=hF.lt;simp at h1;omega
 have HDp:=hid (fun W1 v (h:Rd W1 r.1 v)=>depth_any 51 r.1 v W1 51 rfl (by omega) h)
 have hdl:=dp_le 51 r.1;have hkg:=kAt_get hil;clear hn hF;go_enter Tryz.func21,Tryz.ntmps21
 go_upto_region 6 with (first|(go_at_call 40;refine (HSc.out _).mono ?_;rintro e w1 ⟨h1,q1⟩;rw [HN.out]at h1;obtain ⟨sv,h1',hsl⟩:=ScanRet.some h1;subst h1';obtain ⟨b,off,cap,hsw⟩:=sw_of hsl hpos;obtain rfl:=hsw.ev;have Q1:Hid (Q W w1):=hid (Q.trans (by repeat (first|with_reducible exact Q.refl _|with_reducible refine Q.drewN ?_ _|with_reducible refine Q.drew ?_|with_reducible refine Q.alloc ?_ _|with_reducible refine Q.setCell ?_ (by simp) _)) q1);have hs1:W.heap.size<w1.heap.size:=(by have:=q1.size;simp at this;omega);have Z1:=hid (HZ.out.on (p:=W.heap.size+1) (Qx.of q1) (by omega));have P1:Hid (PS (w1.alloc (.cells #[.slice (some ⟨b,off,none⟩) L.length cap,.int .i64 0,.bool false,.int .i64 0] 75)) w1.heap.size L b off cap 0 false 0):=hid (ps_new w1 L b off cap hsw hpos);clear q1 h1 hsl hsw)|(go_at_call 41;refine (HPr.out _ _ _ _ _ P1.out).mono ?_;rintro e w2 ⟨v,rfl,hr2,q2,p2⟩;obtain ⟨k,m,t,bb,er,a1,l1,c1,a2,l2,c2,rfl⟩:=hr2.shape;have R2:=hid hr2;have Q2:=hid q2;have P2:=hid (p2.on ((Q.refl _).alloc (.cells #[.int .i64 k,.int .i64 m,.string t,.bool bb,.int .i64 er,.slice a1 l1 c1,.slice a2 l2 c2] 26)));have Z2:=hid (((Z1.out.on (p:=w1.heap.size) ((Qx.refl _ _).alloc _) (by omega)).on q2 (by omega)).on (p:=w1.heap.size) ((Qx.refl _ _).alloc (.cells #[.int .i64 k,.int .i64 m,.string t,.bool bb,.int .i64 er,.slice a1 l1 c1,.slice a2 l2 c2] 26)) (by omega));have X2:=hid (tb_new w2 (.int .i64 k) (.int .i64 m) (.string t) (.bool bb) (.int .i64 er) (.slice a1 l1 c1) (.slice a2 l2 c2) 26);have hs2:w1.heap.size<w2.heap.size:=(by have:=q2.size;simp at this;omega);have QW:Hid (Q W (w2.alloc (.cells #[.int .i64 k,.int .i64 m,.string t,.bool bb,.int .i64 er,.slice a1 l1 c1,.slice a2 l2 c2] 26))):=hid (((Q1.out.alloc _).viax q2 (by omega)).alloc _);clear hr2 q2 p2))
 obtain ⟨V2,hV2,P2v,Z2v,X2v,QWv,RV,hsv⟩:∃ V2,V2=w2.alloc (.cells #[.int .i64 k,.int .i64 m,.string t,.bool bb,.int .i64 er,.slice a1 l1 c1,.slice a2 l2 c2] 26)∧PS V2 w1.heap.size L b off cap r.2.i r.2.bd r.2.n∧Tb V2 W.heap.size (.int .i64 0) (.int .i64 0) (.string ⟨#[]⟩) (.bool false) (.int .i64 0) (.slice none 0 0) (.slice none 0 0)∧Tb V2 w2.heap.size (.int .i64 k) (.int .i64 m) (.string t) (.bool bb) (.int .i64 er) (.slice a1 l1 c1) (.slice a2 l2 c2)∧Q W V2∧Rdg (fun b=>W.heap.size+1≤b) V2 r.1 (.agg #[.int .i64 k,.int .i64 m,.string t,.bool bb,.int .i64 er,.slice a1 l1 c1,.slice a2 l2 c2])∧w2.heap.size<V2.heap.size:=
  ⟨_,rfl,P2.out,Z2.out,X2.out,QW.out,Rdg.on (p:=W.heap.size) ((Qx.refl _ _).alloc _) (fun b hb=>by omega) _ _ (Rdg.mono (fun b hb=>by simp at hb;omega) _ _ R2.out),by simp⟩
 rw [←hV2];have P2h:=hid P2v;have Z2h:=hid Z2v;have X2h:=hid X2v;have QWh:=hid QWv;have RVh:=hid RV;have c0:=P2v.c0;have c1':=P2v.c1;have c2':=P2v.c2;have c3:=P2v.c3;have v0:=P2v.sw.k r.2.i hil;rw [←hkg.1]at v0;have n0:=X2v.g0;have n1:=X2v.g1;have n2:=X2v.g2;have n3:=X2v.g3;have n4:=X2v.g4;have n5:=X2v.g5;have n6:=X2v.g6;have d0:=Z2v.g0;have d1:=Z2v.g1;have d2:=Z2v.g2;have d3:=Z2v.g3;have d4:=Z2v.g4;have d5:=Z2v.g5;have d6:=Z2v.g6;have y0:=Z2v.f 0;have y1:=Z2v.f 1;have y2:=Z2v.f 2;have y3:=Z2v.f 3;have y4:=Z2v.f 4;have y5:=Z2v.f 5;have y6:=Z2v.f 6;clear hV2 P2v Z2v X2v QWv RV P2 Z2 X2 QW R2 hkg;rw [hb]at c2';rw [hk]at v0;have c200:¬ (200:Int)<(r.2.n:Int):=by omega
 have cd:¬ (50:Int)<(dp 51 r.1:Int):=by omega
 generalize dp 51 r.1=dd at HDp cd hdl hd;go_quiet (fail)
 go_wp2_with (go_at_call 42;refine (HDp.out _ _ (Rd.on ((Q.refl _).drewN _) _ _ (Rdg.rd _ _ RVh.out))).mono ?_;rintro e w4 ⟨rfl,q4⟩;have Q4:Hid (Q V2 w4):=hid (((Q.refl _).drewN _).trans q4);have X4:=hid (X2h.out.on (p:=w1.heap.size) (Qx.of Q4.out) (by omega));have Z4:=hid (Z2h.out.on (p:=w1.heap.size) (Qx.of Q4.out) (by omega));clear q4;have e0:=Z4.out.g0;have e1:=Z4.out.g1;have e2:=Z4.out.g2;have e3:=Z4.out.g3;have e4:=Z4.out.g4;have e5:=Z4.out.g5;have e6:=Z4.out.g6;have f0:=Z4.out.f 0;have f1:=Z4.out.f 1;have f2:=Z4.out.f 2;have f3:=Z4.out.f 3;have f4:=Z4.out.f 4;have f5:=Z4.out.f 5;have f6:=Z4.out.f 6;have r0:=X4.out.g0;have r1:=X4.out.g1;have r2:=X4.out.g2;have r3:=X4.out.g3;have r4:=X4.out.g4;have r5:=X4.out.g5;have r6:=X4.out.g6)
 refine bodyPost_ret (v:=.tuple #[.agg #[.int .i64 k,.int .i64 m,.string t,.bool bb,.int .i64 er,.slice a1 l1 c1,.slice a2 l2 c2],.int .i64 0]) (by simp [results,Tryz.results21,go_sem,e0,e1,e2,e3,e4,e5,e6]) rfl ?_
 have QF:∀ Vf:World,Qx W.heap.size w4 Vf→Rdg (fun b=>W.heap.size≤b) Vf r.1 (.agg #[.int .i64 k,.int .i64 m,.string t,.bool bb,.int .i64 er,.slice a1 l1 c1,.slice a2 l2 c2]):=fun Vf q=>Rdg.mono (fun b hb=>by omega) _ _ (Rdg.on q (fun b hb=>by omega) _ _ (Rdg.on (Qx.of (p:=W.heap.size) Q4.out) (fun b hb=>by omega) _ _ RVh.out))
 exact ⟨_,rfl,QF _ ((((((((Qx.refl _ _).own _ _).own _ _).own _ _).own _ _).own _ _).own _ _).own _ _),Q.setCell (Q.setCell (Q.setCell (Q.setCell (Q.setCell (Q.setCell (Q.setCell (QWh.out.trans Q4.out) (Nat.le_refl _) _) (Nat.le_refl _) _) (Nat.le_refl _) _) (Nat.le_refl _) _) (Nat.le_refl _) _) (Nat.le_refl _) _) (Nat.le_refl _) _⟩
def xq:Ex:=binE [43] (refE ([],0,0,false,false)) (refE ([],2,0,false,false))
def xqW:List Wd:=[⟨3,[65,49],0⟩,⟨6,[43],2⟩,⟨3,[65,51],3⟩,⟨7,[],5⟩]
def xr:Ex:=binE [43] lostE (refE ([],1,0,false,false))
theorem xq_parse(W:World):Calls Tryz.prog 21 #[.string ⟨#[65,49,43,65,51]⟩] W fun e W'=>RepR W (xq,0) e W':=
 rparse_ok ⟨#[65,49,43,65,51]⟩ W (by decide) xqW 0 20 (xq,⟨3,false,3⟩) (by kernel_rfl) (by kernel_rfl) rfl rfl (by decide) (by decide)
theorem xq_may:(fitB xq&&mall mayN xq)=true:=by decide +kernel
theorem xq_sm:Sm xq:=by
 unfold xq binE refE
 simp [Sm,Sm.SmL]
theorem xq_sn:Sn xq:=by
 unfold xq binE refE
 simp [Sn,Sn.SnL]
theorem xr_sn:Sn xr:=by
 unfold xr binE refE lostE
 simp [Sn,Sn.SnL]
theorem xq_ln:lnE (⟨#[99,48,110,48]⟩:ByteArray).data.toList (⟨#[99,48,110,48]⟩:ByteArray).data.toList true 2 0 0 xq=xr:=by kernel_rfl
theorem xr_refs:rfs xr=[([],1,0,false,false)]:=by kernel_rfl
theorem xr_shape{W:World}{v:Value}{lo hi:Nat}(h:Ow W xr v lo hi):∃ a1 l1 c1 g c2,v=.agg #[.int .i64 8,.int .i64 0,.string ⟨#[43]⟩,.bool false,.int .i64 0,.slice a1 l1 c1,.slice (some ⟨g,0,none⟩) 2 c2]∧2≤c2∧c2≤maxLen∧W.cell? ⟨g,0,none⟩=some (.int .i64 4):=by
 unfold xr binE Ow at h
 obtain ⟨rv,kv,m,hv,hr,hm,ao,cap,hkv,hc1,hc2,hk3⟩:=h;obtain ⟨g,m',rfl,_,_,_,hl⟩:=hk3 (by simp)
 obtain ⟨a1,l1,c1,rfl⟩:=hr.shape;unfold Ow.OwL at hl
 obtain ⟨m1,⟨d0,d1,d2,d3,d4,d5,d6,g0,g1,g2,g3,g4,g5,g6,hx⟩,_⟩:=hl;unfold lostE Ow at hx
 obtain ⟨rv',kv',_,hv',_⟩:=hx;simp only [Value.agg.injEq,Array.mk.injEq,List.cons.injEq,and_true]at hv'
 obtain ⟨rfl,_⟩:=hv';subst hkv;exact ⟨a1,l1,c1,g,cap,hv,by simpa using hc1,hc2,g0⟩
theorem begun_any(W:World)(hg:Gd W):Calls Tryz.prog 8 #[] W fun e W'=>e=.returned (.bool true)∧Q W W':=by
 have HP:=hid (xq_parse W);have HLI:=hid (fun w v (q:Q W w) (r:Rd w xq v)=>lines_any xq v ⟨#[99,48,110,48]⟩ ⟨#[99,48,110,48]⟩ true 2 0 0 w (hg.on q) r xq_sn xq_sm (by decide) xq_may)
 rw [xq_ln]at HLI;have HRE:=hid (fun w v (r:Rd w xr v)=>refs_any xr v w r xr_sn (by decide) (by rw [xr_refs];decide))
 clear hg;go_enter Tryz.func8,Tryz.ntmps8
 go_wp2_with (first
  |(go_at_call 21;refine HP.out.mono ?_;rintro e9 w1 ⟨v1,rfl,r1,q1⟩;obtain ⟨k1,n1,t1,b1,e1,a1,l1,c1,a2,l2,c2,rfl⟩:=r1.shape;have R1:=hid (Rdg.rd _ _ r1);have Q1:=hid q1;clear r1 q1)
  |(go_at_call 11;refine (HLI.out _ _ (Q1.out.alloc _) (Rd.on ((Q.refl _).alloc _) _ _ R1.out)).mono ?_;rintro e9 w3 ⟨v3,rfl,q3,lo,hi,_,_,ow3⟩;obtain ⟨a3,l3,c3,g3,c4,rfl,hc3,hc4,hz3⟩:=xr_shape ow3;have R3:=hid (Rdg.rd _ _ (Ow.rdg (g:=fun _=>True) _ _ _ _ (fun _ _ _=>trivial) ow3));have Q3:=hid ((Q1.out.alloc _).trans q3);clear ow3 q3;have hl3:=World.block_lt_of_cell? w3 _ hz3)
  |(go_at_call 17;refine (HRE.out _ _ (Rd.on ((Q.refl _).alloc _) _ _ R3.out)).mono ?_;rintro e9 w5 ⟨v5,rfl,o5,q5⟩;rw [xr_refs]at o5;obtain ⟨g5,c5,hv5,_,hlt5,hca5,hcb5⟩:=o5.shape (by simp);simp only [List.length_singleton]at hv5 hca5;subst hv5;have z5:w5.cell? ⟨g5,1,none⟩=some (.int .i64 1):=(by have h:=Own.cell (L:=[([],1,0,false,false)]) o5 rf_len (i:=0) (by simp) 1 (.int .i64 1) rfl;simpa using h);have z6:w5.cell? ⟨g3,0,none⟩=some (.int .i64 4):=(q5.cell (by simp;omega)).trans ((Q.cell ((Q.refl _).alloc _) hl3).trans hz3);have N5:=hid ((nd_new w3 (.int .i64 8) (.int .i64 0) (.string ⟨#[43]⟩) (.bool false) (.int .i64 0) (.slice a3 l3 c3) (.slice (some ⟨g3,0,none⟩) 2 c4) 26).on q5);have Q5:=hid ((Q3.out.alloc _).trans q5);clear o5 q5;obtain ⟨y0,y1,y2,y3,y4,y5,y6,_⟩:=N5.out;simp only [Nat.zero_add]at y0 y1 y2 y3 y4 y5 y6))
 go_ret
 exact ⟨rfl,Q5.out⟩
end Go.Proofs.YtoikodohcieipaaGreatDoor
namespace Go.Proofs.YtoikodohcieipaaGreatDoor
open Go.RowKit
set_option linter.unusedVariables false
set_option linter.unusedSimpArgs false
def mayRf(r:Rf):Bool:=mayR r.1 r.2.1 r.2.2.1
theorem bare_len{n:Int}{t:List UInt8}{b:Bool}{e:Int}{l1 l2:Nat}(h:bareB n t b e l1 l2=true):l1=0:=by
 unfold bareB at h
 exact (of_decide_eq_true h).2.2.2.2.1
theorem may_refs{k n:Int}{t:List UInt8}{b:Bool}{e:Int}{rs:List Rf}{ks:List Ex}(h:mayN (.mk k n t b e rs ks)=true):rs.length≤2∧∀ r∈rs,mayRf r=true:=by
 have nil:rs.length=0→rs.length≤2∧∀ r∈rs,mayRf r=true:=fun h0=>⟨by omega,fun r hr=>by rw [List.eq_nil_of_length_eq_zero h0]at hr;simp at hr⟩
 simp only [mayN]at h
 split at h
 ·exact nil (bare_len (Bool.and_eq_true_iff.1 h).2)
 split at h
 ·exact nil (bare_len (Bool.and_eq_true_iff.1 h).2)
 split at h
 ·exact nil (bare_len (Bool.and_eq_true_iff.1 h).2)
 split at h
 ·exact nil (bare_len (Bool.and_eq_true_iff.1 h).2)
 split at h
 ·have h1:=(Bool.and_eq_true_iff.1 h).1
  match rs,h1 with
  |[x],h1=>exact ⟨by simp,fun r hr=>by simp at hr;subst hr;exact h1⟩
 split at h
 ·have h1:=(Bool.and_eq_true_iff.1 h).1
  match rs,h1 with
  |[x,y],h1=>
   have h2:=Bool.and_eq_true_iff.1 h1;have h3:=Bool.and_eq_true_iff.1 h2.2;refine ⟨by simp,fun r hr=>?_⟩
   simp only [List.mem_cons,List.not_mem_nil,or_false]at hr
   rcases hr with rfl|rfl
   ·exact h2.1
   ·exact h3.1
 split at h
 ·exact nil (bare_len (Bool.and_eq_true_iff.1 h).2)
 split at h
 ·exact nil (bare_len (Bool.and_eq_true_iff.1 h).2)
 split at h
 ·exact nil (bare_len (Bool.and_eq_true_iff.1 h).2)
 ·cases h
theorem may_map{k n:Int}{t:List UInt8}{b:Bool}{e:Int}{rs:List Rf}{ks ks':List Ex}(mr:Rf→Rf)(h:mayN (.mk k n t b e rs ks)=true)(hl:ks'.length=ks.length)(hm:∀ r∈rs,(mr r).1=r.1∧mayRf (mr r)=true):mayN (.mk k n t b e (rs.map mr) ks')=true:=by
 simp only [mayN]at h ⊢
 rw [List.length_map,hl]
 split at h
 ·rename_i c;rw [if_pos c];exact h
 rename_i c1
 rw [if_neg c1]
 split at h
 ·rename_i c;rw [if_pos c];exact h
 rename_i c2
 rw [if_neg c2]
 split at h
 ·rename_i c;rw [if_pos c];exact h
 rename_i c3
 rw [if_neg c3]
 split at h
 ·rename_i c;rw [if_pos c];exact h
 rename_i c4
 rw [if_neg c4]
 split at h
 ·rename_i c
  rw [if_pos c];obtain ⟨h1,h2⟩:=Bool.and_eq_true_iff.1 h;refine Bool.and_eq_true_iff.2 ⟨?_,h2⟩
  match rs,h1,hm with
  |[x],h1,hm=>exact (hm x (by simp)).2
 rename_i c5
 rw [if_neg c5]
 split at h
 ·rename_i c
  rw [if_pos c];obtain ⟨h1,h2⟩:=Bool.and_eq_true_iff.1 h;refine Bool.and_eq_true_iff.2 ⟨?_,h2⟩
  match rs,h1,hm with
  |[x,y],h1,hm=>
   have h3:=Bool.and_eq_true_iff.1 (Bool.and_eq_true_iff.1 h1).2;refine Bool.and_eq_true_iff.2 ⟨(hm x (by simp)).2,Bool.and_eq_true_iff.2 ⟨(hm y (by simp)).2,?_⟩⟩
   rw [(hm y (by simp)).1]
   exact h3.2
 rename_i c6
 rw [if_neg c6];exact h
theorem may_kids{k n:Int}{t:List UInt8}{b:Bool}{e:Int}{rs:List Rf}{ks ks':List Ex}(h:mayN (.mk k n t b e rs ks)=true)(hl:ks'.length=ks.length):mayN (.mk k n t b e rs ks')=true:=by
 simp only [mayN]at h ⊢
 rw [hl];exact h
structure Gx (x:Ex):Prop where
 sn:Sn x
 sm:Sm x
 may:(fitB x&&mall mayN x)=true
theorem Gx.nodes{x:Ex}(h:Gx x):nodes x≤200:=by
 have h1:=(Bool.and_eq_true_iff.1 h.may).1;unfold fitB at h1
 exact of_decide_eq_true (Bool.and_eq_true_iff.1 h1).1
theorem smL_of:∀ {ks:List Ex},(∀ y∈ks,Sm y)→Sm.SmL ks
 |[],_=>by unfold Sm.SmL;trivial
 |x::xs,h=>by unfold Sm.SmL;exact ⟨h x (List.mem_cons_self ..),smL_of (fun y hy=>h y (List.mem_cons_of_mem _ hy))⟩
theorem snL_of:∀ {ks:List Ex},(∀ y∈ks,Sn y)→Sn.SnL ks
 |[],_=>by unfold Sn.SnL;trivial
 |x::xs,h=>by unfold Sn.SnL;exact ⟨h x (List.mem_cons_self ..),snL_of (fun y hy=>h y (List.mem_cons_of_mem _ hy))⟩
theorem nodesL_le{f:Ex→Ex}:∀ (ks:List Ex),(∀ y∈ks,nodes (f y)≤nodes y)→nodes.nodesL (ks.map f)≤nodes.nodesL ks
 |[],_=>by simp
 |x::xs,h=>by
  rw [List.map_cons,nodes.nodesL,nodes.nodesL];have h1:=h x (List.mem_cons_self ..);have h2:=nodesL_le xs (fun y hy=>h y (List.mem_cons_of_mem _ hy))
  omega
section
variable (hm on:List UInt8) (mb:Rf→Bool) (mr:Rf→Rf)
theorem chg_mk(k n:Int)(t:List UInt8)(b:Bool)(e:Int)(rs:List Rf)(ks:List Ex):chg hm on mb mr (.mk k n t b e rs ks)=if (hit hm on rs&&!rs.all mb)=true then lostE else .mk k n t b e (if hit hm on rs=true then rs.map mr else rs) (ks.map (chg hm on mb mr)):=by
 rw [chg,chgL_map]
theorem chg_all(P:Ex→Ex→Prop)(hP:∀ k n t b e rs ks,(∀ y∈ks,P y (chg hm on mb mr y))→P (.mk k n t b e rs ks) (chg hm on mb mr (.mk k n t b e rs ks))):∀ (s:Nat) (x:Ex),SizeOf.sizeOf x≤s→P x (chg hm on mb mr x):=by
 intro s
 induction s with
 |zero=>
  intro x hs
  cases x with
  |mk k n t b e rs ks=>simp at hs
 |succ s ih=>
  intro x hs
  cases x with
  |mk k n t b e rs ks=>
   refine hP k n t b e rs ks (fun y hy=>?_)
   obtain ⟨i,hi,rfl⟩:=List.getElem_of_mem hy;exact ih _ (by have:=kid_size (k:=k) (n:=n) (t:=t) (b:=b) (e:=e) (rs:=rs) i hi;omega)
theorem chg_nodes(x:Ex):nodes (chg hm on mb mr x)≤nodes x:=by
 refine chg_all hm on mb mr (fun x y=>nodes y≤nodes x) ?_ _ x (Nat.le_refl _)
 intro k n t b e rs ks h
 rw [chg_mk]
 split
 ·rw [nodes]
  have:nodes lostE=1:=by decide
  omega
 ·rw [nodes,nodes]
  have:=nodesL_le ks h
  omega
theorem chg_shl(x:Ex):∀ m,shl m x=true→shl m (chg hm on mb mr x)=true:=by
 refine chg_all hm on mb mr (fun x y=>∀ m,shl m x=true→shl m y=true) ?_ _ x (Nat.le_refl _)
 intro k n t b e rs ks h m hs
 rw [chg_mk];cases m with
 |zero=>rw [shl]at hs;cases hs
 |succ m=>
  rw [shl]at hs
  split
  ·unfold lostE
   rw [shl]
   rfl
  ·rw [shl,List.all_map,List.all_eq_true]
   intro y hy
   exact h y hy m (List.all_eq_true.1 hs y hy)
theorem chg_sm(h1:∀ r,(mr r).1=r.1)(x:Ex):Sm x→Sm (chg hm on mb mr x):=by
 refine chg_all hm on mb mr (fun x y=>Sm x→Sm y) ?_ _ x (Nat.le_refl _)
 intro k n t b e rs ks h hs
 rw [chg_mk];unfold Sm at hs
 split
 ·unfold lostE Sm
  exact ⟨by simp,fun r hr=>absurd hr (by simp),by unfold Sm.SmL;trivial⟩
 ·unfold Sm
  refine ⟨hs.1,fun r hr=>?_,smL_of (fun y hy=>?_)⟩
  ·split at hr
   ·obtain ⟨r0,hr0,rfl⟩:=List.mem_map.1 hr
    rw [h1];exact hs.2.1 r0 hr0
   ·exact hs.2.1 r hr
  ·obtain ⟨z,hz,rfl⟩:=List.mem_map.1 hy
   exact h z hz (sm_kid hs.2.2 z hz)
theorem chg_sn(h1:∀ r,(mr r).1=r.1)(x:Ex):Sn x→Sn (chg hm on mb mr x):=by
 refine chg_all hm on mb mr (fun x y=>Sn x→Sn y) ?_ _ x (Nat.le_refl _)
 intro k n t b e rs ks h hs
 rw [chg_mk];unfold Sn at hs
 split
 ·unfold lostE Sn
  exact ⟨by simp,by simp,fun r hr=>absurd hr (by simp),by simp,by unfold Sn.SnL;trivial⟩
 ·unfold Sn
  refine ⟨hs.1,?_,fun r hr=>?_,by rw [List.length_map];exact hs.2.2.2.1,snL_of (fun y hy=>?_)⟩
  ·split
   ·rw [List.length_map];exact hs.2.1
   ·exact hs.2.1
  ·split at hr
   ·obtain ⟨r0,hr0,rfl⟩:=List.mem_map.1 hr
    rw [h1];exact hs.2.2.1 r0 hr0
   ·exact hs.2.2.1 r hr
  ·obtain ⟨z,hz,rfl⟩:=List.mem_map.1 hy
   exact h z hz (sn_kid hs.2.2.2.2 z hz)
theorem chg_may(h1:∀ r,(mr r).1=r.1)(h2:∀ r,mayRf r=true→mb r=true→mayRf (mr r)=true)(x:Ex):mall mayN x=true→mall mayN (chg hm on mb mr x)=true:=by
 refine chg_all hm on mb mr (fun x y=>mall mayN x=true→mall mayN y=true) ?_ _ x (Nat.le_refl _)
 intro k n t b e rs ks h hs
 rw [chg_mk];rw [mall,mallL_all]at hs;obtain ⟨m1,m2⟩:=Bool.and_eq_true_iff.1 hs
 split
 ·rw [show mall mayN lostE=true by decide +kernel]
 ·rename_i hc
  have hk:(ks.map (chg hm on mb mr)).all (mall mayN)=true:=by
   rw [List.all_map,List.all_eq_true];intro y hy
   exact h y hy (List.all_eq_true.1 m2 y hy)
  rw [mall,mallL_all,hk,Bool.and_true]
  split
  ·rename_i hh
   have hall:rs.all mb=true:=by
    cases h':rs.all mb
    ·rw [hh,h']at hc;exact absurd rfl hc
    ·rfl
   exact may_map mr m1 (List.length_map ..) (fun r hr=>⟨h1 r,h2 r ((may_refs m1).2 r hr) (List.all_eq_true.1 hall r hr)⟩)
  ·exact may_kids m1 (List.length_map ..)
end
theorem mv_same(rows:Bool)(k a t:Int)(r:Rf):(mvR rows k a t r).1=r.1:=by unfold mvR;cases rows <;> rfl
theorem mv_may(rows:Bool)(k a t:Int)(r:Rf)(h:mayRf r=true)(hb:mvB rows k a t r=true):mayRf (mvR rows k a t r)=true:=by
 unfold mayRf mayR at h ⊢
 unfold mvB mvL at hb
 rw [mv_same];obtain ⟨h1,h2⟩:=Bool.and_eq_true_iff.1 h;obtain ⟨h3,h4⟩:=Bool.and_eq_true_iff.1 h2;refine Bool.and_eq_true_iff.2 ⟨h1,?_⟩
 cases rows
 ·exact Bool.and_eq_true_iff.2 ⟨h3,hb⟩
 ·exact Bool.and_eq_true_iff.2 ⟨hb,h4⟩
theorem Gx.ln{x:Ex}(h:Gx x)(home on:List UInt8)(rows:Bool)(k a t:Int):Gx (lnE home on rows k a t x):=by
 unfold lnE
 split
 ·obtain ⟨f,m⟩:=Bool.and_eq_true_iff.1 h.may
  unfold fitB at f
  obtain ⟨f1,f2⟩:=Bool.and_eq_true_iff.1 f;refine ⟨chg_sn _ _ _ _ (mv_same rows k a t) x h.sn,chg_sm _ _ _ _ (mv_same rows k a t) x h.sm,Bool.and_eq_true_iff.2 ⟨?_,chg_may _ _ _ _ (mv_same rows k a t) (fun r=>mv_may rows k a t r) x m⟩⟩
  unfold fitB
  exact Bool.and_eq_true_iff.2 ⟨decide_eq_true (Nat.le_trans (chg_nodes _ _ _ _ x) (of_decide_eq_true f1)),chg_shl _ _ _ _ x 50 f2⟩
 ·exact h
end Go.Proofs.YtoikodohcieipaaGreatDoor
namespace Go.Proofs.YtoikodohcieipaaGreatDoor
open Go.RowKit
theorem lines_no(x:Ex)(v:Value)(home on:ByteArray)(rows:Bool)(k a t:Int)(W:World)(hg:Gd W)(hx:Rd W x v)(hs:Sn x)(hm:Sm x)(hk:nodes x≤1000)(hmay:(fitB x&&mall mayN x)=false) :
  Calls Tryz.prog 11 #[v,.string home,.string on,.bool rows,.agg #[.int .i64 k,.int .i64 a,.int .i64 t]] W fun e W'=>∃ v',e=.returned v'∧Q W W'∧∃ lo hi,W.heap.size≤lo∧hi≤W'.heap.size∧Ow W' (x) v' lo hi:=by
 obtain ⟨k0,n0,t0,b0,e0,a1,l1,c1,a2,l2,c2,rfl⟩:=hx.shape;obtain ⟨w1,hw1⟩:∃ w1,w1=(((W.alloc (.cells #[.int .i64 k0,.int .i64 n0,.string t0,.bool b0,.int .i64 e0,.slice a1 l1 c1,.slice a2 l2 c2] 26)).alloc (.cells #[.bool rows] 4)).alloc (.cells #[.int .i64 k,.int .i64 a,.int .i64 t] 28)).alloc (.cells #[.int .i64 0,.int .i64 0,.string ⟨#[]⟩,.bool false,.int .i64 0,.slice none 0 0,.slice none 0 0] 26):=⟨_,rfl⟩;have q1:Q W w1:=by rw [hw1];exact ((((Q.refl _).alloc _).alloc _).alloc _).alloc _
 have s1:w1.heap.size=W.heap.size+1+1+1+1:=by rw [hw1];simp
 have HTB:Hid (Tb w1 (W.heap.size+1+1+1) (.int .i64 0) (.int .i64 0) (.string ⟨#[]⟩) (.bool false) (.int .i64 0) (.slice none 0 0) (.slice none 0 0)):=by
  have:=tb_new ((((W.alloc (.cells #[.int .i64 k0,.int .i64 n0,.string t0,.bool b0,.int .i64 e0,.slice a1 l1 c1,.slice a2 l2 c2] 26)).alloc (.cells #[.bool rows] 4)).alloc (.cells #[.int .i64 k,.int .i64 a,.int .i64 t] 28))) (.int .i64 0) (.int .i64 0) (.string ⟨#[]⟩) (.bool false) (.int .i64 0) (.slice none 0 0) (.slice none 0 0) 26
  rw [hw1];show Tb _ _ _ _ _ _ _ _ _
  simpa using this
 have HBX:Hid (Tb w1 W.heap.size (.int .i64 k0) (.int .i64 n0) (.string t0) (.bool b0) (.int .i64 e0) (.slice a1 l1 c1) (.slice a2 l2 c2)):=by
  have:=(tb_new W (.int .i64 k0) (.int .i64 n0) (.string t0) (.bool b0) (.int .i64 e0) (.slice a1 l1 c1) (.slice a2 l2 c2) 26).blk (W':=w1) (by rw [hw1];exact Q.block ((((Q.refl _).alloc _).alloc _).alloc _) (by simp))
  exact this
 have HCO:Hid (Calls Tryz.prog 23 #[.agg #[.int .i64 k0,.int .i64 n0,.string t0,.bool b0,.int .i64 e0,.slice a1 l1 c1,.slice a2 l2 c2]] ((((W.alloc (.cells #[.int .i64 k0,.int .i64 n0,.string t0,.bool b0,.int .i64 e0,.slice a1 l1 c1,.slice a2 l2 c2] 26)).alloc (.cells #[.bool rows] 4)).alloc (.cells #[.int .i64 k,.int .i64 a,.int .i64 t] 28)).alloc (.cells #[.int .i64 0,.int .i64 0,.string ⟨#[]⟩,.bool false,.int .i64 0,.slice none 0 0,.slice none 0 0] 26)) fun e W'=>∃ v',e=.returned v'∧Q w1 W'∧∃ lo hi,w1.heap.size≤lo∧hi≤W'.heap.size∧Ow W' x v' lo hi):=by
  rw [←hw1];exact copied_all x _ w1 (Rd.on q1 _ _ hx) hs hk
 have HMY:=hid (fun w (q:Q W w)=>pmay_any x _ w (hg.on q) hm (Rd.on q _ _ hx))
 rw [hmay]at HMY;have HQ1:=hid q1;have HS1:=hid s1;clear hg hx hs hm hk hmay hw1 q1 s1;go_enter Tryz.func11,Tryz.ntmps11
 go_wp2_with (first
  |(go_at_call 23;refine HCO.out.mono ?_;rintro e9 w2 ⟨v2,rfl,q2,lo,hi,h1,h2,ow2⟩;obtain ⟨k3,n3,t3,b3,e3,a3,l3,c3,a4,l4,c4,rfl⟩:=ow2.shape;have Q2:=hid q2;have O2:=hid ow2;have H12:=hid (And.intro h1 h2);have hl2:W.heap.size+1+1+1<w2.heap.size:=(by have:=HS1.out;have:=q2.size;omega);have hl0:W.heap.size<w2.heap.size:=(by omega);clear h1 h2 ow2;obtain ⟨z0,z1,z2,z3,z4,z5,z6,_⟩:=HBX.out.blk (Q.block q2 (by have:=HS1.out;omega));clear q2)
  |(go_at_call 24;refine (HMY.out _ ((HQ1.out.trans Q2.out).alloc _)).mono ?_;rintro e9 w4 ⟨rfl,q4⟩;have N4:=hid ((nd_new w2 (.int .i64 k3) (.int .i64 n3) (.string t3) (.bool b3) (.int .i64 e3) (.slice a3 l3 c3) (.slice a4 l4 c4) 26).on q4);have q24:Q w2 w4:=((Q.refl _).alloc _).trans q4;have Q24:=hid q24;have O4:=hid (Ow.on _ _ _ _ (fun i _ h=>Bs.of (Q.block q24 (by have:=H12.out;omega))) O2.out);have TB4:=hid (HTB.out.blk (Q.block (Q2.out.trans q24) (by have:=HS1.out;omega)));have hl4:w2.heap.size<w4.heap.size:=N4.out.pl.lt;have hl5:W.heap.size+1+1+1<w4.heap.size:=(by omega);clear q4 q24 z0 z1 z2 z3 z4 z5 z6;obtain ⟨y0,y1,y2,y3,y4,y5,y6,_⟩:=N4.out;obtain ⟨u0,u1,u2,u3,u4,u5,u6,uf⟩:=TB4.out;have f0:=uf 0;have f1:=uf 1;have f2:=uf 2;have f3:=uf 3;have f4:=uf 4;have f5:=uf 5;have f6:=uf 6;clear uf;simp only [Nat.zero_add]at y0 y1 y2 y3 y4 y5 y6))
 refine bodyPost_ret (v:=.agg #[.int .i64 k3,.int .i64 n3,.string t3,.bool b3,.int .i64 e3,.slice a3 l3 c3,.slice a4 l4 c4]) (by simp [results,Tryz.results11,go_sem,u0,u1,u2,u3,u4,u5,u6]) rfl ?_
 have QF:Qx (W.heap.size+1+1+1) w4 (((((((w4.setCell ⟨W.heap.size+1+1+1,0,none⟩ (.int .i64 k3)).setCell ⟨W.heap.size+1+1+1,1,none⟩ (.int .i64 n3)).setCell ⟨W.heap.size+1+1+1,2,none⟩ (.string t3)).setCell ⟨W.heap.size+1+1+1,3,none⟩ (.bool b3)).setCell ⟨W.heap.size+1+1+1,4,none⟩ (.int .i64 e3)).setCell ⟨W.heap.size+1+1+1,5,none⟩ (.slice a3 l3 c3)).setCell ⟨W.heap.size+1+1+1,6,none⟩ (.slice a4 l4 c4)):=(((((((Qx.refl _ _).own _ _).own _ _).own _ _).own _ _).own _ _).own _ _).own _ _
 have hz:=HS1.out;have h12:=H12.out;have hq:Q W w4:=(HQ1.out.trans Q2.out).trans Q24.out
 have hz4:=Q24.out.size;refine ⟨_,rfl,⟨QF.os.trans hq.os,QF.tape.trans hq.tape,QF.output.trans hq.output,Nat.le_trans hq.size QF.size,fun i hi=>(QF.block i (Nat.lt_of_lt_of_le hi hq.size) (fun e=>by have:=Option.some.inj e;omega)).trans (Q.block hq hi)⟩,lo,hi,by omega,Nat.le_trans (by omega) QF.size,?_⟩
 exact Ow.on _ _ _ _ (fun i h1 h2=>Bs.of (QF.block i (by omega) (fun e=>by have:=Option.some.inj e;omega))) O4.out
end Go.Proofs.YtoikodohcieipaaGreatDoor
