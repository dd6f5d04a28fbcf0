/- parse.mayNode and parse.May, f. -/
import Derived.Test.YtoikodohcieipaaGreatDoorKs27
import Derived.Test.YtoikodohcieipaaGreatDoorKs15
import Derived.Test.YtoikodohcieipaaGreatDoorKs06
import Derived.Test.YtoikodohcieipaaGreatDoorKs22
import Derived.Test.YtoikodohcieipaaGreatDoorKs01
import Derived.Test.YtoikodohcieipaaGreatDoorKs18
import Derived.Test.YtoikodohcieipaaGreatDoorKs29
import Derived.Test.YtoikodohcieipaaGreatDoorRows
import Derived.ProofKit
import Derived.OpenShut
import Derived.Test.YtoikodohcieipaaGreatDoorKs00
import Derived.Test.YtoikodohcieipaaGreatDoorKs07
import Derived.Test.YtoikodohcieipaaGreatDoorKs25
import Derived.Test.YtoikodohcieipaaGreatDoorKs05
import Derived.Lib.AppendStr
set_option linter.unusedVariables false
set_option linter.unusedSimpArgs false
set_option maxRecDepth 100000
set_option maxHeartbeats 8000000
namespace Go.Proofs.YtoikodohcieipaaGreatDoor
open Go.RowKit
def mayN:Ex→Bool
 |.mk k n t b e rs ks=>
  if k=1 then decide (0≤n)&&bareB 0 t b e rs.length ks.length
  else if k=2 then V.mayB 2 0 t false 0&&bareB n [] b e rs.length ks.length
  else if k=3 then true&&bareB n t false e rs.length ks.length
  else if k=4 then decide (enL e≠[])&&bareB n t b 0 rs.length ks.length
  else if k=5 then oneB rs&&bareB n t b e 0 ks.length
  else if k=6 then rngB rs&&bareB n t b e 0 ks.length
  else if k=7 then decide (ks.length=1)&&bareB n t b e rs.length 0
  else if k=8 then (decide (1≤lvl t)&&decide (ks.length=2))&&bareB n [] b e rs.length 0
  else if k=9 then (namF t&&decide (ks.length≤30))&&bareB n [] b e rs.length 0
  else false
def Sm:Ex→Prop
 |.mk _ _ t _ _ rs ks=>t.length≤1000000∧(∀ r∈rs,r.1.length≤2000000)∧SmL ks
 where
 SmL:List Ex→Prop
 |[]=>True
 |x::xs=>Sm x∧SmL xs
theorem sm_kid:∀ {ks:List Ex},Sm.SmL ks→∀ y∈ks,Sm y
 |[],_,y,hy=>absurd hy (by simp)
 |x::xs,h,y,hy=>by
  rw [Sm.SmL]at h;simp at hy
  rcases hy with rfl|hy
  ·exact h.1
  ·exact sm_kid h.2 y hy
theorem sm_kids(k n:Int)(t:List UInt8)(b:Bool)(e:Int)(rs:List Rf)(ks:List Ex)(h:Sm (.mk k n t b e rs ks)):∀ y∈ks,Sm y:=by
 rw [Sm]at h;exact sm_kid h.2.2
def Gd(W:World):Prop:=Std W∧∀ W',Q W W'→Lib.TabIs Tryz.prog W' "internal/strconv.uint64pow10" .u64 Lib.pow10Tab
theorem Gd.on{W W':World}(h:Gd W)(q:Q W W'):Gd W':=⟨h.1.on q,fun W2 q2=>h.2 W2 (q.trans q2)⟩
theorem mrf_of{W:World}(h:Gd W)(x:Rf)(hs:x.1.length≤2000000):MRf W x:=by
 intro W' q
 have h':=h.on q;exact pmayref_big ⟨x.1.toArray⟩ x.2.1 x.2.2.1 x.2.2.2.1 x.2.2.2.2 W' h'.1 h'.2 (by show x.1.toArray.size≤2000000;simpa using hs)
theorem maynode_any(x:Ex)(v:Value)(W:World)(hg:Gd W)(hs:Sm x)(hr:Rd W x v):Calls Tryz.prog 73 #[v] W fun e W'=>e=.returned (.bool (mayN x))∧Q W W':=by
 obtain ⟨k,n,t,b,e,rs,ks,rv',kv,ao,cap,rfl,hp⟩:=hr.prt;obtain ⟨ar,cr,hrv,hl⟩:=hp.rl;have hsl:Sl rf 5 W (.slice ar rs.length cr) rs:=hrv ▸ hp.rl
 obtain rfl:=hp.kl;subst hrv;have hx:=hp.ex;subst hx;rw [Sm]at hs;obtain ⟨s1,s2,_⟩:=hs;have st:t.size≤1000000:=by rw [←len_data];exact s1
 have hm:Hid (∀ y∈rs,MRf W y):=hid (fun y hy=>mrf_of hg y (s2 y hy))
 have tl:t.toList=t.data.toList:=toL t
 rw [mayN];by_cases h1:k=1
 ·subst h1
  rw [if_pos rfl];exact mn_1 n t b e ar rs.length cr ao ks.length cap W
 by_cases h2:k=2
 ·subst h2
  rw [if_neg (by decide),if_pos rfl,←tl]
  exact mn_2 n t b e ar rs.length cr ao ks.length cap W hg.1 (by omega)
 by_cases h3:k=3
 ·subst h3
  rw [if_neg (by decide),if_neg (by decide),if_pos rfl]
  exact mn_3 n t b e ar rs.length cr ao ks.length cap W
 by_cases h4:k=4
 ·subst h4
  rw [if_neg (by decide),if_neg (by decide),if_neg (by decide),if_pos rfl]
  exact mn_4 n t b e ar rs.length cr ao ks.length cap W hg.1
 by_cases h5:k=5
 ·subst h5
  rw [if_neg (by decide),if_neg (by decide),if_neg (by decide),if_neg (by decide),if_pos rfl]
  exact mn_5 n t b e ar rs.length cr ao ks.length cap W rs hsl hm
 by_cases h6:k=6
 ·subst h6
  rw [if_neg (by decide),if_neg (by decide),if_neg (by decide),if_neg (by decide),if_neg (by decide),if_pos rfl]
  exact mn_6 n t b e ar rs.length cr ao ks.length cap W rs hsl hm
 by_cases h7:k=7
 ·subst h7
  rw [if_neg (by decide),if_neg (by decide),if_neg (by decide),if_neg (by decide),if_neg (by decide),if_neg (by decide),if_pos rfl]
  exact mn_7 n t b e ar rs.length cr ao ks.length cap W
 by_cases h8:k=8
 ·subst h8
  rw [if_neg (by decide),if_neg (by decide),if_neg (by decide),if_neg (by decide),if_neg (by decide),if_neg (by decide),if_neg (by decide),if_pos rfl]
  exact mn_8 n t b e ar rs.length cr ao ks.length cap W
 by_cases h9:k=9
 ·subst h9
  rw [if_neg (by decide),if_neg (by decide),if_neg (by decide),if_neg (by decide),if_neg (by decide),if_neg (by decide),if_neg (by decide),if_neg (by decide),if_pos rfl]
  exact mn_9 n t b e ar rs.length cr ao ks.length cap W (by omega)
 rw [if_neg h1,if_neg h2,if_neg h3,if_neg h4,if_neg h5,if_neg h6,if_neg h7,if_neg h8,if_neg h9];exact mn_k k n t b e ar rs.length cr ao ks.length cap W (by omega)
theorem pmayall_any(x:Ex)(v:Value)(W:World)(hg:Gd W)(hs:Sm x)(hr:Rd W x v):Calls Tryz.prog 50 #[v] W fun e W'=>e=.returned (.bool (mall mayN x))∧Q W W':=
 mayall_any mayN Gd (fun _ _ h q=>h.on q) Sm sm_kids (hid maynode_any) (SizeOf.sizeOf x) x v W (Nat.le_refl _) hg hs hr
theorem pmay_any(x:Ex)(v:Value)(W:World)(hg:Gd W)(hs:Sm x)(hr:Rd W x v):Calls Tryz.prog 24 #[v] W fun e W'=>e=.returned (.bool (fitB x&&mall mayN x))∧Q W W':=by
 have HF:=hid (fun W' (q:Q W W')=>fits_any x v W' (Rd.on q _ _ hr))
 have HA:=hid (fun W' (q:Q W W')=>pmayall_any x v W' (hg.on q) hs (Rd.on q _ _ hr))
 obtain ⟨k,n,t,b,e,a1,l1,c1,a2,l2,c2,rfl⟩:=hr.shape;have HX:=hid (Bx.start W (.int .i64 k) (.int .i64 n) (.string t) (.bool b) (.int .i64 e) (.slice a1 l1 c1) (.slice a2 l2 c2) 26);clear hr hg hs;cases h:fitB x
 ·rw [h]at HF
  go_enter Tryz.func24,Tryz.ntmps24
  go_wp2_with (go_at_call 49;refine (HF.out _ ((Q.refl _).alloc _)).mono ?_;rintro e9 w1 ⟨rfl,q1⟩;have Q1:Hid (Q W w1):=hid (((Q.refl _).alloc _).trans q1);clear q1)
  go_ret
  exact ⟨rfl,Q1.out⟩
 ·rw [h]at HF
  obtain ⟨r,hr⟩:∃ r,mall mayN x=r:=⟨_,rfl⟩;rw [hr]at HA ⊢;clear h hr;go_enter Tryz.func24,Tryz.ntmps24
  go_wp2_with (first|(go_at_call 49;refine (HF.out _ ((Q.refl _).alloc _)).mono ?_;rintro e9 w1 ⟨rfl,q1⟩;have Q1:Hid (Q W w1):=hid (((Q.refl _).alloc _).trans q1);have X1:=hid (HX.out.on q1);clear q1;obtain ⟨_,_,g0,g1,g2,g3,g4,g5,g6⟩:=X1.out)|(go_at_call 50;refine (HA.out _ Q1.out).mono ?_;rintro e9 w2 ⟨rfl,q2⟩;have Q2:Hid (Q W w2):=hid (Q1.out.trans q2);clear q2))
  go_ret
  exact ⟨by simp,Q2.out⟩
theorem change_all(home on:ByteArray)(pr pl:Nat)(rows:Bool)(k a t:Int):∀ (s:Nat) (x:Ex) (W:World) (p o:Nat) (c0 c1 c2 c3 c4 c5 c6:Value) (lo hi:Nat),SizeOf.sizeOf x≤s→Nd W p o c0 c1 c2 c3 c4 c5 c6→Ow W x (.agg #[c0,c1,c2,c3,c4,c5,c6]) lo hi→hi≤W.heap.size→(p<lo∨hi≤p)→Lv W pr pl rows k a t→(pr<lo∨hi≤pr)→(pl<lo∨hi≤pl)→pr≠p→pl≠p →
  Calls Tryz.prog 26 #[.pointer (some ⟨p,o,none⟩),.string home,.string on,.func (.func 27) #[] #[.pointer (some ⟨pr,0,none⟩),.pointer (some ⟨pl,0,none⟩)]] W fun e W'=>(∃ u,e=.returned u)∧Cd home.data.toList on.data.toList (mvB rows k a t) (mvR rows k a t) W W' x p o lo hi:=by
 intro s
 induction s with
 |zero=>
  intro x W p o c0 c1 c2 c3 c4 c5 c6 lo hi hs
  cases x with
  |mk k n t b e rs ks=>simp at hs
 |succ s ih=>
  intro x W p o c0 c1 c2 c3 c4 c5 c6 lo hi hs hn hx hsz hpo hlv hpr hpl hne1 hne2
  cases x with
  |mk k' n' t' b' e' rs ks=>
   have IH:=hid (fun (i:Nat) (h:i<ks.length) (W:World) (p o:Nat) (c0 c1 c2 c3 c4 c5 c6:Value) (lo hi:Nat)=>ih ks[i] W p o c0 c1 c2 c3 c4 c5 c6 lo hi (by have:=kid_size (k:=k') (n:=n') (t:=t') (b:=b') (e:=e') (rs:=rs) i h;omega))
   unfold Ow at hx
   obtain ⟨rv,kv,m,hv,hr,hm,ao,cap,hkv,hc1,hc2,hk3⟩:=hx;simp only [Value.agg.injEq,Array.mk.injEq,List.cons.injEq,and_true]at hv
   obtain ⟨rfl,rfl,rfl,rfl,rfl,rfl,rfl⟩:=hv;subst hkv;by_cases hks:ks=[]
   ·cases hrs:rs with
    |nil=>
     subst hrs;exact change_no0 home on pr pl rows k a t k' n' t' b' e' _ ks W p o lo hi m _ ao cap (hid hn) (hid hr) (hid hm) (hid ⟨hc1,hc2⟩) (hid hsz) (hid hpo) (hid hlv) (hid ⟨hpr,hpl,hne1,hne2⟩) rfl hks
    |cons r0 rs'=>
     rw [←hrs];by_cases hh:orT r0.1 home.data.toList=on.data.toList
     ·exact change_h0 home on pr pl rows k a t k' n' t' b' e' rs ks W p o lo hi m _ ao cap (hid hn) (hid hr) (hid hm) (hid ⟨hc1,hc2⟩) (hid hsz) (hid hpo) (hid hlv) (hid ⟨hpr,hpl,hne1,hne2⟩) r0 rs' (hid hrs) (hid hh) hks
     ·exact change_nh0 home on pr pl rows k a t k' n' t' b' e' rs ks W p o lo hi m _ ao cap (hid hn) (hid hr) (hid hm) (hid ⟨hc1,hc2⟩) (hid hsz) (hid hpo) (hid hlv) (hid ⟨hpr,hpl,hne1,hne2⟩) r0 rs' (hid hrs) (hid hh) hks
   ·obtain ⟨gk,mk',hao,b1,b2,b3,b4⟩:=hk3 hks
    have b5:=Ow.OwL.le _ _ _ _ _ b4;cases hrs:rs with
    |nil=>
     subst hrs;exact change_nok home on pr pl rows k a t k' n' t' b' e' _ ks W p o lo hi m _ ao cap (hid hn) (hid hr) (hid hm) (hid ⟨hc1,hc2⟩) (hid hsz) (hid hpo) (hid hlv) (hid ⟨hpr,hpl,hne1,hne2⟩) gk mk' hao (hid ⟨b1,b2,b5,b3,b4⟩) IH rfl
    |cons r0 rs'=>
     rw [←hrs];by_cases hh:orT r0.1 home.data.toList=on.data.toList
     ·exact change_hk home on pr pl rows k a t k' n' t' b' e' rs ks W p o lo hi m _ ao cap (hid hn) (hid hr) (hid hm) (hid ⟨hc1,hc2⟩) (hid hsz) (hid hpo) (hid hlv) (hid ⟨hpr,hpl,hne1,hne2⟩) gk mk' hao (hid ⟨b1,b2,b5,b3,b4⟩) IH r0 rs' (hid hrs) (hid hh)
     ·exact change_nhk home on pr pl rows k a t k' n' t' b' e' rs ks W p o lo hi m _ ao cap (hid hn) (hid hr) (hid hm) (hid ⟨hc1,hc2⟩) (hid hsz) (hid hpo) (hid hlv) (hid ⟨hpr,hpl,hne1,hne2⟩) gk mk' hao (hid ⟨b1,b2,b5,b3,b4⟩) IH r0 rs' (hid hrs) (hid hh)
def lnE(home on:List UInt8)(rows:Bool)(k a t:Int)(x:Ex):Ex:=if L.mayB k a t=true then chg home on (mvB rows k a t) (mvR rows k a t) x else x
theorem q_chd{W w w':World}{p o lo hi:Nat}(q:Q W w)(h:Chd w w' p o lo hi)(h1:W.heap.size≤p)(h2:W.heap.size≤lo):Q W w':=
 ⟨h.q.os.trans q.os,h.q.tape.trans q.tape,h.q.output.trans q.output,Nat.le_trans q.size h.q.size,fun i hi=>(h.q.block i (Nat.lt_of_lt_of_le hi q.size) (fun e=>by omega)).trans (Q.block q hi)⟩
theorem lines_any(x:Ex)(v:Value)(home on:ByteArray)(rows:Bool)(k a t:Int)(W:World)(hg:Gd W)(hx:Rd W x v)(hs:Sn x)(hm:Sm x)(hk:nodes x≤200)(hmay:(fitB x&&mall mayN x)=true) :
  Calls Tryz.prog 11 #[v,.string home,.string on,.bool rows,.agg #[.int .i64 k,.int .i64 a,.int .i64 t]] W fun e W'=>∃ v',e=.returned v'∧Q W W'∧∃ lo hi,W.heap.size≤lo∧hi≤W'.heap.size∧Ow W' (lnE home.data.toList on.data.toList rows k a t x) v' lo hi:=by
 obtain ⟨k0,n0,t0,b0,e0,a1,l1,c1,a2,l2,c2,rfl⟩:=hx.shape;obtain ⟨w1,hw1⟩:∃ w1,w1=(((W.alloc (.cells #[.int .i64 k0,.int .i64 n0,.string t0,.bool b0,.int .i64 e0,.slice a1 l1 c1,.slice a2 l2 c2] 26)).alloc (.cells #[.bool rows] 4)).alloc (.cells #[.int .i64 k,.int .i64 a,.int .i64 t] 28)).alloc (.cells #[.int .i64 0,.int .i64 0,.string ⟨#[]⟩,.bool false,.int .i64 0,.slice none 0 0,.slice none 0 0] 26):=⟨_,rfl⟩;have q1:Q W w1:=by rw [hw1];exact ((((Q.refl _).alloc _).alloc _).alloc _).alloc _
 have s1:w1.heap.size=W.heap.size+1+1+1+1:=by rw [hw1];simp
 have HLV:Hid (Lv w1 (W.heap.size+1) (W.heap.size+1+1) rows k a t):=by
  rw [hw1];refine ⟨?_,?_,?_,?_⟩ <;> simp [go_sem]
 have HTB:Hid (Tb w1 (W.heap.size+1+1+1) (.int .i64 0) (.int .i64 0) (.string ⟨#[]⟩) (.bool false) (.int .i64 0) (.slice none 0 0) (.slice none 0 0)):=by
  have:=tb_new (((W.alloc (.cells #[.int .i64 k0,.int .i64 n0,.string t0,.bool b0,.int .i64 e0,.slice a1 l1 c1,.slice a2 l2 c2] 26)).alloc (.cells #[.bool rows] 4)).alloc (.cells #[.int .i64 k,.int .i64 a,.int .i64 t] 28)) (.int .i64 0) (.int .i64 0) (.string ⟨#[]⟩) (.bool false) (.int .i64 0) (.slice none 0 0) (.slice none 0 0) 26
  rw [hw1];show Tb _ _ _ _ _ _ _ _ _
  simpa using this
 have HBX:Hid (Tb w1 W.heap.size (.int .i64 k0) (.int .i64 n0) (.string t0) (.bool b0) (.int .i64 e0) (.slice a1 l1 c1) (.slice a2 l2 c2)):=by
  have:=(tb_new W (.int .i64 k0) (.int .i64 n0) (.string t0) (.bool b0) (.int .i64 e0) (.slice a1 l1 c1) (.slice a2 l2 c2) 26).blk (W':=w1) (by rw [hw1];exact Q.block ((((Q.refl _).alloc _).alloc _).alloc _) (by simp))
  exact this
 have HCO:Hid (Calls Tryz.prog 23 #[.agg #[.int .i64 k0,.int .i64 n0,.string t0,.bool b0,.int .i64 e0,.slice a1 l1 c1,.slice a2 l2 c2]] ((((W.alloc (.cells #[.int .i64 k0,.int .i64 n0,.string t0,.bool b0,.int .i64 e0,.slice a1 l1 c1,.slice a2 l2 c2] 26)).alloc (.cells #[.bool rows] 4)).alloc (.cells #[.int .i64 k,.int .i64 a,.int .i64 t] 28)).alloc (.cells #[.int .i64 0,.int .i64 0,.string ⟨#[]⟩,.bool false,.int .i64 0,.slice none 0 0,.slice none 0 0] 26)) fun e W'=>∃ v',e=.returned v'∧Q w1 W'∧∃ lo hi,w1.heap.size≤lo∧hi≤W'.heap.size∧Ow W' x v' lo hi):=by
  rw [←hw1];exact copied_any x _ w1 (Rd.on q1 _ _ hx) hs hk
 have HMY:=hid (fun w (q:Q W w)=>pmay_any x _ w (hg.on q) hm (Rd.on q _ _ hx))
 rw [hmay]at HMY;have HAX:=hid (fun w=>L.may_any k a t w)
 have HCH:=hid (fun w p c0 c1 c2 c3 c4 c5 c6 lo hi=>change_all home on (W.heap.size+1) (W.heap.size+1+1) rows k a t _ x w p 0 c0 c1 c2 c3 c4 c5 c6 lo hi (Nat.le_refl _))
 have HQ1:=hid q1;have HS1:=hid s1;clear hg hx hs hm hk hmay hw1 q1 s1;cases hb:L.mayB k a t
 ·rw [hb]at HAX
  have HLN:Hid (lnE home.data.toList on.data.toList rows k a t x=x):=hid (by unfold lnE;rw [hb];rfl)
  clear hb;go_enter Tryz.func11,Tryz.ntmps11
  go_wp2_with (first
   |(go_at_call 23;refine HCO.out.mono ?_;rintro e9 w2 ⟨v2,rfl,q2,lo,hi,h1,h2,ow2⟩;obtain ⟨k3,n3,t3,b3,e3,a3,l3,c3,a4,l4,c4,rfl⟩:=ow2.shape;have Q2:=hid q2;have O2:=hid ow2;have H12:=hid (And.intro h1 h2);have hl2:W.heap.size+1+1+1<w2.heap.size:=(by have:=HS1.out;have:=q2.size;omega);have hl0:W.heap.size<w2.heap.size:=(by omega);have hl1:W.heap.size+1+1<w2.heap.size:=(by omega);clear h1 h2 ow2;obtain ⟨z0,z1,z2,z3,z4,z5,z6,_⟩:=HBX.out.blk (Q.block q2 (by have:=HS1.out;omega));clear q2)
   |(go_at_call 24;refine (HMY.out _ ((HQ1.out.trans Q2.out).alloc _)).mono ?_;rintro e9 w4 ⟨rfl,q4⟩;have Q4:=hid q4;have N4:=hid ((nd_new w2 (.int .i64 k3) (.int .i64 n3) (.string t3) (.bool b3) (.int .i64 e3) (.slice a3 l3 c3) (.slice a4 l4 c4) 26).on q4);have q24:Q w2 w4:=((Q.refl _).alloc _).trans q4;have Q24:=hid q24;have LV4:=hid (HLV.out.blk (Q.block (Q2.out.trans q24) (by have:=HS1.out;omega)) (Q.block (Q2.out.trans q24) (by have:=HS1.out;omega)));have O4:=hid (Ow.on _ _ _ _ (fun i _ h=>Bs.of (Q.block q24 (by have:=H12.out;omega))) O2.out);have TB4:=hid (HTB.out.blk (Q.block (Q2.out.trans q24) (by have:=HS1.out;omega)));have hl4:w2.heap.size<w4.heap.size:=N4.out.pl.lt;have hl5:W.heap.size+1+1+1<w4.heap.size:=(by omega);clear q4 q24 z0 z1 z2 z3 z4 z5 z6;obtain ⟨_,x0,x1,x2⟩:=LV4.out;obtain ⟨y0,y1,y2,y3,y4,y5,y6,_⟩:=N4.out;obtain ⟨u0,u1,u2,u3,u4,u5,u6,uf⟩:=TB4.out;have f0:=uf 0;have f1:=uf 1;have f2:=uf 2;have f3:=uf 3;have f4:=uf 4;have f5:=uf 5;have f6:=uf 6;clear uf)
   |(go_at_call 25;refine (HAX.out _).mono ?_;rintro e9 w5 ⟨rfl,h5⟩;have q5:Q w4 w5:=(by rw [h5];exact (Q.refl _).alloc _);have Q5:=hid q5;have N5:=hid (N4.out.on q5);have O5:=hid (Ow.on _ _ _ _ (fun i _ h=>Bs.of (Q.block q5 (by have:=H12.out;omega))) O4.out);have LV5:=hid (LV4.out.blk (Q.block q5 (by omega)) (Q.block q5 (by omega)));have TB5:=hid (TB4.out.blk (Q.block q5 (by omega)));clear h5 q5 y0 y1 y2 y3 y4 y5 y6 u0 u1 u2 u3 u4 u5 u6 f0 f1 f2 f3 f4 f5 f6 x0 x1 x2;obtain ⟨y0,y1,y2,y3,y4,y5,y6,_⟩:=N5.out;obtain ⟨u0,u1,u2,u3,u4,u5,u6,uf⟩:=TB5.out;have f0:=uf 0;have f1:=uf 1;have f2:=uf 2;have f3:=uf 3;have f4:=uf 4;have f5:=uf 5;have f6:=uf 6;clear uf;simp only [Nat.zero_add]at y0 y1 y2 y3 y4 y5 y6))
  refine bodyPost_ret (v:=.agg #[.int .i64 k3,.int .i64 n3,.string t3,.bool b3,.int .i64 e3,.slice a3 l3 c3,.slice a4 l4 c4]) (by simp [results,Tryz.results11,go_sem,u0,u1,u2,u3,u4,u5,u6]) rfl ?_
  have QF:Qx (W.heap.size+1+1+1) w5 (((((((w5.setCell ⟨W.heap.size+1+1+1,0,none⟩ (.int .i64 k3)).setCell ⟨W.heap.size+1+1+1,1,none⟩ (.int .i64 n3)).setCell ⟨W.heap.size+1+1+1,2,none⟩ (.string t3)).setCell ⟨W.heap.size+1+1+1,3,none⟩ (.bool b3)).setCell ⟨W.heap.size+1+1+1,4,none⟩ (.int .i64 e3)).setCell ⟨W.heap.size+1+1+1,5,none⟩ (.slice a3 l3 c3)).setCell ⟨W.heap.size+1+1+1,6,none⟩ (.slice a4 l4 c4)):=(((((((Qx.refl _ _).own _ _).own _ _).own _ _).own _ _).own _ _).own _ _).own _ _
  have hq:Q W w5:=((HQ1.out.trans Q2.out).trans Q24.out).trans Q5.out
  have hz:=HS1.out;have h12:=H12.out;have hz4:=Q24.out.size;have hz5:=Q5.out.size;rw [HLN.out];refine ⟨_,rfl,⟨QF.os.trans hq.os,QF.tape.trans hq.tape,QF.output.trans hq.output,Nat.le_trans hq.size QF.size,fun i hi=>(QF.block i (Nat.lt_of_lt_of_le hi hq.size) (fun e=>by have:=Option.some.inj e;omega)).trans (Q.block hq hi)⟩,lo,hi,by omega,Nat.le_trans (by omega) QF.size,?_⟩
  exact Ow.on _ _ _ _ (fun i h1 h2=>Bs.of (QF.block i (by omega) (fun e=>by have:=Option.some.inj e;omega))) O5.out
 ·rw [hb]at HAX
  have HLN:Hid (lnE home.data.toList on.data.toList rows k a t x=chg home.data.toList on.data.toList (mvB rows k a t) (mvR rows k a t) x):=hid (by unfold lnE;rw [hb];rfl)
  clear hb;go_enter Tryz.func11,Tryz.ntmps11
  go_wp2_with (first
   |(go_at_call 23;refine HCO.out.mono ?_;rintro e9 w2 ⟨v2,rfl,q2,lo,hi,h1,h2,ow2⟩;obtain ⟨k3,n3,t3,b3,e3,a3,l3,c3,a4,l4,c4,rfl⟩:=ow2.shape;have Q2:=hid q2;have O2:=hid ow2;have H12:=hid (And.intro h1 h2);have hl2:W.heap.size+1+1+1<w2.heap.size:=(by have:=HS1.out;have:=q2.size;omega);have hl0:W.heap.size<w2.heap.size:=(by omega);have hl1:W.heap.size+1+1<w2.heap.size:=(by omega);clear h1 h2 ow2;obtain ⟨z0,z1,z2,z3,z4,z5,z6,_⟩:=HBX.out.blk (Q.block q2 (by have:=HS1.out;omega));clear q2)
   |(go_at_call 24;refine (HMY.out _ ((HQ1.out.trans Q2.out).alloc _)).mono ?_;rintro e9 w4 ⟨rfl,q4⟩;have Q4:=hid q4;have N4:=hid ((nd_new w2 (.int .i64 k3) (.int .i64 n3) (.string t3) (.bool b3) (.int .i64 e3) (.slice a3 l3 c3) (.slice a4 l4 c4) 26).on q4);have q24:Q w2 w4:=((Q.refl _).alloc _).trans q4;have Q24:=hid q24;have LV4:=hid (HLV.out.blk (Q.block (Q2.out.trans q24) (by have:=HS1.out;omega)) (Q.block (Q2.out.trans q24) (by have:=HS1.out;omega)));have O4:=hid (Ow.on _ _ _ _ (fun i _ h=>Bs.of (Q.block q24 (by have:=H12.out;omega))) O2.out);have TB4:=hid (HTB.out.blk (Q.block (Q2.out.trans q24) (by have:=HS1.out;omega)));have hl4:w2.heap.size<w4.heap.size:=N4.out.pl.lt;have hl5:W.heap.size+1+1+1<w4.heap.size:=(by omega);clear q4 q24 z0 z1 z2 z3 z4 z5 z6;obtain ⟨_,x0,x1,x2⟩:=LV4.out;obtain ⟨y0,y1,y2,y3,y4,y5,y6,_⟩:=N4.out;obtain ⟨u0,u1,u2,u3,u4,u5,u6,uf⟩:=TB4.out;have f0:=uf 0;have f1:=uf 1;have f2:=uf 2;have f3:=uf 3;have f4:=uf 4;have f5:=uf 5;have f6:=uf 6;clear uf)
   |(go_at_call 25;refine (HAX.out _).mono ?_;rintro e9 w5 ⟨rfl,h5⟩;have q5:Q w4 w5:=(by rw [h5];exact (Q.refl _).alloc _);have Q5:=hid q5;have N5:=hid (N4.out.on q5);have O5:=hid (Ow.on _ _ _ _ (fun i _ h=>Bs.of (Q.block q5 (by have:=H12.out;omega))) O4.out);have LV5:=hid (LV4.out.blk (Q.block q5 (by omega)) (Q.block q5 (by omega)));have TB5:=hid (TB4.out.blk (Q.block q5 (by omega)));clear h5 q5 y0 y1 y2 y3 y4 y5 y6 u0 u1 u2 u3 u4 u5 u6 f0 f1 f2 f3 f4 f5 f6 x0 x1 x2;obtain ⟨y0,y1,y2,y3,y4,y5,y6,_⟩:=N5.out;obtain ⟨u0,u1,u2,u3,u4,u5,u6,uf⟩:=TB5.out;have f0:=uf 0;have f1:=uf 1;have f2:=uf 2;have f3:=uf 3;have f4:=uf 4;have f5:=uf 5;have f6:=uf 6;clear uf;simp only [Nat.zero_add]at y0 y1 y2 y3 y4 y5 y6)
   |(go_at_call 26;refine (HCH.out w5 w2.heap.size _ _ _ _ _ _ _ lo hi N5.out O5.out (by have:=H12.out;have:=Q5.out.size;omega) (.inr H12.out.2) LV5.out (.inl (by have:=H12.out;have:=HS1.out;omega)) (.inl (by have:=H12.out;have:=HS1.out;omega)) (by omega) (by omega)).mono ?_;rintro e9 w6 ⟨⟨u9,rfl⟩,cd6⟩;obtain ⟨d0,d1,d2,d3,d4,d5,d6,n6,o6⟩:=cd6.ex;obtain ⟨k7,n7,t7,b7,e7,a7,l7,c7,a8,l8,c8,hsh⟩:=o6.shape;simp only [Value.agg.injEq,Array.mk.injEq,List.cons.injEq,and_true]at hsh;obtain ⟨rfl,rfl,rfl,rfl,rfl,rfl,rfl⟩:=hsh;have C6:=hid cd6.ch;have O6:=hid o6;have TB6:=hid (TB4.out.blk ((C6.out.q.block _ (Q.lt Q5.out hl5) (fun e=>by have:=H12.out;have:=HS1.out;omega)).trans (Q.block Q5.out hl5)));clear y0 y1 y2 y3 y4 y5 y6 u0 u1 u2 u3 u4 u5 u6 f0 f1 f2 f3 f4 f5 f6;obtain ⟨y0,y1,y2,y3,y4,y5,y6,_⟩:=n6;obtain ⟨u0,u1,u2,u3,u4,u5,u6,uf⟩:=TB6.out;have f0:=uf 0;have f1:=uf 1;have f2:=uf 2;have f3:=uf 3;have f4:=uf 4;have f5:=uf 5;have f6:=uf 6;clear uf cd6 o6;simp only [Nat.zero_add]at y0 y1 y2 y3 y4 y5 y6))
  refine bodyPost_ret (v:=.agg #[.int .i64 k7,.int .i64 n7,.string t7,.bool b7,.int .i64 e7,.slice a7 l7 c7,.slice a8 l8 c8]) (by simp [results,Tryz.results11,go_sem,u0,u1,u2,u3,u4,u5,u6]) rfl ?_
  have QF:Qx (W.heap.size+1+1+1) w6 (((((((w6.setCell ⟨W.heap.size+1+1+1,0,none⟩ (.int .i64 k7)).setCell ⟨W.heap.size+1+1+1,1,none⟩ (.int .i64 n7)).setCell ⟨W.heap.size+1+1+1,2,none⟩ (.string t7)).setCell ⟨W.heap.size+1+1+1,3,none⟩ (.bool b7)).setCell ⟨W.heap.size+1+1+1,4,none⟩ (.int .i64 e7)).setCell ⟨W.heap.size+1+1+1,5,none⟩ (.slice a7 l7 c7)).setCell ⟨W.heap.size+1+1+1,6,none⟩ (.slice a8 l8 c8)):=(((((((Qx.refl _ _).own _ _).own _ _).own _ _).own _ _).own _ _).own _ _).own _ _
  have hz:=HS1.out;have h12:=H12.out;have hq:Q W w6:=q_chd (((HQ1.out.trans Q2.out).trans Q24.out).trans Q5.out) C6.out (by omega) (by omega)
  have hz4:=Q24.out.size;have hz5:=Q5.out.size;have hz6:=C6.out.q.size;rw [HLN.out];refine ⟨_,rfl,⟨QF.os.trans hq.os,QF.tape.trans hq.tape,QF.output.trans hq.output,Nat.le_trans hq.size QF.size,fun i hi=>(QF.block i (Nat.lt_of_lt_of_le hi hq.size) (fun e=>by have:=Option.some.inj e;omega)).trans (Q.block hq hi)⟩,lo,hi,by omega,Nat.le_trans (by omega) QF.size,?_⟩
  exact Ow.on _ _ _ _ (fun i h1 h2=>Bs.of (QF.block i (by omega) (fun e=>by have:=Option.some.inj e;omega))) O6.out
end Go.Proofs.YtoikodohcieipaaGreatDoor
namespace Go.Proofs.YtoikodohcieipaaGreatDoor
open Go.RowKit
set_option linter.unusedVariables false
set_option linter.unusedSimpArgs false
def mayRf(r:Rf):Bool:=mayR r.1 r.2.1 r.2.2.1
theorem bare_len{n:Int}{t:List UInt8}{b:Bool}{e:Int}{l1 l2:Nat}(h:bareB n t b e l1 l2=true):l1=0:=by
 unfold bareB at h
 exact (of_decide_eq_true h).2.2.2.2.1
theorem may_refs{k n:Int}{t:List UInt8}{b:Bool}{e:Int}{rs:List Rf}{ks:List Ex}(h:mayN (.mk k n t b e rs ks)=true):rs.length≤2∧∀ r∈rs,mayRf r=true:=by
 have nil:rs.length=0→rs.length≤2∧∀ r∈rs,mayRf r=true:=fun h0=>⟨by omega,fun r hr=>by rw [List.eq_nil_of_length_eq_zero h0]at hr;simp at hr⟩
 simp only [mayN]at h
 split at h
 ·exact nil (bare_len (Bool.and_eq_true_iff.1 h).2)
 split at h
 ·exact nil (bare_len (Bool.and_eq_true_iff.1 h).2)
 split at h
 ·exact nil (bare_len (Bool.and_eq_true_iff.1 h).2)
 split at h
 ·exact nil (bare_len (Bool.and_eq_true_iff.1 h).2)
 split at h
 ·have h1:=(Bool.and_eq_true_iff.1 h).1
  match rs,h1 with
  |[x],h1=>exact ⟨by simp,fun r hr=>by simp at hr;subst hr;exact h1⟩
 split at h
 ·have h1:=(Bool.and_eq_true_iff.1 h).1
  match rs,h1 with
  |[x,y],h1=>
   have h2:=Bool.and_eq_true_iff.1 h1;have h3:=Bool.and_eq_true_iff.1 h2.2;refine ⟨by simp,fun r hr=>?_⟩
   simp only [List.mem_cons,List.not_mem_nil,or_false]at hr
   rcases hr with rfl|rfl
   ·exact h2.1
   ·exact h3.1
 split at h
 ·exact nil (bare_len (Bool.and_eq_true_iff.1 h).2)
 split at h
 ·exact nil (bare_len (Bool.and_eq_true_iff.1 h).2)
 split at h
 ·exact nil (bare_len (Bool.and_eq_true_iff.1 h).2)
 ·cases h
theorem may_map{k n:Int}{t:List UInt8}{b:Bool}{e:Int}{rs:List Rf}{ks ks':List Ex}(mr:Rf→Rf)(h:mayN (.mk k n t b e rs ks)=true)(hl:ks'.length=ks.length)(hm:∀ r∈rs,(mr r).1=r.1∧mayRf (mr r)=true):mayN (.mk k n t b e (rs.map mr) ks')=true:=by
 simp only [mayN]at h ⊢
 rw [List.length_map,hl]
 split at h
 ·rename_i c;rw [if_pos c];exact h
 rename_i c1
 rw [if_neg c1]
 split at h
 ·rename_i c;rw [if_pos c];exact h
 rename_i c2
 rw [if_neg c2]
 split at h
 ·rename_i c;rw [if_pos c];exact h
 rename_i c3
 rw [if_neg c3]
 split at h
 ·rename_i c;rw [if_pos c];exact h
 rename_i c4
 rw [if_neg c4]
 split at h
 ·rename_i c
  rw [if_pos c];obtain ⟨h1,h2⟩:=Bool.and_eq_true_iff.1 h;refine Bool.and_eq_true_iff.2 ⟨?_,h2⟩
  match rs,h1,hm with
  |[x],h1,hm=>exact (hm x (by simp)).2
 rename_i c5
 rw [if_neg c5]
 split at h
 ·rename_i c
  rw [if_pos c];obtain ⟨h1,h2⟩:=Bool.and_eq_true_iff.1 h;refine Bool.and_eq_true_iff.2 ⟨?_,h2⟩
  match rs,h1,hm with
  |[x,y],h1,hm=>
   have h3:=Bool.and_eq_true_iff.1 (Bool.and_eq_true_iff.1 h1).2;refine Bool.and_eq_true_iff.2 ⟨(hm x (by simp)).2,Bool.and_eq_true_iff.2 ⟨(hm y (by simp)).2,?_⟩⟩
   rw [(hm y (by simp)).1]
   exact h3.2
 rename_i c6
 rw [if_neg c6];exact h
theorem may_kids{k n:Int}{t:List UInt8}{b:Bool}{e:Int}{rs:List Rf}{ks ks':List Ex}(h:mayN (.mk k n t b e rs ks)=true)(hl:ks'.length=ks.length):mayN (.mk k n t b e rs ks')=true:=by
 simp only [mayN]at h ⊢
 rw [hl];exact h
structure Gx (x:Ex):Prop where
 sn:Sn x
 sm:Sm x
 may:(fitB x&&mall mayN x)=true
theorem Gx.nodes{x:Ex}(h:Gx x):nodes x≤200:=by
 have h1:=(Bool.and_eq_true_iff.1 h.may).1;unfold fitB at h1
 exact of_decide_eq_true (Bool.and_eq_true_iff.1 h1).1
theorem smL_of:∀ {ks:List Ex},(∀ y∈ks,Sm y)→Sm.SmL ks
 |[],_=>by unfold Sm.SmL;trivial
 |x::xs,h=>by unfold Sm.SmL;exact ⟨h x (List.mem_cons_self ..),smL_of (fun y hy=>h y (List.mem_cons_of_mem _ hy))⟩
theorem snL_of:∀ {ks:List Ex},(∀ y∈ks,Sn y)→Sn.SnL ks
 |[],_=>by unfold Sn.SnL;trivial
 |x::xs,h=>by unfold Sn.SnL;exact ⟨h x (List.mem_cons_self ..),snL_of (fun y hy=>h y (List.mem_cons_of_mem _ hy))⟩
theorem rfsL_mem{r:Rf}:∀ {ks:List Ex},r∈rfs.rfsL ks↔∃ y∈ks,r∈rfs y
 |[]=>by unfold rfs.rfsL;simp
 |x::xs=>by
  unfold rfs.rfsL
  rw [List.mem_append,rfsL_mem (ks:=xs)];simp
theorem nodesL_le{f:Ex→Ex}:∀ (ks:List Ex),(∀ y∈ks,nodes (f y)≤nodes y)→nodes.nodesL (ks.map f)≤nodes.nodesL ks
 |[],_=>by simp
 |x::xs,h=>by
  rw [List.map_cons,nodes.nodesL,nodes.nodesL];have h1:=h x (List.mem_cons_self ..);have h2:=nodesL_le xs (fun y hy=>h y (List.mem_cons_of_mem _ hy))
  omega
section
variable (hm on:List UInt8) (mb:Rf→Bool) (mr:Rf→Rf)
theorem chg_mk(k n:Int)(t:List UInt8)(b:Bool)(e:Int)(rs:List Rf)(ks:List Ex):chg hm on mb mr (.mk k n t b e rs ks)=if (hit hm on rs&&!rs.all mb)=true then lostE else .mk k n t b e (if hit hm on rs=true then rs.map mr else rs) (ks.map (chg hm on mb mr)):=by
 rw [chg,chgL_map]
theorem chg_all(P:Ex→Ex→Prop)(hP:∀ k n t b e rs ks,(∀ y∈ks,P y (chg hm on mb mr y))→P (.mk k n t b e rs ks) (chg hm on mb mr (.mk k n t b e rs ks))):∀ (s:Nat) (x:Ex),SizeOf.sizeOf x≤s→P x (chg hm on mb mr x):=by
 intro s
 induction s with
 |zero=>
  intro x hs
  cases x with
  |mk k n t b e rs ks=>simp at hs
 |succ s ih=>
  intro x hs
  cases x with
  |mk k n t b e rs ks=>
   refine hP k n t b e rs ks (fun y hy=>?_)
   obtain ⟨i,hi,rfl⟩:=List.getElem_of_mem hy;exact ih _ (by have:=kid_size (k:=k) (n:=n) (t:=t) (b:=b) (e:=e) (rs:=rs) i hi;omega)
theorem chg_nodes(x:Ex):nodes (chg hm on mb mr x)≤nodes x:=by
 refine chg_all hm on mb mr (fun x y=>nodes y≤nodes x) ?_ _ x (Nat.le_refl _)
 intro k n t b e rs ks h
 rw [chg_mk]
 split
 ·rw [nodes]
  have:nodes lostE=1:=by decide
  omega
 ·rw [nodes,nodes]
  have:=nodesL_le ks h
  omega
theorem chg_shl(x:Ex):∀ m,shl m x=true→shl m (chg hm on mb mr x)=true:=by
 refine chg_all hm on mb mr (fun x y=>∀ m,shl m x=true→shl m y=true) ?_ _ x (Nat.le_refl _)
 intro k n t b e rs ks h m hs
 rw [chg_mk];cases m with
 |zero=>rw [shl]at hs;cases hs
 |succ m=>
  rw [shl]at hs
  split
  ·unfold lostE
   rw [shl]
   rfl
  ·rw [shl,List.all_map,List.all_eq_true]
   intro y hy
   exact h y hy m (List.all_eq_true.1 hs y hy)
theorem chg_sm(h1:∀ r,(mr r).1=r.1)(x:Ex):Sm x→Sm (chg hm on mb mr x):=by
 refine chg_all hm on mb mr (fun x y=>Sm x→Sm y) ?_ _ x (Nat.le_refl _)
 intro k n t b e rs ks h hs
 rw [chg_mk];unfold Sm at hs
 split
 ·unfold lostE Sm
  exact ⟨by simp,fun r hr=>absurd hr (by simp),by unfold Sm.SmL;trivial⟩
 ·unfold Sm
  refine ⟨hs.1,fun r hr=>?_,smL_of (fun y hy=>?_)⟩
  ·split at hr
   ·obtain ⟨r0,hr0,rfl⟩:=List.mem_map.1 hr
    rw [h1];exact hs.2.1 r0 hr0
   ·exact hs.2.1 r hr
  ·obtain ⟨z,hz,rfl⟩:=List.mem_map.1 hy
   exact h z hz (sm_kid hs.2.2 z hz)
theorem chg_sn(h1:∀ r,(mr r).1=r.1)(x:Ex):Sn x→Sn (chg hm on mb mr x):=by
 refine chg_all hm on mb mr (fun x y=>Sn x→Sn y) ?_ _ x (Nat.le_refl _)
 intro k n t b e rs ks h hs
 rw [chg_mk];unfold Sn at hs
 split
 ·unfold lostE Sn
  exact ⟨by simp,by simp,fun r hr=>absurd hr (by simp),by simp,by unfold Sn.SnL;trivial⟩
 ·unfold Sn
  refine ⟨hs.1,?_,fun r hr=>?_,by rw [List.length_map];exact hs.2.2.2.1,snL_of (fun y hy=>?_)⟩
  ·split
   ·rw [List.length_map];exact hs.2.1
   ·exact hs.2.1
  ·split at hr
   ·obtain ⟨r0,hr0,rfl⟩:=List.mem_map.1 hr
    rw [h1];exact hs.2.2.1 r0 hr0
   ·exact hs.2.2.1 r hr
  ·obtain ⟨z,hz,rfl⟩:=List.mem_map.1 hy
   exact h z hz (sn_kid hs.2.2.2.2 z hz)
theorem chg_may(h1:∀ r,(mr r).1=r.1)(h2:∀ r,mayRf r=true→mb r=true→mayRf (mr r)=true)(x:Ex):mall mayN x=true→mall mayN (chg hm on mb mr x)=true:=by
 refine chg_all hm on mb mr (fun x y=>mall mayN x=true→mall mayN y=true) ?_ _ x (Nat.le_refl _)
 intro k n t b e rs ks h hs
 rw [chg_mk];rw [mall,mallL_all]at hs;obtain ⟨m1,m2⟩:=Bool.and_eq_true_iff.1 hs
 split
 ·rw [show mall mayN lostE=true by decide +kernel]
 ·rename_i hc
  have hk:(ks.map (chg hm on mb mr)).all (mall mayN)=true:=by
   rw [List.all_map,List.all_eq_true];intro y hy
   exact h y hy (List.all_eq_true.1 m2 y hy)
  rw [mall,mallL_all,hk,Bool.and_true]
  split
  ·rename_i hh
   have hall:rs.all mb=true:=by
    cases h':rs.all mb
    ·rw [hh,h']at hc;exact absurd rfl hc
    ·rfl
   exact may_map mr m1 (List.length_map ..) (fun r hr=>⟨h1 r,h2 r ((may_refs m1).2 r hr) (List.all_eq_true.1 hall r hr)⟩)
  ·exact may_kids m1 (List.length_map ..)
end
theorem mv_same(rows:Bool)(k a t:Int)(r:Rf):(mvR rows k a t r).1=r.1:=by unfold mvR;cases rows <;> rfl
theorem mv_may(rows:Bool)(k a t:Int)(r:Rf)(h:mayRf r=true)(hb:mvB rows k a t r=true):mayRf (mvR rows k a t r)=true:=by
 unfold mayRf mayR at h ⊢
 unfold mvB mvL at hb
 rw [mv_same];obtain ⟨h1,h2⟩:=Bool.and_eq_true_iff.1 h;obtain ⟨h3,h4⟩:=Bool.and_eq_true_iff.1 h2;refine Bool.and_eq_true_iff.2 ⟨h1,?_⟩
 cases rows
 ·exact Bool.and_eq_true_iff.2 ⟨h3,hb⟩
 ·exact Bool.and_eq_true_iff.2 ⟨hb,h4⟩
theorem Gx.ln{x:Ex}(h:Gx x)(home on:List UInt8)(rows:Bool)(k a t:Int):Gx (lnE home on rows k a t x):=by
 unfold lnE
 split
 ·obtain ⟨f,m⟩:=Bool.and_eq_true_iff.1 h.may
  unfold fitB at f
  obtain ⟨f1,f2⟩:=Bool.and_eq_true_iff.1 f;refine ⟨chg_sn _ _ _ _ (mv_same rows k a t) x h.sn,chg_sm _ _ _ _ (mv_same rows k a t) x h.sm,Bool.and_eq_true_iff.2 ⟨?_,chg_may _ _ _ _ (mv_same rows k a t) (fun r=>mv_may rows k a t r) x m⟩⟩
  unfold fitB
  exact Bool.and_eq_true_iff.2 ⟨decide_eq_true (Nat.le_trans (chg_nodes _ _ _ _ x) (of_decide_eq_true f1)),chg_shl _ _ _ _ x 50 f2⟩
 ·exact h
theorem may_rfs:∀ (s:Nat) (x:Ex),SizeOf.sizeOf x≤s→mall mayN x=true→∀ r∈rfs x,mayRf r=true:=by
 intro s
 induction s with
 |zero=>
  intro x hs
  cases x with
  |mk k n t b e rs ks=>simp at hs
 |succ s ih=>
  intro x hs hm r hr
  cases x with
  |mk k n t b e rs ks=>
   rw [mall,mallL_all]at hm;obtain ⟨m1,m2⟩:=Bool.and_eq_true_iff.1 hm;rw [rfs]at hr
   rcases List.mem_append.1 hr with hr|hr
   ·exact (may_refs m1).2 r hr
   ·obtain ⟨y,hy,hr⟩:=rfsL_mem.1 hr
    obtain ⟨i,hi,rfl⟩:=List.getElem_of_mem hy;exact ih _ (by have:=kid_size (k:=k) (n:=n) (t:=t) (b:=b) (e:=e) (rs:=rs) i hi;omega) (List.all_eq_true.1 m2 _ hy) r hr
theorem Gx.refs{x:Ex}(h:Gx x):∀ r∈rfs x,mayRf r=true:=may_rfs _ x (Nat.le_refl _) (Bool.and_eq_true_iff.1 h.may).2
theorem mayRf_lo{r:Rf}(h:mayRf r=true):0≤r.2.1∧0≤r.2.2.1:=by
 unfold mayRf mayR at h
 obtain ⟨_,h2⟩:=Bool.and_eq_true_iff.1 h;obtain ⟨h3,h4⟩:=Bool.and_eq_true_iff.1 h2;exact ⟨(of_decide_eq_true h3).1,(of_decide_eq_true h4).1⟩
end Go.Proofs.YtoikodohcieipaaGreatDoor
namespace Go.Proofs.YtoikodohcieipaaGreatDoor
open Go.RowKit
def RdI(W:World):Ex→Value→Prop
 |.mk k n t b e rs ks,v=>∃ rv kv,v=.agg #[.int .i64 k,.int .i64 n,.string ⟨t.toArray⟩,.bool b,.int .i64 e,rv,kv]∧Sl rf 5 W rv rs ∧
   ∃ (ao:Option Addr) (cap:Nat),kv=.slice ao ks.length cap∧ks.length≤cap∧cap≤maxLen∧(ks≠[]→∃ b' off,ao=some ⟨b',off,none⟩∧RdIL W ks b' off)
 where
 RdIL (W:World):List Ex→Nat→Nat→Prop
 |[],_,_=>True
 |x::xs,b,off=>(∃ c0 c1 c2 c3 c4 c5 c6,W.cell? ⟨b,off,none⟩=some c0∧W.cell? ⟨b,off+1,none⟩=some c1∧W.cell? ⟨b,off+2,none⟩=some c2∧W.cell? ⟨b,off+3,none⟩=some c3∧W.cell? ⟨b,off+4,none⟩=some c4∧W.cell? ⟨b,off+5,none⟩=some c5∧W.cell? ⟨b,off+6,none⟩=some c6∧RdI W x (.agg #[c0,c1,c2,c3,c4,c5,c6]))∧RdIL W xs b (off+7)
structure KidI (W:World) (x:Ex) (b off:Nat) (c0 c1 c2 c3 c4 c5 c6:Value):Prop where
 g0:W.cell? ⟨b,off,none⟩=some c0
 g1:W.cell? ⟨b,off+1,none⟩=some c1
 g2:W.cell? ⟨b,off+2,none⟩=some c2
 g3:W.cell? ⟨b,off+3,none⟩=some c3
 g4:W.cell? ⟨b,off+4,none⟩=some c4
 g5:W.cell? ⟨b,off+5,none⟩=some c5
 g6:W.cell? ⟨b,off+6,none⟩=some c6
 rd:RdI W x (.agg #[c0,c1,c2,c3,c4,c5,c6])
theorem RdI.RdIL.kid{W:World}:∀ {ks:List Ex} {b off:Nat},RdI.RdIL W ks b off→∀ i (h:i<ks.length),∃ c0 c1 c2 c3 c4 c5 c6,KidI W ks[i] b (off+i*7) c0 c1 c2 c3 c4 c5 c6
 |[],_,_,_,i,h=>absurd h (by simp)
 |x::xs,b,off,hr,i,h=>by
  unfold RdI.RdIL at hr
  obtain ⟨⟨c0,c1,c2,c3,c4,c5,c6,g0,g1,g2,g3,g4,g5,g6,hx⟩,hr⟩:=hr;cases i with
  |zero=>exact ⟨c0,c1,c2,c3,c4,c5,c6,by simpa using g0,by simpa using g1,by simpa using g2,by simpa using g3,by simpa using g4,by simpa using g5,by simpa using g6,hx⟩
  |succ i=>
   obtain ⟨c0,c1,c2,c3,c4,c5,c6,hk⟩:=RdI.RdIL.kid hr i (by simpa using h)
   rw [show off+7+i*7=off+(i+1)*7 by omega]at hk
   exact ⟨c0,c1,c2,c3,c4,c5,c6,hk⟩
theorem RdI.shape{W:World}{x:Ex}{v:Value}(h:RdI W x v):∃ k n t b e a1 l1 c1 a2 l2 c2,v=.agg #[.int .i64 k,.int .i64 n,.string t,.bool b,.int .i64 e,.slice a1 l1 c1,.slice a2 l2 c2]:=by
 cases x with
 |mk k n t b e rs ks=>
  unfold RdI at h
  obtain ⟨rv,kv,hv,hr,ao,cap,hk,_⟩:=h;obtain ⟨a1,c1,hr,_⟩:=hr;subst hr hk
  exact ⟨_,_,_,_,_,_,_,_,_,_,_,hv⟩
def cutE:Ex→Nat→Nat→Ex × Nat
 |.mk k n t b e rs ks,d,l=>(.mk k n (t.take 250) b e (rs.take 4) (cutL ks d (l-1)).1,(cutL ks d (l-1)).2)
 where
 cutL:List Ex→Nat→Nat→List Ex × Nat
 |[],_,l=>([],l)
 |x::xs,d,l=>if 0<l∧d<60 then ((cutE x (d+1) l).1::(cutL xs d (cutE x (d+1) l).2).1,(cutL xs d (cutE x (d+1) l).2).2) else ([],l)
theorem cut_nodes:∀ (x:Ex) (d l:Nat),0<l→nodes (cutE x d l).1+(cutE x d l).2=l
 |.mk k n t b e rs ks,d,l,h=>by
  rw [cutE,nodes];have:=go ks d (l-1)
  simp only
  omega
 where
 go:∀ (ks:List Ex) (d l:Nat),nodes.nodesL (cutE.cutL ks d l).1+(cutE.cutL ks d l).2=l
 |[],d,l=>by rw [cutE.cutL];simp [nodes.nodesL]
 |x::xs,d,l=>by
  rw [cutE.cutL]
  split
  ·rename_i h
   have h1:=cut_nodes x (d+1) l h.1;have h2:=go xs d (cutE x (d+1) l).2;simp only [nodes.nodesL]
   omega
  ·simp [nodes.nodesL]
def Shs(B:Nat):Ex→Prop
 |.mk _ _ _ _ _ rs ks=>(∀ r∈rs,r.1.length≤B)∧ShsL B ks
 where
 ShsL (B:Nat):List Ex→Prop
 |[]=>True
 |x::xs=>Shs B x∧ShsL B xs
def rm:Ex→Nat→Bool
 |.mk k n t b e rs ks,d=>decide (d≤50)&&(mayN (.mk k n t b e rs ks)&&rmL ks (d+1))
 where
 rmL:List Ex→Nat→Bool
 |[],_=>true
 |x::xs,d=>rm x d&&rmL xs d
theorem rmL_all(ks:List Ex)(d:Nat):rm.rmL ks d=ks.all (fun x=>rm x d):=by
 induction ks with
 |nil=>rfl
 |cons x xs ih=>rw [rm.rmL,ih];rfl
theorem rm_shl:∀ (x:Ex) (d m:Nat),d+m=51→rm x d=(shl m x&&mall mayN x)
 |.mk k n t b e rs ks,d,m,h=>by
  rw [rm,mall];cases m with
  |zero=>
   rw [decide_eq_false (by omega),Bool.false_and]
   rfl
  |succ m=>
   rw [decide_eq_true (by omega),Bool.true_and,go ks (d+1) m (by omega)]
   show _=(ks.all (shl m)&&_)
   cases mayN (.mk k n t b e rs ks) <;> cases ks.all (shl m) <;> simp
 where
 go:∀ (ks:List Ex) (d m:Nat),d+m=51→rm.rmL ks d=(ks.all (shl m)&&mall.mallL mayN ks)
 |[],_,_,_=>by rw [rm.rmL,mall.mallL];rfl
 |x::xs,d,m,h=>by
  rw [rm.rmL,rm_shl x d m h,go xs d m h,mall.mallL,List.all_cons];cases shl m x <;> cases mall mayN x <;> cases xs.all (shl m) <;> simp
theorem cnt_nodes:∀ (x:Ex) (n:Nat),n≤200→min (cnt x n) 201=min (n+nodes x) 201
 |.mk k m t b e rs ks,n,h=>by
  rw [cnt,nodes,go ks (n+1) (by omega)]
  congr 1
  omega
 where
 go:∀ (ks:List Ex) (n:Nat),n≤201→min (cnt.cntL ks n) 201=min (n+nodes.nodesL ks) 201
 |[],n,_=>by rw [cnt.cntL,nodes.nodesL,Nat.add_zero]
 |x::xs,n,h=>by
  rw [cnt.cntL,nodes.nodesL]
  split
  ·rename_i h'
   have h1:=cnt_nodes x n h';have h2:=cnt_le x n h';rw [go xs (cnt x n) h2];omega
  ·omega
theorem chg_lost(hm on:List UInt8)(mb:Rf→Bool)(mr:Rf→Rf):chg hm on mb mr lostE=lostE:=by
 unfold lostE
 rw [chg_mk]
 rfl
theorem chg_comp(hm on:List UInt8)(mb mb2:Rf→Bool)(mr mr2:Rf→Rf)(h1:∀ r,(mr r).1=r.1)(x:Ex):chg hm on mb2 mr2 (chg hm on mb mr x)=chg hm on (fun r=>mb r&&mb2 (mr r)) (fun r=>mr2 (mr r)) x:=by
 refine chg_all hm on mb mr (fun x y=>chg hm on mb2 mr2 y=chg hm on (fun r=>mb r&&mb2 (mr r)) (fun r=>mr2 (mr r)) x) ?_ _ x (Nat.le_refl _)
 intro k n t b e rs ks h
 have hks:(ks.map (chg hm on mb mr)).map (chg hm on mb2 mr2)=ks.map (chg hm on (fun r=>mb r&&mb2 (mr r)) (fun r=>mr2 (mr r))):=by
  rw [List.map_map];exact List.map_congr_left (fun y hy=>h y hy)
 rw [chg_mk,chg_mk];by_cases hh:hit hm on rs=true
 ·have hh2:hit hm on (rs.map mr)=true:=by
   cases rs with
   |nil=>exact hh
   |cons r rs=>
    simp only [hit,List.map_cons]at hh ⊢
    rw [h1];exact hh
  rw [hh];simp only [Bool.true_and,if_true]
  by_cases ha:rs.all mb=true
  ·rw [ha]
   simp only [Bool.not_true,Bool.false_eq_true,if_false]
   rw [chg_mk,hh2];have e:(rs.map mr).all mb2=rs.all (fun r=>mb r&&mb2 (mr r)):=by
    rw [List.all_map,Bool.eq_iff_iff,List.all_eq_true,List.all_eq_true]
    constructor
    ·intro g r hr
     rw [Bool.and_eq_true_iff];exact ⟨List.all_eq_true.1 ha r hr,g r hr⟩
    ·intro g r hr
     exact (Bool.and_eq_true_iff.1 (g r hr)).2
   rw [e,hks,List.map_map];simp only [Bool.true_and,if_true]
   rfl
  ·have ha':rs.all mb=false:=Bool.eq_false_iff.2 ha
   rw [ha'];simp only [Bool.not_false,if_true]
   have e:rs.all (fun r=>mb r&&mb2 (mr r))=false:=by
    rw [List.all_eq_false]at ha' ⊢;obtain ⟨r,hr,hb⟩:=ha';exact ⟨r,hr,by simp at hb ⊢;simp [hb]⟩
   rw [e,chg_lost]
   rfl
 ·have hh':hit hm on rs=false:=Bool.eq_false_iff.2 hh
  rw [hh'];simp only [Bool.false_and,Bool.false_eq_true,if_false]
  rw [chg_mk,hh',hks];simp only [Bool.false_and,Bool.false_eq_true,if_false]
theorem chg_congr(hm on:List UInt8)(mb mb2:Rf→Bool)(mr mr2:Rf→Rf)(x:Ex):(∀ r∈rfs x,mb r=mb2 r∧(mb r=true→mr r=mr2 r))→chg hm on mb mr x=chg hm on mb2 mr2 x:=by
 refine chg_all hm on mb mr (fun x y=>(∀ r∈rfs x,mb r=mb2 r∧(mb r=true→mr r=mr2 r))→y=chg hm on mb2 mr2 x) ?_ _ x (Nat.le_refl _)
 intro k n t b e rs ks h hr
 rw [rfs]at hr;have hks:ks.map (chg hm on mb mr)=ks.map (chg hm on mb2 mr2):=List.map_congr_left (fun y hy=>h y hy (fun r hr'=>hr r (List.mem_append.2 (.inr (rfsL_mem.2 ⟨y,hy,hr'⟩)))))
 have hrs:∀ r∈rs,mb r=mb2 r∧(mb r=true→mr r=mr2 r):=fun r hr'=>hr r (List.mem_append.2 (.inl hr'))
 have ha:rs.all mb=rs.all mb2:=by
  rw [Bool.eq_iff_iff,List.all_eq_true,List.all_eq_true];exact ⟨fun g r hr'=>(hrs r hr').1 ▸ g r hr',fun g r hr'=>(hrs r hr').1.symm ▸ g r hr'⟩
 rw [chg_mk,chg_mk,←ha,hks];by_cases hc:(hit hm on rs&&!rs.all mb)=true
 ·rw [if_pos hc,if_pos hc]
 ·rw [if_neg hc,if_neg hc]
  by_cases hh:hit hm on rs=true
  ·rw [if_pos hh,if_pos hh]
   have hall:rs.all mb=true:=by
    cases h':rs.all mb
    ·rw [hh,h']at hc;exact absurd rfl hc
    ·rfl
   congr 1
   exact List.map_congr_left (fun r hr'=>(hrs r hr').2 (List.all_eq_true.1 hall r hr'))
  ·rw [if_neg hh,if_neg hh]
theorem idx_hi2(k a t i:Int):L.Ax.idx k a t i≤i+1∨L.Ax.idx k a t i≤t∨L.Ax.idx k a t i≤0:=by
 unfold L.Ax.idx L.Ax.lf
 split
 ·split <;> omega
 ·split
  ·split
   ·omega
   ·split <;> omega
  ·split
   ·split <;> omega
   ·split <;> split <;> omega
theorem ix_hi2(k a t i:Int):L.ix k a t i≤i+1∨L.ix k a t i≤t∨L.ix k a t i≤0:=by
 unfold L.ix
 split
 ·exact idx_hi2 k a t i
 ·omega
theorem gp_hi(k a t g:Int)(b:Bool)(hg:0≤g):L.gp k a t g b≤g+1:=by
 unfold L.gp
 split
 ·unfold L.Ax.gap L.Ax.lf
  cases b <;> simp <;> split <;> (try split) <;> (try split) <;> (try split) <;> omega
 ·omega
theorem trT_hi(k a t k' a' t':Int)(pr:Bool)(m:Int)(ht:0≤t)(h:t≤m)(hm:0≤m):L.trT k a t k' a' t' pr≤m+1:=by
 unfold L.trT L.tT
 split
 ·split
  ·have:=gp_hi k' a' t' t (!pr) ht
   omega
  ·omega
 ·omega
def enR(rows:Bool)(f:Int→Int)(r:Rf):Rf:=if rows=true then (r.1,f r.2.1,r.2.2) else (r.1,r.2.1,f r.2.2.1,r.2.2.2)
def enB(rows:Bool)(f:Int→Int)(r:Rf):Bool:=decide (0≤(if rows=true then f r.2.1 else f r.2.2.1))
theorem two_steps{x:Ex}(h:Gx x)(home on:List UInt8)(rows:Bool)(k a t x0 x1 x2:Int)(xb:Bool)(hma:L.mayB k a t=true)(hmx:xb=true→L.mayB x0 x1 x2=true)(h1:t≤1099511627776)(h2:xb=true→x2≤1099511627777)(hr:∀ r∈rfs x,r.2.1≤1099511627776∧r.2.2.1≤1099511627776) :
  (if xb=true then lnE home on rows x0 x1 x2 (lnE home on rows k a t x) else lnE home on rows k a t x)=chg home on (enB rows (L.en k a t x0 x1 x2 xb)) (enR rows (L.en k a t x0 x1 x2 xb)) x:=by
 have key:∀ n:Int,0≤n→n≤1099511627776→L.ix k a t n<2199023255552∧(0≤L.ix k a t n→xb=true→L.ix x0 x1 x2 (L.ix k a t n)<2199023255552):=by
  intro n hn hn2
  have e1:=ix_hi2 k a t n;refine ⟨by omega,fun h0 hx=>?_⟩
  have e2:=ix_hi2 x0 x1 x2 (L.ix k a t n);have e3:=h2 hx;omega
 cases xb with
 |false=>
  simp only [Bool.false_eq_true,if_false]
  unfold lnE
  rw [if_pos hma];refine chg_congr home on _ _ _ _ x (fun r hr'=>?_)
  have b1:=hr r hr';have b0:=mayRf_lo (h.refs r hr');cases rows
  ·have kk:=(key _ b0.2 b1.2).1
   refine ⟨?_,fun _=>?_⟩
   ·unfold mvB mvL enB L.en
    simp only [Bool.false_eq_true,if_false,or_true,if_true]
    rw [Bool.eq_iff_iff,decide_eq_true_iff,decide_eq_true_iff];omega
   ·unfold mvR enR L.en
    simp
  ·have kk:=(key _ b0.1 b1.1).1
   refine ⟨?_,fun _=>?_⟩
   ·unfold mvB mvL enB L.en
    simp only [or_true,if_true]
    rw [Bool.eq_iff_iff,decide_eq_true_iff,decide_eq_true_iff];omega
   ·unfold mvR enR L.en
    simp
 |true=>
  simp only [if_true]
  unfold lnE
  rw [if_pos hma,if_pos (hmx rfl),chg_comp home on _ _ _ _ (mv_same rows k a t)];refine chg_congr home on _ _ _ _ x (fun r hr'=>?_)
  have b1:=hr r hr';have b0:=mayRf_lo (h.refs r hr');obtain ⟨sh,row,col,ra,ca⟩:=r;simp only at b0 b1
  cases rows
  ·obtain ⟨k1,k2⟩:=key _ b0.2 b1.2
   unfold mvB mvL mvR enB enR L.en
   simp only [Bool.false_eq_true,if_false,Bool.true_eq_false,or_false]
   by_cases hneg:L.ix k a t col<0
   ·rw [if_pos hneg]
    refine ⟨?_,fun hh=>?_⟩
    ·rw [decide_eq_false (by omega),Bool.false_and,decide_eq_false (by omega)]
    ·rw [Bool.and_eq_true_iff]at hh
     have:=of_decide_eq_true hh.1
     omega
   ·rw [if_neg hneg]
    have k3:=k2 (by omega) rfl
    refine ⟨?_,fun _=>rfl⟩
    rw [decide_eq_true (show 0≤L.ix k a t col∧L.ix k a t col<2199023255552 by omega),Bool.true_and,Bool.eq_iff_iff,decide_eq_true_iff,decide_eq_true_iff]
    omega
  ·obtain ⟨k1,k2⟩:=key _ b0.1 b1.1
   unfold mvB mvL mvR enB enR L.en
   simp only [if_true,Bool.true_eq_false,or_false]
   by_cases hneg:L.ix k a t row<0
   ·rw [if_pos hneg]
    refine ⟨?_,fun hh=>?_⟩
    ·rw [decide_eq_false (by omega),Bool.false_and,decide_eq_false (by omega)]
    ·rw [Bool.and_eq_true_iff]at hh
     have:=of_decide_eq_true hh.1
     omega
   ·rw [if_neg hneg]
    have k3:=k2 (by omega) rfl
    refine ⟨?_,fun _=>rfl⟩
    rw [decide_eq_true (show 0≤L.ix k a t row∧L.ix k a t row<2199023255552 by omega),Bool.true_and,Bool.eq_iff_iff,decide_eq_true_iff,decide_eq_true_iff]
    omega
theorem trB_may{k a t k' a' t':Int}{pr:Bool}(h:L.trB k a t k' a' t' pr=true):L.mayB (L.trK k a t k' a' t' pr) (L.trA k a t k' a' t' pr) (L.trT k a t k' a' t' pr)=true:=by
 unfold L.trK L.trA L.trT
 rw [if_pos h,if_pos h,if_pos h];unfold L.trB at h
 exact (Bool.and_eq_true_iff.1 h).2
theorem sides_tree{x:Ex}(h:Gx x)(home on:List UInt8)(rows:Bool)(k a t k' a' t':Int)(hm:L.mayB k a t=true)(hm':L.mayB k' a' t'=true)(h1:a≤1099511627776)(h2:t≤1099511627776)(h3:a'≤1099511627776)(h4:t'≤1099511627776)(hr:∀ r∈rfs x,r.2.1≤1099511627776∧r.2.2.1≤1099511627776) :
  (if L.trB k' a' t' k a t false=true then lnE home on rows (L.trK k' a' t' k a t false) (L.trA k' a' t' k a t false) (L.trT k' a' t' k a t false) (lnE home on rows k a t x) else lnE home on rows k a t x)
   = (if L.trB k a t k' a' t' true=true then lnE home on rows (L.trK k a t k' a' t' true) (L.trA k a t k' a' t' true) (L.trT k a t k' a' t' true) (lnE home on rows k' a' t' x) else lnE home on rows k' a' t' x):=by
 have m1:=(L.may_bd hm).2.1.1;have m2:=(L.may_bd hm').2.1.1;rw [two_steps h home on rows k a t _ _ _ _ hm (fun e=>trB_may e) h2 (fun _=>trT_hi k' a' t' k a t false 1099511627776 m2 h4 (by omega)) hr,two_steps h home on rows k' a' t' _ _ _ _ hm' (fun e=>trB_may e) h4 (fun _=>trT_hi k a t k' a' t' true 1099511627776 m1 h2 (by omega)) hr]
 refine chg_congr home on _ _ _ _ x (fun r hr'=>?_)
 have b1:=hr r hr';have b0:=mayRf_lo (h.refs r hr');have e1:=L.en_eq (n:=r.2.1) hm hm' h1 h2 h3 h4 (by omega) b0.1 (by omega)
 have e2:=L.en_eq (n:=r.2.2.1) hm hm' h1 h2 h3 h4 (by omega) b0.2 (by omega)
 cases rows
 ·refine ⟨?_,fun _=>?_⟩
  ·unfold enB;simp only [Bool.false_eq_true,if_false];rw [e2]
  ·unfold enR;simp only [Bool.false_eq_true,if_false];rw [e2]
 ·refine ⟨?_,fun _=>?_⟩
  ·unfold enB;simp only [if_true];rw [e1]
  ·unfold enR;simp only [if_true];rw [e1]
end Go.Proofs.YtoikodohcieipaaGreatDoor
namespace Go.Proofs.YtoikodohcieipaaGreatDoor
open Go.ChangeShapes Go.WideShapes Go.ChangeAt Go.RowKit
theorem cells59:Tryz.prog.cellsOf 40=5:=by kernel_rfl
theorem cells28':Tryz.prog.cellsOf 26=7:=by kernel_rfl
theorem one_of{v u:Value}(h:[v]=[u]):v=u:=(List.cons.inj h).1
theorem bulk_mem{H:Type}{d:DataW H}:∀ {l:List (DataW H)},d∈l→Rows.uptoBulk d≤Rows.uptoBulkAll l
 |[],h=>absurd h (by simp)
 |x::xs,h=>by
  rw [Rows.uptoBulkAll]
  rcases List.mem_cons.1 h with rfl|h
  ·omega
  ·have:=bulk_mem h
   omega
theorem bulk_agg{H:Type}{d:DataW H}{l:List (DataW H)}(h:d∈l):Rows.uptoBulk d≤Rows.uptoBulk (.agg l):=by
 rw [Rows.uptoBulk];have:=bulk_mem h
 omega
theorem bulk_elem{H:Type}{d:DataW H}{l r:List (DataW H)}(h:d∈l):Rows.uptoBulk d≤Rows.uptoBulk (.slice l r):=by
 rw [Rows.uptoBulk];have:=bulk_mem h
 omega
theorem shs_mono{B C:Nat}(hBC:B≤C):∀ (x:Ex),Shs B x→Shs C x
 |.mk k n t b e rs ks,h=>by
  rw [Shs]at h ⊢;exact ⟨fun r hr=>Nat.le_trans (h.1 r hr) hBC,go hBC ks h.2⟩
 where
 go {B C:Nat} (hBC:B≤C):∀ (ks:List Ex),Shs.ShsL B ks→Shs.ShsL C ks
 |[],_=>by rw [Shs.ShsL];trivial
 |x::xs,h=>by
  rw [Shs.ShsL]at h ⊢;exact ⟨shs_mono hBC x h.1,go hBC xs h.2⟩
theorem shsl_of{B:Nat}:∀ (ks:List Ex),(∀ i (h:i<ks.length),Shs B ks[i])→Shs.ShsL B ks
 |[],_=>by rw [Shs.ShsL];trivial
 |x::xs,h=>by
  rw [Shs.ShsL];exact ⟨h 0 (by simp),shsl_of xs (fun i hi=>h (i+1) (by simpa using hi))⟩
theorem open_rf{H:Type}{enc:TypeId × Value→H}{W:World}{sp:Nat→Bool}{held:Bool}{fuel base:Nat}{cs:List Value}{x:DataW H × List MemPlace}
  (h:DataW.trod enc Tryz.prog W base sp held fuel 40 cs=some x):∃ y:Rf,cs=rf y∧y.1.length≤Rows.uptoBulk x.1:=by
 obtain ⟨xs,m,_,hx,hl,hlen,hf⟩:=DataW.trod_struct Tryz.underlying40 h;rw [cells59]at hl;have hlen':xs.length=5:=hlen
 match cs,hl with
 |[v0,v1,v2,v3,v4],_=>
  have g0:=hf 0 _ rfl;have g1:=hf 1 _ rfl;have g2:=hf 2 _ rfl;have g3:=hf 3 _ rfl;have g4:=hf 4 _ rfl
  match xs,hlen' with
  |[y0,y1,y2,y3,y4],_=>
   obtain ⟨t,e0,z0,_⟩:=DataW.trod_string Tryz.underlying9 g0;obtain ⟨k,e1,_,_⟩:=DataW.trod_int Tryz.underlying2 g1;obtain ⟨n,e2,_,_⟩:=DataW.trod_int Tryz.underlying2 g2;obtain ⟨b,e3,_⟩:=DataW.trod_bool Tryz.underlying4 g3;obtain ⟨c,e4,_⟩:=DataW.trod_bool Tryz.underlying4 g4;have hb:t.data.toList.length≤Rows.uptoBulk x.1:=by
    have h1:Rows.uptoBulk y0.1≤Rows.uptoBulk x.1:=by rw [hx];exact bulk_agg (by simp)
    rw [z0]at h1;simp only [Rows.uptoBulk]at h1
    omega
   refine ⟨(t.data.toList,k,n,b,c),?_,hb⟩
   have f0:v0=.string t:=one_of e0
   have f1:v1=.int .i64 k:=one_of e1
   have f2:v2=.int .i64 n:=one_of e2
   have f3:v3=.bool b:=one_of e3
   have f4:v4=.bool c:=one_of e4
   rw [f0,f1,f2,f3,f4]
   rfl
theorem list_of{α:Type}(P:Nat→α→Prop):∀ n,(∀ i,i<n→∃ x,P i x)→∃ l:List α,l.length=n∧∀ i (h:i<l.length),P i l[i]
 |0,_=>⟨[],rfl,fun i hi=>absurd hi (by simp)⟩
 |n+1,h=>by
  obtain ⟨l,hl,hp⟩:=list_of P n (fun i hi=>h i (by omega))
  obtain ⟨x,hx⟩:=h n (by omega)
  refine ⟨l++[x],by simp [hl],fun i hi=>?_⟩
  by_cases hin:i<l.length
  ·rw [List.getElem_append_left hin]
   exact hp i hin
  ·have hie:i=l.length:=by simp at hi;omega
   subst hie;simp
   rw [hl];exact hx
theorem add_plain(b o n:Nat):(⟨b,o,none⟩:Addr).add n=⟨b,o+n,none⟩:=by
 unfold Addr.add
 by_cases h:n=0
 ·subst h;simp
 ·simp [h]
theorem open_refs{H:Type}{enc:TypeId × Value→H}{W:World}{sp:Nat→Bool}{held:Bool}{fuel base:Nat}{v:Value}{z:DataW H × List MemPlace}
  (hf:DataW.trod enc Tryz.prog W base sp held fuel 23 [v]=some z):∃ L:List Rf,Sl rf 5 W v L∧∀ r∈L,r.1.length≤Rows.uptoBulk z.1:=by
 rcases DataW.trod_slice Tryz.underlying23 hf with ⟨hcs,_⟩|⟨x,l,c,elems,rest,m,_,hcs,hz,hb,hl,hm,hlen,hel,_,_⟩
 ·exact ⟨[],by rw [one_of hcs];exact sl_nil W,fun r hr=>absurd hr (by simp)⟩
 ·have hv:=one_of hcs
  subst hv;have hcell:∀ i,i<l→∃ y:Rf,(∀ j u,(rf y)[j]?=some u→W.cell? ((x.add (i*5)).add j)=some u)∧y.1.length≤Rows.uptoBulk z.1:=by
   intro i hi
   have hi':=hel i hi;rw [cells59,List.getElem?_eq_getElem (by omega),Option.bind_eq_some_iff]at hi'
   obtain ⟨cs,h1,h2⟩:=hi';obtain ⟨y,rfl,hy⟩:=open_rf h2;obtain ⟨_,_,h3⟩:=World.cells?_some h1;refine ⟨y,fun j u hu=>?_,Nat.le_trans hy (by rw [hz];exact bulk_elem (List.mem_map.2 ⟨_,List.getElem_mem _,rfl⟩))⟩
   have hj:j<5:=by rw [←rf_len y];exact (List.getElem?_eq_some_iff.1 hu).1
   rw [h3 j (by omega)]
   exact hu
  rcases Nat.eq_zero_or_pos l with rfl|hp
  ·exact ⟨[],⟨some x,c,rfl,Nat.zero_le _,hm,fun h=>absurd h (by simp)⟩,fun r hr=>absurd hr (by simp)⟩
  ·obtain ⟨b,off,spot⟩:=x
   obtain ⟨c0,hc0,_⟩:=hcell 0 hp;have hspot:spot=none:=by simpa [Addr.add] using World.cell?_spot (hc0 0 _ rfl)
   subst hspot;obtain ⟨L,hL,hP⟩:=list_of (fun i y=>Ats rf W b (off+i*5) y∧y.1.length≤Rows.uptoBulk z.1) l (fun i hi=>by
    obtain ⟨y,g,gb⟩:=hcell i hi;refine ⟨y,fun j u hu=>?_,gb⟩
    have:=g j u hu
    rw [add_plain,add_plain]at this;exact this)
   subst hL;refine ⟨L,⟨some ⟨b,off,none⟩,c,rfl,hl,hm,fun _=>⟨b,off,rfl,fun i hi=>(hP i hi).1⟩⟩,fun r hr=>?_⟩
   obtain ⟨i,hi,rfl⟩:=List.mem_iff_getElem.1 hr;exact (hP i hi).2
theorem rdil_of{W:World}:∀ (ks:List Ex) (b off:Nat),(∀ i (h:i<ks.length),∃ c0 c1 c2 c3 c4 c5 c6,KidI W ks[i] b (off+i*7) c0 c1 c2 c3 c4 c5 c6)→RdI.RdIL W ks b off
 |[],b,off,_=>by unfold RdI.RdIL;trivial
 |x::xs,b,off,h=>by
  unfold RdI.RdIL
  obtain ⟨c0,c1,c2,c3,c4,c5,c6,hk⟩:=h 0 (by simp)
  simp only [List.getElem_cons_zero,Nat.zero_mul,Nat.add_zero]at hk
  refine ⟨⟨c0,c1,c2,c3,c4,c5,c6,hk.g0,hk.g1,hk.g2,hk.g3,hk.g4,hk.g5,hk.g6,hk.rd⟩,rdil_of xs b (off+7) (fun i hi=>?_)⟩
  obtain ⟨d0,d1,d2,d3,d4,d5,d6,hd⟩:=h (i+1) (by simpa using hi)
  simp only [List.getElem_cons_succ]at hd
  rw [show off+(i+1)*7=off+7+i*7 by omega]at hd
  exact ⟨d0,d1,d2,d3,d4,d5,d6,hd⟩
end Go.Proofs.YtoikodohcieipaaGreatDoor
namespace Go.Proofs.YtoikodohcieipaaGreatDoor
open Go.RowKit
def Rn:Ex→Prop
 |.mk _ n _ _ _ _ ks=>n≤9223372036854775807∧RnL ks
 where
 RnL:List Ex→Prop
 |[]=>True
 |x::xs=>Rn x∧RnL xs
theorem rnL_of:∀ {ks:List Ex},(∀ y∈ks,Rn y)→Rn.RnL ks
 |[],_=>by rw [Rn.RnL];trivial
 |x::xs,h=>by rw [Rn.RnL];exact ⟨h x (by simp),rnL_of fun y hy=>h y (List.mem_cons_of_mem _ hy)⟩
end Go.Proofs.YtoikodohcieipaaGreatDoor
namespace Go.Proofs.YtoikodohcieipaaGreatDoor
open Go.ChangeShapes Go.WideShapes Go.ChangeAt Go.RowKit
theorem wf_le{n:Int}(h:(Lit.int .i64 n).wf=true):n≤9223372036854775807:=by
 unfold Lit.wf at h
 simp only [Bool.and_eq_true,decide_eq_true_eq]at h
 exact h.2
theorem open_exn{H:Type}{enc:TypeId × Value→H}{W:World}{sp:Nat→Bool}{held:Bool}{base:Nat}:∀ (fuel:Nat) (cs:List Value) (z:DataW H × List MemPlace),
  DataW.trod enc Tryz.prog W base sp held fuel 26 cs=some z→∃ x:Ex,RdI W x (.agg cs.toArray)∧Shs (Rows.uptoBulk z.1) x∧Rn x:=by
 intro fuel
 induction fuel using Nat.strongRecOn with
 |_ fuel ih=>
  intro cs z h
  obtain ⟨xs,m,hm0,hz,hl,hlen,hf⟩:=DataW.trod_struct Tryz.underlying26 h;rw [cells28']at hl;have hlen':xs.length=7:=hlen
  match cs,hl with
  |[v0,v1,v2,v3,v4,v5,v6],_=>
   have g0:=hf 0 _ rfl;have g1:=hf 1 _ rfl;have g2:=hf 2 _ rfl;have g3:=hf 3 _ rfl;have g4:=hf 4 _ rfl;have g5:=hf 5 _ rfl;have g6:=hf 6 _ rfl
   match xs,hlen' with
   |[y0,y1,y2,y3,y4,y5,y6],_=>
    obtain ⟨k,e0,_,_⟩:=DataW.trod_int Tryz.underlying3 g0;obtain ⟨n,e1,_,wn⟩:=DataW.trod_int Tryz.underlying22 g1;have hn:n≤9223372036854775807:=wf_le wn
    obtain ⟨t,e2,_,_⟩:=DataW.trod_string Tryz.underlying9 g2;obtain ⟨b,e3,_⟩:=DataW.trod_bool Tryz.underlying4 g3;obtain ⟨e,e4,_,_⟩:=DataW.trod_int Tryz.underlying3 g4;obtain ⟨rs,hrs,brs0⟩:=open_refs (v:=v5) g5;have brs:∀ r∈rs,r.1.length≤Rows.uptoBulk z.1:=fun r hr=>Nat.le_trans (brs0 r hr) (by rw [hz];exact bulk_agg (by simp))
    have b6:Rows.uptoBulk y6.1≤Rows.uptoBulk z.1:=by rw [hz];exact bulk_agg (by simp)
    have f0:v0=.int .i64 k:=one_of e0
    have f1:v1=.int .i64 n:=one_of e1
    have f2:v2=.string t:=one_of e2
    have f3:v3=.bool b:=one_of e3
    have f4:v4=.int .i64 e:=one_of e4
    subst f0 f1 f2 f3 f4;have et:(⟨t.data.toList.toArray⟩:ByteArray)=t:=by
     apply ByteArray.ext
     simp
    rcases DataW.trod_slice (cs:=[v6]) Tryz.underlying24 g6 with ⟨hcs,_⟩|⟨x,l,c,elems,rest,m2,hm2,hcs,hz6,hb,hle,hm,hlen2,hel,_,_⟩
    ·have hv:=one_of hcs
     subst hv;refine ⟨.mk k n t.data.toList b e rs [],?_,by rw [Shs,Shs.ShsL];exact ⟨brs,trivial⟩,by rw [Rn,Rn.RnL];exact ⟨hn,trivial⟩⟩
     unfold RdI
     exact ⟨v5,_,by rw [et];rfl,hrs,none,0,rfl,Nat.le_refl _,Nat.zero_le _,fun h=>absurd rfl h⟩
    ·have hv:=one_of hcs
     subst hv;have hcell:∀ i,i<l→∃ y:Ex,∃ c0 c1 c2 c3 c4 c5 c6,(∀ j u,([c0,c1,c2,c3,c4,c5,c6]:List Value)[j]?=some u→W.cell? ((x.add (i*7)).add j)=some u)∧RdI W y (.agg #[c0,c1,c2,c3,c4,c5,c6])∧Shs (Rows.uptoBulk z.1) y∧Rn y:=by
      intro i hi
      have hi':=hel i hi;rw [cells28',List.getElem?_eq_getElem (by omega),Option.bind_eq_some_iff]at hi'
      obtain ⟨cs,h1,h2⟩:=hi';obtain ⟨y,hy,hsy0,hny⟩:=ih m2 (by omega) cs _ h2
      have hsy:Shs (Rows.uptoBulk z.1) y:=shs_mono (Nat.le_trans (Nat.le_trans (bulk_elem (List.mem_map.2 ⟨_,List.getElem_mem _,rfl⟩)) (Nat.le_of_eq (by rw [hz6]))) b6) y hsy0
      obtain ⟨hc1,hc2,h3⟩:=World.cells?_some h1;have hcl:cs.length=7:=by
       obtain ⟨_,_,_,_,hl7,_,_⟩:=DataW.trod_struct Tryz.underlying26 h2;rw [hl7,cells28']
      match cs,hcl with
      |[c0,c1,c2,c3,c4,c5,c6],_=>
       refine ⟨y,c0,c1,c2,c3,c4,c5,c6,fun j u hu=>?_,hy,hsy,hny⟩
       have hj:j<7:=(List.getElem?_eq_some_iff.1 hu).1
       rw [h3 j (by omega)]
       exact hu
     rcases Nat.eq_zero_or_pos l with rfl|hp
     ·refine ⟨.mk k n t.data.toList b e rs [],?_,by rw [Shs,Shs.ShsL];exact ⟨brs,trivial⟩,by rw [Rn,Rn.RnL];exact ⟨hn,trivial⟩⟩
      unfold RdI
      exact ⟨v5,_,by rw [et];rfl,hrs,some x,c,rfl,Nat.zero_le _,hm,fun h=>absurd rfl h⟩
     ·obtain ⟨bb,off,spot⟩:=x
      obtain ⟨_,q0,q1,q2,q3,q4,q5,q6,hc0,_⟩:=hcell 0 hp;have hspot:spot=none:=by simpa [Addr.add] using World.cell?_spot (hc0 0 _ rfl)
      subst hspot;obtain ⟨L,hL,hP⟩:=list_of (fun i (y:Ex)=>(∃ c0 c1 c2 c3 c4 c5 c6,KidI W y bb (off+i*7) c0 c1 c2 c3 c4 c5 c6)∧Shs (Rows.uptoBulk z.1) y∧Rn y) l (fun i hi=>by
       obtain ⟨y,c0,c1,c2,c3,c4,c5,c6,g,hy,hsy,hny⟩:=hcell i hi;have gg:∀ j u,([c0,c1,c2,c3,c4,c5,c6]:List Value)[j]?=some u→W.cell? ⟨bb,off+i*7+j,none⟩=some u:=fun j u hu=>by
        have:=g j u hu
        rw [add_plain,add_plain]at this;exact this
       exact ⟨y,⟨c0,c1,c2,c3,c4,c5,c6,gg 0 _ rfl,gg 1 _ rfl,gg 2 _ rfl,gg 3 _ rfl,gg 4 _ rfl,gg 5 _ rfl,gg 6 _ rfl,hy⟩,hsy,hny⟩)
      subst hL;refine ⟨.mk k n t.data.toList b e rs L,?_,by rw [Shs];exact ⟨brs,shsl_of L (fun i hi=>(hP i hi).2.1)⟩,by rw [Rn];exact ⟨hn,rnL_of fun y hy=>by obtain ⟨i,hi,e⟩:=List.getElem_of_mem hy;rw [←e];exact (hP i hi).2.2⟩⟩
      unfold RdI
      exact ⟨v5,_,by rw [et],hrs,some ⟨bb,off,none⟩,c,rfl,hle,hm,fun _=>⟨bb,off,rfl,rdil_of L bb off (fun i hi=>(hP i hi).1)⟩⟩
end Go.Proofs.YtoikodohcieipaaGreatDoor
