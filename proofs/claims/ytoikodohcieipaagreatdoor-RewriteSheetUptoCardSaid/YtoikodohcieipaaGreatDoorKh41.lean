/- counterpanelaw7.some, for ever. -/
import Derived.Test.YtoikodohcieipaaGreatDoorKh40
import Derived.Test.YtoikodohcieipaaGreatDoorKh37
import Derived.Test.YtoikodohcieipaaGreatDoorKh12
set_option linter.unusedVariables false
set_option linter.unusedSimpArgs false
set_option maxRecDepth 100000
set_option maxHeartbeats 8000000
namespace Go.Proofs.YtoikodohcieipaaGreatDoor
open Go.RowKit
theorem some_all(W0:World)(p:Nat)(hp0:W0.heap.size≤p):∀ (s:Nat) (x:Ex) (v:Value) (W:World) (d l:Nat),SizeOf.sizeOf x≤s→RdI W0 x v→Q W0 W→p<W.heap.size→W.cell? ⟨p,0,none⟩=some (.int .i64 (l:Int))→W.frozen? ⟨p,0,none⟩=false→1≤l→l≤220→d≤60→Calls Tryz.prog 22 #[v,.int .i64 (d:Int),.pointer (some ⟨p,0,none⟩)] W fun e W'=>RepS W0 p W (cutE x d l) e W':=by
 intro s
 induction s with
 |zero=>
  intro x v W d l hs
  cases x with
  |mk k n t b e rs ks=>simp at hs
 |succ s ih=>
  intro x v W d l hs hr hq hp hc hf h1 h2 hd
  cases x with
  |mk k n t b e rs ks=>
   unfold RdI at hr
   obtain ⟨rv',kv,hv,hsl,ao,cap,hk,hle,hmx,hkd⟩:=hr;obtain ⟨a1,c1,hrv,hl⟩:=hsl;have hsl':Sl rf 5 W0 (.slice a1 rs.length c1) rs:=⟨a1,c1,rfl,hl⟩
   subst hk hrv hv;have hstep:=some_step W0 p k n ⟨t.toArray⟩ b e rs ks a1 c1 ao cap W d l (hid hsl') (hid ⟨hle,hmx⟩) (hid hkd) (hid hq) hp0 hp hc hf h1 h2 hd
    (hid (fun i hi v W d l hr hq hp hc hf h1 h2 hd=>ih ks[i] v W d l (by have:=kid_size (k:=k) (n:=n) (t:=t) (b:=b) (e:=e) (rs:=rs) i hi;omega) hr hq hp hc hf h1 h2 hd))
   exact hstep
theorem cutx_any(x:Ex)(v:Value)(W0 W:World)(hr:RdI W0 x v)(hq0:Q W0 W):Calls Tryz.prog 9 #[v] W fun e W'=>∃ v',e=.returned v'∧Rdg (fun b=>b<W0.heap.size∨W.heap.size≤b) W' (cutE x 1 220).1 v'∧Q W W':=by
 have hw0:=hq0.size;have HS:=hid (fun p (hp:W0.heap.size≤p) V (q:Q W0 V) (hpv:p<V.heap.size) (hc:V.cell? ⟨p,0,none⟩=some (.int .i64 ((220:Nat):Int))) (hf:V.frozen? ⟨p,0,none⟩=false)=>some_all W0 p hp (SizeOf.sizeOf x) x v V 1 220 (Nat.le_refl _) hr q hpv hc hf (by omega) (by omega) (by omega))
 obtain ⟨k,n,t,b,e,a1,l1,c1,a2,l2,c2,rfl⟩:=hr.shape;clear hr;have t2:=tb_new (W.alloc (.cells #[.int .i64 k,.int .i64 n,.string t,.bool b,.int .i64 e,.slice a1 l1 c1,.slice a2 l2 c2] 26)) (.int .i64 0) (.int .i64 0) (.string ⟨#[]⟩) (.bool false) (.int .i64 0) (.slice none 0 0) (.slice none 0 0) 26;rw [show (W.alloc (.cells #[.int .i64 k,.int .i64 n,.string t,.bool b,.int .i64 e,.slice a1 l1 c1,.slice a2 l2 c2] 26)).heap.size=W.heap.size+1 by simp]at t2
 have T2:=hid (t2.on (p:=W.heap.size) ((Qx.refl _ _).alloc (.cells #[.int .i64 220] 3)) (by omega))
 clear t2;have hsz:(((W.alloc (.cells #[.int .i64 k,.int .i64 n,.string t,.bool b,.int .i64 e,.slice a1 l1 c1,.slice a2 l2 c2] 26)).alloc (.cells #[.int .i64 0,.int .i64 0,.string ⟨#[]⟩,.bool false,.int .i64 0,.slice none 0 0,.slice none 0 0] 26)).alloc (.cells #[.int .i64 220] 3)).heap.size=W.heap.size+3:=by simp
 have HV:=hid (HS.out (W.heap.size+1+1) (by omega) (((W.alloc (.cells #[.int .i64 k,.int .i64 n,.string t,.bool b,.int .i64 e,.slice a1 l1 c1,.slice a2 l2 c2] 26)).alloc (.cells #[.int .i64 0,.int .i64 0,.string ⟨#[]⟩,.bool false,.int .i64 0,.slice none 0 0,.slice none 0 0] 26)).alloc (.cells #[.int .i64 220] 3)) (((hq0.alloc _).alloc _).alloc _) (by rw [hsz];omega) (by
  have h:=(World.cell?_alloc_new ((W.alloc (.cells #[.int .i64 k,.int .i64 n,.string t,.bool b,.int .i64 e,.slice a1 l1 c1,.slice a2 l2 c2] 26)).alloc (.cells #[.int .i64 0,.int .i64 0,.string ⟨#[]⟩,.bool false,.int .i64 0,.slice none 0 0,.slice none 0 0] 26)) #[.int .i64 220] 3 0);simp only [World.alloc,Array.size_push]at h ⊢
  simpa using h) (by
  have h:=(World.frozen?_alloc_new ((W.alloc (.cells #[.int .i64 k,.int .i64 n,.string t,.bool b,.int .i64 e,.slice a1 l1 c1,.slice a2 l2 c2] 26)).alloc (.cells #[.int .i64 0,.int .i64 0,.string ⟨#[]⟩,.bool false,.int .i64 0,.slice none 0 0,.slice none 0 0] 26)) #[.int .i64 220] 3 0);simp only [World.alloc,Array.size_push]at h ⊢
  simpa using h))
 go_enter Tryz.func9,Tryz.ntmps9
 go_wp2_with (go_at_call 22;refine HV.out.mono ?_;rintro e8 w5 ⟨v8,rfl,hr8,q8,_,_⟩;obtain ⟨k8,m8,t8,bb8,er8,a18,l18,c18,a28,l28,c28,rfl⟩:=hr8.shape;have R8:=hid hr8;have Q8:=hid q8;have T8:=hid (T2.out.on q8 (by omega));clear hr8 q8;obtain ⟨z0,z1,z2,z3,z4,z5,z6,zf⟩:=T8.out;have y0:=zf 0;have y1:=zf 1;have y2:=zf 2;have y3:=zf 3;have y4:=zf 4;have y5:=zf 5;have y6:=zf 6;clear zf)
 refine bodyPost_ret (v:=.agg #[.int .i64 k8,.int .i64 m8,.string t8,.bool bb8,.int .i64 er8,.slice a18 l18 c18,.slice a28 l28 c28]) (by simp [results,Tryz.results9,go_sem,z0,z1,z2,z3,z4,z5,z6]) rfl ?_
 have QF:Qx (W.heap.size+1) w5 (((((((w5.setCell ⟨W.heap.size+1,0,none⟩ (.int .i64 k8)).setCell ⟨W.heap.size+1,1,none⟩ (.int .i64 m8)).setCell ⟨W.heap.size+1,2,none⟩ (.string t8)).setCell ⟨W.heap.size+1,3,none⟩ (.bool bb8)).setCell ⟨W.heap.size+1,4,none⟩ (.int .i64 er8)).setCell ⟨W.heap.size+1,5,none⟩ (.slice a18 l18 c18)).setCell ⟨W.heap.size+1,6,none⟩ (.slice a28 l28 c28)):=(((((((Qx.refl _ _).own _ _).own _ _).own _ _).own _ _).own _ _).own _ _).own _ _
 have hq5:Q W w5:=by
  have h:=Q8.out;refine ⟨h.os,h.tape,h.output,by have:=h.size;omega,fun i hi=>(h.block i (by omega) (fun e=>by have:=Option.some.inj e;omega)).trans ?_⟩
  exact Q.block ((((Q.refl W).alloc _).alloc _).alloc _) hi
 refine ⟨_,rfl,Rdg.mono (fun b hb=>by rw [hsz]at hb;omega) _ _ (Rdg.on QF (fun b hb=>by rw [hsz]at hb;omega) _ _ R8.out),?_⟩
 exact ⟨QF.os.trans hq5.os,QF.tape.trans hq5.tape,QF.output.trans hq5.output,Nat.le_trans hq5.size QF.size,fun i hi=>(QF.block i (Nat.lt_of_lt_of_le hi hq5.size) (fun e=>by have:=Option.some.inj e;omega)).trans (Q.block hq5 hi)⟩
theorem rd_rdi{W:World}:∀ (x:Ex) (v:Value),Rd W x v→RdI W x v
 |.mk k n t b e rs ks,v,h=>by
  unfold Rd at h
  unfold RdI
  obtain ⟨rv,kv,hv,hr,ao,cap,hk,h1,h2,h3⟩:=h;refine ⟨rv,kv,hv,hr,ao,cap,hk,h1,h2,fun hn=>?_⟩
  obtain ⟨b',off,ha,_,hl⟩:=h3 hn;exact ⟨b',off,ha,go ks b' off hl⟩
 where
 go {W:World}:∀ (ks:List Ex) (b off:Nat),Rd.RdL W ks b off→RdI.RdIL W ks b off
 |[],_,_,_=>by unfold RdI.RdIL;trivial
 |x::xs,b,off,h=>by
  unfold Rd.RdL at h
  unfold RdI.RdIL
  obtain ⟨⟨c0,c1,c2,c3,c4,c5,c6,g0,g1,g2,g3,g4,g5,g6,hx⟩,hr⟩:=h;exact ⟨⟨c0,c1,c2,c3,c4,c5,c6,g0,g1,g2,g3,g4,g5,g6,rd_rdi x _ hx⟩,go xs b (off+7) hr⟩
def RepT(W0 W:World)(y:Ex)(e:Ending)(W':World):Prop:=
 ∃ v,e=.returned v∧Rdg (fun b=>b<W0.heap.size∨W.heap.size≤b) W' y v∧Q W W'
theorem chg_no{hm on:List UInt8}{mb:Rf→Bool}{mr:Rf→Rf}{k n:Int}{t:List UInt8}{b:Bool}{e:Int}{rs:List Rf}{ks:List Ex}(hh:hit hm on rs=false):chg hm on mb mr (.mk k n t b e rs ks)=.mk k n t b e rs (ks.map (chg hm on mb mr)):=by
 rw [chg,hh,chgL_map,if_neg (by simp),if_neg (by simp)]
theorem chg_lost{hm on:List UInt8}{k n:Int}{t:List UInt8}{b:Bool}{e:Int}{rs:List Rf}{ks:List Ex}(hh:hit hm on rs=true):chg hm on noB noR (.mk k n t b e rs ks)=lostE:=by
 have:rs.all noB=false:=by
  cases rs with
  |nil=>simp [hit]at hh
  |cons r rs=>rfl
 rw [chg,hh,this,if_pos (by rfl)]
structure SJ (W0 W:World) (k n:Int) (T:ByteArray) (b:Bool) (e:Int) (rv:Value) (kv0:Value) (wr:World) (ks':List Ex) (Ls:List V7) (kv:Value):Prop where
 eb:wr.cell? ⟨W.heap.size,6,none⟩=some kv0
 rb:Tb wr (W.heap.size+1) (.int .i64 0) (.int .i64 0) (.string ⟨#[]⟩) (.bool false) (.int .i64 0) (.slice none 0 0) (.slice none 0 0)
 xb:Tb wr (W.heap.size+2) (.int .i64 k) (.int .i64 n) (.string T) (.bool b) (.int .i64 e) rv kv
 ow:Own enc7 26 7 (W.heap.size+3) wr kv Ls
 ln:ks'.length=Ls.length
 rd:∀ i (h:i<ks'.length) (h':i<Ls.length),Rdg (fun b=>(b<W0.heap.size∨W.heap.size+3≤b)∧kv.ownBlock≠some b) wr ks'[i] (agg7 Ls[i])
 qx:Qx (W.heap.size+2) W wr
 sz:W.heap.size+3≤wr.heap.size
theorem SJ.q{W0 W:World}{k n:Int}{T:ByteArray}{b:Bool}{e:Int}{rv kv0:Value}{wr:World}{ks':List Ex}{Ls:List V7}{kv:Value}(h:SJ W0 W k n T b e rv kv0 wr ks' Ls kv):Q W wr:=q_over (Q.refl W) h.qx (by omega)
theorem SJ.call{W0 W:World}{k n:Int}{T:ByteArray}{b:Bool}{e:Int}{rv kv0:Value}{wr w8:World}{ks':List Ex}{Ls:List V7}{kv:Value}(h:SJ W0 W k n T b e rv kv0 wr ks' Ls kv)(hw:W0.heap.size≤W.heap.size)(q:Q wr w8):SJ W0 W k n T b e rv kv0 w8 ks' Ls kv:=by
 have hs:=h.sz;refine ⟨(q.cell (by omega)).trans h.eb,h.rb.on (Qx.of (p:=W.heap.size) q) (by omega),h.xb.on (Qx.of (p:=W.heap.size) q) (by omega),h.ow.on q,h.ln,fun i h1 h2=>Rdg.on (Qx.of (p:=W.heap.size+2) q) (fun b hb=>by omega) _ _ (h.rd i h1 h2),h.qx.trans (Qx.of q),Nat.le_trans hs q.size⟩
theorem SJ.app{W0 W:World}{k n:Int}{T:ByteArray}{b:Bool}{e:Int}{rv kv0:Value}{wr w8 w9:World}{ks':List Ex}{Ls:List V7}{kv v9:Value}(h:SJ W0 W k n T b e rv kv0 w8 ks' Ls kv)(hw:W0.heap.size≤W.heap.size)
  (hwr:W.heap.size+3≤wr.heap.size) (hlt:∀ j,kv.ownBlock=some j→j<wr.heap.size) (y:Ex) (x:V7) (R8:Rdg (fun b=>b<W0.heap.size∨wr.heap.size≤b) w8 y (agg7 x)) (o1:Obj) (hgrow:(w8.alloc o1).grownBy w9 kv.ownBlock) (ow9:Own enc7 26 7 (W.heap.size+3) w9 v9 (Ls++[x])) (hat:v9.ownBlock=kv.ownBlock∨v9.ownBlock=some (w8.alloc o1).heap.size) :
  SJ W0 W k n T b e rv kv0 (w9.setCell ⟨W.heap.size+2,6,none⟩ v9) (ks'++[y]) (Ls++[x]) v9:=by
 have hs:=h.sz;have hsA:(w8.alloc o1).heap.size=w8.heap.size+1:=by simp
 obtain ⟨r9,Qr,hr9,hro⟩:=grown_qx (n:=W.heap.size+3) hgrow (by omega) h.ow.blk
 have QA:∀ r,Qx r w8 (w8.alloc o1):=fun r=>(Qx.refl r _).alloc _
 have QS:Qx (W.heap.size+2) w9 (w9.setCell ⟨W.heap.size+2,6,none⟩ v9):=(Qx.refl _ _).own 6 v9
 have hs9:w8.heap.size+1≤w9.heap.size:=by have:=Qr.size;omega
 have hlk:=h.ow.lt;have hob:∀ j,v9.ownBlock=some j→W.heap.size+3≤j:=ow9.blk
 have X9:=((h.xb.on (QA (W.heap.size+1)) (by omega)).on Qr (by omega)).put6 v9
 refine ⟨?_,((h.rb.on (QA W.heap.size) (by omega)).on Qr (by omega)).on QS (by omega),X9,ow9.grown QS (.inr fun e=>by have:=hob _ e;omega),by simp [h.ln],?_,?_,?_⟩
 ·rw [QS.cell (by omega) (by omega),Qr.cell (by omega) (by omega),(QA (W.heap.size+1)).cell (by omega) (by omega)]
  exact h.eb
 ·have fin:∀ {z:Ex} {v:Value} {gg:Nat→Prop},(∀ b,gg b→(b<W0.heap.size∨W.heap.size+3≤b)∧kv.ownBlock≠some b∧b<w8.heap.size)→Rdg gg w8 z v→Rdg (fun b=>(b<W0.heap.size∨W.heap.size+3≤b)∧v9.ownBlock≠some b) (w9.setCell ⟨W.heap.size+2,6,none⟩ v9) z v:=by
   intro z v gg hg hz
   refine Rdg.mono (fun b hb=>⟨(hg b hb).1,fun e=>?_⟩) _ _ (Rdg.on QS (fun b hb=>by have:=(hg b hb).1;omega) _ _ (Rdg.on Qr (fun b hb e=>?_) _ _ (Rdg.on (QA (W.heap.size+2)) (fun b hb=>by have:=(hg b hb).1;omega) _ _ hz)))
   ·subst e
    rcases hro with e'|e'
    ·exact (hg _ hb).2.1 e'
    ·have:=(hg _ hb).2.2;omega
   ·rcases hat with e'|e'
    ·rw [e']at e;exact (hg b hb).2.1 e
    ·rw [e']at e
     have:=Option.some.inj e
     have:=(hg b hb).2.2
     omega
  intro i h1 h2
  by_cases hi:i<ks'.length
  ·have hi':i<Ls.length:=by rw [←h.ln];exact hi
   rw [List.getElem_append_left hi,List.getElem_append_left hi'];exact fin (gg:=fun b=>((b<W0.heap.size∨W.heap.size+3≤b)∧kv.ownBlock≠some b)∧b<w8.heap.size) (fun b hb=>⟨hb.1.1,hb.1.2,hb.2⟩) (Rdg.in _ _ (h.rd i hi hi'))
  ·have e:i=ks'.length:=by simp at h1;omega
   subst e;rw [List.getElem_append_right (by omega),List.getElem_append_right (by rw [h.ln];omega)]
   simp only [h.ln,Nat.sub_self,List.getElem_cons_zero]
   refine fin (gg:=fun b=>(b<W0.heap.size∨wr.heap.size≤b)∧b<w8.heap.size) (fun b hb=>⟨by omega,fun e=>?_,hb.2⟩) (Rdg.in _ _ R8)
   have h3:=hlt _ e;have h4:=h.ow.blk _ e;omega
 ·exact ((h.qx.trans (QA _)).via Qr (by omega)).via QS (by omega)
 ·have:(w9.setCell ⟨W.heap.size+2,6,none⟩ v9).heap.size=w9.heap.size:=by simp [World.setCell]
  omega
theorem sj_start{W0 W:World}(c0 c1 c2 c3 c4 c5 kv0:Value)(k n:Int)(T:ByteArray)(b:Bool)(e:Int)(rv:Value) :
  SJ W0 W k n T b e rv kv0 (((W.alloc (.cells #[c0,c1,c2,c3,c4,c5,kv0] 26)).alloc (.cells #[.int .i64 0,.int .i64 0,.string ⟨#[]⟩,.bool false,.int .i64 0,.slice none 0 0,.slice none 0 0] 26)).alloc (.cells #[.int .i64 k,.int .i64 n,.string T,.bool b,.int .i64 e,rv,.slice none 0 0] 26)) [] [] (.slice none 0 0):=by
 have A:∀ (V:World) (o:Obj) (r:Nat),Qx r V (V.alloc o):=fun V o r=>(Qx.refl r V).alloc o
 have t1:=tb_new W c0 c1 c2 c3 c4 c5 kv0 26;have t2:=tb_new (W.alloc (.cells #[c0,c1,c2,c3,c4,c5,kv0] 26)) (.int .i64 0) (.int .i64 0) (.string ⟨#[]⟩) (.bool false) (.int .i64 0) (.slice none 0 0) (.slice none 0 0) 26;have t3:=tb_new ((W.alloc (.cells #[c0,c1,c2,c3,c4,c5,kv0] 26)).alloc (.cells #[.int .i64 0,.int .i64 0,.string ⟨#[]⟩,.bool false,.int .i64 0,.slice none 0 0,.slice none 0 0] 26)) (.int .i64 k) (.int .i64 n) (.string T) (.bool b) (.int .i64 e) rv (.slice none 0 0) 26;rw [show (W.alloc (.cells #[c0,c1,c2,c3,c4,c5,kv0] 26)).heap.size=W.heap.size+1 by simp]at t2
 rw [show ((W.alloc (.cells #[c0,c1,c2,c3,c4,c5,kv0] 26)).alloc (.cells #[.int .i64 0,.int .i64 0,.string ⟨#[]⟩,.bool false,.int .i64 0,.slice none 0 0,.slice none 0 0] 26)).heap.size=W.heap.size+2 by simp]at t3
 exact ⟨((t1.on (A _ _ (W.heap.size+1)) (by omega)).on (A _ _ (W.heap.size+1)) (by omega)).g6,t2.on (A _ _ W.heap.size) (by omega),t3,own_nil _,rfl,fun i h=>absurd h (by simp),(((Qx.refl _ _).alloc _).alloc _).alloc _,by simp⟩
theorem sj_end{W0 W:World}{k n:Int}{t:List UInt8}{T:ByteArray}{b:Bool}{e:Int}{a1:Option Addr}{m c1:Nat}{kv0:Value}{wr:World}{ks2:List Ex}{Ls:List V7}{kv:Value}{rs:List Rf}(h:SJ W0 W k n T b e (.slice a1 m c1) kv0 wr ks2 Ls kv)(hT:T.data.toList=t)(hw:W0.heap.size≤W.heap.size)
  (hs:Slg (fun b=>b<W0.heap.size) wr (.slice a1 m c1) rs) :
  RepT W0 W (.mk k n t b e rs ks2) (.returned (.agg #[.int .i64 k,.int .i64 n,.string T,.bool b,.int .i64 e,.slice a1 m c1,kv]))
   (((((((wr.setCell ⟨W.heap.size+1,0,none⟩ (.int .i64 k)).setCell ⟨W.heap.size+1,1,none⟩ (.int .i64 n)).setCell ⟨W.heap.size+1,2,none⟩ (.string T)).setCell ⟨W.heap.size+1,3,none⟩ (.bool b)).setCell ⟨W.heap.size+1,4,none⟩ (.int .i64 e)).setCell ⟨W.heap.size+1,5,none⟩ (.slice a1 m c1)).setCell ⟨W.heap.size+1,6,none⟩ kv):=by
 have QF:Qx (W.heap.size+1) wr (((((((wr.setCell ⟨W.heap.size+1,0,none⟩ (.int .i64 k)).setCell ⟨W.heap.size+1,1,none⟩ (.int .i64 n)).setCell ⟨W.heap.size+1,2,none⟩ (.string T)).setCell ⟨W.heap.size+1,3,none⟩ (.bool b)).setCell ⟨W.heap.size+1,4,none⟩ (.int .i64 e)).setCell ⟨W.heap.size+1,5,none⟩ (.slice a1 m c1)).setCell ⟨W.heap.size+1,6,none⟩ kv):=(((((((Qx.refl _ _).own _ _).own _ _).own _ _).own _ _).own _ _).own _ _).own _ _
 have hkb:=h.ow.blk;refine ⟨_,rfl,?_,q_over h.q QF (by omega)⟩
 refine rdg_mk k n hT b e ((hs.on QF (fun b hb=>by omega)).mono (fun b hb=>.inl hb)) (h.ow.grown QF (.inr fun e=>by have:=hkb _ e;omega)) h.ln (fun j hj=>.inr (by have:=hkb _ hj;omega)) (fun i h1 h2=>?_)
 exact Rdg.mono (fun b hb=>by omega) _ _ (Rdg.on QF (fun b hb=>by omega) _ _ (h.rd i h1 h2))
theorem lost_any(W:World):Calls Tryz.prog 33 #[] W fun e W'=>e=.returned (.agg #[.int .i64 4,.int .i64 0,.string ⟨#[]⟩,.bool false,.int .i64 1,.slice none 0 0,.slice none 0 0])∧Q W W':=by
 go_enter Tryz.func33,Tryz.ntmps33
 go_wp2_with fail
 refine bodyPost_ret (v:=.agg #[.int .i64 4,.int .i64 0,.string ⟨#[]⟩,.bool false,.int .i64 1,.slice none 0 0,.slice none 0 0]) (by simp [results,Tryz.results33,go_sem]) rfl ?_
 exact ⟨rfl,by repeat (first|with_reducible exact Q.refl _|with_reducible refine Q.alloc ?_ _)⟩
theorem lost_rdg(g:Nat→Prop)(W:World):Rdg g W lostE (.agg #[.int .i64 4,.int .i64 0,.string ⟨#[]⟩,.bool false,.int .i64 1,.slice none 0 0,.slice none 0 0]):=by
 unfold lostE Rdg
 exact ⟨_,_,rfl,⟨none,0,rfl,Nat.le_refl _,Nat.zero_le _,fun h=>absurd h (by simp)⟩,none,0,rfl,Nat.le_refl _,Nat.zero_le _,fun h=>absurd rfl h⟩
theorem rsh_no(W0:World)(home gone:ByteArray)(k n:Int)(t:ByteArray)(b:Bool)(e:Int)(rs:List Rf)(ks:List Ex)(a1:Option Addr)(c1:Nat)(ao:Option Addr)(cap:Nat)(W:World)
  (hsl:Hid (Sl rf 5 W0 (.slice a1 rs.length c1) rs)) (hcap:Hid (ks.length≤cap∧cap≤maxLen)) (hkd:Hid (ks≠[]→∃ b' off,ao=some ⟨b',off,none⟩∧RdI.RdIL W0 ks b' off))
  (hq:Hid (Q W0 W)) (hkl:ks.length≤1000)
  (IH:Hid (∀ i (hi:i<ks.length) (v:Value) (W:World),RdI W0 ks[i] v→Q W0 W→Calls Tryz.prog 19 #[v,.string home,.string gone] W fun e W'=>RepT W0 W (chg home.data.toList gone.data.toList noB noR ks[i]) e W'))
  (hrs:rs.length=0) (HHT:Hid (hit home.data.toList gone.data.toList rs=false)) :
  Calls Tryz.prog 19 #[.agg #[.int .i64 k,.int .i64 n,.string t,.bool b,.int .i64 e,.slice a1 rs.length c1,.slice ao ks.length cap],.string home,.string gone] W fun e' W'=>RepT W0 W (chg home.data.toList gone.data.toList noB noR (.mk k n t.data.toList b e rs ks)) e' W':=by
 have hr0:¬ (0:Int)<(rs.length:Int):=by omega
 have hrl:(rs.length:Int)=0:=by omega
 clear hrs;have HSg:Hid (∀ V,Q W0 V→Slg (fun b=>b<W0.heap.size) V (.slice a1 rs.length c1) rs):=hid (fun V q=>slg_in hsl.out q)
 have hw0:W0.heap.size≤W.heap.size:=hq.out.size
 go_enter Tryz.func19,Tryz.ntmps19
 go_wp2_with fail
 obtain ⟨V0,hV0⟩:∃ V0,V0=(((W.alloc (.cells #[.int .i64 k,.int .i64 n,.string t,.bool b,.int .i64 e,.slice a1 rs.length c1,.slice ao ks.length cap] 26)).alloc (.cells #[.int .i64 0,.int .i64 0,.string ⟨#[]⟩,.bool false,.int .i64 0,.slice none 0 0,.slice none 0 0] 26)).alloc (.cells #[.int .i64 k,.int .i64 n,.string t,.bool b,.int .i64 e,.slice a1 rs.length c1,.slice none 0 0] 26)):=⟨_,rfl⟩;have HI0:Hid (SJ W0 W k n t b e (.slice a1 rs.length c1) (.slice ao ks.length cap) V0 [] [] (.slice none 0 0)):=by
  rw [hV0];exact sj_start _ _ _ _ _ _ _ _ _ _ _ _ _
 rw [←hV0];clear hV0;go_loopw [8] (fun z wr=>∃ (i:Nat) (ks2:List Ex) (Ls:List V7) (kv:Value),i≤ks.length∧z=.int .i64 (i:Int)∧SJ W0 W k n t b e (.slice a1 rs.length c1) (.slice ao ks.length cap) wr ks2 Ls kv∧Hid (ks2=(ks.take i).map (chg home.data.toList gone.data.toList noB noR))∧Hid (Ls.length≤i)) (fun z _=>ks.length-(intOf z).toNat)
 case atStart=>exact ⟨0,[],[],_,Nat.zero_le _,rfl,HI0.out,hid (by simp),hid (by simp)⟩
 case round=>
  obtain ⟨i,ks2,Ls,kv,hi,rfl,hS,HC,HLN⟩:=hrel;clear HI0;have HS:=hid hS;have e6:=hS.eb;have hsz:=hS.sz;have HQ0:Hid (Q W0 wr):=hid (hq.out.trans hS.q)
  have hroom:ks.length≤9223372036854775807:=by omega
  by_cases hlt:i<ks.length
  ·have i1:(i:Int)<(ks.length:Int):=by omega
   have hne:ks≠[]:=by intro h;rw [h]at hlt;simp at hlt
   obtain ⟨bb,off,rfl,hrl⟩:=hkd.out hne;obtain ⟨d0,d1,d2,d3,d4,d5,d6,hk0⟩:=hrl.kid i hlt;obtain ⟨g0,g1,g2,g3,g4,g5,g6⟩:=hk0.cells HQ0.out;have x6:wr.cell? ⟨W.heap.size+1+1,6,none⟩=some kv:=hS.xb.g6
   have HKP:Hid (∀ V,Q wr V→(V.cell? ⟨W.heap.size,6,none⟩=some (.slice (some ⟨bb,off,none⟩) ks.length cap)∧V.cell? ⟨W.heap.size+1+1,6,none⟩=some kv∧V.cell? ⟨bb,off+i*7,none⟩=some d0∧V.cell? ⟨bb,off+i*7+1,none⟩=some d1∧V.cell? ⟨bb,off+i*7+2,none⟩=some d2∧V.cell? ⟨bb,off+i*7+3,none⟩=some d3∧V.cell? ⟨bb,off+i*7+4,none⟩=some d4∧V.cell? ⟨bb,off+i*7+5,none⟩=some d5∧V.cell? ⟨bb,off+i*7+6,none⟩=some d6)):=hid (fun V q=>ks_on q ⟨e6,x6,g0,g1,g2,g3,g4,g5,g6⟩)
   have HIK:Hid (∀ V,Q wr V→Calls Tryz.prog 19 #[.agg #[d0,d1,d2,d3,d4,d5,d6],.string home,.string gone] V fun e W'=>RepT W0 V (chg home.data.toList gone.data.toList noB noR ks[i]) e W'):=hid (fun V q=>IH.out i hlt (.agg #[d0,d1,d2,d3,d4,d5,d6]) V hk0.rd (HQ0.out.trans q))
   have hbb:bb<W0.heap.size:=World.block_lt_of_cell? W0 ⟨bb,off+i*7,none⟩ hk0.g0
   have hkb:=HS.out.ow.blk;have hkE:some W.heap.size≠kv.ownBlock:=fun e=>by have:=hkb _ e.symm;omega
   have hkX:some (W.heap.size+1+1)≠kv.ownBlock:=fun e=>by have:=hkb _ e.symm;omega
   have hkB:some bb≠kv.ownBlock:=fun e=>by have:=hkb _ e.symm;omega
   have hLL:Ls.length≤1000:=by have:=HLN.out;omega
   obtain ⟨i0,hi0,hz0,hz1,hz2⟩:=inf_of info28;obtain ⟨s1,s2,s3,s4,s5,s6,s7,s8,s9,s10,s11,hsh⟩:=hk0.rd.shape;simp only [Value.agg.injEq,Array.mk.injEq,List.cons.injEq,and_true]at hsh
   obtain ⟨rfl,rfl,rfl,rfl,rfl,rfl,rfl⟩:=hsh;clear hS;go_wp2_with fail
   go_region_law (first|(refine step_append_lies _ (by rfl) _ _ _ (by rfl) (W.heap.size+3) 26 i0 (.agg #[.int .i64 0,.int .i64 0,.string ⟨#[]⟩,.bool false,.int .i64 0,.slice none 0 0,.slice none 0 0]) 7 96 Tryz.underlying24 hi0 hz0 hz1 hz2 rfl (by decide) kv Ls.length (flat enc7 Ls) (by rfl) (((HS.out.ow.on Q8.out).alloc _).on (by repeat (first|with_reducible exact Q.refl _|with_reducible refine Q.drewN ?_ _|with_reducible refine Q.drew ?_))) ⟨w8.heap.size,0,none⟩ 1 1 [.int .i64 k8,.int .i64 m8,.string t8,.bool bb8,.int .i64 er8,.slice a18 l18 c18,.slice a28 l28 c28] (by rfl) (by rfl) (World.news_of_block (cs:=#[.int .i64 k8,.int .i64 m8,.string t8,.bool bb8,.int .i64 er8,.slice a18 l18 c18,.slice a28 l28 c28]) (t:=26) (fr:=(0,0)) (MapKept.heap_alloc w8 _).1) (one7 _ _ _ _ _ _ _ _ _ _ _) (by omega) (by unfold maxLen;omega) (by omega) (by simp;omega) (w8.heap.size+1) (by simp) ?_;intro g9 cap9 w9 hown9 hgrow9 hat9 hlt9;have HZ9:=hid hown9;have HG9:=hid hgrow9;have HA9:=hid hat9;have HK9:=hid (ks_grown hgrow9 hkE hkX hkB (HK8.out _ ((Q.refl _).alloc _)));have x69:w9.cell? ⟨W.heap.size+1+1,6,none⟩=some kv:=HK9.out.2.1;have f69:w9.frozen? ⟨W.heap.size+1+1,6,none⟩=false:=(hgrow9.frozen_far ⟨W.heap.size+1+1,6,none⟩ (by simp;omega) hkX).trans ((T8.out.on ((Qx.refl W.heap.size _).alloc _) (by omega)).f 6);clear hown9 hgrow9 hat9)|(go_simp;refine (HIK.out _ (by repeat (first|with_reducible exact Q.refl _|with_reducible refine Q.drewN ?_ _|with_reducible refine Q.drew ?_))).mono ?_;rintro e8 w8 ⟨v8,rfl,hr8,q8⟩;obtain ⟨k8,m8,t8,bb8,er8,a18,l18,c18,a28,l28,c28,rfl⟩:=hr8.shape;have R8:=hid (Rdg.mono (g':=fun b=>b<W0.heap.size∨wr.heap.size≤b) (fun b hb=>hb) _ _ hr8);have Q8:Hid (Q wr w8):=hid (Q.trans (by repeat (first|with_reducible exact Q.refl _|with_reducible refine Q.drewN ?_ _|with_reducible refine Q.drew ?_)) q8);have HK8:Hid (∀ V,Q w8 V→_):=hid (fun V q=>HKP.out V (Q8.out.trans q));have T8:=hid (HS.out.xb.on (Qx.of (p:=W.heap.size) Q8.out) (by omega));obtain ⟨y1,y2,y3,y4,y5,y6,y7,y8,y9⟩:=HK8.out _ (Q.refl _);have hw8:wr.heap.size≤w8.heap.size:=Q8.out.size;have hlx:W.heap.size+1+1<w8.heap.size:=(by omega);have hlE:W.heap.size<w8.heap.size:=(by omega);clear hr8 q8))
   all_goals go_wp2_with fail
   all_goals go_roundw
   all_goals first
    |(simp [intOf];omega)
    |exact ⟨i+1,ks2++[chg home.data.toList gone.data.toList noB noR ks[i]],Ls++[⟨.int .i64 k8,.int .i64 m8,.string t8,.bool bb8,.int .i64 er8,.slice a18 l18 c18,.slice a28 l28 c28⟩],.slice (some ⟨g9,0,none⟩) (Ls.length+1) cap9,by omega,by go_num,(HS.out.call hw0 Q8.out).app hw0 hsz HS.out.ow.lt _ ⟨.int .i64 k8,.int .i64 m8,.string t8,.bool bb8,.int .i64 er8,.slice a18 l18 c18,.slice a28 l28 c28⟩ R8.out _ HG9.out (own_snoc' (x:=(⟨.int .i64 k8,.int .i64 m8,.string t8,.bool bb8,.int .i64 er8,.slice a18 l18 c18,.slice a28 l28 c28⟩:V7)) HZ9.out rfl) (lies_of HA9.out (by simp)),hid (by rw [HC.out,List.take_succ_eq_append_getElem hlt,List.map_append];rfl),hid (by have:=HLN.out;simp;omega)⟩
  ·obtain ⟨ak,ck,hkv,_⟩:=(hS.ow.sl enc7_len (by have:=HLN.out;omega)).len
   subst hkv;have HF:Hid (chg home.data.toList gone.data.toList noB noR (.mk k n t.data.toList b e rs ks)=.mk k n t.data.toList b e rs ks2):=hid (by rw [chg_no HHT.out,HC.out,List.take_of_length_le (by omega)])
   have x0:wr.cell? ⟨W.heap.size+1+1,0,none⟩=some (.int .i64 k):=hS.xb.g0
   have x1:wr.cell? ⟨W.heap.size+1+1,1,none⟩=some (.int .i64 n):=hS.xb.g1
   have x2:wr.cell? ⟨W.heap.size+1+1,2,none⟩=some (.string t):=hS.xb.g2
   have x3:wr.cell? ⟨W.heap.size+1+1,3,none⟩=some (.bool b):=hS.xb.g3
   have x4:wr.cell? ⟨W.heap.size+1+1,4,none⟩=some (.int .i64 e):=hS.xb.g4
   have x5:wr.cell? ⟨W.heap.size+1+1,5,none⟩=some (.slice a1 rs.length c1):=hS.xb.g5
   have x6:wr.cell? ⟨W.heap.size+1+1,6,none⟩=some (.slice ak Ls.length ck):=hS.xb.g6
   have z0:wr.cell? ⟨W.heap.size+1,0,none⟩=some (.int .i64 0):=hS.rb.g0
   have y0:wr.frozen? ⟨W.heap.size+1,0,none⟩=false:=hS.rb.f 0
   have z1:wr.cell? ⟨W.heap.size+1,1,none⟩=some (.int .i64 0):=hS.rb.g1
   have y1:wr.frozen? ⟨W.heap.size+1,1,none⟩=false:=hS.rb.f 1
   have z2:wr.cell? ⟨W.heap.size+1,2,none⟩=some (.string ⟨#[]⟩):=hS.rb.g2
   have y2:wr.frozen? ⟨W.heap.size+1,2,none⟩=false:=hS.rb.f 2
   have z3:wr.cell? ⟨W.heap.size+1,3,none⟩=some (.bool false):=hS.rb.g3
   have y3:wr.frozen? ⟨W.heap.size+1,3,none⟩=false:=hS.rb.f 3
   have z4:wr.cell? ⟨W.heap.size+1,4,none⟩=some (.int .i64 0):=hS.rb.g4
   have y4:wr.frozen? ⟨W.heap.size+1,4,none⟩=false:=hS.rb.f 4
   have z5:wr.cell? ⟨W.heap.size+1,5,none⟩=some (.slice none 0 0):=hS.rb.g5
   have y5:wr.frozen? ⟨W.heap.size+1,5,none⟩=false:=hS.rb.f 5
   have z6:wr.cell? ⟨W.heap.size+1,6,none⟩=some (.slice none 0 0):=hS.rb.g6
   have y6:wr.frozen? ⟨W.heap.size+1,6,none⟩=false:=hS.rb.f 6
   have i1:¬ (i:Int)<(ks.length:Int):=by omega
   clear HC hS;go_wp2_with fail
   refine bodyPost_ret (v:=.agg #[.int .i64 k,.int .i64 n,.string t,.bool b,.int .i64 e,.slice a1 rs.length c1,.slice ak Ls.length ck]) (by simp [results,Tryz.results19,go_sem,z0,z1,z2,z3,z4,z5,z6]) rfl ?_
   rw [HF.out];exact sj_end HS.out rfl hw0 (HSg.out _ HQ0.out)
theorem rsh_hit(W0:World)(home gone:ByteArray)(k n:Int)(t:ByteArray)(b:Bool)(e:Int)(rs:List Rf)(ks:List Ex)(a1:Option Addr)(c1:Nat)(ao:Option Addr)(cap:Nat)(W:World)
  (hsl:Hid (Sl rf 5 W0 (.slice a1 rs.length c1) rs)) (hcap:Hid (ks.length≤cap∧cap≤maxLen)) (hkd:Hid (ks≠[]→∃ b' off,ao=some ⟨b',off,none⟩∧RdI.RdIL W0 ks b' off))
  (hq:Hid (Q W0 W)) (hkl:ks.length≤1000)
  (IH:Hid (∀ i (hi:i<ks.length) (v:Value) (W:World),RdI W0 ks[i] v→Q W0 W→Calls Tryz.prog 19 #[v,.string home,.string gone] W fun e W'=>RepT W0 W (chg home.data.toList gone.data.toList noB noR ks[i]) e W'))
  (r0:Rf) (rs':List Rf) (HRS:Hid (rs=r0::rs')) (hne:r0.1=gone.data.toList) (HHT:Hid (hit home.data.toList gone.data.toList rs=true)) :
  Calls Tryz.prog 19 #[.agg #[.int .i64 k,.int .i64 n,.string t,.bool b,.int .i64 e,.slice a1 rs.length c1,.slice ao ks.length cap],.string home,.string gone] W fun e' W'=>RepT W0 W (chg home.data.toList gone.data.toList noB noR (.mk k n t.data.toList b e rs ks)) e' W':=by
 obtain ⟨_,cr,hrv,hr1,hr2,hr3⟩:=hsl.out;simp only [Value.slice.injEq]at hrv
 obtain ⟨rfl,_,rfl⟩:=hrv;have hpos:(0:Int)<(rs.length:Int):=by rw [HRS.out,List.length_cons];omega
 obtain ⟨rb,ro,rfl,hat0⟩:=hr3 (by omega)
 have hs0:W0.cell? ⟨rb,ro,none⟩=some (.string ⟨r0.1.toArray⟩):=by
  have h0:=hat0 0 (by omega) 0 (.string ⟨r0.1.toArray⟩) (by
   have:rs[0]'(by omega)=r0:=by
    have h:=HRS.out;subst h
    rfl
   rw [this]
   rfl)
  simpa using h0
 have hrb0:rb<W0.heap.size:=World.block_lt_of_cell? W0 ⟨rb,ro,none⟩ hs0
 have hs1:W.cell? ⟨rb,ro,none⟩=some (.string ⟨r0.1.toArray⟩):=(hq.out.cell hrb0).trans hs0
 have hrb:rb<W.heap.size:=World.block_lt_of_cell? W ⟨rb,ro,none⟩ hs1
 have hrn:rb≠W.heap.size:=by omega
 have hrn1:rb≠W.heap.size+1:=by omega
 have hrroom:rs.length≤9223372036854775807:=by unfold maxLen at hr2;omega
 obtain ⟨T,hT⟩:∃ T,r0.1=T:=⟨_,rfl⟩;rw [hT]at hs1;clear hr3 hat0 hs0;rw [hT]at hne;have hf1:(T == gone.toList)=true:=by rw [(hid (toL gone)).out,hne];exact beq_self_eq_true _
 clear hT hne;have HLO:=hid (fun W=>lost_any W)
 have HW:Hid (chg home.data.toList gone.data.toList noB noR (.mk k n t.data.toList b e rs ks)=lostE):=hid (chg_lost HHT.out)
 go_enter Tryz.func19,Tryz.ntmps19
 go_wp2_with (go_at_call 33;refine (HLO.out _).mono ?_;rintro e9 w9 ⟨rfl,q9⟩;have Q9:Hid (Q W w9):=hid ((((Q.refl _).alloc _).alloc _).trans q9);have T9:=hid (((tb_new (W.alloc (.cells #[.int .i64 k,.int .i64 n,.string t,.bool b,.int .i64 e,.slice (some ⟨rb,ro,none⟩) rs.length c1,.slice ao ks.length cap] 26)) (.int .i64 0) (.int .i64 0) (.string ⟨#[]⟩) (.bool false) (.int .i64 0) (.slice none 0 0) (.slice none 0 0) 26)).on (Qx.of (p:=W.heap.size) q9) (by simp));simp only [World.size_alloc]at T9;clear q9;obtain ⟨z0,z1,z2,z3,z4,z5,z6,zf⟩:=T9.out;have y0:=zf 0;have y1:=zf 1;have y2:=zf 2;have y3:=zf 3;have y4:=zf 4;have y5:=zf 5;have y6:=zf 6;clear zf)
 refine bodyPost_ret (v:=.agg #[.int .i64 4,.int .i64 0,.string ⟨#[]⟩,.bool false,.int .i64 1,.slice none 0 0,.slice none 0 0]) (by simp [results,Tryz.results19,go_sem,z0,z1,z2,z3,z4,z5,z6]) rfl ?_
 rw [HW.out];refine ⟨_,rfl,lost_rdg _ _,?_⟩
 refine q_over (p:=W.heap.size+1) Q9.out ?_ (by omega)
 exact (((((((Qx.refl _ _).own _ _).own _ _).own _ _).own _ _).own _ _).own _ _).own _ _
theorem rsh_home(W0:World)(home gone:ByteArray)(k n:Int)(t:ByteArray)(b:Bool)(e:Int)(rs:List Rf)(ks:List Ex)(a1:Option Addr)(c1:Nat)(ao:Option Addr)(cap:Nat)(W:World)
  (hsl:Hid (Sl rf 5 W0 (.slice a1 rs.length c1) rs)) (hcap:Hid (ks.length≤cap∧cap≤maxLen)) (hkd:Hid (ks≠[]→∃ b' off,ao=some ⟨b',off,none⟩∧RdI.RdIL W0 ks b' off))
  (hq:Hid (Q W0 W)) (hkl:ks.length≤1000)
  (IH:Hid (∀ i (hi:i<ks.length) (v:Value) (W:World),RdI W0 ks[i] v→Q W0 W→Calls Tryz.prog 19 #[v,.string home,.string gone] W fun e W'=>RepT W0 W (chg home.data.toList gone.data.toList noB noR ks[i]) e W'))
  (r0:Rf) (rs':List Rf) (HRS:Hid (rs=r0::rs')) (h0:r0.1=[]) (hg:gone.data.toList≠[]) (hne:home.data.toList=gone.data.toList) (HHT:Hid (hit home.data.toList gone.data.toList rs=true)) :
  Calls Tryz.prog 19 #[.agg #[.int .i64 k,.int .i64 n,.string t,.bool b,.int .i64 e,.slice a1 rs.length c1,.slice ao ks.length cap],.string home,.string gone] W fun e' W'=>RepT W0 W (chg home.data.toList gone.data.toList noB noR (.mk k n t.data.toList b e rs ks)) e' W':=by
 obtain ⟨_,cr,hrv,hr1,hr2,hr3⟩:=hsl.out;simp only [Value.slice.injEq]at hrv
 obtain ⟨rfl,_,rfl⟩:=hrv;have hpos:(0:Int)<(rs.length:Int):=by rw [HRS.out,List.length_cons];omega
 obtain ⟨rb,ro,rfl,hat0⟩:=hr3 (by omega)
 have hs0:W0.cell? ⟨rb,ro,none⟩=some (.string ⟨r0.1.toArray⟩):=by
  have h0:=hat0 0 (by omega) 0 (.string ⟨r0.1.toArray⟩) (by
   have:rs[0]'(by omega)=r0:=by
    have h:=HRS.out;subst h
    rfl
   rw [this]
   rfl)
  simpa using h0
 have hrb0:rb<W0.heap.size:=World.block_lt_of_cell? W0 ⟨rb,ro,none⟩ hs0
 have hs1:W.cell? ⟨rb,ro,none⟩=some (.string ⟨r0.1.toArray⟩):=(hq.out.cell hrb0).trans hs0
 have hrb:rb<W.heap.size:=World.block_lt_of_cell? W ⟨rb,ro,none⟩ hs1
 have hrn:rb≠W.heap.size:=by omega
 have hrn1:rb≠W.heap.size+1:=by omega
 have hrroom:rs.length≤9223372036854775807:=by unfold maxLen at hr2;omega
 obtain ⟨T,hT⟩:∃ T,r0.1=T:=⟨_,rfl⟩;rw [hT]at hs1;clear hr3 hat0 hs0;have hTe:T=[]:=hT.symm.trans h0
 subst hTe;have hf1:(([]:List UInt8) == gone.toList)=false:=by rw [(hid (toL gone)).out,beq_eq_false_iff_ne];exact fun h=>hg h.symm
 have hf2:(home.toList == gone.toList)=true:=by rw [(hid (toL gone)).out,(hid (toL home)).out,hne];exact beq_self_eq_true _
 clear hT h0 hg hne;have HLO:=hid (fun W=>lost_any W)
 have HW:Hid (chg home.data.toList gone.data.toList noB noR (.mk k n t.data.toList b e rs ks)=lostE):=hid (chg_lost HHT.out)
 go_enter Tryz.func19,Tryz.ntmps19
 go_wp2_with (go_at_call 33;refine (HLO.out _).mono ?_;rintro e9 w9 ⟨rfl,q9⟩;have Q9:Hid (Q W w9):=hid ((((Q.refl _).alloc _).alloc _).trans q9);have T9:=hid (((tb_new (W.alloc (.cells #[.int .i64 k,.int .i64 n,.string t,.bool b,.int .i64 e,.slice (some ⟨rb,ro,none⟩) rs.length c1,.slice ao ks.length cap] 26)) (.int .i64 0) (.int .i64 0) (.string ⟨#[]⟩) (.bool false) (.int .i64 0) (.slice none 0 0) (.slice none 0 0) 26)).on (Qx.of (p:=W.heap.size) q9) (by simp));simp only [World.size_alloc]at T9;clear q9;obtain ⟨z0,z1,z2,z3,z4,z5,z6,zf⟩:=T9.out;have y0:=zf 0;have y1:=zf 1;have y2:=zf 2;have y3:=zf 3;have y4:=zf 4;have y5:=zf 5;have y6:=zf 6;clear zf)
 refine bodyPost_ret (v:=.agg #[.int .i64 4,.int .i64 0,.string ⟨#[]⟩,.bool false,.int .i64 1,.slice none 0 0,.slice none 0 0]) (by simp [results,Tryz.results19,go_sem,z0,z1,z2,z3,z4,z5,z6]) rfl ?_
 rw [HW.out];refine ⟨_,rfl,lost_rdg _ _,?_⟩
 refine q_over (p:=W.heap.size+1) Q9.out ?_ (by omega)
 exact (((((((Qx.refl _ _).own _ _).own _ _).own _ _).own _ _).own _ _).own _ _).own _ _
theorem rsh_own(W0:World)(home gone:ByteArray)(k n:Int)(t:ByteArray)(b:Bool)(e:Int)(rs:List Rf)(ks:List Ex)(a1:Option Addr)(c1:Nat)(ao:Option Addr)(cap:Nat)(W:World)
  (hsl:Hid (Sl rf 5 W0 (.slice a1 rs.length c1) rs)) (hcap:Hid (ks.length≤cap∧cap≤maxLen)) (hkd:Hid (ks≠[]→∃ b' off,ao=some ⟨b',off,none⟩∧RdI.RdIL W0 ks b' off))
  (hq:Hid (Q W0 W)) (hkl:ks.length≤1000)
  (IH:Hid (∀ i (hi:i<ks.length) (v:Value) (W:World),RdI W0 ks[i] v→Q W0 W→Calls Tryz.prog 19 #[v,.string home,.string gone] W fun e W'=>RepT W0 W (chg home.data.toList gone.data.toList noB noR ks[i]) e W'))
  (r0:Rf) (rs':List Rf) (HRS:Hid (rs=r0::rs')) (h0:r0.1=[]) (hg:gone.data.toList≠[]) (hne:home.data.toList≠gone.data.toList) (HHT:Hid (hit home.data.toList gone.data.toList rs=false)) :
  Calls Tryz.prog 19 #[.agg #[.int .i64 k,.int .i64 n,.string t,.bool b,.int .i64 e,.slice a1 rs.length c1,.slice ao ks.length cap],.string home,.string gone] W fun e' W'=>RepT W0 W (chg home.data.toList gone.data.toList noB noR (.mk k n t.data.toList b e rs ks)) e' W':=by
 obtain ⟨_,cr,hrv,hr1,hr2,hr3⟩:=hsl.out;simp only [Value.slice.injEq]at hrv
 obtain ⟨rfl,_,rfl⟩:=hrv;have hpos:(0:Int)<(rs.length:Int):=by rw [HRS.out,List.length_cons];omega
 obtain ⟨rb,ro,rfl,hat0⟩:=hr3 (by omega)
 have hs0:W0.cell? ⟨rb,ro,none⟩=some (.string ⟨r0.1.toArray⟩):=by
  have h0:=hat0 0 (by omega) 0 (.string ⟨r0.1.toArray⟩) (by
   have:rs[0]'(by omega)=r0:=by
    have h:=HRS.out;subst h
    rfl
   rw [this]
   rfl)
  simpa using h0
 have hrb0:rb<W0.heap.size:=World.block_lt_of_cell? W0 ⟨rb,ro,none⟩ hs0
 have hs1:W.cell? ⟨rb,ro,none⟩=some (.string ⟨r0.1.toArray⟩):=(hq.out.cell hrb0).trans hs0
 have hrb:rb<W.heap.size:=World.block_lt_of_cell? W ⟨rb,ro,none⟩ hs1
 have hrn:rb≠W.heap.size:=by omega
 have hrn1:rb≠W.heap.size+1:=by omega
 have hrroom:rs.length≤9223372036854775807:=by unfold maxLen at hr2;omega
 obtain ⟨T,hT⟩:∃ T,r0.1=T:=⟨_,rfl⟩;rw [hT]at hs1;clear hr3 hat0 hs0;have hTe:T=[]:=hT.symm.trans h0
 subst hTe;have hf1:(([]:List UInt8) == gone.toList)=false:=by rw [(hid (toL gone)).out,beq_eq_false_iff_ne];exact fun h=>hg h.symm
 have hf2:(home.toList == gone.toList)=false:=by rw [(hid (toL gone)).out,(hid (toL home)).out,beq_eq_false_iff_ne];exact hne
 clear hT h0 hg hne;have HSg:Hid (∀ V,Q W0 V→Slg (fun b=>b<W0.heap.size) V (.slice (some ⟨rb,ro,none⟩) rs.length c1) rs):=hid (fun V q=>slg_in hsl.out q)
 have hw0:W0.heap.size≤W.heap.size:=hq.out.size
 go_enter Tryz.func19,Tryz.ntmps19
 go_wp2_with fail
 obtain ⟨V0,hV0⟩:∃ V0,V0=(((W.alloc (.cells #[.int .i64 k,.int .i64 n,.string t,.bool b,.int .i64 e,.slice (some ⟨rb,ro,none⟩) rs.length c1,.slice ao ks.length cap] 26)).alloc (.cells #[.int .i64 0,.int .i64 0,.string ⟨#[]⟩,.bool false,.int .i64 0,.slice none 0 0,.slice none 0 0] 26)).alloc (.cells #[.int .i64 k,.int .i64 n,.string t,.bool b,.int .i64 e,.slice (some ⟨rb,ro,none⟩) rs.length c1,.slice none 0 0] 26)):=⟨_,rfl⟩;have HI0:Hid (SJ W0 W k n t b e (.slice (some ⟨rb,ro,none⟩) rs.length c1) (.slice ao ks.length cap) V0 [] [] (.slice none 0 0)):=by
  rw [hV0];exact sj_start _ _ _ _ _ _ _ _ _ _ _ _ _
 rw [←hV0];clear hV0 hs1 hf1 hf2;go_loopw [8] (fun z wr=>∃ (i:Nat) (ks2:List Ex) (Ls:List V7) (kv:Value),i≤ks.length∧z=.int .i64 (i:Int)∧SJ W0 W k n t b e (.slice (some ⟨rb,ro,none⟩) rs.length c1) (.slice ao ks.length cap) wr ks2 Ls kv∧Hid (ks2=(ks.take i).map (chg home.data.toList gone.data.toList noB noR))∧Hid (Ls.length≤i)) (fun z _=>ks.length-(intOf z).toNat)
 case atStart=>exact ⟨0,[],[],_,Nat.zero_le _,rfl,HI0.out,hid (by simp),hid (by simp)⟩
 case round=>
  obtain ⟨i,ks2,Ls,kv,hi,rfl,hS,HC,HLN⟩:=hrel;clear HI0;have HS:=hid hS;have e6:=hS.eb;have hsz:=hS.sz;have HQ0:Hid (Q W0 wr):=hid (hq.out.trans hS.q)
  have hroom:ks.length≤9223372036854775807:=by omega
  by_cases hlt:i<ks.length
  ·have i1:(i:Int)<(ks.length:Int):=by omega
   have hne:ks≠[]:=by intro h;rw [h]at hlt;simp at hlt
   obtain ⟨bb,off,rfl,hrl⟩:=hkd.out hne;obtain ⟨d0,d1,d2,d3,d4,d5,d6,hk0⟩:=hrl.kid i hlt;obtain ⟨g0,g1,g2,g3,g4,g5,g6⟩:=hk0.cells HQ0.out;have x6:wr.cell? ⟨W.heap.size+1+1,6,none⟩=some kv:=hS.xb.g6
   have HKP:Hid (∀ V,Q wr V→(V.cell? ⟨W.heap.size,6,none⟩=some (.slice (some ⟨bb,off,none⟩) ks.length cap)∧V.cell? ⟨W.heap.size+1+1,6,none⟩=some kv∧V.cell? ⟨bb,off+i*7,none⟩=some d0∧V.cell? ⟨bb,off+i*7+1,none⟩=some d1∧V.cell? ⟨bb,off+i*7+2,none⟩=some d2∧V.cell? ⟨bb,off+i*7+3,none⟩=some d3∧V.cell? ⟨bb,off+i*7+4,none⟩=some d4∧V.cell? ⟨bb,off+i*7+5,none⟩=some d5∧V.cell? ⟨bb,off+i*7+6,none⟩=some d6)):=hid (fun V q=>ks_on q ⟨e6,x6,g0,g1,g2,g3,g4,g5,g6⟩)
   have HIK:Hid (∀ V,Q wr V→Calls Tryz.prog 19 #[.agg #[d0,d1,d2,d3,d4,d5,d6],.string home,.string gone] V fun e W'=>RepT W0 V (chg home.data.toList gone.data.toList noB noR ks[i]) e W'):=hid (fun V q=>IH.out i hlt (.agg #[d0,d1,d2,d3,d4,d5,d6]) V hk0.rd (HQ0.out.trans q))
   have hbb:bb<W0.heap.size:=World.block_lt_of_cell? W0 ⟨bb,off+i*7,none⟩ hk0.g0
   have hkb:=HS.out.ow.blk;have hkE:some W.heap.size≠kv.ownBlock:=fun e=>by have:=hkb _ e.symm;omega
   have hkX:some (W.heap.size+1+1)≠kv.ownBlock:=fun e=>by have:=hkb _ e.symm;omega
   have hkB:some bb≠kv.ownBlock:=fun e=>by have:=hkb _ e.symm;omega
   have hLL:Ls.length≤1000:=by have:=HLN.out;omega
   obtain ⟨i0,hi0,hz0,hz1,hz2⟩:=inf_of info28;obtain ⟨s1,s2,s3,s4,s5,s6,s7,s8,s9,s10,s11,hsh⟩:=hk0.rd.shape;simp only [Value.agg.injEq,Array.mk.injEq,List.cons.injEq,and_true]at hsh
   obtain ⟨rfl,rfl,rfl,rfl,rfl,rfl,rfl⟩:=hsh;clear hS;go_wp2_with fail
   go_region_law (first|(refine step_append_lies _ (by rfl) _ _ _ (by rfl) (W.heap.size+3) 26 i0 (.agg #[.int .i64 0,.int .i64 0,.string ⟨#[]⟩,.bool false,.int .i64 0,.slice none 0 0,.slice none 0 0]) 7 96 Tryz.underlying24 hi0 hz0 hz1 hz2 rfl (by decide) kv Ls.length (flat enc7 Ls) (by rfl) (((HS.out.ow.on Q8.out).alloc _).on (by repeat (first|with_reducible exact Q.refl _|with_reducible refine Q.drewN ?_ _|with_reducible refine Q.drew ?_))) ⟨w8.heap.size,0,none⟩ 1 1 [.int .i64 k8,.int .i64 m8,.string t8,.bool bb8,.int .i64 er8,.slice a18 l18 c18,.slice a28 l28 c28] (by rfl) (by rfl) (World.news_of_block (cs:=#[.int .i64 k8,.int .i64 m8,.string t8,.bool bb8,.int .i64 er8,.slice a18 l18 c18,.slice a28 l28 c28]) (t:=26) (fr:=(0,0)) (MapKept.heap_alloc w8 _).1) (one7 _ _ _ _ _ _ _ _ _ _ _) (by omega) (by unfold maxLen;omega) (by omega) (by simp;omega) (w8.heap.size+1) (by simp) ?_;intro g9 cap9 w9 hown9 hgrow9 hat9 hlt9;have HZ9:=hid hown9;have HG9:=hid hgrow9;have HA9:=hid hat9;have HK9:=hid (ks_grown hgrow9 hkE hkX hkB (HK8.out _ ((Q.refl _).alloc _)));have x69:w9.cell? ⟨W.heap.size+1+1,6,none⟩=some kv:=HK9.out.2.1;have f69:w9.frozen? ⟨W.heap.size+1+1,6,none⟩=false:=(hgrow9.frozen_far ⟨W.heap.size+1+1,6,none⟩ (by simp;omega) hkX).trans ((T8.out.on ((Qx.refl W.heap.size _).alloc _) (by omega)).f 6);clear hown9 hgrow9 hat9)|(go_simp;refine (HIK.out _ (by repeat (first|with_reducible exact Q.refl _|with_reducible refine Q.drewN ?_ _|with_reducible refine Q.drew ?_))).mono ?_;rintro e8 w8 ⟨v8,rfl,hr8,q8⟩;obtain ⟨k8,m8,t8,bb8,er8,a18,l18,c18,a28,l28,c28,rfl⟩:=hr8.shape;have R8:=hid (Rdg.mono (g':=fun b=>b<W0.heap.size∨wr.heap.size≤b) (fun b hb=>hb) _ _ hr8);have Q8:Hid (Q wr w8):=hid (Q.trans (by repeat (first|with_reducible exact Q.refl _|with_reducible refine Q.drewN ?_ _|with_reducible refine Q.drew ?_)) q8);have HK8:Hid (∀ V,Q w8 V→_):=hid (fun V q=>HKP.out V (Q8.out.trans q));have T8:=hid (HS.out.xb.on (Qx.of (p:=W.heap.size) Q8.out) (by omega));obtain ⟨y1,y2,y3,y4,y5,y6,y7,y8,y9⟩:=HK8.out _ (Q.refl _);have hw8:wr.heap.size≤w8.heap.size:=Q8.out.size;have hlx:W.heap.size+1+1<w8.heap.size:=(by omega);have hlE:W.heap.size<w8.heap.size:=(by omega);clear hr8 q8))
   all_goals go_wp2_with fail
   all_goals go_roundw
   all_goals first
    |(simp [intOf];omega)
    |exact ⟨i+1,ks2++[chg home.data.toList gone.data.toList noB noR ks[i]],Ls++[⟨.int .i64 k8,.int .i64 m8,.string t8,.bool bb8,.int .i64 er8,.slice a18 l18 c18,.slice a28 l28 c28⟩],.slice (some ⟨g9,0,none⟩) (Ls.length+1) cap9,by omega,by go_num,(HS.out.call hw0 Q8.out).app hw0 hsz HS.out.ow.lt _ ⟨.int .i64 k8,.int .i64 m8,.string t8,.bool bb8,.int .i64 er8,.slice a18 l18 c18,.slice a28 l28 c28⟩ R8.out _ HG9.out (own_snoc' (x:=(⟨.int .i64 k8,.int .i64 m8,.string t8,.bool bb8,.int .i64 er8,.slice a18 l18 c18,.slice a28 l28 c28⟩:V7)) HZ9.out rfl) (lies_of HA9.out (by simp)),hid (by rw [HC.out,List.take_succ_eq_append_getElem hlt,List.map_append];rfl),hid (by have:=HLN.out;simp;omega)⟩
  ·obtain ⟨ak,ck,hkv,_⟩:=(hS.ow.sl enc7_len (by have:=HLN.out;omega)).len
   subst hkv;have HF:Hid (chg home.data.toList gone.data.toList noB noR (.mk k n t.data.toList b e rs ks)=.mk k n t.data.toList b e rs ks2):=hid (by rw [chg_no HHT.out,HC.out,List.take_of_length_le (by omega)])
   have x0:wr.cell? ⟨W.heap.size+1+1,0,none⟩=some (.int .i64 k):=hS.xb.g0
   have x1:wr.cell? ⟨W.heap.size+1+1,1,none⟩=some (.int .i64 n):=hS.xb.g1
   have x2:wr.cell? ⟨W.heap.size+1+1,2,none⟩=some (.string t):=hS.xb.g2
   have x3:wr.cell? ⟨W.heap.size+1+1,3,none⟩=some (.bool b):=hS.xb.g3
   have x4:wr.cell? ⟨W.heap.size+1+1,4,none⟩=some (.int .i64 e):=hS.xb.g4
   have x5:wr.cell? ⟨W.heap.size+1+1,5,none⟩=some (.slice (some ⟨rb,ro,none⟩) rs.length c1):=hS.xb.g5
   have x6:wr.cell? ⟨W.heap.size+1+1,6,none⟩=some (.slice ak Ls.length ck):=hS.xb.g6
   have z0:wr.cell? ⟨W.heap.size+1,0,none⟩=some (.int .i64 0):=hS.rb.g0
   have y0:wr.frozen? ⟨W.heap.size+1,0,none⟩=false:=hS.rb.f 0
   have z1:wr.cell? ⟨W.heap.size+1,1,none⟩=some (.int .i64 0):=hS.rb.g1
   have y1:wr.frozen? ⟨W.heap.size+1,1,none⟩=false:=hS.rb.f 1
   have z2:wr.cell? ⟨W.heap.size+1,2,none⟩=some (.string ⟨#[]⟩):=hS.rb.g2
   have y2:wr.frozen? ⟨W.heap.size+1,2,none⟩=false:=hS.rb.f 2
   have z3:wr.cell? ⟨W.heap.size+1,3,none⟩=some (.bool false):=hS.rb.g3
   have y3:wr.frozen? ⟨W.heap.size+1,3,none⟩=false:=hS.rb.f 3
   have z4:wr.cell? ⟨W.heap.size+1,4,none⟩=some (.int .i64 0):=hS.rb.g4
   have y4:wr.frozen? ⟨W.heap.size+1,4,none⟩=false:=hS.rb.f 4
   have z5:wr.cell? ⟨W.heap.size+1,5,none⟩=some (.slice none 0 0):=hS.rb.g5
   have y5:wr.frozen? ⟨W.heap.size+1,5,none⟩=false:=hS.rb.f 5
   have z6:wr.cell? ⟨W.heap.size+1,6,none⟩=some (.slice none 0 0):=hS.rb.g6
   have y6:wr.frozen? ⟨W.heap.size+1,6,none⟩=false:=hS.rb.f 6
   have i1:¬ (i:Int)<(ks.length:Int):=by omega
   clear HC hS;go_wp2_with fail
   refine bodyPost_ret (v:=.agg #[.int .i64 k,.int .i64 n,.string t,.bool b,.int .i64 e,.slice (some ⟨rb,ro,none⟩) rs.length c1,.slice ak Ls.length ck]) (by simp [results,Tryz.results19,go_sem,z0,z1,z2,z3,z4,z5,z6]) rfl ?_
   rw [HF.out];exact sj_end HS.out rfl hw0 (HSg.out _ HQ0.out)
theorem rsh_else(W0:World)(home gone:ByteArray)(k n:Int)(t:ByteArray)(b:Bool)(e:Int)(rs:List Rf)(ks:List Ex)(a1:Option Addr)(c1:Nat)(ao:Option Addr)(cap:Nat)(W:World)
  (hsl:Hid (Sl rf 5 W0 (.slice a1 rs.length c1) rs)) (hcap:Hid (ks.length≤cap∧cap≤maxLen)) (hkd:Hid (ks≠[]→∃ b' off,ao=some ⟨b',off,none⟩∧RdI.RdIL W0 ks b' off))
  (hq:Hid (Q W0 W)) (hkl:ks.length≤1000)
  (IH:Hid (∀ i (hi:i<ks.length) (v:Value) (W:World),RdI W0 ks[i] v→Q W0 W→Calls Tryz.prog 19 #[v,.string home,.string gone] W fun e W'=>RepT W0 W (chg home.data.toList gone.data.toList noB noR ks[i]) e W'))
  (r0:Rf) (rs':List Rf) (HRS:Hid (rs=r0::rs')) (h0:r0.1≠[]) (hne:r0.1≠gone.data.toList) (HHT:Hid (hit home.data.toList gone.data.toList rs=false)) :
  Calls Tryz.prog 19 #[.agg #[.int .i64 k,.int .i64 n,.string t,.bool b,.int .i64 e,.slice a1 rs.length c1,.slice ao ks.length cap],.string home,.string gone] W fun e' W'=>RepT W0 W (chg home.data.toList gone.data.toList noB noR (.mk k n t.data.toList b e rs ks)) e' W':=by
 obtain ⟨_,cr,hrv,hr1,hr2,hr3⟩:=hsl.out;simp only [Value.slice.injEq]at hrv
 obtain ⟨rfl,_,rfl⟩:=hrv;have hpos:(0:Int)<(rs.length:Int):=by rw [HRS.out,List.length_cons];omega
 obtain ⟨rb,ro,rfl,hat0⟩:=hr3 (by omega)
 have hs0:W0.cell? ⟨rb,ro,none⟩=some (.string ⟨r0.1.toArray⟩):=by
  have h0:=hat0 0 (by omega) 0 (.string ⟨r0.1.toArray⟩) (by
   have:rs[0]'(by omega)=r0:=by
    have h:=HRS.out;subst h
    rfl
   rw [this]
   rfl)
  simpa using h0
 have hrb0:rb<W0.heap.size:=World.block_lt_of_cell? W0 ⟨rb,ro,none⟩ hs0
 have hs1:W.cell? ⟨rb,ro,none⟩=some (.string ⟨r0.1.toArray⟩):=(hq.out.cell hrb0).trans hs0
 have hrb:rb<W.heap.size:=World.block_lt_of_cell? W ⟨rb,ro,none⟩ hs1
 have hrn:rb≠W.heap.size:=by omega
 have hrn1:rb≠W.heap.size+1:=by omega
 have hrroom:rs.length≤9223372036854775807:=by unfold maxLen at hr2;omega
 obtain ⟨T,hT⟩:∃ T,r0.1=T:=⟨_,rfl⟩;rw [hT]at hs1;clear hr3 hat0 hs0;rw [hT]at h0 hne;have hf1:(T == gone.toList)=false:=by rw [(hid (toL gone)).out,beq_eq_false_iff_ne];exact hne
 have hf2:(T == [])=false:=by rw [beq_eq_false_iff_ne];exact h0
 clear hT h0 hne;have HSg:Hid (∀ V,Q W0 V→Slg (fun b=>b<W0.heap.size) V (.slice (some ⟨rb,ro,none⟩) rs.length c1) rs):=hid (fun V q=>slg_in hsl.out q)
 have hw0:W0.heap.size≤W.heap.size:=hq.out.size
 go_enter Tryz.func19,Tryz.ntmps19
 go_wp2_with fail
 obtain ⟨V0,hV0⟩:∃ V0,V0=(((W.alloc (.cells #[.int .i64 k,.int .i64 n,.string t,.bool b,.int .i64 e,.slice (some ⟨rb,ro,none⟩) rs.length c1,.slice ao ks.length cap] 26)).alloc (.cells #[.int .i64 0,.int .i64 0,.string ⟨#[]⟩,.bool false,.int .i64 0,.slice none 0 0,.slice none 0 0] 26)).alloc (.cells #[.int .i64 k,.int .i64 n,.string t,.bool b,.int .i64 e,.slice (some ⟨rb,ro,none⟩) rs.length c1,.slice none 0 0] 26)):=⟨_,rfl⟩;have HI0:Hid (SJ W0 W k n t b e (.slice (some ⟨rb,ro,none⟩) rs.length c1) (.slice ao ks.length cap) V0 [] [] (.slice none 0 0)):=by
  rw [hV0];exact sj_start _ _ _ _ _ _ _ _ _ _ _ _ _
 rw [←hV0];clear hV0 hs1 hf1 hf2;go_loopw [8] (fun z wr=>∃ (i:Nat) (ks2:List Ex) (Ls:List V7) (kv:Value),i≤ks.length∧z=.int .i64 (i:Int)∧SJ W0 W k n t b e (.slice (some ⟨rb,ro,none⟩) rs.length c1) (.slice ao ks.length cap) wr ks2 Ls kv∧Hid (ks2=(ks.take i).map (chg home.data.toList gone.data.toList noB noR))∧Hid (Ls.length≤i)) (fun z _=>ks.length-(intOf z).toNat)
 case atStart=>exact ⟨0,[],[],_,Nat.zero_le _,rfl,HI0.out,hid (by simp),hid (by simp)⟩
 case round=>
  obtain ⟨i,ks2,Ls,kv,hi,rfl,hS,HC,HLN⟩:=hrel;clear HI0;have HS:=hid hS;have e6:=hS.eb;have hsz:=hS.sz;have HQ0:Hid (Q W0 wr):=hid (hq.out.trans hS.q)
  have hroom:ks.length≤9223372036854775807:=by omega
  by_cases hlt:i<ks.length
  ·have i1:(i:Int)<(ks.length:Int):=by omega
   have hne:ks≠[]:=by intro h;rw [h]at hlt;simp at hlt
   obtain ⟨bb,off,rfl,hrl⟩:=hkd.out hne;obtain ⟨d0,d1,d2,d3,d4,d5,d6,hk0⟩:=hrl.kid i hlt;obtain ⟨g0,g1,g2,g3,g4,g5,g6⟩:=hk0.cells HQ0.out;have x6:wr.cell? ⟨W.heap.size+1+1,6,none⟩=some kv:=hS.xb.g6
   have HKP:Hid (∀ V,Q wr V→(V.cell? ⟨W.heap.size,6,none⟩=some (.slice (some ⟨bb,off,none⟩) ks.length cap)∧V.cell? ⟨W.heap.size+1+1,6,none⟩=some kv∧V.cell? ⟨bb,off+i*7,none⟩=some d0∧V.cell? ⟨bb,off+i*7+1,none⟩=some d1∧V.cell? ⟨bb,off+i*7+2,none⟩=some d2∧V.cell? ⟨bb,off+i*7+3,none⟩=some d3∧V.cell? ⟨bb,off+i*7+4,none⟩=some d4∧V.cell? ⟨bb,off+i*7+5,none⟩=some d5∧V.cell? ⟨bb,off+i*7+6,none⟩=some d6)):=hid (fun V q=>ks_on q ⟨e6,x6,g0,g1,g2,g3,g4,g5,g6⟩)
   have HIK:Hid (∀ V,Q wr V→Calls Tryz.prog 19 #[.agg #[d0,d1,d2,d3,d4,d5,d6],.string home,.string gone] V fun e W'=>RepT W0 V (chg home.data.toList gone.data.toList noB noR ks[i]) e W'):=hid (fun V q=>IH.out i hlt (.agg #[d0,d1,d2,d3,d4,d5,d6]) V hk0.rd (HQ0.out.trans q))
   have hbb:bb<W0.heap.size:=World.block_lt_of_cell? W0 ⟨bb,off+i*7,none⟩ hk0.g0
   have hkb:=HS.out.ow.blk;have hkE:some W.heap.size≠kv.ownBlock:=fun e=>by have:=hkb _ e.symm;omega
   have hkX:some (W.heap.size+1+1)≠kv.ownBlock:=fun e=>by have:=hkb _ e.symm;omega
   have hkB:some bb≠kv.ownBlock:=fun e=>by have:=hkb _ e.symm;omega
   have hLL:Ls.length≤1000:=by have:=HLN.out;omega
   obtain ⟨i0,hi0,hz0,hz1,hz2⟩:=inf_of info28;obtain ⟨s1,s2,s3,s4,s5,s6,s7,s8,s9,s10,s11,hsh⟩:=hk0.rd.shape;simp only [Value.agg.injEq,Array.mk.injEq,List.cons.injEq,and_true]at hsh
   obtain ⟨rfl,rfl,rfl,rfl,rfl,rfl,rfl⟩:=hsh;clear hS;go_wp2_with fail
   go_region_law (first|(refine step_append_lies _ (by rfl) _ _ _ (by rfl) (W.heap.size+3) 26 i0 (.agg #[.int .i64 0,.int .i64 0,.string ⟨#[]⟩,.bool false,.int .i64 0,.slice none 0 0,.slice none 0 0]) 7 96 Tryz.underlying24 hi0 hz0 hz1 hz2 rfl (by decide) kv Ls.length (flat enc7 Ls) (by rfl) (((HS.out.ow.on Q8.out).alloc _).on (by repeat (first|with_reducible exact Q.refl _|with_reducible refine Q.drewN ?_ _|with_reducible refine Q.drew ?_))) ⟨w8.heap.size,0,none⟩ 1 1 [.int .i64 k8,.int .i64 m8,.string t8,.bool bb8,.int .i64 er8,.slice a18 l18 c18,.slice a28 l28 c28] (by rfl) (by rfl) (World.news_of_block (cs:=#[.int .i64 k8,.int .i64 m8,.string t8,.bool bb8,.int .i64 er8,.slice a18 l18 c18,.slice a28 l28 c28]) (t:=26) (fr:=(0,0)) (MapKept.heap_alloc w8 _).1) (one7 _ _ _ _ _ _ _ _ _ _ _) (by omega) (by unfold maxLen;omega) (by omega) (by simp;omega) (w8.heap.size+1) (by simp) ?_;intro g9 cap9 w9 hown9 hgrow9 hat9 hlt9;have HZ9:=hid hown9;have HG9:=hid hgrow9;have HA9:=hid hat9;have HK9:=hid (ks_grown hgrow9 hkE hkX hkB (HK8.out _ ((Q.refl _).alloc _)));have x69:w9.cell? ⟨W.heap.size+1+1,6,none⟩=some kv:=HK9.out.2.1;have f69:w9.frozen? ⟨W.heap.size+1+1,6,none⟩=false:=(hgrow9.frozen_far ⟨W.heap.size+1+1,6,none⟩ (by simp;omega) hkX).trans ((T8.out.on ((Qx.refl W.heap.size _).alloc _) (by omega)).f 6);clear hown9 hgrow9 hat9)|(go_simp;refine (HIK.out _ (by repeat (first|with_reducible exact Q.refl _|with_reducible refine Q.drewN ?_ _|with_reducible refine Q.drew ?_))).mono ?_;rintro e8 w8 ⟨v8,rfl,hr8,q8⟩;obtain ⟨k8,m8,t8,bb8,er8,a18,l18,c18,a28,l28,c28,rfl⟩:=hr8.shape;have R8:=hid (Rdg.mono (g':=fun b=>b<W0.heap.size∨wr.heap.size≤b) (fun b hb=>hb) _ _ hr8);have Q8:Hid (Q wr w8):=hid (Q.trans (by repeat (first|with_reducible exact Q.refl _|with_reducible refine Q.drewN ?_ _|with_reducible refine Q.drew ?_)) q8);have HK8:Hid (∀ V,Q w8 V→_):=hid (fun V q=>HKP.out V (Q8.out.trans q));have T8:=hid (HS.out.xb.on (Qx.of (p:=W.heap.size) Q8.out) (by omega));obtain ⟨y1,y2,y3,y4,y5,y6,y7,y8,y9⟩:=HK8.out _ (Q.refl _);have hw8:wr.heap.size≤w8.heap.size:=Q8.out.size;have hlx:W.heap.size+1+1<w8.heap.size:=(by omega);have hlE:W.heap.size<w8.heap.size:=(by omega);clear hr8 q8))
   all_goals go_wp2_with fail
   all_goals go_roundw
   all_goals first
    |(simp [intOf];omega)
    |exact ⟨i+1,ks2++[chg home.data.toList gone.data.toList noB noR ks[i]],Ls++[⟨.int .i64 k8,.int .i64 m8,.string t8,.bool bb8,.int .i64 er8,.slice a18 l18 c18,.slice a28 l28 c28⟩],.slice (some ⟨g9,0,none⟩) (Ls.length+1) cap9,by omega,by go_num,(HS.out.call hw0 Q8.out).app hw0 hsz HS.out.ow.lt _ ⟨.int .i64 k8,.int .i64 m8,.string t8,.bool bb8,.int .i64 er8,.slice a18 l18 c18,.slice a28 l28 c28⟩ R8.out _ HG9.out (own_snoc' (x:=(⟨.int .i64 k8,.int .i64 m8,.string t8,.bool bb8,.int .i64 er8,.slice a18 l18 c18,.slice a28 l28 c28⟩:V7)) HZ9.out rfl) (lies_of HA9.out (by simp)),hid (by rw [HC.out,List.take_succ_eq_append_getElem hlt,List.map_append];rfl),hid (by have:=HLN.out;simp;omega)⟩
  ·obtain ⟨ak,ck,hkv,_⟩:=(hS.ow.sl enc7_len (by have:=HLN.out;omega)).len
   subst hkv;have HF:Hid (chg home.data.toList gone.data.toList noB noR (.mk k n t.data.toList b e rs ks)=.mk k n t.data.toList b e rs ks2):=hid (by rw [chg_no HHT.out,HC.out,List.take_of_length_le (by omega)])
   have x0:wr.cell? ⟨W.heap.size+1+1,0,none⟩=some (.int .i64 k):=hS.xb.g0
   have x1:wr.cell? ⟨W.heap.size+1+1,1,none⟩=some (.int .i64 n):=hS.xb.g1
   have x2:wr.cell? ⟨W.heap.size+1+1,2,none⟩=some (.string t):=hS.xb.g2
   have x3:wr.cell? ⟨W.heap.size+1+1,3,none⟩=some (.bool b):=hS.xb.g3
   have x4:wr.cell? ⟨W.heap.size+1+1,4,none⟩=some (.int .i64 e):=hS.xb.g4
   have x5:wr.cell? ⟨W.heap.size+1+1,5,none⟩=some (.slice (some ⟨rb,ro,none⟩) rs.length c1):=hS.xb.g5
   have x6:wr.cell? ⟨W.heap.size+1+1,6,none⟩=some (.slice ak Ls.length ck):=hS.xb.g6
   have z0:wr.cell? ⟨W.heap.size+1,0,none⟩=some (.int .i64 0):=hS.rb.g0
   have y0:wr.frozen? ⟨W.heap.size+1,0,none⟩=false:=hS.rb.f 0
   have z1:wr.cell? ⟨W.heap.size+1,1,none⟩=some (.int .i64 0):=hS.rb.g1
   have y1:wr.frozen? ⟨W.heap.size+1,1,none⟩=false:=hS.rb.f 1
   have z2:wr.cell? ⟨W.heap.size+1,2,none⟩=some (.string ⟨#[]⟩):=hS.rb.g2
   have y2:wr.frozen? ⟨W.heap.size+1,2,none⟩=false:=hS.rb.f 2
   have z3:wr.cell? ⟨W.heap.size+1,3,none⟩=some (.bool false):=hS.rb.g3
   have y3:wr.frozen? ⟨W.heap.size+1,3,none⟩=false:=hS.rb.f 3
   have z4:wr.cell? ⟨W.heap.size+1,4,none⟩=some (.int .i64 0):=hS.rb.g4
   have y4:wr.frozen? ⟨W.heap.size+1,4,none⟩=false:=hS.rb.f 4
   have z5:wr.cell? ⟨W.heap.size+1,5,none⟩=some (.slice none 0 0):=hS.rb.g5
   have y5:wr.frozen? ⟨W.heap.size+1,5,none⟩=false:=hS.rb.f 5
   have z6:wr.cell? ⟨W.heap.size+1,6,none⟩=some (.slice none 0 0):=hS.rb.g6
   have y6:wr.frozen? ⟨W.heap.size+1,6,none⟩=false:=hS.rb.f 6
   have i1:¬ (i:Int)<(ks.length:Int):=by omega
   clear HC hS;go_wp2_with fail
   refine bodyPost_ret (v:=.agg #[.int .i64 k,.int .i64 n,.string t,.bool b,.int .i64 e,.slice (some ⟨rb,ro,none⟩) rs.length c1,.slice ak Ls.length ck]) (by simp [results,Tryz.results19,go_sem,z0,z1,z2,z3,z4,z5,z6]) rfl ?_
   rw [HF.out];exact sj_end HS.out rfl hw0 (HSg.out _ HQ0.out)
end Go.Proofs.YtoikodohcieipaaGreatDoor
