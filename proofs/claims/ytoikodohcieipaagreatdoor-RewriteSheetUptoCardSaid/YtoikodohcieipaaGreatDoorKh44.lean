/- RewriteBack, walked; Boxes of . -/
import Derived.Test.YtoikodohcieipaaGreatDoorKh38
import Derived.Test.YtoikodohcieipaaGreatDoorKh37
import Derived.Test.YtoikodohcieipaaGreatDoorKh12
import Derived.Test.YtoikodohcieipaaGreatDoorKh43
import Derived.Test.YtoikodohcieipaaGreatDoorKh41
import Derived.Test.YtoikodohcieipaaGreatDoorKh35
import Derived.BigQuiet
set_option linter.unusedVariables false
set_option linter.unusedSimpArgs false
set_option maxRecDepth 100000
set_option maxHeartbeats 8000000
namespace Go.Proofs.YtoikodohcieipaaGreatDoor
open Go.RowKit
theorem cut_sm{B:Nat}(hB:B≤2000000):∀ (x:Ex) (d l:Nat),Shs B x→Sm (cutE x d l).1
 |.mk k n t b e rs ks,d,l,h=>by
  rw [Shs]at h;rw [cutE,Sm];refine ⟨?_,fun r hr=>Nat.le_trans (h.1 r (List.mem_of_mem_take hr)) hB,go hB ks d (l-1) h.2⟩
  rw [List.length_take];omega
 where
 go {B:Nat} (hB:B≤2000000):∀ (ks:List Ex) (d l:Nat),Shs.ShsL B ks→Sm.SmL (cutE.cutL ks d l).1
 |[],d,l,_=>by rw [cutE.cutL,Sm.SmL];trivial
 |x::xs,d,l,h=>by
  rw [Shs.ShsL]at h;rw [cutE.cutL]
  split
  ·rw [Sm.SmL]
   exact ⟨cut_sm hB x (d+1) l h.1,go hB xs d _ h.2⟩
  ·rw [Sm.SmL];trivial
theorem nodesL_len:∀ (ks:List Ex),ks.length≤nodes.nodesL ks
 |[]=>by simp
 |x::xs=>by
  rw [nodes.nodesL,List.length_cons];have h1:=nodesL_len xs;have h2:=nodes_pos x;omega
structure Bk (W0 W:World) (x:Ex) (p:Nat) (v0 v1 v2 v3 v4 v5 v6:Value):Prop where
 q:Q W0 W
 nd:Nd W p 0 v0 v1 v2 v3 v4 v5 v6
 rd:Rd W x (.agg #[v0,v1,v2,v3,v4,v5,v6])
theorem bk_store{W0 w1 w2:World}{x:Ex}{p:Nat}{c0 c1 c2 c3 c4 c5 c6 d0 d1 d2 d3 d4 d5 d6:Value}(q1:Q W0 w1)(q2:Q w1 w2)(hp:W0.heap.size≤p)(hp2:p<w1.heap.size)(hn:Nd w2 p 0 c0 c1 c2 c3 c4 c5 c6)(hr:Rdg (fun b=>b<W0.heap.size∨w1.heap.size≤b) w2 x (.agg #[d0,d1,d2,d3,d4,d5,d6])) :
  Bk W0 (((((((w2.setCell ⟨p,0,none⟩ d0).setCell ⟨p,1,none⟩ d1).setCell ⟨p,2,none⟩ d2).setCell ⟨p,3,none⟩ d3).setCell ⟨p,4,none⟩ d4).setCell ⟨p,5,none⟩ d5).setCell ⟨p,6,none⟩ d6) x p d0 d1 d2 d3 d4 d5 d6:=by
 have hn7:=hn.all7 d0 d1 d2 d3 d4 d5 d6;simp only [Nat.zero_add]at hn7
 have QF:Qx p w2 (((((((w2.setCell ⟨p,0,none⟩ d0).setCell ⟨p,1,none⟩ d1).setCell ⟨p,2,none⟩ d2).setCell ⟨p,3,none⟩ d3).setCell ⟨p,4,none⟩ d4).setCell ⟨p,5,none⟩ d5).setCell ⟨p,6,none⟩ d6):=(((((((Qx.refl _ _).own _ _).own _ _).own _ _).own _ _).own _ _).own _ _).own _ _
 have hq:=q1.trans q2;exact ⟨⟨QF.os.trans hq.os,QF.tape.trans hq.tape,QF.output.trans hq.output,Nat.le_trans hq.size QF.size,fun i hi=>(QF.block i (Nat.lt_of_lt_of_le hi hq.size) (fun e=>by have:=Option.some.inj e;omega)).trans (Q.block hq hi)⟩,hn7,Rdg.rd _ _ (Rdg.on QF (fun b hb=>by omega) _ _ hr)⟩
structure Bv (W0 W:World) (x:Ex) (p M:Nat) (v0 v1 v2 v3 v4 v5 v6:Value):Prop where
 q:Q W0 W
 nd:Nd W p 0 v0 v1 v2 v3 v4 v5 v6
 rd:Rdg (fun b=>b<M) W x (.agg #[v0,v1,v2,v3,v4,v5,v6])
 mx:M≤W.heap.size
theorem Rdg.onq{g:Nat→Prop}{W W':World}{x:Ex}{v:Value}{M:Nat}(h:Rdg (fun b=>b<M) W x v)(q:Q W W'):Rdg (fun b=>b<M) W' x v:=Rdg.on (Qx.of (p:=M) q) (fun b hb=>by omega) _ _ h
theorem Bv.on{W0 W W':World}{x:Ex}{p M:Nat}{v0 v1 v2 v3 v4 v5 v6:Value}(h:Bv W0 W x p M v0 v1 v2 v3 v4 v5 v6)(q:Q W W'):Bv W0 W' x p M v0 v1 v2 v3 v4 v5 v6:=⟨h.q.trans q,h.nd.on q,h.rd.onq (g:=fun _=>True) q,Nat.le_trans h.mx q.size⟩
theorem Bv.tree{W0 W:World}{x:Ex}{p M:Nat}{v0 v1 v2 v3 v4 v5 v6:Value}(h:Bv W0 W x p M v0 v1 v2 v3 v4 v5 v6):Rd W x (.agg #[v0,v1,v2,v3,v4,v5,v6]):=Rdg.rd _ _ h.rd
structure T3 (W:World) (p:Nat) (a b c:Int):Prop where
 g0:W.cell? ⟨p,0,none⟩=some (.int .i64 a)
 g1:W.cell? ⟨p,1,none⟩=some (.int .i64 b)
 g2:W.cell? ⟨p,2,none⟩=some (.int .i64 c)
def set7(w:World)(p:Nat)(d0 d1 d2 d3 d4 d5 d6:Value):World:=(((((((w.setCell ⟨p,0,none⟩ d0).setCell ⟨p,1,none⟩ d1).setCell ⟨p,2,none⟩ d2).setCell ⟨p,3,none⟩ d3).setCell ⟨p,4,none⟩ d4).setCell ⟨p,5,none⟩ d5).setCell ⟨p,6,none⟩ d6)
theorem set7_qx(w:World)(p:Nat)(d0 d1 d2 d3 d4 d5 d6:Value):Qx p w (set7 w p d0 d1 d2 d3 d4 d5 d6):=(((((((Qx.refl _ _).own _ _).own _ _).own _ _).own _ _).own _ _).own _ _).own _ _
theorem bv_store{W0 w1 w2:World}{x:Ex}{p:Nat}{c0 c1 c2 c3 c4 c5 c6 d0 d1 d2 d3 d4 d5 d6:Value}(q1:Q W0 w1)(q2:Q w1 w2)(hp:W0.heap.size≤p)(hp2:p<w1.heap.size)(hn:Nd w2 p 0 c0 c1 c2 c3 c4 c5 c6)(hr:Rdg (fun b=>b<W0.heap.size∨w1.heap.size≤b) w2 x (.agg #[d0,d1,d2,d3,d4,d5,d6])) :
  Bv W0 (set7 w2 p d0 d1 d2 d3 d4 d5 d6) x p w2.heap.size d0 d1 d2 d3 d4 d5 d6:=by
 have h:=bk_store q1 q2 hp hp2 hn hr;refine ⟨h.q,h.nd,Rdg.mono (fun b hb=>hb.2) _ _ (Rdg.on (set7_qx w2 p d0 d1 d2 d3 d4 d5 d6) (fun b hb=>?_) _ _ (Rdg.in _ _ hr)),(set7_qx w2 p d0 d1 d2 d3 d4 d5 d6).size⟩
 omega
theorem bv_new{W0 w2:World}{x:Ex}{lo hi:Nat}{d0 d1 d2 d3 d4 d5 d6:Value}(q2:Q W0 w2)(ho:Ow w2 x (.agg #[d0,d1,d2,d3,d4,d5,d6]) lo hi)(hh:hi≤w2.heap.size) :
  Bv W0 (w2.alloc (.cells #[d0,d1,d2,d3,d4,d5,d6] 26)) x w2.heap.size w2.heap.size d0 d1 d2 d3 d4 d5 d6:=by
 have h1:Rdg (fun b=>b<w2.heap.size) w2 x (.agg #[d0,d1,d2,d3,d4,d5,d6]):=Ow.rdg _ _ _ _ (fun i _ h=>by omega) ho
 exact ⟨q2.alloc _,nd_new w2 d0 d1 d2 d3 d4 d5 d6 26,h1.onq (g:=fun _=>True) ((Q.refl _).alloc _),by simp⟩
theorem cutL_nodes:∀ (ks:List Ex) (d l:Nat),nodes.nodesL (cutE.cutL ks d l).1+(cutE.cutL ks d l).2=l
 |[],d,l=>by rw [cutE.cutL];simp [nodes.nodesL]
 |x::xs,d,l=>by
  rw [cutE.cutL]
  split
  ·rename_i h
   have h1:=cut_nodes x (d+1) l h.1;have h2:=cutL_nodes xs d (cutE x (d+1) l).2;simp only [nodes.nodesL]
   omega
  ·simp [nodes.nodesL]
theorem cut_sn{B:Nat}(hB:B≤2000000):∀ (x:Ex) (d l:Nat),l≤1000→Shs B x→Sn (cutE x d l).1
 |.mk k n t b e rs ks,d,l,hl,h=>by
  rw [Shs]at h;rw [cutE,Sn];refine ⟨?_,?_,fun r hr=>Nat.le_trans (h.1 r (List.mem_of_mem_take hr)) hB,?_,go hB ks d (l-1) (by omega) h.2⟩
  ·rw [List.length_take];omega
  ·rw [List.length_take];omega
  ·have h1:=nodesL_len (cutE.cutL ks d (l-1)).1
   have h2:=cutL_nodes ks d (l-1);omega
 where
 go {B:Nat} (hB:B≤2000000):∀ (ks:List Ex) (d l:Nat),l≤1000→Shs.ShsL B ks→Sn.SnL (cutE.cutL ks d l).1
 |[],d,l,_,_=>by rw [cutE.cutL,Sn.SnL];trivial
 |x::xs,d,l,hl,h=>by
  rw [Shs.ShsL]at h;rw [cutE.cutL]
  split
  ·rename_i hc
   rw [Sn.SnL];refine ⟨cut_sn hB x (d+1) l hl h.1,go hB xs d _ ?_ h.2⟩
   have:=cut_nodes x (d+1) l hc.1
   omega
  ·rw [Sn.SnL];trivial
theorem cut_rfs:∀ (x:Ex) (d l:Nat),(rfs (cutE x d l).1).length≤4*nodes (cutE x d l).1
 |.mk k n t b e rs ks,d,l=>by
  rw [cutE,rfs,nodes,List.length_append,List.length_take];have:=go ks d (l-1)
  omega
 where
 go:∀ (ks:List Ex) (d l:Nat),(rfs.rfsL (cutE.cutL ks d l).1).length≤4*nodes.nodesL (cutE.cutL ks d l).1
 |[],d,l=>by rw [cutE.cutL,rfs.rfsL];simp
 |x::xs,d,l=>by
  rw [cutE.cutL]
  split
  ·rw [rfs.rfsL,nodes.nodesL,List.length_append]
   have h1:=cut_rfs x (d+1) l;have h2:=go xs d (cutE x (d+1) l).2;omega
  ·rw [rfs.rfsL];simp
theorem cut_220(x:Ex):nodes (cutE x 1 220).1≤220:=by
 have:=cut_nodes x 1 220 (by omega)
 omega
theorem rsheet_all(W0:World)(home gone:ByteArray)(hg:gone.data.toList≠[]):∀ (s:Nat) (x:Ex) (v:Value) (W:World),SizeOf.sizeOf x≤s→Sn x→RdI W0 x v→Q W0 W→Calls Tryz.prog 19 #[v,.string home,.string gone] W fun e W'=>RepT W0 W (chg home.data.toList gone.data.toList noB noR x) e W':=by
 intro s
 induction s with
 |zero=>
  intro x v W hs
  cases x with
  |mk k n t b e rs ks=>simp at hs
 |succ s ih=>
  intro x v W hs hn hr hq
  cases x with
  |mk k n t b e rs ks=>
   unfold RdI at hr
   unfold Sn at hn
   obtain ⟨_,hn2,_,hn4,hn5⟩:=hn;obtain ⟨rv',kv,hv,hsl,ao,cap,hk,hle,hmx,hkd⟩:=hr;obtain ⟨a1,c1,hrv,hl⟩:=hsl;have hsl':Hid (Sl rf 5 W0 (.slice a1 rs.length c1) rs):=hid ⟨a1,c1,rfl,hl⟩
   subst hk hrv hv;have hcap:Hid (ks.length≤cap∧cap≤maxLen):=hid ⟨hle,hmx⟩
   have IH:Hid (∀ i (hi:i<ks.length) (v:Value) (W:World),RdI W0 ks[i] v→Q W0 W→Calls Tryz.prog 19 #[v,.string home,.string gone] W fun e W'=>RepT W0 W (chg home.data.toList gone.data.toList noB noR ks[i]) e W'):=
    hid (fun i hi v W hr hq=>ih ks[i] v W (by have:=kid_size (k:=k) (n:=n) (t:=t) (b:=b) (e:=e) (rs:=rs) i hi;omega) (sn_kid hn5 _ (List.getElem_mem hi)) hr hq)
   cases hrs:rs with
   |nil=>
    rw [←hrs];exact rsh_no W0 home gone k n ⟨t.toArray⟩ b e rs ks a1 c1 ao cap W hsl' hcap (hid hkd) (hid hq) hn4 IH (by rw [hrs];rfl) (hid (by rw [hrs];rfl))
   |cons r0 rs'=>
    rw [←hrs];by_cases h0:r0.1=[]
    ·by_cases hh:home.data.toList=gone.data.toList
     ·exact rsh_home W0 home gone k n ⟨t.toArray⟩ b e rs ks a1 c1 ao cap W hsl' hcap (hid hkd) (hid hq) hn4 IH r0 rs' (hid hrs) h0 hg hh (hid (by rw [hrs];simp only [hit];exact decide_eq_true (by unfold orT;rw [if_pos h0];exact hh)))
     ·exact rsh_own W0 home gone k n ⟨t.toArray⟩ b e rs ks a1 c1 ao cap W hsl' hcap (hid hkd) (hid hq) hn4 IH r0 rs' (hid hrs) h0 hg hh (hid (by rw [hrs];simp only [hit];exact decide_eq_false (by unfold orT;rw [if_pos h0];exact hh)))
    ·by_cases hh:r0.1=gone.data.toList
     ·exact rsh_hit W0 home gone k n ⟨t.toArray⟩ b e rs ks a1 c1 ao cap W hsl' hcap (hid hkd) (hid hq) hn4 IH r0 rs' (hid hrs) hh (hid (by rw [hrs];simp only [hit];exact decide_eq_true (by unfold orT;rw [if_neg h0];exact hh)))
     ·exact rsh_else W0 home gone k n ⟨t.toArray⟩ b e rs ks a1 c1 ao cap W hsl' hcap (hid hkd) (hid hq) hn4 IH r0 rs' (hid hrs) h0 hh (hid (by rw [hrs];simp only [hit];exact decide_eq_false (by unfold orT;rw [if_neg h0];exact hh)))
theorem rsheet_any(x:Ex)(v:Value)(home gone:ByteArray)(W:World)(hg:gone.data.toList≠[])(hn:Sn x)(hr:Rd W x v):Calls Tryz.prog 19 #[v,.string home,.string gone] W fun e W'=>∃ v',e=.returned v'∧Rd W' (chg home.data.toList gone.data.toList noB noR x) v'∧Q W W':=by
 refine (rsheet_all W home gone hg _ x v W (Nat.le_refl _) hn (rd_rdi _ _ hr) (Q.refl W)).mono ?_
 rintro e W' ⟨v',he,h1,h2⟩
 exact ⟨v',he,Rdg.rd _ _ h1,h2⟩
def sh20(s:ByteArray):ByteArray:=if (20:Int)<(s.size:Int) then s.extract 0 (20:Int).toNat else s
theorem short20(s:ByteArray)(w:World):Calls Tryz.prog 10 #[.string s,.int .i64 20] w fun e w'=>e=.returned (.string (sh20 s))∧w'=w:=short_any s 20 w (by omega) (by omega)
theorem law_sheet{y:Ex}{W:World}(home gone:ByteArray)(hg:Gd W)(hs:Sm y)(hn:Sn y)(hk:nodes y≤220) :
  ∃ y1,((fitB y&&mall mayN y)=false→y1=y)∧((fitB y&&mall mayN y)=true→gone.data.toList≠[]→y1=chg home.data.toList gone.data.toList noB noR y)∧∀ w v,Q W w→Rd w y v→Calls Tryz.prog 16 #[v,.string home,.string gone] w fun e W'=>∃ v',e=.returned v'∧Q w W'∧∃ lo hi,w.heap.size≤lo∧hi≤W'.heap.size∧Ow W' y1 v' lo hi:=by
 cases hm:(fitB y&&mall mayN y)
 ·exact ⟨y,fun _=>rfl,fun h=>absurd h (by simp),fun w v q r=>sheet_no y v _ _ w (hg.on q) r hn hs (by omega) hm⟩
 ·by_cases hgo:gone.data.toList=[]
  ·exact ⟨y,fun _=>rfl,fun _ h=>absurd hgo h,fun w v q r=>sheet_none y v _ _ w (hg.on q) r hn hs (by omega) hm hgo⟩
  ·exact ⟨_,fun h=>absurd h (by simp),fun _ _=>rfl,fun w v q r=>sheet_may y v _ _ w (hg.on q) r hn hs (by omega) hm hgo⟩
structure Lr (W V:World) (y ya:Ex) (p M p' M':Nat) (v0 v1 v2 v3 v4 v5 v6 u0 u1 u2 u3 u4 u5 u6:Value) (B B':Nat) (s s':Value):Prop where
 e:Bv W V y p M v0 v1 v2 v3 v4 v5 v6
 x:Bv W V ya p' M' u0 u1 u2 u3 u4 u5 u6
 o:Own rf 40 5 B V s (rfs y)
 o':Own rf 40 5 B' V s' (rfs y)
theorem Lr.on{W V V':World}{y ya:Ex}{p M p' M':Nat}{v0 v1 v2 v3 v4 v5 v6 u0 u1 u2 u3 u4 u5 u6:Value}{B B':Nat}{s s':Value}(h:Lr W V y ya p M p' M' v0 v1 v2 v3 v4 v5 v6 u0 u1 u2 u3 u4 u5 u6 B B' s s')(q:Q V V'):Lr W V' y ya p M p' M' v0 v1 v2 v3 v4 v5 v6 u0 u1 u2 u3 u4 u5 u6 B B' s s':=
 ⟨h.e.on q,h.x.on q,h.o.on q,h.o'.on q⟩
theorem shlaw_no(x:Ex)(v:Value)(home gone:ByteArray)(W:World)(hg:Gd W)(hr:RdI W x v)(hs:Sm (cutE x 1 220).1)(hn:Sn (cutE x 1 220).1)(hm:(fitB (cutE x 1 220).1&&mall mayN (cutE x 1 220).1)=false) :
  Calls Tryz.prog 4 #[v,.string home,.string gone] W fun e W'=>e=.returned (.bool true)∧Q W W':=by
 have HBG:=hid (fun w (q:Q W w)=>begun_any w (hg.on q))
 have HCU:=hid (fun w (q:Q W w)=>cutx_any x v W w hr q)
 obtain ⟨k0,n0,t0,b0,e0,a1,l1,c1,a2,l2,c2,rfl⟩:=hr.shape;have hk:=cut_220 x;have hrl:=cut_rfs x 1 220;obtain ⟨y,hy⟩:∃ y,(cutE x 1 220).1=y:=⟨_,rfl⟩;rw [hy]at HCU hs hn hk hrl hm;obtain ⟨ya,h1,h2,hla⟩:=law_sheet (sh20 home) (sh20 gone) hg hs hn hk;have HSO:=hid (fun s w=>short20 s w)
 have HSH:=hid hla;have HNB:=hid (nd_new W (.int .i64 k0) (.int .i64 n0) (.string t0) (.bool b0) (.int .i64 e0) (.slice a1 l1 c1) (.slice a2 l2 c2) 26);have HMY:=hid (fun w v (r:Rd w y v)=>rmayexpr_any y v w hs r)
 rw [hm]at HMY;have HRL:Hid ((rfs y).length≤1000000):=hid (by omega)
 have HR1:=hid (fun w v (r:Rd w y v)=>refs_any y v w r hn (by omega) (by omega))
 have HRF:=hid (fun w v (r:Rd w y v)=>rrefs_any _ y v w (Nat.le_refl _) r HRL.out)
 have hroom:(rfs y).length≤9223372036854775807:=by have:=HRL.out;omega
 obtain rfl:=h1 hm;have HEQ:=hid (fun w v v' (r:Rd w ya v) (r':Rd w ya v')=>eqexpr_any _ ya ya v v' w (Nat.le_refl _) r r')
 clear hg hr hs hn hy hk hrl h1 h2 hla hm;go_enter Tryz.func4,Tryz.ntmps4
 go_wp2_with (first
  |(go_at_call 8;refine (HBG.out _ ((Q.refl _).alloc _)).mono ?_;rintro e9 w1 ⟨rfl,q1⟩;have Q1:Hid (Q W w1):=hid (((Q.refl _).alloc _).trans q1);have N1:=hid (HNB.out.on q1);clear q1;obtain ⟨y0,y1,y2,y3,y4,y5,y6,_⟩:=N1.out;simp only [Nat.zero_add]at y0 y1 y2 y3 y4 y5 y6)
  |(go_at_call 9;refine (HCU.out _ Q1.out).mono ?_;rintro e9 w2 ⟨v2,rfl,r2,q2⟩;obtain ⟨k2,n2,t2,b2,e2,a3,l3,c3,a4,l4,c4,rfl⟩:=r2.shape;have N2:=hid (N1.out.on q2);have E2:=hid (bv_store Q1.out q2 (Nat.le_refl _) N1.out.pl.lt N2.out r2);clear r2 q2 y0 y1 y2 y3 y4 y5 y6;obtain ⟨y0,y1,y2,y3,y4,y5,y6,yp⟩:=N2.out;have f0:=yp.frozen 0;have f1:=yp.frozen 1;have f2:=yp.frozen 2;have f3:=yp.frozen 3;have f4:=yp.frozen 4;have f5:=yp.frozen 5;have f6:=yp.frozen 6;clear yp;simp only [Nat.zero_add]at y0 y1 y2 y3 y4 y5 y6)
  |(go_at_call 10;refine (HSO.out _ _).mono ?_;rintro e9 w9 ⟨rfl,h9⟩;replace h9:=h9.symm;subst h9)
  |(go_at_call 16;refine (HSH.out _ _ E2.out.q E2.out.tree).mono ?_;rintro e9 w5 ⟨v5,rfl,q5,lo5,hi5,h51,h52,ow5⟩;obtain ⟨k5,n5,t5,b5,e5,a5,l5,c5,a6,l6,c6,rfl⟩:=ow5.shape;have E5:=hid (E2.out.on q5);have X5:=hid (bv_new E5.out.q ow5 h52);clear q5 h51 h52 ow5 y0 y1 y2 y3 y4 y5 y6 f0 f1 f2 f3 f4 f5 f6;obtain ⟨z0,z1,z2,z3,z4,z5,z6,zp⟩:=E5.out.nd;have zl:=zp.lt;clear zp;simp only [Nat.zero_add]at z0 z1 z2 z3 z4 z5 z6)
  |(go_at_call 17;refine (HR1.out _ _ (E5.out.on ((Q.refl _).alloc _)).tree).mono ?_;rintro e9 w6 ⟨v6,rfl,o6,q6⟩;have E6:=hid ((E5.out.on ((Q.refl _).alloc _)).on q6);have X6:=hid (X5.out.on q6);have O6:=hid o6;obtain ⟨ao6,co6,hv6,hc6,hd6⟩:=(o6.sl rf_len (by omega)).len;subst hv6;clear o6 q6;clear z0 z1 z2 z3 z4 z5 z6 zl;obtain ⟨z0,z1,z2,z3,z4,z5,z6,zp⟩:=E6.out.nd;have zl:=zp.lt;clear zp;simp only [Nat.zero_add]at z0 z1 z2 z3 z4 z5 z6)
  |(go_at_call 12;refine (HMY.out _ _ E6.out.tree).mono ?_;rintro e9 w7 ⟨rfl,q7⟩;have E7:=hid (E6.out.on q7);have X7:=hid (X6.out.on q7);have O7:=hid (O6.out.on q7);clear q7;clear z0 z1 z2 z3 z4 z5 z6 zl;obtain ⟨z0,z1,z2,z3,z4,z5,z6,zp⟩:=E7.out.nd;have zl:=zp.lt;clear zp;simp only [Nat.zero_add]at z0 z1 z2 z3 z4 z5 z6;obtain ⟨p0,p1,p2,p3,p4,p5,p6,pp⟩:=X7.out.nd;have pl:=pp.lt;clear pp;simp only [Nat.zero_add]at p0 p1 p2 p3 p4 p5 p6)
  |(go_at_call 13;refine (HEQ.out _ _ _ X7.out.tree E7.out.tree).mono ?_;rintro e9 w8 ⟨⟨r8,rfl,h8⟩,q8⟩;obtain rfl:r8=true:=h8.2 (by trivial);have Q8:=hid (E7.out.q.trans q8);clear q8 h8))
 go_ret
 exact ⟨rfl,Q8.out⟩
theorem shlaw_blank(x:Ex)(v:Value)(home gone:ByteArray)(W:World)(hg:Gd W)(hr:RdI W x v)(hs:Sm (cutE x 1 220).1)(hn:Sn (cutE x 1 220).1)(hm:(fitB (cutE x 1 220).1&&mall mayN (cutE x 1 220).1)=true)(hgo:(sh20 gone).data.toList=[]) :
  Calls Tryz.prog 4 #[v,.string home,.string gone] W fun e W'=>e=.returned (.bool true)∧Q W W':=by
 have HBG:=hid (fun w (q:Q W w)=>begun_any w (hg.on q))
 have HCU:=hid (fun w (q:Q W w)=>cutx_any x v W w hr q)
 obtain ⟨k0,n0,t0,b0,e0,a1,l1,c1,a2,l2,c2,rfl⟩:=hr.shape;have hk:=cut_220 x;have hrl:=cut_rfs x 1 220;obtain ⟨y,hy⟩:∃ y,(cutE x 1 220).1=y:=⟨_,rfl⟩;rw [hy]at HCU hs hn hk hrl hm;obtain ⟨ya,h1,h2,hla⟩:=law_sheet (sh20 home) (sh20 gone) hg hs hn hk;have HSO:=hid (fun s w=>short20 s w)
 have HSH:=hid hla;have HNB:=hid (nd_new W (.int .i64 k0) (.int .i64 n0) (.string t0) (.bool b0) (.int .i64 e0) (.slice a1 l1 c1) (.slice a2 l2 c2) 26);have HMY:=hid (fun w v (r:Rd w y v)=>rmayexpr_any y v w hs r)
 rw [hm]at HMY;have HRL:Hid ((rfs y).length≤1000000):=hid (by omega)
 have HR1:=hid (fun w v (r:Rd w y v)=>refs_any y v w r hn (by omega) (by omega))
 have HRF:=hid (fun w v (r:Rd w y v)=>rrefs_any _ y v w (Nat.le_refl _) r HRL.out)
 have hroom:(rfs y).length≤9223372036854775807:=by have:=HRL.out;omega
 have hgn:((sh20 gone).toList == [])=true:=by rw [(hid (toL (sh20 gone))).out,hgo];rfl
 clear hg hr hs hn hy hk hrl h1 h2 hla hm;go_enter Tryz.func4,Tryz.ntmps4
 go_wp2_with (first
  |(go_at_call 8;refine (HBG.out _ ((Q.refl _).alloc _)).mono ?_;rintro e9 w1 ⟨rfl,q1⟩;have Q1:Hid (Q W w1):=hid (((Q.refl _).alloc _).trans q1);have N1:=hid (HNB.out.on q1);clear q1;obtain ⟨y0,y1,y2,y3,y4,y5,y6,_⟩:=N1.out;simp only [Nat.zero_add]at y0 y1 y2 y3 y4 y5 y6)
  |(go_at_call 9;refine (HCU.out _ Q1.out).mono ?_;rintro e9 w2 ⟨v2,rfl,r2,q2⟩;obtain ⟨k2,n2,t2,b2,e2,a3,l3,c3,a4,l4,c4,rfl⟩:=r2.shape;have N2:=hid (N1.out.on q2);have E2:=hid (bv_store Q1.out q2 (Nat.le_refl _) N1.out.pl.lt N2.out r2);clear r2 q2 y0 y1 y2 y3 y4 y5 y6;obtain ⟨y0,y1,y2,y3,y4,y5,y6,yp⟩:=N2.out;have f0:=yp.frozen 0;have f1:=yp.frozen 1;have f2:=yp.frozen 2;have f3:=yp.frozen 3;have f4:=yp.frozen 4;have f5:=yp.frozen 5;have f6:=yp.frozen 6;clear yp;simp only [Nat.zero_add]at y0 y1 y2 y3 y4 y5 y6)
  |(go_at_call 10;refine (HSO.out _ _).mono ?_;rintro e9 w9 ⟨rfl,h9⟩;replace h9:=h9.symm;subst h9)
  |(go_at_call 16;refine (HSH.out _ _ E2.out.q E2.out.tree).mono ?_;rintro e9 w5 ⟨v5,rfl,q5,lo5,hi5,h51,h52,ow5⟩;obtain ⟨k5,n5,t5,b5,e5,a5,l5,c5,a6,l6,c6,rfl⟩:=ow5.shape;have E5:=hid (E2.out.on q5);have X5:=hid (bv_new E5.out.q ow5 h52);clear q5 h51 h52 ow5 y0 y1 y2 y3 y4 y5 y6 f0 f1 f2 f3 f4 f5 f6;obtain ⟨z0,z1,z2,z3,z4,z5,z6,zp⟩:=E5.out.nd;have zl:=zp.lt;clear zp;simp only [Nat.zero_add]at z0 z1 z2 z3 z4 z5 z6)
  |(go_at_call 17;refine (HR1.out _ _ (E5.out.on ((Q.refl _).alloc _)).tree).mono ?_;rintro e9 w6 ⟨v6,rfl,o6,q6⟩;have E6:=hid ((E5.out.on ((Q.refl _).alloc _)).on q6);have X6:=hid (X5.out.on q6);have O6:=hid o6;obtain ⟨ao6,co6,hv6,hc6,hd6⟩:=(o6.sl rf_len (by omega)).len;subst hv6;clear o6 q6;clear z0 z1 z2 z3 z4 z5 z6 zl;obtain ⟨z0,z1,z2,z3,z4,z5,z6,zp⟩:=E6.out.nd;have zl:=zp.lt;clear zp;simp only [Nat.zero_add]at z0 z1 z2 z3 z4 z5 z6)
  |(go_at_call 12;refine (HMY.out _ _ E6.out.tree).mono ?_;rintro e9 w7 ⟨rfl,q7⟩;have E7:=hid (E6.out.on q7);have X7:=hid (X6.out.on q7);have O7:=hid (O6.out.on q7);clear q7;clear z0 z1 z2 z3 z4 z5 z6 zl;obtain ⟨z0,z1,z2,z3,z4,z5,z6,zp⟩:=E7.out.nd;have zl:=zp.lt;clear zp;simp only [Nat.zero_add]at z0 z1 z2 z3 z4 z5 z6;obtain ⟨p0,p1,p2,p3,p4,p5,p6,pp⟩:=X7.out.nd;have pl:=pp.lt;clear pp;simp only [Nat.zero_add]at p0 p1 p2 p3 p4 p5 p6)
  |(go_at_call 18;refine (HRF.out _ _ E7.out.tree).mono ?_;rintro e9 w8 ⟨v8,rfl,o8,q8⟩;obtain ⟨ao8,co8,hv8,hc8,hd8⟩:=(o8.sl rf_len (by omega)).len;subst hv8;have L8:=hid (Lr.mk (E7.out.on q8) (X7.out.on q8) (O7.out.on q8) o8);clear o8 q8;clear z0 z1 z2 z3 z4 z5 z6 zl p0 p1 p2 p3 p4 p5 p6 pl))
 go_loopw [11] (fun z W'=>∃ i:Nat,i≤(rfs y).length∧z=.int .i64 (i:Int)∧Hid (Lr W W' y ya W.heap.size w2.heap.size w5.heap.size w5.heap.size (.int .i64 k2) (.int .i64 n2) (.string t2) (.bool b2) (.int .i64 e2) (.slice a3 l3 c3) (.slice a4 l4 c4) (.int .i64 k5) (.int .i64 n5) (.string t5) (.bool b5) (.int .i64 e5) (.slice a5 l5 c5) (.slice a6 l6 c6) (w5.heap.size+1) w7.heap.size (.slice ao6 (rfs y).length co6) (.slice ao8 (rfs y).length co8))) (fun z _=>(rfs y).length-(intOf z).toNat)
 case atStart=>exact ⟨0,Nat.zero_le _,rfl,by first|exact L8|(have h:=L8.out;simp at h ⊢;exact h)⟩
 case round=>
  obtain ⟨i,hik,rfl,hL⟩:=hrel;by_cases hlt:i<(rfs y).length
  ·obtain ⟨g5,cg5,hvv,_⟩:=hL.out.o.shape (by omega)
   simp only [Value.slice.injEq]at hvv
   obtain ⟨rfl,_,rfl⟩:=hvv;obtain ⟨g6,cg6,hvv,_⟩:=hL.out.o'.shape (by omega)
   simp only [Value.slice.injEq]at hvv
   obtain ⟨rfl,_,rfl⟩:=hvv;have hcl:=hL.out.o.cell rf_len hlt;have c1:=hcl 0 _ rfl;have c2:=hcl 1 _ rfl;have c3:=hcl 2 _ rfl;clear hcl;have hcl:=hL.out.o'.cell rf_len hlt;have c4:=hcl 0 _ rfl;have c5:=hcl 1 _ rfl;have c6:=hcl 2 _ rfl;clear hcl;simp only [Nat.add_zero,Nat.zero_add]at c1 c2 c3 c4 c5 c6
   generalize (rfs y)[i]=r1 at c1 c2 c3 c4 c5 c6;obtain ⟨T,hT⟩:∃ T,r1.1=T:=⟨_,rfl⟩;obtain ⟨R,hR⟩:∃ R,r1.2.1=R:=⟨_,rfl⟩;obtain ⟨C,hC⟩:∃ C,r1.2.2.1=C:=⟨_,rfl⟩;rw [hT]at c1 c4;rw [hR]at c2 c5;rw [hC]at c3 c6;clear hT hR hC;go_wp2_with fail
   go_quiet (fail)
   rename_i nq
   go_wp2_with fail
   go_roundw
   case rel=>exact ⟨i+1,by omega,by go_num,hid (hL.out.on (by repeat (first|with_reducible exact Q.refl _|with_reducible refine Q.drewN ?_ _|with_reducible refine Q.drew ?_)))⟩
   case measure=>simp [intOf];omega
  ·obtain ⟨E7,X7,_,_⟩:=hL.out
   go_wp2_with fail
   go_quiet (fail)
   rename_i nq
   go_wp2_with fail
   go_ret
   exact ⟨rfl,hL.out.e.q.trans (by repeat (first|with_reducible exact Q.refl _|with_reducible refine Q.drewN ?_ _|with_reducible refine Q.drew ?_))⟩
end Go.Proofs.YtoikodohcieipaaGreatDoor
