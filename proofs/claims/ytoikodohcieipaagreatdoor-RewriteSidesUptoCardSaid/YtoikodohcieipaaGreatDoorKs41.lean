/- counterpaneref5.may, MayExpr a. -/
import Derived.Test.YtoikodohcieipaaGreatDoorKs40
import Derived.Test.YtoikodohcieipaaGreatDoorKs39
import Derived.Test.YtoikodohcieipaaGreatDoorKs36
import Derived.Test.YtoikodohcieipaaGreatDoorKs30
import Derived.Test.YtoikodohcieipaaGreatDoorKs38
import Derived.Test.YtoikodohcieipaaGreatDoorKs13
set_option linter.unusedVariables false
set_option linter.unusedSimpArgs false
set_option maxRecDepth 100000
set_option maxHeartbeats 8000000
namespace Go.Proofs.YtoikodohcieipaaGreatDoor
open Go.RowKit
theorem mre_of{W:World}(x:Rf)(hs:x.1.length≤2000000):MRe W x:=by
 intro V q
 exact rmay_any ⟨x.1.toArray⟩ x.2.1 x.2.2.1 x.2.2.2.1 x.2.2.2.2 V (by show x.1.toArray.size≤4000000000;simp;omega)
theorem bare_leaf(ok:Bool)(n:Int)(t:List UInt8)(b:Bool)(e:Int)(l1:Nat)(ks:List Ex)(d:Nat):((ok&&bareB n t b e l1 ks.length)&&rm.rmL ks d)=(ok&&bareB n t b e l1 ks.length):=by
 cases h:bareB n t b e l1 ks.length
 ·rw [Bool.and_false,Bool.false_and]
 ·have:ks=[]:=List.eq_nil_of_length_eq_zero (of_decide_eq_true h).2.2.2.2.2
  subst this;rw [rm.rmL,Bool.and_true]
theorem rmay_all:∀ (s:Nat) (x:Ex) (v:Value) (W:World) (d:Nat),SizeOf.sizeOf x≤s→Sm x→Rd W x v→Calls Tryz.prog 30 #[v,.int .i64 (d:Int)] W fun e W'=>e=.returned (.bool (rm x d))∧Q W W':=by
 intro s
 induction s with
 |zero=>
  intro x v W d hs
  cases x with
  |mk k n t b e rs ks=>simp at hs
 |succ s ih=>
  intro x v W d hsz hs hr
  obtain ⟨k,n,t,b,e,rs,ks,rv',kv,ao,cap,rfl,hp⟩:=hr.prt;obtain ⟨ar,cr,hrv,hl⟩:=hp.rl;have hsl:Sl rf 5 W (.slice ar rs.length cr) rs:=hrv ▸ hp.rl
  have hkl:=hp.kl;subst hkl hrv;have hx:=hp.ex;have hcap:ks.length≤9223372036854775807:=by have h1:=hp.le;have h2:=hp.mx;unfold maxLen at h2;omega
  have HKid:Hid (∀ i (hi:i<ks.length) V,Q W V→∃ b' off c0 c1 c2 c3 c4 c5 c6,ao=some ⟨b',off,none⟩∧Kid V ks[i] b' (off+i*7) c0 c1 c2 c3 c4 c5 c6):=hid (fun i hi V q=>by
   obtain ⟨b',off,ha,hl⟩:=(hp.on q).kd (by intro h;rw [h]at hi;simp at hi)
   obtain ⟨c0,c1,c2,c3,c4,c5,c6,hk⟩:=hl.kid i hi;exact ⟨b',off,c0,c1,c2,c3,c4,c5,c6,ha,hk⟩)
  have hkids:∀ y∈ks,Sm y:=sm_kids k n t.data.toList b e rs ks (hx ▸ hs)
  have IH:Hid (∀ i (hi:i<ks.length) v V,Rd V ks[i] v→Calls Tryz.prog 30 #[v,.int .i64 ((d:Int)+1)] V fun e W'=>e=.returned (.bool (rm ks[i] (d+1)))∧Q V W'):=hid (fun i hi v V hr=>by
   have h1:=kid_size (k:=k) (n:=n) (t:=t.data.toList) (b:=b) (e:=e) (rs:=rs) i hi;rw [←hx]at h1;have:=ih ks[i] v V (d+1) (by omega) (hkids _ (List.getElem_mem hi)) hr
   rw [show ((d+1:Nat):Int)=(d:Int)+1 by omega]at this
   exact this)
  clear ih hr;subst hx;rw [Sm]at hs;obtain ⟨s1,s2,_⟩:=hs;have st:t.size≤1000000:=by rw [←len_data];exact s1
  have hm:Hid (∀ y∈rs,MRe W y):=hid (fun y hy=>mre_of y (s2 y hy))
  rw [rm,mayN];by_cases h1:k=1
  ·subst h1
   rw [if_pos rfl,bare_leaf];exact rn_1 n t b e ar rs.length cr ao ks.length cap W d
  by_cases h2:k=2
  ·subst h2
   rw [if_neg (by decide),if_pos rfl,bare_leaf]
   exact rn_2 n t b e ar rs.length cr ao ks.length cap W d (by omega)
  by_cases h3:k=3
  ·subst h3
   rw [if_neg (by decide),if_neg (by decide),if_pos rfl,bare_leaf]
   exact rn_3 n t b e ar rs.length cr ao ks.length cap W d
  by_cases h4:k=4
  ·subst h4
   rw [if_neg (by decide),if_neg (by decide),if_neg (by decide),if_pos rfl,bare_leaf]
   exact rn_4 n t b e ar rs.length cr ao ks.length cap W d
  by_cases h5:k=5
  ·subst h5
   rw [if_neg (by decide),if_neg (by decide),if_neg (by decide),if_neg (by decide),if_pos rfl,bare_leaf]
   exact rn_5 n t b e ar rs.length cr ao ks.length cap W d rs hsl hm
  by_cases h6:k=6
  ·subst h6
   rw [if_neg (by decide),if_neg (by decide),if_neg (by decide),if_neg (by decide),if_neg (by decide),if_pos rfl,bare_leaf]
   exact rn_6 n t b e ar rs.length cr ao ks.length cap W d rs hsl hm
  by_cases h7:k=7
  ·subst h7
   rw [if_neg (by decide),if_neg (by decide),if_neg (by decide),if_neg (by decide),if_neg (by decide),if_neg (by decide),if_pos rfl]
   exact rn_7 n t b e ar rs.length cr ao ks.length cap W d ks rfl hcap HKid IH
  by_cases h8:k=8
  ·subst h8
   rw [if_neg (by decide),if_neg (by decide),if_neg (by decide),if_neg (by decide),if_neg (by decide),if_neg (by decide),if_neg (by decide),if_pos rfl]
   exact rn_8 n t b e ar rs.length cr ao ks.length cap W d ks rfl hcap HKid IH
  by_cases h9:k=9
  ·subst h9
   rw [if_neg (by decide),if_neg (by decide),if_neg (by decide),if_neg (by decide),if_neg (by decide),if_neg (by decide),if_neg (by decide),if_neg (by decide),if_pos rfl]
   exact rn_9 n t b e ar rs.length cr ao ks.length cap W d (by omega) ks rfl hcap HKid IH
  rw [if_neg h1,if_neg h2,if_neg h3,if_neg h4,if_neg h5,if_neg h6,if_neg h7,if_neg h8,if_neg h9,Bool.false_and,Bool.and_false];exact rn_k k n t b e ar rs.length cr ao ks.length cap W d (by omega)
theorem rcount_any(x:Ex)(v:Value)(W:World)(hr:Rd W x v):Calls Tryz.prog 29 #[v] W fun e W'=>e=.returned (.int .i64 (min (nodes x) 201:Nat))∧Q W W':=by
 have HC:=hid (fun W' (q:Q W W')=>count_any (SizeOf.sizeOf x) x v W' 0 0 0 (Nat.le_refl _) rfl (by omega) (Rd.on q _ _ hr))
 have hn:=cnt_nodes x 0 (by omega)
 rw [Nat.zero_add]at hn;rw [←hn];obtain ⟨k,n,t,b,e,a1,l1,c1,a2,l2,c2,rfl⟩:=hr.shape;obtain ⟨c,hc⟩:∃ c,cnt x 0=c:=⟨_,rfl⟩;rw [hc]at HC ⊢;clear hn hc hr;by_cases h:200<c
 ·have h':(200:Int)<(c:Int):=by omega
  have HR:Hid (min c 201=201):=by show _=_;omega
  go_enter Tryz.func29,Tryz.ntmps29
  go_wp2_with (go_at_call 54;refine (HC.out _ ((Q.refl _).alloc _)).mono ?_;rintro e9 w1 ⟨rfl,q1⟩;have Q1:Hid (Q W w1):=hid (((Q.refl _).alloc _).trans q1);clear q1)
  go_ret
  exact ⟨by rw [HR.out];rfl,Q1.out⟩
 ·have h':¬ (200:Int)<(c:Int):=by omega
  have HR:Hid (min c 201=c):=by show _=_;omega
  go_enter Tryz.func29,Tryz.ntmps29
  go_wp2_with (go_at_call 54;refine (HC.out _ ((Q.refl _).alloc _)).mono ?_;rintro e9 w1 ⟨rfl,q1⟩;have Q1:Hid (Q W w1):=hid (((Q.refl _).alloc _).trans q1);clear q1)
  go_ret
  exact ⟨by rw [HR.out];rfl,Q1.out⟩
theorem rmayexpr_any(x:Ex)(v:Value)(W:World)(hs:Sm x)(hr:Rd W x v):Calls Tryz.prog 12 #[v] W fun e W'=>e=.returned (.bool (fitB x&&mall mayN x))∧Q W W':=by
 have HC:=hid (fun W' (q:Q W W')=>rcount_any x v W' (Rd.on q _ _ hr))
 have HA:=hid (fun W' (q:Q W W')=>rmay_all (SizeOf.sizeOf x) x v W' 1 (Nat.le_refl _) hs (Rd.on q _ _ hr))
 have he:(fitB x&&mall mayN x)=(decide (min (nodes x) 201≤200)&&rm x 1):=by
  rw [rm_shl x 1 50 rfl];unfold fitB
  have:decide (nodes x≤200)=decide (min (nodes x) 201≤200):=by
   by_cases h:nodes x≤200
   ·rw [decide_eq_true h,decide_eq_true (by omega)]
   ·rw [decide_eq_false h,decide_eq_false (by omega)]
  rw [this,Bool.and_assoc]
 rw [he];obtain ⟨k,n,t,b,e,a1,l1,c1,a2,l2,c2,rfl⟩:=hr.shape;have HX:=hid (Bx.start W (.int .i64 k) (.int .i64 n) (.string t) (.bool b) (.int .i64 e) (.slice a1 l1 c1) (.slice a2 l2 c2) 26);obtain ⟨c,hc⟩:∃ c,min (nodes x) 201=c:=⟨_,rfl⟩;obtain ⟨r,hrr⟩:∃ r,rm x 1=r:=⟨_,rfl⟩;rw [hc]at HC ⊢;rw [hrr]at HA ⊢;clear hr hs he hc hrr;by_cases h:c≤200
 ·have h':(c:Int)≤200:=by omega
  rw [decide_eq_true h,Bool.true_and];go_enter Tryz.func12,Tryz.ntmps12
  go_wp2_with (first|(go_at_call 29;refine (HC.out _ ((Q.refl _).alloc _)).mono ?_;rintro e9 w1 ⟨rfl,q1⟩;have Q1:Hid (Q W w1):=hid (((Q.refl _).alloc _).trans q1);have X1:=hid (HX.out.on q1);clear q1;obtain ⟨_,_,g0,g1,g2,g3,g4,g5,g6⟩:=X1.out)|(go_at_call 30;refine (HA.out _ Q1.out).mono ?_;rintro e9 w2 ⟨rfl,q2⟩;have Q2:Hid (Q W w2):=hid (Q1.out.trans q2);clear q2))
  go_ret
  exact ⟨rfl,Q2.out⟩
 ·have h':¬ (c:Int)≤200:=by omega
  rw [decide_eq_false h,Bool.false_and];go_enter Tryz.func12,Tryz.ntmps12
  go_wp2_with (go_at_call 29;refine (HC.out _ ((Q.refl _).alloc _)).mono ?_;rintro e9 w1 ⟨rfl,q1⟩;have Q1:Hid (Q W w1):=hid (((Q.refl _).alloc _).trans q1);clear q1)
  go_ret
  exact ⟨rfl,Q1.out⟩
theorem cut_sm{B:Nat}(hB:B≤2000000):∀ (x:Ex) (d l:Nat),Shs B x→Sm (cutE x d l).1
 |.mk k n t b e rs ks,d,l,h=>by
  rw [Shs]at h;rw [cutE,Sm];refine ⟨?_,fun r hr=>Nat.le_trans (h.1 r (List.mem_of_mem_take hr)) hB,go hB ks d (l-1) h.2⟩
  rw [List.length_take];omega
 where
 go {B:Nat} (hB:B≤2000000):∀ (ks:List Ex) (d l:Nat),Shs.ShsL B ks→Sm.SmL (cutE.cutL ks d l).1
 |[],d,l,_=>by rw [cutE.cutL,Sm.SmL];trivial
 |x::xs,d,l,h=>by
  rw [Shs.ShsL]at h;rw [cutE.cutL]
  split
  ·rw [Sm.SmL]
   exact ⟨cut_sm hB x (d+1) l h.1,go hB xs d _ h.2⟩
  ·rw [Sm.SmL];trivial
theorem nodesL_len:∀ (ks:List Ex),ks.length≤nodes.nodesL ks
 |[]=>by simp
 |x::xs=>by
  rw [nodes.nodesL,List.length_cons];have h1:=nodesL_len xs;have h2:=nodes_pos x;omega
theorem nodesL_mem{y:Ex}:∀ {ks:List Ex},y∈ks→nodes y≤nodes.nodesL ks
 |[],h=>absurd h (by simp)
 |x::xs,h=>by
  rw [nodes.nodesL]
  rcases List.mem_cons.1 h with rfl|h
  ·omega
  ·have:=nodesL_mem h;omega
theorem sn_may:∀ (s:Nat) (x:Ex),SizeOf.sizeOf x≤s→Sm x→mall mayN x=true→nodes x≤1000→Sn x∧(rfs x).length≤2*nodes x:=by
 intro s
 induction s with
 |zero=>
  intro x hs
  cases x with
  |mk k n t b e rs ks=>simp at hs
 |succ s ih=>
  intro x hs hm ha hn
  cases x with
  |mk k n t b e rs ks=>
   rw [mall,mallL_all]at ha;obtain ⟨m1,m2⟩:=Bool.and_eq_true_iff.1 ha;have hr:=may_refs m1;unfold Sm at hm
   rw [nodes]at hn ⊢;have hk:∀ y∈ks,Sn y∧(rfs y).length≤2*nodes y:=fun y hy=>by
    obtain ⟨i,hi,rfl⟩:=List.getElem_of_mem hy;exact ih _ (by have:=kid_size (k:=k) (n:=n) (t:=t) (b:=b) (e:=e) (rs:=rs) i hi;omega) (sm_kid hm.2.2 _ hy) (List.all_eq_true.1 m2 _ hy) (by have:=nodesL_mem hy;omega)
   refine ⟨?_,?_⟩
   ·unfold Sn
    exact ⟨hm.1,by omega,hm.2.1,by have:=nodesL_len ks;omega,snL_of (fun y hy=>(hk y hy).1)⟩
   ·have hl:∀ (l:List Ex),(∀ y∈l,(rfs y).length≤2*nodes y)→(rfs.rfsL l).length≤2*nodes.nodesL l:=by
     intro l
     induction l with
     |nil=>intro _;simp [rfs.rfsL]
     |cons y ys ih2=>
      intro h
      rw [rfs.rfsL,nodes.nodesL,List.length_append];have h1:=h y (List.mem_cons_self ..);have h2:=ih2 (fun z hz=>h z (List.mem_cons_of_mem _ hz))
      omega
    have:=hl ks (fun y hy=>(hk y hy).2)
    rw [rfs,List.length_append];omega
theorem gx_of{x:Ex}(hm:Sm x)(h:(fitB x&&mall mayN x)=true):Gx x∧(rfs x).length≤1000000:=by
 have h1:=Bool.and_eq_true_iff.1 h;have h2:=h1.1;unfold fitB at h2
 have h3:=of_decide_eq_true (Bool.and_eq_true_iff.1 h2).1;have h4:=sn_may _ x (Nat.le_refl _) hm h1.2 (by omega)
 exact ⟨⟨h4.1,hm,h⟩,by omega⟩
structure Bk (W0 W:World) (x:Ex) (p:Nat) (v0 v1 v2 v3 v4 v5 v6:Value):Prop where
 q:Q W0 W
 nd:Nd W p 0 v0 v1 v2 v3 v4 v5 v6
 rd:Rd W x (.agg #[v0,v1,v2,v3,v4,v5,v6])
theorem bk_store{W0 w1 w2:World}{x:Ex}{p:Nat}{c0 c1 c2 c3 c4 c5 c6 d0 d1 d2 d3 d4 d5 d6:Value}(q1:Q W0 w1)(q2:Q w1 w2)(hp:W0.heap.size≤p)(hp2:p<w1.heap.size)(hn:Nd w2 p 0 c0 c1 c2 c3 c4 c5 c6)(hr:Rdg (fun b=>b<W0.heap.size∨w1.heap.size≤b) w2 x (.agg #[d0,d1,d2,d3,d4,d5,d6])) :
  Bk W0 (((((((w2.setCell ⟨p,0,none⟩ d0).setCell ⟨p,1,none⟩ d1).setCell ⟨p,2,none⟩ d2).setCell ⟨p,3,none⟩ d3).setCell ⟨p,4,none⟩ d4).setCell ⟨p,5,none⟩ d5).setCell ⟨p,6,none⟩ d6) x p d0 d1 d2 d3 d4 d5 d6:=by
 have hn7:=hn.all7 d0 d1 d2 d3 d4 d5 d6;simp only [Nat.zero_add]at hn7
 have QF:Qx p w2 (((((((w2.setCell ⟨p,0,none⟩ d0).setCell ⟨p,1,none⟩ d1).setCell ⟨p,2,none⟩ d2).setCell ⟨p,3,none⟩ d3).setCell ⟨p,4,none⟩ d4).setCell ⟨p,5,none⟩ d5).setCell ⟨p,6,none⟩ d6):=(((((((Qx.refl _ _).own _ _).own _ _).own _ _).own _ _).own _ _).own _ _).own _ _
 have hq:=q1.trans q2;exact ⟨⟨QF.os.trans hq.os,QF.tape.trans hq.tape,QF.output.trans hq.output,Nat.le_trans hq.size QF.size,fun i hi=>(QF.block i (Nat.lt_of_lt_of_le hi hq.size) (fun e=>by have:=Option.some.inj e;omega)).trans (Q.block hq hi)⟩,hn7,Rdg.rd _ _ (Rdg.on QF (fun b hb=>by omega) _ _ hr)⟩
structure Bv (W0 W:World) (x:Ex) (p M:Nat) (v0 v1 v2 v3 v4 v5 v6:Value):Prop where
 q:Q W0 W
 nd:Nd W p 0 v0 v1 v2 v3 v4 v5 v6
 rd:Rdg (fun b=>b<M) W x (.agg #[v0,v1,v2,v3,v4,v5,v6])
 mx:M≤W.heap.size
theorem Rdg.onq{g:Nat→Prop}{W W':World}{x:Ex}{v:Value}{M:Nat}(h:Rdg (fun b=>b<M) W x v)(q:Q W W'):Rdg (fun b=>b<M) W' x v:=Rdg.on (Qx.of (p:=M) q) (fun b hb=>by omega) _ _ h
theorem Bv.on{W0 W W':World}{x:Ex}{p M:Nat}{v0 v1 v2 v3 v4 v5 v6:Value}(h:Bv W0 W x p M v0 v1 v2 v3 v4 v5 v6)(q:Q W W'):Bv W0 W' x p M v0 v1 v2 v3 v4 v5 v6:=⟨h.q.trans q,h.nd.on q,h.rd.onq (g:=fun _=>True) q,Nat.le_trans h.mx q.size⟩
theorem Bv.tree{W0 W:World}{x:Ex}{p M:Nat}{v0 v1 v2 v3 v4 v5 v6:Value}(h:Bv W0 W x p M v0 v1 v2 v3 v4 v5 v6):Rd W x (.agg #[v0,v1,v2,v3,v4,v5,v6]):=Rdg.rd _ _ h.rd
theorem q_qx{W0 W W':World}{p:Nat}(q:Q W0 W)(k:Qx p W W')(h:W0.heap.size≤p):Q W0 W':=
 ⟨k.os.trans q.os,k.tape.trans q.tape,k.output.trans q.output,Nat.le_trans q.size k.size,fun i hi=>(k.block i (Nat.lt_of_lt_of_le hi q.size) (fun e=>by have:=Option.some.inj e;omega)).trans (Q.block q hi)⟩
theorem Nd.qx{W W':World}{b o p:Nat}{c0 c1 c2 c3 c4 c5 c6:Value}(h:Nd W b o c0 c1 c2 c3 c4 c5 c6)(k:Qx p W W')(hn:b≠p):Nd W' b o c0 c1 c2 c3 c4 c5 c6:=h.blk (k.block b h.pl.lt (fun e=>hn (Option.some.inj e)))
theorem Bv.qx{W0 W W':World}{x:Ex}{p M p':Nat}{v0 v1 v2 v3 v4 v5 v6:Value}(h:Bv W0 W x p M v0 v1 v2 v3 v4 v5 v6)(k:Qx p' W W')(h1:W0.heap.size≤p')(h2:p≠p')(h3:M≤p'):Bv W0 W' x p M v0 v1 v2 v3 v4 v5 v6:=
 ⟨q_qx h.q k h1,h.nd.qx k h2,Rdg.on k (fun b hb=>by omega) _ _ h.rd,Nat.le_trans h.mx k.size⟩
structure T3 (W:World) (p:Nat) (a b c:Int):Prop where
 g0:W.cell? ⟨p,0,none⟩=some (.int .i64 a)
 g1:W.cell? ⟨p,1,none⟩=some (.int .i64 b)
 g2:W.cell? ⟨p,2,none⟩=some (.int .i64 c)
theorem T3.lt{W:World}{p:Nat}{a b c:Int}(h:T3 W p a b c):p<W.heap.size:=World.block_lt_of_cell? W ⟨p,0,none⟩ h.g0
theorem T3.blk{W W':World}{p:Nat}{a b c:Int}(h:T3 W p a b c)(e:W'.heap[p]?=W.heap[p]?):T3 W' p a b c:=
 ⟨(World.cell?_of_block (a:=⟨p,0,none⟩) e).trans h.g0,(World.cell?_of_block (a:=⟨p,1,none⟩) e).trans h.g1,(World.cell?_of_block (a:=⟨p,2,none⟩) e).trans h.g2⟩
theorem T3.on{W W':World}{p:Nat}{a b c:Int}(h:T3 W p a b c)(q:Q W W'):T3 W' p a b c:=h.blk (Q.block q h.lt)
theorem T3.qx{W W':World}{p p':Nat}{a b c:Int}(h:T3 W p a b c)(k:Qx p' W W')(hn:p≠p'):T3 W' p a b c:=h.blk (k.block p h.lt (fun e=>hn (Option.some.inj e)))
theorem t3_new(W:World)(a b c:Int)(t:TypeId):T3 (W.alloc (.cells #[.int .i64 a,.int .i64 b,.int .i64 c] t)) W.heap.size a b c:=by
 refine ⟨?_,?_,?_⟩ <;> simp [World.cell?_alloc_new]
def set7(w:World)(p:Nat)(d0 d1 d2 d3 d4 d5 d6:Value):World:=(((((((w.setCell ⟨p,0,none⟩ d0).setCell ⟨p,1,none⟩ d1).setCell ⟨p,2,none⟩ d2).setCell ⟨p,3,none⟩ d3).setCell ⟨p,4,none⟩ d4).setCell ⟨p,5,none⟩ d5).setCell ⟨p,6,none⟩ d6)
theorem set7_qx(w:World)(p:Nat)(d0 d1 d2 d3 d4 d5 d6:Value):Qx p w (set7 w p d0 d1 d2 d3 d4 d5 d6):=(((((((Qx.refl _ _).own _ _).own _ _).own _ _).own _ _).own _ _).own _ _).own _ _
theorem bv_store{W0 w1 w2:World}{x:Ex}{p:Nat}{c0 c1 c2 c3 c4 c5 c6 d0 d1 d2 d3 d4 d5 d6:Value}(q1:Q W0 w1)(q2:Q w1 w2)(hp:W0.heap.size≤p)(hp2:p<w1.heap.size)(hn:Nd w2 p 0 c0 c1 c2 c3 c4 c5 c6)(hr:Rdg (fun b=>b<W0.heap.size∨w1.heap.size≤b) w2 x (.agg #[d0,d1,d2,d3,d4,d5,d6])) :
  Bv W0 (set7 w2 p d0 d1 d2 d3 d4 d5 d6) x p w2.heap.size d0 d1 d2 d3 d4 d5 d6:=by
 have h:=bk_store q1 q2 hp hp2 hn hr;refine ⟨h.q,h.nd,Rdg.mono (fun b hb=>hb.2) _ _ (Rdg.on (set7_qx w2 p d0 d1 d2 d3 d4 d5 d6) (fun b hb=>?_) _ _ (Rdg.in _ _ hr)),(set7_qx w2 p d0 d1 d2 d3 d4 d5 d6).size⟩
 omega
theorem bv_new{W0 w2:World}{x:Ex}{lo hi:Nat}{d0 d1 d2 d3 d4 d5 d6:Value}(q2:Q W0 w2)(ho:Ow w2 x (.agg #[d0,d1,d2,d3,d4,d5,d6]) lo hi)(hh:hi≤w2.heap.size) :
  Bv W0 (w2.alloc (.cells #[d0,d1,d2,d3,d4,d5,d6] 26)) x w2.heap.size w2.heap.size d0 d1 d2 d3 d4 d5 d6:=by
 have h1:Rdg (fun b=>b<w2.heap.size) w2 x (.agg #[d0,d1,d2,d3,d4,d5,d6]):=Ow.rdg _ _ _ _ (fun i _ h=>by omega) ho
 exact ⟨q2.alloc _,nd_new w2 d0 d1 d2 d3 d4 d5 d6 26,h1.onq (g:=fun _=>True) ((Q.refl _).alloc _),by simp⟩
theorem sides_begin(W:World)(k0 n0:Int)(t0:ByteArray)(b0:Bool)(e0:Int)(a1:Option Addr)(l1 c1:Nat)(a2:Option Addr)(l2 c2:Nat)(k a t k' a' t':Int) :
  Nd (((W.alloc (.cells #[.int .i64 k0,.int .i64 n0,.string t0,.bool b0,.int .i64 e0,.slice a1 l1 c1,.slice a2 l2 c2] 26)).alloc (.cells #[.int .i64 k,.int .i64 a,.int .i64 t] 28)).alloc (.cells #[.int .i64 k',.int .i64 a',.int .i64 t'] 28)) W.heap.size 0 (.int .i64 k0) (.int .i64 n0) (.string t0) (.bool b0) (.int .i64 e0) (.slice a1 l1 c1) (.slice a2 l2 c2)∧T3 (((W.alloc (.cells #[.int .i64 k0,.int .i64 n0,.string t0,.bool b0,.int .i64 e0,.slice a1 l1 c1,.slice a2 l2 c2] 26)).alloc (.cells #[.int .i64 k,.int .i64 a,.int .i64 t] 28)).alloc (.cells #[.int .i64 k',.int .i64 a',.int .i64 t'] 28)) (W.heap.size+1) k a t∧T3 (((W.alloc (.cells #[.int .i64 k0,.int .i64 n0,.string t0,.bool b0,.int .i64 e0,.slice a1 l1 c1,.slice a2 l2 c2] 26)).alloc (.cells #[.int .i64 k,.int .i64 a,.int .i64 t] 28)).alloc (.cells #[.int .i64 k',.int .i64 a',.int .i64 t'] 28)) (W.heap.size+1+1) k' a' t':=by
 refine ⟨(nd_new W _ _ _ _ _ _ _ 26).on (((Q.refl _).alloc _).alloc _),?_,?_⟩
 ·have h:=(t3_new (W.alloc (.cells #[.int .i64 k0,.int .i64 n0,.string t0,.bool b0,.int .i64 e0,.slice a1 l1 c1,.slice a2 l2 c2] 26)) k a t 28).on ((Q.refl _).alloc (.cells #[.int .i64 k',.int .i64 a',.int .i64 t'] 28))
  simpa using h
 ·have h:=t3_new ((W.alloc (.cells #[.int .i64 k0,.int .i64 n0,.string t0,.bool b0,.int .i64 e0,.slice a1 l1 c1,.slice a2 l2 c2] 26)).alloc (.cells #[.int .i64 k,.int .i64 a,.int .i64 t] 28)) k' a' t' 28
  simpa using h
theorem sides_e1(x:Ex)(v:Value)(rows:Bool)(k a t k' a' t':Int)(W:World)(hg:Gd W)(hr:RdI W x v)(hs:Sm (cutE x 1 220).1)(h1:(fitB (cutE x 1 220).1&&mall mayN (cutE x 1 220).1)=false) :
  Calls Tryz.prog 5 #[v,.bool rows,.agg #[.int .i64 k,.int .i64 a,.int .i64 t],.agg #[.int .i64 k',.int .i64 a',.int .i64 t']] W fun e W'=>e=.returned (.bool true)∧Q W W':=by
 have HBG:=hid (fun w (q:Q W w)=>begun_any w (hg.on q))
 have HCU:=hid (fun w (q:Q W w)=>cutx_any x v W w hr q)
 obtain ⟨k0,n0,t0,b0,e0,a1,l1,c1,a2,l2,c2,rfl⟩:=hr.shape;obtain ⟨y,hy⟩:∃ y,(cutE x 1 220).1=y:=⟨_,rfl⟩;rw [hy]at HCU hs h1;have HMY:=hid (fun w v (r:Rd w y v)=>rmayexpr_any y v w hs r)
 have HMA:=hid (fun w=>L.rmay_any k a t w)
 have HMB:=hid (fun w=>L.rmay_any k' a' t' w)
 have HGD:=hid hg;have HSB:=sides_begin W k0 n0 t0 b0 e0 a1 l1 c1 a2 l2 c2 k a t k' a' t';have HNB:=hid HSB.1;have HLA:=hid HSB.2.1;have HLB:=hid HSB.2.2;have HSM:=hid hs;rw [h1]at HMY;clear h1;clear hg hr hs hy HSB;go_enter Tryz.func5,Tryz.ntmps5
 go_wp2_with (first
  |(go_at_call 8;refine (HBG.out _ ((((Q.refl _).alloc _).alloc _).alloc _)).mono ?_;rintro e9 w1 ⟨rfl,q1⟩;have Q1:Hid (Q W w1):=hid (((((Q.refl _).alloc _).alloc _).alloc _).trans q1);have N1:=hid (HNB.out.on q1);have La1:=hid (HLA.out.on q1);have Lb1:=hid (HLB.out.on q1);clear q1;obtain ⟨y0,y1,y2,y3,y4,y5,y6,_⟩:=N1.out;simp only [Nat.zero_add]at y0 y1 y2 y3 y4 y5 y6)
  |(go_at_call 9;refine (HCU.out _ Q1.out).mono ?_;rintro e9 w2 ⟨v2,rfl,r2,q2⟩;obtain ⟨k2,n2,t2,b2,e2,a3,l3,c3,a4,l4,c4,rfl⟩:=r2.shape;have N2:=hid (N1.out.on q2);have E2:=hid (bv_store Q1.out q2 (Nat.le_refl _) N1.out.pl.lt N2.out r2);have La2:=hid ((La1.out.on q2).qx (set7_qx w2 W.heap.size (.int .i64 k2) (.int .i64 n2) (.string t2) (.bool b2) (.int .i64 e2) (.slice a3 l3 c3) (.slice a4 l4 c4)) (by omega));have Lb2:=hid ((Lb1.out.on q2).qx (set7_qx w2 W.heap.size (.int .i64 k2) (.int .i64 n2) (.string t2) (.bool b2) (.int .i64 e2) (.slice a3 l3 c3) (.slice a4 l4 c4)) (by omega));clear r2 q2 y0 y1 y2 y3 y4 y5 y6;obtain ⟨y0,y1,y2,y3,y4,y5,y6,yp⟩:=N2.out;have f0:=yp.frozen 0;have f1:=yp.frozen 1;have f2:=yp.frozen 2;have f3:=yp.frozen 3;have f4:=yp.frozen 4;have f5:=yp.frozen 5;have f6:=yp.frozen 6;clear yp;simp only [Nat.zero_add]at y0 y1 y2 y3 y4 y5 y6)
  |(go_at_call 12;refine (HMY.out _ _ E2.out.tree).mono ?_;rintro e9 w4 ⟨rfl,q4⟩;have E4:=hid (E2.out.on q4);have La4:=hid (La2.out.on q4);have Lb4:=hid (Lb2.out.on q4);clear q4;obtain ⟨z0,z1,z2,z3,z4,z5,z6,_⟩:=E4.out.nd;obtain ⟨x0,x1,x2⟩:=La4.out;obtain ⟨x3,x4,x5⟩:=Lb4.out;simp only [Nat.zero_add]at z0 z1 z2 z3 z4 z5 z6))
 go_ret
 exact ⟨rfl,E4.out.q⟩
theorem sides_e2(x:Ex)(v:Value)(rows:Bool)(k a t k' a' t':Int)(W:World)(hg:Gd W)(hr:RdI W x v)(hs:Sm (cutE x 1 220).1)(h1:(fitB (cutE x 1 220).1&&mall mayN (cutE x 1 220).1)=true)(h2:L.mayB k a t=false) :
  Calls Tryz.prog 5 #[v,.bool rows,.agg #[.int .i64 k,.int .i64 a,.int .i64 t],.agg #[.int .i64 k',.int .i64 a',.int .i64 t']] W fun e W'=>e=.returned (.bool true)∧Q W W':=by
 have HBG:=hid (fun w (q:Q W w)=>begun_any w (hg.on q))
 have HCU:=hid (fun w (q:Q W w)=>cutx_any x v W w hr q)
 obtain ⟨k0,n0,t0,b0,e0,a1,l1,c1,a2,l2,c2,rfl⟩:=hr.shape;obtain ⟨y,hy⟩:∃ y,(cutE x 1 220).1=y:=⟨_,rfl⟩;rw [hy]at HCU hs h1;have HMY:=hid (fun w v (r:Rd w y v)=>rmayexpr_any y v w hs r)
 have HMA:=hid (fun w=>L.rmay_any k a t w)
 have HMB:=hid (fun w=>L.rmay_any k' a' t' w)
 have HGD:=hid hg;have HSB:=sides_begin W k0 n0 t0 b0 e0 a1 l1 c1 a2 l2 c2 k a t k' a' t';have HNB:=hid HSB.1;have HLA:=hid HSB.2.1;have HLB:=hid HSB.2.2;have HSM:=hid hs;rw [h1]at HMY;rw [h2]at HMA;clear h1 h2;clear hg hr hs hy HSB;go_enter Tryz.func5,Tryz.ntmps5
 go_wp2_with (first
  |(go_at_call 8;refine (HBG.out _ ((((Q.refl _).alloc _).alloc _).alloc _)).mono ?_;rintro e9 w1 ⟨rfl,q1⟩;have Q1:Hid (Q W w1):=hid (((((Q.refl _).alloc _).alloc _).alloc _).trans q1);have N1:=hid (HNB.out.on q1);have La1:=hid (HLA.out.on q1);have Lb1:=hid (HLB.out.on q1);clear q1;obtain ⟨y0,y1,y2,y3,y4,y5,y6,_⟩:=N1.out;simp only [Nat.zero_add]at y0 y1 y2 y3 y4 y5 y6)
  |(go_at_call 9;refine (HCU.out _ Q1.out).mono ?_;rintro e9 w2 ⟨v2,rfl,r2,q2⟩;obtain ⟨k2,n2,t2,b2,e2,a3,l3,c3,a4,l4,c4,rfl⟩:=r2.shape;have N2:=hid (N1.out.on q2);have E2:=hid (bv_store Q1.out q2 (Nat.le_refl _) N1.out.pl.lt N2.out r2);have La2:=hid ((La1.out.on q2).qx (set7_qx w2 W.heap.size (.int .i64 k2) (.int .i64 n2) (.string t2) (.bool b2) (.int .i64 e2) (.slice a3 l3 c3) (.slice a4 l4 c4)) (by omega));have Lb2:=hid ((Lb1.out.on q2).qx (set7_qx w2 W.heap.size (.int .i64 k2) (.int .i64 n2) (.string t2) (.bool b2) (.int .i64 e2) (.slice a3 l3 c3) (.slice a4 l4 c4)) (by omega));clear r2 q2 y0 y1 y2 y3 y4 y5 y6;obtain ⟨y0,y1,y2,y3,y4,y5,y6,yp⟩:=N2.out;have f0:=yp.frozen 0;have f1:=yp.frozen 1;have f2:=yp.frozen 2;have f3:=yp.frozen 3;have f4:=yp.frozen 4;have f5:=yp.frozen 5;have f6:=yp.frozen 6;clear yp;simp only [Nat.zero_add]at y0 y1 y2 y3 y4 y5 y6)
  |(go_at_call 12;refine (HMY.out _ _ E2.out.tree).mono ?_;rintro e9 w4 ⟨rfl,q4⟩;have E4:=hid (E2.out.on q4);have La4:=hid (La2.out.on q4);have Lb4:=hid (Lb2.out.on q4);clear q4;obtain ⟨z0,z1,z2,z3,z4,z5,z6,_⟩:=E4.out.nd;obtain ⟨x0,x1,x2⟩:=La4.out;obtain ⟨x3,x4,x5⟩:=Lb4.out;simp only [Nat.zero_add]at z0 z1 z2 z3 z4 z5 z6)
  |(go_at_call 14;refine (HMA.out _).mono ?_;rintro e9 w5 ⟨rfl,h5⟩;have q5:Q w4 w5:=(by rw [h5];exact (Q.refl _).alloc _);clear h5 HMA;have E5:=hid (E4.out.on q5);have La5:=hid (La4.out.on q5);have Lb5:=hid (Lb4.out.on q5);clear q5;clear z0 z1 z2 z3 z4 z5 z6 x0 x1 x2 x3 x4 x5;obtain ⟨z0,z1,z2,z3,z4,z5,z6,_⟩:=E5.out.nd;obtain ⟨x0,x1,x2⟩:=La5.out;obtain ⟨x3,x4,x5⟩:=Lb5.out;simp only [Nat.zero_add]at z0 z1 z2 z3 z4 z5 z6))
 go_ret
 exact ⟨rfl,E5.out.q⟩
theorem sides_e3(x:Ex)(v:Value)(rows:Bool)(k a t k' a' t':Int)(W:World)(hg:Gd W)(hr:RdI W x v)(hs:Sm (cutE x 1 220).1)(h1:(fitB (cutE x 1 220).1&&mall mayN (cutE x 1 220).1)=true)(h2:L.mayB k a t=true)(h3:L.mayB k' a' t'=false) :
  Calls Tryz.prog 5 #[v,.bool rows,.agg #[.int .i64 k,.int .i64 a,.int .i64 t],.agg #[.int .i64 k',.int .i64 a',.int .i64 t']] W fun e W'=>e=.returned (.bool true)∧Q W W':=by
 have HBG:=hid (fun w (q:Q W w)=>begun_any w (hg.on q))
 have HCU:=hid (fun w (q:Q W w)=>cutx_any x v W w hr q)
 obtain ⟨k0,n0,t0,b0,e0,a1,l1,c1,a2,l2,c2,rfl⟩:=hr.shape;obtain ⟨y,hy⟩:∃ y,(cutE x 1 220).1=y:=⟨_,rfl⟩;rw [hy]at HCU hs h1;have HMY:=hid (fun w v (r:Rd w y v)=>rmayexpr_any y v w hs r)
 have HMA:=hid (fun w=>L.rmay_any k a t w)
 have HMB:=hid (fun w=>L.rmay_any k' a' t' w)
 have HGD:=hid hg;have HSB:=sides_begin W k0 n0 t0 b0 e0 a1 l1 c1 a2 l2 c2 k a t k' a' t';have HNB:=hid HSB.1;have HLA:=hid HSB.2.1;have HLB:=hid HSB.2.2;have HSM:=hid hs;rw [h1]at HMY;rw [h2]at HMA;rw [h3]at HMB;clear h1 h2 h3;clear hg hr hs hy HSB;go_enter Tryz.func5,Tryz.ntmps5
 go_wp2_with (first
  |(go_at_call 8;refine (HBG.out _ ((((Q.refl _).alloc _).alloc _).alloc _)).mono ?_;rintro e9 w1 ⟨rfl,q1⟩;have Q1:Hid (Q W w1):=hid (((((Q.refl _).alloc _).alloc _).alloc _).trans q1);have N1:=hid (HNB.out.on q1);have La1:=hid (HLA.out.on q1);have Lb1:=hid (HLB.out.on q1);clear q1;obtain ⟨y0,y1,y2,y3,y4,y5,y6,_⟩:=N1.out;simp only [Nat.zero_add]at y0 y1 y2 y3 y4 y5 y6)
  |(go_at_call 9;refine (HCU.out _ Q1.out).mono ?_;rintro e9 w2 ⟨v2,rfl,r2,q2⟩;obtain ⟨k2,n2,t2,b2,e2,a3,l3,c3,a4,l4,c4,rfl⟩:=r2.shape;have N2:=hid (N1.out.on q2);have E2:=hid (bv_store Q1.out q2 (Nat.le_refl _) N1.out.pl.lt N2.out r2);have La2:=hid ((La1.out.on q2).qx (set7_qx w2 W.heap.size (.int .i64 k2) (.int .i64 n2) (.string t2) (.bool b2) (.int .i64 e2) (.slice a3 l3 c3) (.slice a4 l4 c4)) (by omega));have Lb2:=hid ((Lb1.out.on q2).qx (set7_qx w2 W.heap.size (.int .i64 k2) (.int .i64 n2) (.string t2) (.bool b2) (.int .i64 e2) (.slice a3 l3 c3) (.slice a4 l4 c4)) (by omega));clear r2 q2 y0 y1 y2 y3 y4 y5 y6;obtain ⟨y0,y1,y2,y3,y4,y5,y6,yp⟩:=N2.out;have f0:=yp.frozen 0;have f1:=yp.frozen 1;have f2:=yp.frozen 2;have f3:=yp.frozen 3;have f4:=yp.frozen 4;have f5:=yp.frozen 5;have f6:=yp.frozen 6;clear yp;simp only [Nat.zero_add]at y0 y1 y2 y3 y4 y5 y6)
  |(go_at_call 12;refine (HMY.out _ _ E2.out.tree).mono ?_;rintro e9 w4 ⟨rfl,q4⟩;have E4:=hid (E2.out.on q4);have La4:=hid (La2.out.on q4);have Lb4:=hid (Lb2.out.on q4);clear q4;obtain ⟨z0,z1,z2,z3,z4,z5,z6,_⟩:=E4.out.nd;obtain ⟨x0,x1,x2⟩:=La4.out;obtain ⟨x3,x4,x5⟩:=Lb4.out;simp only [Nat.zero_add]at z0 z1 z2 z3 z4 z5 z6)
  |(go_at_call 14;refine (HMA.out _).mono ?_;rintro e9 w5 ⟨rfl,h5⟩;have q5:Q w4 w5:=(by rw [h5];exact (Q.refl _).alloc _);clear h5 HMA;have E5:=hid (E4.out.on q5);have La5:=hid (La4.out.on q5);have Lb5:=hid (Lb4.out.on q5);clear q5;clear z0 z1 z2 z3 z4 z5 z6 x0 x1 x2 x3 x4 x5;obtain ⟨z0,z1,z2,z3,z4,z5,z6,_⟩:=E5.out.nd;obtain ⟨x0,x1,x2⟩:=La5.out;obtain ⟨x3,x4,x5⟩:=Lb5.out;simp only [Nat.zero_add]at z0 z1 z2 z3 z4 z5 z6)
  |(go_at_call 14;refine (HMB.out _).mono ?_;rintro e9 w6 ⟨rfl,h6⟩;have q6:Q w5 w6:=(by rw [h6];exact (Q.refl _).alloc _);clear h6 HMB;have E6:=hid (E5.out.on q6);have La6:=hid (La5.out.on q6);have Lb6:=hid (Lb5.out.on q6);clear q6;clear z0 z1 z2 z3 z4 z5 z6 x0 x1 x2 x3 x4 x5;obtain ⟨z0,z1,z2,z3,z4,z5,z6,_⟩:=E6.out.nd;obtain ⟨x0,x1,x2⟩:=La6.out;obtain ⟨x3,x4,x5⟩:=Lb6.out;simp only [Nat.zero_add]at z0 z1 z2 z3 z4 z5 z6))
 go_ret
 exact ⟨rfl,E6.out.q⟩
theorem sides_e4(x:Ex)(v:Value)(rows:Bool)(k a t k' a' t':Int)(W:World)(hg:Gd W)(hr:RdI W x v)(hs:Sm (cutE x 1 220).1)(h1:(fitB (cutE x 1 220).1&&mall mayN (cutE x 1 220).1)=true)(h2:L.mayB k a t=true)(h3:L.mayB k' a' t'=true)(gx:1099511627776<a) :
  Calls Tryz.prog 5 #[v,.bool rows,.agg #[.int .i64 k,.int .i64 a,.int .i64 t],.agg #[.int .i64 k',.int .i64 a',.int .i64 t']] W fun e W'=>e=.returned (.bool true)∧Q W W':=by
 have HBG:=hid (fun w (q:Q W w)=>begun_any w (hg.on q))
 have HCU:=hid (fun w (q:Q W w)=>cutx_any x v W w hr q)
 obtain ⟨k0,n0,t0,b0,e0,a1,l1,c1,a2,l2,c2,rfl⟩:=hr.shape;obtain ⟨y,hy⟩:∃ y,(cutE x 1 220).1=y:=⟨_,rfl⟩;rw [hy]at HCU hs h1;have HMY:=hid (fun w v (r:Rd w y v)=>rmayexpr_any y v w hs r)
 have HMA:=hid (fun w=>L.rmay_any k a t w)
 have HMB:=hid (fun w=>L.rmay_any k' a' t' w)
 have HGD:=hid hg;have HSB:=sides_begin W k0 n0 t0 b0 e0 a1 l1 c1 a2 l2 c2 k a t k' a' t';have HNB:=hid HSB.1;have HLA:=hid HSB.2.1;have HLB:=hid HSB.2.2;have HSM:=hid hs;rw [h1]at HMY;rw [h2]at HMA;rw [h3]at HMB;clear h1 h2 h3;clear hg hr hs hy HSB;go_enter Tryz.func5,Tryz.ntmps5
 go_wp2_with (first
  |(go_at_call 8;refine (HBG.out _ ((((Q.refl _).alloc _).alloc _).alloc _)).mono ?_;rintro e9 w1 ⟨rfl,q1⟩;have Q1:Hid (Q W w1):=hid (((((Q.refl _).alloc _).alloc _).alloc _).trans q1);have N1:=hid (HNB.out.on q1);have La1:=hid (HLA.out.on q1);have Lb1:=hid (HLB.out.on q1);clear q1;obtain ⟨y0,y1,y2,y3,y4,y5,y6,_⟩:=N1.out;simp only [Nat.zero_add]at y0 y1 y2 y3 y4 y5 y6)
  |(go_at_call 9;refine (HCU.out _ Q1.out).mono ?_;rintro e9 w2 ⟨v2,rfl,r2,q2⟩;obtain ⟨k2,n2,t2,b2,e2,a3,l3,c3,a4,l4,c4,rfl⟩:=r2.shape;have N2:=hid (N1.out.on q2);have E2:=hid (bv_store Q1.out q2 (Nat.le_refl _) N1.out.pl.lt N2.out r2);have La2:=hid ((La1.out.on q2).qx (set7_qx w2 W.heap.size (.int .i64 k2) (.int .i64 n2) (.string t2) (.bool b2) (.int .i64 e2) (.slice a3 l3 c3) (.slice a4 l4 c4)) (by omega));have Lb2:=hid ((Lb1.out.on q2).qx (set7_qx w2 W.heap.size (.int .i64 k2) (.int .i64 n2) (.string t2) (.bool b2) (.int .i64 e2) (.slice a3 l3 c3) (.slice a4 l4 c4)) (by omega));clear r2 q2 y0 y1 y2 y3 y4 y5 y6;obtain ⟨y0,y1,y2,y3,y4,y5,y6,yp⟩:=N2.out;have f0:=yp.frozen 0;have f1:=yp.frozen 1;have f2:=yp.frozen 2;have f3:=yp.frozen 3;have f4:=yp.frozen 4;have f5:=yp.frozen 5;have f6:=yp.frozen 6;clear yp;simp only [Nat.zero_add]at y0 y1 y2 y3 y4 y5 y6)
  |(go_at_call 12;refine (HMY.out _ _ E2.out.tree).mono ?_;rintro e9 w4 ⟨rfl,q4⟩;have E4:=hid (E2.out.on q4);have La4:=hid (La2.out.on q4);have Lb4:=hid (Lb2.out.on q4);clear q4;obtain ⟨z0,z1,z2,z3,z4,z5,z6,_⟩:=E4.out.nd;obtain ⟨x0,x1,x2⟩:=La4.out;obtain ⟨x3,x4,x5⟩:=Lb4.out;simp only [Nat.zero_add]at z0 z1 z2 z3 z4 z5 z6)
  |(go_at_call 14;refine (HMA.out _).mono ?_;rintro e9 w5 ⟨rfl,h5⟩;have q5:Q w4 w5:=(by rw [h5];exact (Q.refl _).alloc _);clear h5 HMA;have E5:=hid (E4.out.on q5);have La5:=hid (La4.out.on q5);have Lb5:=hid (Lb4.out.on q5);clear q5;clear z0 z1 z2 z3 z4 z5 z6 x0 x1 x2 x3 x4 x5;obtain ⟨z0,z1,z2,z3,z4,z5,z6,_⟩:=E5.out.nd;obtain ⟨x0,x1,x2⟩:=La5.out;obtain ⟨x3,x4,x5⟩:=Lb5.out;simp only [Nat.zero_add]at z0 z1 z2 z3 z4 z5 z6)
  |(go_at_call 14;refine (HMB.out _).mono ?_;rintro e9 w6 ⟨rfl,h6⟩;have q6:Q w5 w6:=(by rw [h6];exact (Q.refl _).alloc _);clear h6 HMB;have E6:=hid (E5.out.on q6);have La6:=hid (La5.out.on q6);have Lb6:=hid (Lb5.out.on q6);clear q6;clear z0 z1 z2 z3 z4 z5 z6 x0 x1 x2 x3 x4 x5;obtain ⟨z0,z1,z2,z3,z4,z5,z6,_⟩:=E6.out.nd;obtain ⟨x0,x1,x2⟩:=La6.out;obtain ⟨x3,x4,x5⟩:=Lb6.out;simp only [Nat.zero_add]at z0 z1 z2 z3 z4 z5 z6))
 go_ret
 exact ⟨rfl,E6.out.q⟩
theorem sides_e5(x:Ex)(v:Value)(rows:Bool)(k a t k' a' t':Int)(W:World)(hg:Gd W)(hr:RdI W x v)(hs:Sm (cutE x 1 220).1)(h1:(fitB (cutE x 1 220).1&&mall mayN (cutE x 1 220).1)=true)(h2:L.mayB k a t=true)(h3:L.mayB k' a' t'=true)(g0:a≤1099511627776)(gx:1099511627776<t) :
  Calls Tryz.prog 5 #[v,.bool rows,.agg #[.int .i64 k,.int .i64 a,.int .i64 t],.agg #[.int .i64 k',.int .i64 a',.int .i64 t']] W fun e W'=>e=.returned (.bool true)∧Q W W':=by
 have HBG:=hid (fun w (q:Q W w)=>begun_any w (hg.on q))
 have HCU:=hid (fun w (q:Q W w)=>cutx_any x v W w hr q)
 obtain ⟨k0,n0,t0,b0,e0,a1,l1,c1,a2,l2,c2,rfl⟩:=hr.shape;obtain ⟨y,hy⟩:∃ y,(cutE x 1 220).1=y:=⟨_,rfl⟩;rw [hy]at HCU hs h1;have HMY:=hid (fun w v (r:Rd w y v)=>rmayexpr_any y v w hs r)
 have HMA:=hid (fun w=>L.rmay_any k a t w)
 have HMB:=hid (fun w=>L.rmay_any k' a' t' w)
 have HGD:=hid hg;have HSB:=sides_begin W k0 n0 t0 b0 e0 a1 l1 c1 a2 l2 c2 k a t k' a' t';have HNB:=hid HSB.1;have HLA:=hid HSB.2.1;have HLB:=hid HSB.2.2;have HSM:=hid hs;rw [h1]at HMY;rw [h2]at HMA;rw [h3]at HMB;clear h1 h2 h3;clear hg hr hs hy HSB;go_enter Tryz.func5,Tryz.ntmps5
 go_wp2_with (first
  |(go_at_call 8;refine (HBG.out _ ((((Q.refl _).alloc _).alloc _).alloc _)).mono ?_;rintro e9 w1 ⟨rfl,q1⟩;have Q1:Hid (Q W w1):=hid (((((Q.refl _).alloc _).alloc _).alloc _).trans q1);have N1:=hid (HNB.out.on q1);have La1:=hid (HLA.out.on q1);have Lb1:=hid (HLB.out.on q1);clear q1;obtain ⟨y0,y1,y2,y3,y4,y5,y6,_⟩:=N1.out;simp only [Nat.zero_add]at y0 y1 y2 y3 y4 y5 y6)
  |(go_at_call 9;refine (HCU.out _ Q1.out).mono ?_;rintro e9 w2 ⟨v2,rfl,r2,q2⟩;obtain ⟨k2,n2,t2,b2,e2,a3,l3,c3,a4,l4,c4,rfl⟩:=r2.shape;have N2:=hid (N1.out.on q2);have E2:=hid (bv_store Q1.out q2 (Nat.le_refl _) N1.out.pl.lt N2.out r2);have La2:=hid ((La1.out.on q2).qx (set7_qx w2 W.heap.size (.int .i64 k2) (.int .i64 n2) (.string t2) (.bool b2) (.int .i64 e2) (.slice a3 l3 c3) (.slice a4 l4 c4)) (by omega));have Lb2:=hid ((Lb1.out.on q2).qx (set7_qx w2 W.heap.size (.int .i64 k2) (.int .i64 n2) (.string t2) (.bool b2) (.int .i64 e2) (.slice a3 l3 c3) (.slice a4 l4 c4)) (by omega));clear r2 q2 y0 y1 y2 y3 y4 y5 y6;obtain ⟨y0,y1,y2,y3,y4,y5,y6,yp⟩:=N2.out;have f0:=yp.frozen 0;have f1:=yp.frozen 1;have f2:=yp.frozen 2;have f3:=yp.frozen 3;have f4:=yp.frozen 4;have f5:=yp.frozen 5;have f6:=yp.frozen 6;clear yp;simp only [Nat.zero_add]at y0 y1 y2 y3 y4 y5 y6)
  |(go_at_call 12;refine (HMY.out _ _ E2.out.tree).mono ?_;rintro e9 w4 ⟨rfl,q4⟩;have E4:=hid (E2.out.on q4);have La4:=hid (La2.out.on q4);have Lb4:=hid (Lb2.out.on q4);clear q4;obtain ⟨z0,z1,z2,z3,z4,z5,z6,_⟩:=E4.out.nd;obtain ⟨x0,x1,x2⟩:=La4.out;obtain ⟨x3,x4,x5⟩:=Lb4.out;simp only [Nat.zero_add]at z0 z1 z2 z3 z4 z5 z6)
  |(go_at_call 14;refine (HMA.out _).mono ?_;rintro e9 w5 ⟨rfl,h5⟩;have q5:Q w4 w5:=(by rw [h5];exact (Q.refl _).alloc _);clear h5 HMA;have E5:=hid (E4.out.on q5);have La5:=hid (La4.out.on q5);have Lb5:=hid (Lb4.out.on q5);clear q5;clear z0 z1 z2 z3 z4 z5 z6 x0 x1 x2 x3 x4 x5;obtain ⟨z0,z1,z2,z3,z4,z5,z6,_⟩:=E5.out.nd;obtain ⟨x0,x1,x2⟩:=La5.out;obtain ⟨x3,x4,x5⟩:=Lb5.out;simp only [Nat.zero_add]at z0 z1 z2 z3 z4 z5 z6)
  |(go_at_call 14;refine (HMB.out _).mono ?_;rintro e9 w6 ⟨rfl,h6⟩;have q6:Q w5 w6:=(by rw [h6];exact (Q.refl _).alloc _);clear h6 HMB;have E6:=hid (E5.out.on q6);have La6:=hid (La5.out.on q6);have Lb6:=hid (Lb5.out.on q6);clear q6;clear z0 z1 z2 z3 z4 z5 z6 x0 x1 x2 x3 x4 x5;obtain ⟨z0,z1,z2,z3,z4,z5,z6,_⟩:=E6.out.nd;obtain ⟨x0,x1,x2⟩:=La6.out;obtain ⟨x3,x4,x5⟩:=Lb6.out;simp only [Nat.zero_add]at z0 z1 z2 z3 z4 z5 z6))
 go_ret
 exact ⟨rfl,E6.out.q⟩
theorem sides_e6(x:Ex)(v:Value)(rows:Bool)(k a t k' a' t':Int)(W:World)(hg:Gd W)(hr:RdI W x v)(hs:Sm (cutE x 1 220).1)(h1:(fitB (cutE x 1 220).1&&mall mayN (cutE x 1 220).1)=true)(h2:L.mayB k a t=true)(h3:L.mayB k' a' t'=true)(g0:a≤1099511627776)(g1:t≤1099511627776)(gx:1099511627776<a') :
  Calls Tryz.prog 5 #[v,.bool rows,.agg #[.int .i64 k,.int .i64 a,.int .i64 t],.agg #[.int .i64 k',.int .i64 a',.int .i64 t']] W fun e W'=>e=.returned (.bool true)∧Q W W':=by
 have HBG:=hid (fun w (q:Q W w)=>begun_any w (hg.on q))
 have HCU:=hid (fun w (q:Q W w)=>cutx_any x v W w hr q)
 obtain ⟨k0,n0,t0,b0,e0,a1,l1,c1,a2,l2,c2,rfl⟩:=hr.shape;obtain ⟨y,hy⟩:∃ y,(cutE x 1 220).1=y:=⟨_,rfl⟩;rw [hy]at HCU hs h1;have HMY:=hid (fun w v (r:Rd w y v)=>rmayexpr_any y v w hs r)
 have HMA:=hid (fun w=>L.rmay_any k a t w)
 have HMB:=hid (fun w=>L.rmay_any k' a' t' w)
 have HGD:=hid hg;have HSB:=sides_begin W k0 n0 t0 b0 e0 a1 l1 c1 a2 l2 c2 k a t k' a' t';have HNB:=hid HSB.1;have HLA:=hid HSB.2.1;have HLB:=hid HSB.2.2;have HSM:=hid hs;rw [h1]at HMY;rw [h2]at HMA;rw [h3]at HMB;clear h1 h2 h3;clear hg hr hs hy HSB;go_enter Tryz.func5,Tryz.ntmps5
 go_wp2_with (first
  |(go_at_call 8;refine (HBG.out _ ((((Q.refl _).alloc _).alloc _).alloc _)).mono ?_;rintro e9 w1 ⟨rfl,q1⟩;have Q1:Hid (Q W w1):=hid (((((Q.refl _).alloc _).alloc _).alloc _).trans q1);have N1:=hid (HNB.out.on q1);have La1:=hid (HLA.out.on q1);have Lb1:=hid (HLB.out.on q1);clear q1;obtain ⟨y0,y1,y2,y3,y4,y5,y6,_⟩:=N1.out;simp only [Nat.zero_add]at y0 y1 y2 y3 y4 y5 y6)
  |(go_at_call 9;refine (HCU.out _ Q1.out).mono ?_;rintro e9 w2 ⟨v2,rfl,r2,q2⟩;obtain ⟨k2,n2,t2,b2,e2,a3,l3,c3,a4,l4,c4,rfl⟩:=r2.shape;have N2:=hid (N1.out.on q2);have E2:=hid (bv_store Q1.out q2 (Nat.le_refl _) N1.out.pl.lt N2.out r2);have La2:=hid ((La1.out.on q2).qx (set7_qx w2 W.heap.size (.int .i64 k2) (.int .i64 n2) (.string t2) (.bool b2) (.int .i64 e2) (.slice a3 l3 c3) (.slice a4 l4 c4)) (by omega));have Lb2:=hid ((Lb1.out.on q2).qx (set7_qx w2 W.heap.size (.int .i64 k2) (.int .i64 n2) (.string t2) (.bool b2) (.int .i64 e2) (.slice a3 l3 c3) (.slice a4 l4 c4)) (by omega));clear r2 q2 y0 y1 y2 y3 y4 y5 y6;obtain ⟨y0,y1,y2,y3,y4,y5,y6,yp⟩:=N2.out;have f0:=yp.frozen 0;have f1:=yp.frozen 1;have f2:=yp.frozen 2;have f3:=yp.frozen 3;have f4:=yp.frozen 4;have f5:=yp.frozen 5;have f6:=yp.frozen 6;clear yp;simp only [Nat.zero_add]at y0 y1 y2 y3 y4 y5 y6)
  |(go_at_call 12;refine (HMY.out _ _ E2.out.tree).mono ?_;rintro e9 w4 ⟨rfl,q4⟩;have E4:=hid (E2.out.on q4);have La4:=hid (La2.out.on q4);have Lb4:=hid (Lb2.out.on q4);clear q4;obtain ⟨z0,z1,z2,z3,z4,z5,z6,_⟩:=E4.out.nd;obtain ⟨x0,x1,x2⟩:=La4.out;obtain ⟨x3,x4,x5⟩:=Lb4.out;simp only [Nat.zero_add]at z0 z1 z2 z3 z4 z5 z6)
  |(go_at_call 14;refine (HMA.out _).mono ?_;rintro e9 w5 ⟨rfl,h5⟩;have q5:Q w4 w5:=(by rw [h5];exact (Q.refl _).alloc _);clear h5 HMA;have E5:=hid (E4.out.on q5);have La5:=hid (La4.out.on q5);have Lb5:=hid (Lb4.out.on q5);clear q5;clear z0 z1 z2 z3 z4 z5 z6 x0 x1 x2 x3 x4 x5;obtain ⟨z0,z1,z2,z3,z4,z5,z6,_⟩:=E5.out.nd;obtain ⟨x0,x1,x2⟩:=La5.out;obtain ⟨x3,x4,x5⟩:=Lb5.out;simp only [Nat.zero_add]at z0 z1 z2 z3 z4 z5 z6)
  |(go_at_call 14;refine (HMB.out _).mono ?_;rintro e9 w6 ⟨rfl,h6⟩;have q6:Q w5 w6:=(by rw [h6];exact (Q.refl _).alloc _);clear h6 HMB;have E6:=hid (E5.out.on q6);have La6:=hid (La5.out.on q6);have Lb6:=hid (Lb5.out.on q6);clear q6;clear z0 z1 z2 z3 z4 z5 z6 x0 x1 x2 x3 x4 x5;obtain ⟨z0,z1,z2,z3,z4,z5,z6,_⟩:=E6.out.nd;obtain ⟨x0,x1,x2⟩:=La6.out;obtain ⟨x3,x4,x5⟩:=Lb6.out;simp only [Nat.zero_add]at z0 z1 z2 z3 z4 z5 z6))
 go_ret
 exact ⟨rfl,E6.out.q⟩
theorem sides_e7(x:Ex)(v:Value)(rows:Bool)(k a t k' a' t':Int)(W:World)(hg:Gd W)(hr:RdI W x v)(hs:Sm (cutE x 1 220).1)(h1:(fitB (cutE x 1 220).1&&mall mayN (cutE x 1 220).1)=true)(h2:L.mayB k a t=true)(h3:L.mayB k' a' t'=true)(g0:a≤1099511627776)(g1:t≤1099511627776)(g2:a'≤1099511627776)(gx:1099511627776<t') :
  Calls Tryz.prog 5 #[v,.bool rows,.agg #[.int .i64 k,.int .i64 a,.int .i64 t],.agg #[.int .i64 k',.int .i64 a',.int .i64 t']] W fun e W'=>e=.returned (.bool true)∧Q W W':=by
 have HBG:=hid (fun w (q:Q W w)=>begun_any w (hg.on q))
 have HCU:=hid (fun w (q:Q W w)=>cutx_any x v W w hr q)
 obtain ⟨k0,n0,t0,b0,e0,a1,l1,c1,a2,l2,c2,rfl⟩:=hr.shape;obtain ⟨y,hy⟩:∃ y,(cutE x 1 220).1=y:=⟨_,rfl⟩;rw [hy]at HCU hs h1;have HMY:=hid (fun w v (r:Rd w y v)=>rmayexpr_any y v w hs r)
 have HMA:=hid (fun w=>L.rmay_any k a t w)
 have HMB:=hid (fun w=>L.rmay_any k' a' t' w)
 have HGD:=hid hg;have HSB:=sides_begin W k0 n0 t0 b0 e0 a1 l1 c1 a2 l2 c2 k a t k' a' t';have HNB:=hid HSB.1;have HLA:=hid HSB.2.1;have HLB:=hid HSB.2.2;have HSM:=hid hs;rw [h1]at HMY;rw [h2]at HMA;rw [h3]at HMB;clear h1 h2 h3;clear hg hr hs hy HSB;go_enter Tryz.func5,Tryz.ntmps5
 go_wp2_with (first
  |(go_at_call 8;refine (HBG.out _ ((((Q.refl _).alloc _).alloc _).alloc _)).mono ?_;rintro e9 w1 ⟨rfl,q1⟩;have Q1:Hid (Q W w1):=hid (((((Q.refl _).alloc _).alloc _).alloc _).trans q1);have N1:=hid (HNB.out.on q1);have La1:=hid (HLA.out.on q1);have Lb1:=hid (HLB.out.on q1);clear q1;obtain ⟨y0,y1,y2,y3,y4,y5,y6,_⟩:=N1.out;simp only [Nat.zero_add]at y0 y1 y2 y3 y4 y5 y6)
  |(go_at_call 9;refine (HCU.out _ Q1.out).mono ?_;rintro e9 w2 ⟨v2,rfl,r2,q2⟩;obtain ⟨k2,n2,t2,b2,e2,a3,l3,c3,a4,l4,c4,rfl⟩:=r2.shape;have N2:=hid (N1.out.on q2);have E2:=hid (bv_store Q1.out q2 (Nat.le_refl _) N1.out.pl.lt N2.out r2);have La2:=hid ((La1.out.on q2).qx (set7_qx w2 W.heap.size (.int .i64 k2) (.int .i64 n2) (.string t2) (.bool b2) (.int .i64 e2) (.slice a3 l3 c3) (.slice a4 l4 c4)) (by omega));have Lb2:=hid ((Lb1.out.on q2).qx (set7_qx w2 W.heap.size (.int .i64 k2) (.int .i64 n2) (.string t2) (.bool b2) (.int .i64 e2) (.slice a3 l3 c3) (.slice a4 l4 c4)) (by omega));clear r2 q2 y0 y1 y2 y3 y4 y5 y6;obtain ⟨y0,y1,y2,y3,y4,y5,y6,yp⟩:=N2.out;have f0:=yp.frozen 0;have f1:=yp.frozen 1;have f2:=yp.frozen 2;have f3:=yp.frozen 3;have f4:=yp.frozen 4;have f5:=yp.frozen 5;have f6:=yp.frozen 6;clear yp;simp only [Nat.zero_add]at y0 y1 y2 y3 y4 y5 y6)
  |(go_at_call 12;refine (HMY.out _ _ E2.out.tree).mono ?_;rintro e9 w4 ⟨rfl,q4⟩;have E4:=hid (E2.out.on q4);have La4:=hid (La2.out.on q4);have Lb4:=hid (Lb2.out.on q4);clear q4;obtain ⟨z0,z1,z2,z3,z4,z5,z6,_⟩:=E4.out.nd;obtain ⟨x0,x1,x2⟩:=La4.out;obtain ⟨x3,x4,x5⟩:=Lb4.out;simp only [Nat.zero_add]at z0 z1 z2 z3 z4 z5 z6)
  |(go_at_call 14;refine (HMA.out _).mono ?_;rintro e9 w5 ⟨rfl,h5⟩;have q5:Q w4 w5:=(by rw [h5];exact (Q.refl _).alloc _);clear h5 HMA;have E5:=hid (E4.out.on q5);have La5:=hid (La4.out.on q5);have Lb5:=hid (Lb4.out.on q5);clear q5;clear z0 z1 z2 z3 z4 z5 z6 x0 x1 x2 x3 x4 x5;obtain ⟨z0,z1,z2,z3,z4,z5,z6,_⟩:=E5.out.nd;obtain ⟨x0,x1,x2⟩:=La5.out;obtain ⟨x3,x4,x5⟩:=Lb5.out;simp only [Nat.zero_add]at z0 z1 z2 z3 z4 z5 z6)
  |(go_at_call 14;refine (HMB.out _).mono ?_;rintro e9 w6 ⟨rfl,h6⟩;have q6:Q w5 w6:=(by rw [h6];exact (Q.refl _).alloc _);clear h6 HMB;have E6:=hid (E5.out.on q6);have La6:=hid (La5.out.on q6);have Lb6:=hid (Lb5.out.on q6);clear q6;clear z0 z1 z2 z3 z4 z5 z6 x0 x1 x2 x3 x4 x5;obtain ⟨z0,z1,z2,z3,z4,z5,z6,_⟩:=E6.out.nd;obtain ⟨x0,x1,x2⟩:=La6.out;obtain ⟨x3,x4,x5⟩:=Lb6.out;simp only [Nat.zero_add]at z0 z1 z2 z3 z4 z5 z6))
 go_ret
 exact ⟨rfl,E6.out.q⟩
theorem sides_m00(x:Ex)(v:Value)(rows:Bool)(k a t k' a' t':Int)(W:World)(hg:Gd W)(hr:RdI W x v)(hs:Sm (cutE x 1 220).1)(h1:(fitB (cutE x 1 220).1&&mall mayN (cutE x 1 220).1)=true)(h2:L.mayB k a t=true)(h3:L.mayB k' a' t'=true)(g0:a≤1099511627776)(g1:t≤1099511627776)(g2:a'≤1099511627776)(g3:t'≤1099511627776)(hyb:L.trB k' a' t' k a t false=false)(hxb:L.trB k a t k' a' t' true=false) :
  Calls Tryz.prog 5 #[v,.bool rows,.agg #[.int .i64 k,.int .i64 a,.int .i64 t],.agg #[.int .i64 k',.int .i64 a',.int .i64 t']] W fun e W'=>e=.returned (.bool true)∧Q W W':=by
 have HBG:=hid (fun w (q:Q W w)=>begun_any w (hg.on q))
 have HCU:=hid (fun w (q:Q W w)=>cutx_any x v W w hr q)
 obtain ⟨k0,n0,t0,b0,e0,a1,l1,c1,a2,l2,c2,rfl⟩:=hr.shape;obtain ⟨y,hy⟩:∃ y,(cutE x 1 220).1=y:=⟨_,rfl⟩;rw [hy]at HCU hs h1;have HMY:=hid (fun w v (r:Rd w y v)=>rmayexpr_any y v w hs r)
 have HMA:=hid (fun w=>L.rmay_any k a t w)
 have HMB:=hid (fun w=>L.rmay_any k' a' t' w)
 have HGD:=hid hg;have HSB:=sides_begin W k0 n0 t0 b0 e0 a1 l1 c1 a2 l2 c2 k a t k' a' t';have HNB:=hid HSB.1;have HLA:=hid HSB.2.1;have HLB:=hid HSB.2.2;have HSM:=hid hs;have HGX:=hid (gx_of HSM.out h1);rw [h1]at HMY;rw [h2]at HMA;rw [h3]at HMB;have HSD:=hid (fun hr=>sides_tree HGX.out.1 (⟨#[99,48,110,48]⟩:ByteArray).data.toList (⟨#[99,48,110,48]⟩:ByteArray).data.toList rows k a t k' a' t' h2 h3 g0 g1 g2 g3 hr)
 have HT1:=hid (fun w=>L.rtransform_any k a t k' a' t' true w)
 have HT2:=hid (fun w=>L.rtransform_any k' a' t' k a t false w)
 simp only [L.trV]at HT1 HT2
 rw [hxb]at HT1 HSD;rw [hyb]at HT2 HSD;obtain ⟨xk,hxk⟩:∃ xk,L.trK k a t k' a' t' true=xk:=⟨_,rfl⟩;obtain ⟨xa,hxa⟩:∃ xa,L.trA k a t k' a' t' true=xa:=⟨_,rfl⟩;obtain ⟨xt,hxt⟩:∃ xt,L.trT k a t k' a' t' true=xt:=⟨_,rfl⟩;obtain ⟨yk,hyk⟩:∃ yk,L.trK k' a' t' k a t false=yk:=⟨_,rfl⟩;obtain ⟨ya,hya⟩:∃ ya,L.trA k' a' t' k a t false=ya:=⟨_,rfl⟩;obtain ⟨yt,hyt⟩:∃ yt,L.trT k' a' t' k a t false=yt:=⟨_,rfl⟩;rw [hxk,hxa,hxt]at HT1 HSD;rw [hyk,hya,hyt]at HT2 HSD;have HRF:=hid (fun w v (r:Rd w y v)=>rrefs_any _ y v w (Nat.le_refl _) r HGX.out.2)
 have HL1:=hid (fun w v (q:Q W w) (r:Rd w y v)=>lines_any y v ⟨#[99,48,110,48]⟩ ⟨#[99,48,110,48]⟩ rows k a t w (HGD.out.on q) r HGX.out.1.sn HGX.out.1.sm HGX.out.1.nodes HGX.out.1.may)
 have HL3:=hid (fun w v (q:Q W w) (r:Rd w y v)=>lines_any y v ⟨#[99,48,110,48]⟩ ⟨#[99,48,110,48]⟩ rows k' a' t' w (HGD.out.on q) r HGX.out.1.sn HGX.out.1.sm HGX.out.1.nodes HGX.out.1.may)
 have ha1:=HGX.out.1.ln (⟨#[99,48,110,48]⟩:ByteArray).data.toList (⟨#[99,48,110,48]⟩:ByteArray).data.toList rows k a t;have hb1:=HGX.out.1.ln (⟨#[99,48,110,48]⟩:ByteArray).data.toList (⟨#[99,48,110,48]⟩:ByteArray).data.toList rows k' a' t';obtain ⟨pa,hpa⟩:∃ pa,lnE (⟨#[99,48,110,48]⟩:ByteArray).data.toList (⟨#[99,48,110,48]⟩:ByteArray).data.toList rows k a t y=pa:=⟨_,rfl⟩;obtain ⟨pb,hpb⟩:∃ pb,lnE (⟨#[99,48,110,48]⟩:ByteArray).data.toList (⟨#[99,48,110,48]⟩:ByteArray).data.toList rows k' a' t' y=pb:=⟨_,rfl⟩;rw [hpa]at HL1 ha1 HSD;rw [hpb]at HL3 hb1 HSD;simp only [Bool.false_eq_true,if_true,if_false]at HSD
 have HEQ:=hid (fun w v v' (r:Rd w pa v) (r':Rd w pb v')=>eqexpr_any _ pa pb v v' w (Nat.le_refl _) r r')
 have HRL:=hid HGX.out.2;clear hg hr hs hy HSB h1 h2 h3 hyb hxb hxk hxa hxt hyk hya hyt hpa hpb ha1 hb1;go_enter Tryz.func5,Tryz.ntmps5
 go_wp2_with (first
  |(go_at_call 8;refine (HBG.out _ ((((Q.refl _).alloc _).alloc _).alloc _)).mono ?_;rintro e9 w1 ⟨rfl,q1⟩;have Q1:Hid (Q W w1):=hid (((((Q.refl _).alloc _).alloc _).alloc _).trans q1);have N1:=hid (HNB.out.on q1);have La1:=hid (HLA.out.on q1);have Lb1:=hid (HLB.out.on q1);clear q1;obtain ⟨y0,y1,y2,y3,y4,y5,y6,_⟩:=N1.out;simp only [Nat.zero_add]at y0 y1 y2 y3 y4 y5 y6)
  |(go_at_call 9;refine (HCU.out _ Q1.out).mono ?_;rintro e9 w2 ⟨v2,rfl,r2,q2⟩;obtain ⟨k2,n2,t2,b2,e2,a3,l3,c3,a4,l4,c4,rfl⟩:=r2.shape;have N2:=hid (N1.out.on q2);have E2:=hid (bv_store Q1.out q2 (Nat.le_refl _) N1.out.pl.lt N2.out r2);have La2:=hid ((La1.out.on q2).qx (set7_qx w2 W.heap.size (.int .i64 k2) (.int .i64 n2) (.string t2) (.bool b2) (.int .i64 e2) (.slice a3 l3 c3) (.slice a4 l4 c4)) (by omega));have Lb2:=hid ((Lb1.out.on q2).qx (set7_qx w2 W.heap.size (.int .i64 k2) (.int .i64 n2) (.string t2) (.bool b2) (.int .i64 e2) (.slice a3 l3 c3) (.slice a4 l4 c4)) (by omega));clear r2 q2 y0 y1 y2 y3 y4 y5 y6;obtain ⟨y0,y1,y2,y3,y4,y5,y6,yp⟩:=N2.out;have f0:=yp.frozen 0;have f1:=yp.frozen 1;have f2:=yp.frozen 2;have f3:=yp.frozen 3;have f4:=yp.frozen 4;have f5:=yp.frozen 5;have f6:=yp.frozen 6;clear yp;simp only [Nat.zero_add]at y0 y1 y2 y3 y4 y5 y6)
  |(go_at_call 12;refine (HMY.out _ _ E2.out.tree).mono ?_;rintro e9 w4 ⟨rfl,q4⟩;have E4:=hid (E2.out.on q4);have La4:=hid (La2.out.on q4);have Lb4:=hid (Lb2.out.on q4);clear q4;obtain ⟨z0,z1,z2,z3,z4,z5,z6,_⟩:=E4.out.nd;obtain ⟨x0,x1,x2⟩:=La4.out;obtain ⟨x3,x4,x5⟩:=Lb4.out;simp only [Nat.zero_add]at z0 z1 z2 z3 z4 z5 z6)
  |(go_at_call 14;refine (HMA.out _).mono ?_;rintro e9 w5 ⟨rfl,h5⟩;have q5:Q w4 w5:=(by rw [h5];exact (Q.refl _).alloc _);clear h5 HMA;have E5:=hid (E4.out.on q5);have La5:=hid (La4.out.on q5);have Lb5:=hid (Lb4.out.on q5);clear q5;clear z0 z1 z2 z3 z4 z5 z6 x0 x1 x2 x3 x4 x5;obtain ⟨z0,z1,z2,z3,z4,z5,z6,_⟩:=E5.out.nd;obtain ⟨x0,x1,x2⟩:=La5.out;obtain ⟨x3,x4,x5⟩:=Lb5.out;simp only [Nat.zero_add]at z0 z1 z2 z3 z4 z5 z6)
  |(go_at_call 14;refine (HMB.out _).mono ?_;rintro e9 w6 ⟨rfl,h6⟩;have q6:Q w5 w6:=(by rw [h6];exact (Q.refl _).alloc _);clear h6 HMB;have E6:=hid (E5.out.on q6);have La6:=hid (La5.out.on q6);have Lb6:=hid (Lb5.out.on q6);clear q6;clear z0 z1 z2 z3 z4 z5 z6 x0 x1 x2 x3 x4 x5;obtain ⟨z0,z1,z2,z3,z4,z5,z6,_⟩:=E6.out.nd;obtain ⟨x0,x1,x2⟩:=La6.out;obtain ⟨x3,x4,x5⟩:=Lb6.out;simp only [Nat.zero_add]at z0 z1 z2 z3 z4 z5 z6)
  |(go_at_call 18;refine (HRF.out _ _ E6.out.tree).mono ?_;rintro e9 w7 ⟨v7,rfl,o7,q7⟩;have E7:=hid (E6.out.on q7);have La7:=hid (La6.out.on q7);have Lb7:=hid (Lb6.out.on q7);have O7:=hid o7;obtain ⟨ao7,co7,hv7,hc7,hd7⟩:=(o7.sl rf_len (by omega)).len;subst hv7;clear o7 q7;clear z0 z1 z2 z3 z4 z5 z6 x0 x1 x2 x3 x4 x5;obtain ⟨z0,z1,z2,z3,z4,z5,z6,_⟩:=E7.out.nd;obtain ⟨x0,x1,x2⟩:=La7.out;obtain ⟨x3,x4,x5⟩:=Lb7.out;simp only [Nat.zero_add]at z0 z1 z2 z3 z4 z5 z6))
 have hroom:(rfs y).length≤9223372036854775807:=by have:=HRL.out;omega
 go_loopw [11] (fun z W'=>∃ i:Nat,i≤(rfs y).length∧z=.int .i64 (i:Int)∧W'=w7∧Hid (∀ r∈(rfs y).take i,r.2.1≤1099511627776∧r.2.2.1≤1099511627776)) (fun z _=>(rfs y).length-(intOf z).toNat)
 case atStart=>exact ⟨0,Nat.zero_le _,rfl,rfl,hid (fun r hr=>absurd hr (by simp))⟩
 case round=>
  obtain ⟨i,hik,rfl,rfl,hA⟩:=hrel;by_cases hlt:i<(rfs y).length
  ·obtain ⟨g5,cg5,hvv,_⟩:=O7.out.shape (by omega)
   simp only [Value.slice.injEq]at hvv
   obtain ⟨rfl,_,rfl⟩:=hvv;have hcl:=O7.out.cell rf_len hlt;have u1:=hcl 1 _ rfl;have u2:=hcl 2 _ rfl;have HRR:=hid (List.take_succ_eq_append_getElem hlt);obtain ⟨r1,hr1⟩:∃ r1,(rfs y)[i]=r1:=⟨_,rfl⟩;rw [hr1]at u1 u2 HRR;clear hcl hr1
   rcases Int.lt_or_le 1099511627776 r1.2.1 with hrow|hrow
   ·go_wp2_with fail
    go_ret
    exact ⟨rfl,E7.out.q⟩
   ·rcases Int.lt_or_le 1099511627776 r1.2.2.1 with hcol|hcol
    ·go_wp2_with fail
     go_ret
     exact ⟨rfl,E7.out.q⟩
    ·go_wp2_with fail
     go_roundw
     case rel=>exact ⟨i+1,by omega,by go_num,by first|rfl|trivial,hid (fun r hr=>by
      rw [HRR.out]at hr
      rcases List.mem_append.1 hr with hr|hr
      ·exact hA.out r hr
      ·simp at hr;subst hr;exact ⟨hrow,hcol⟩)⟩
     case measure=>simp [intOf];omega
  ·have HB2:=hid (HSD.out (fun r hr=>hA.out r (by rw [List.take_of_length_le (by omega)];exact hr)))
   clear hA HSD;go_wp2_with (first
    |(go_at_call 20;refine (HT1.out _).mono ?_;rintro e9 w8 ⟨rfl,q8⟩;have E8:=hid (E7.out.on q8);have La8:=hid (La7.out.on q8);have Lb8:=hid (Lb7.out.on q8);have hl80:W.heap.size<w8.heap.size:=E8.out.nd.pl.lt;have hl81:W.heap.size+1<w8.heap.size:=La8.out.lt;have hl82:W.heap.size+1+1<w8.heap.size:=Lb8.out.lt;clear q8 HT1;clear z0 z1 z2 z3 z4 z5 z6 x0 x1 x2 x3 x4 x5;obtain ⟨z0,z1,z2,z3,z4,z5,z6,_⟩:=E8.out.nd;obtain ⟨x0,x1,x2⟩:=La8.out;obtain ⟨x3,x4,x5⟩:=Lb8.out;simp only [Nat.zero_add]at z0 z1 z2 z3 z4 z5 z6)
    |(go_at_call 20;refine (HT2.out _).mono ?_;rintro e9 w9 ⟨rfl,q9⟩;have q89:Q w8 w9:=((Q.refl _).alloc _).trans q9;have E9:=hid (E8.out.on q89);have La9:=hid (La8.out.on q89);have Lb9:=hid (Lb8.out.on q89);have X9:=hid ((t3_new w8 xk xa xt 28).on q9);have hl90:W.heap.size<w9.heap.size:=E9.out.nd.pl.lt;have hl91:W.heap.size+1<w9.heap.size:=La9.out.lt;have hl92:W.heap.size+1+1<w9.heap.size:=Lb9.out.lt;clear q9 q89 HT2;clear z0 z1 z2 z3 z4 z5 z6 x0 x1 x2 x3 x4 x5;obtain ⟨z0,z1,z2,z3,z4,z5,z6,_⟩:=E9.out.nd;obtain ⟨x0,x1,x2⟩:=La9.out;obtain ⟨x3,x4,x5⟩:=Lb9.out;simp only [Nat.zero_add]at z0 z1 z2 z3 z4 z5 z6)
    |(go_at_call 11;refine (HL1.out _ _ (E9.out.q.alloc _) (E9.out.on ((Q.refl _).alloc _)).tree).mono ?_;rintro e9 w10 ⟨v10,rfl,q10,lo10,hi10,hlo10,hhi10,ow10⟩;obtain ⟨k10,n10,t10,b10,e10,a10,l10,c10,a11,l11,c11,rfl⟩:=ow10.shape;have q910:Q w9 w10:=((Q.refl _).alloc _).trans q10;have E10:=hid (E9.out.on q910);have La10:=hid (La9.out.on q910);have Lb10:=hid (Lb9.out.on q910);have X10:=hid (X9.out.on q910);have Y10:=hid ((t3_new w9 yk ya yt 28).on q10);have P10:=hid (bv_new E10.out.q ow10 hhi10);have hx10:w8.heap.size<w10.heap.size:=X10.out.lt;have hy10:w9.heap.size<w10.heap.size:=Y10.out.lt;have hl100:W.heap.size<w10.heap.size:=E10.out.nd.pl.lt;have hl101:W.heap.size+1<w10.heap.size:=La10.out.lt;have hl102:W.heap.size+1+1<w10.heap.size:=Lb10.out.lt;clear ow10 hlo10 hhi10 q10 q910 HL1;clear z0 z1 z2 z3 z4 z5 z6 x0 x1 x2 x3 x4 x5;obtain ⟨z0,z1,z2,z3,z4,z5,z6,_⟩:=E10.out.nd;obtain ⟨x0,x1,x2⟩:=La10.out;obtain ⟨x3,x4,x5⟩:=Lb10.out;simp only [Nat.zero_add]at z0 z1 z2 z3 z4 z5 z6;obtain ⟨y10a,y10b,y10c⟩:=Y10.out)
    |(go_at_call 11;refine (HL3.out _ _ (E10.out.q.alloc _) (E10.out.on ((Q.refl _).alloc _)).tree).mono ?_;rintro e9 w14 ⟨v14,rfl,q14,lo14,hi14,hlo14,hhi14,ow14⟩;obtain ⟨k14,n14,t14,b14,e14,a14,l14,c14,a15,l15,c15,rfl⟩:=ow14.shape;have q1014:Q w10 w14:=((Q.refl _).alloc _).trans q14;have E14:=hid (E10.out.on q1014);have La14:=hid (La10.out.on q1014);have Lb14:=hid (Lb10.out.on q1014);have X14:=hid (X10.out.on q1014);have P14:=hid (P10.out.on q14);have R14:=hid (bv_new E14.out.q ow14 hhi14);have hx14:w8.heap.size<w14.heap.size:=X14.out.lt;have hp14:w10.heap.size<w14.heap.size:=P14.out.nd.pl.lt;have hl140:W.heap.size<w14.heap.size:=E14.out.nd.pl.lt;have hl141:W.heap.size+1<w14.heap.size:=La14.out.lt;have hl142:W.heap.size+1+1<w14.heap.size:=Lb14.out.lt;clear ow14 hlo14 hhi14 q14 q1014 HL3 y10a y10b y10c;clear z0 z1 z2 z3 z4 z5 z6 x0 x1 x2 x3 x4 x5;obtain ⟨z0,z1,z2,z3,z4,z5,z6,_⟩:=E14.out.nd;obtain ⟨x0,x1,x2⟩:=La14.out;obtain ⟨x3,x4,x5⟩:=Lb14.out;simp only [Nat.zero_add]at z0 z1 z2 z3 z4 z5 z6;obtain ⟨x14a,x14b,x14c⟩:=X14.out;obtain ⟨p0,p1,p2,p3,p4,p5,p6,_⟩:=P14.out.nd;simp only [Nat.zero_add]at p0 p1 p2 p3 p4 p5 p6)
    |(go_at_call 13;refine (HEQ.out _ _ _ (P14.out.on ((Q.refl _).alloc _)).tree R14.out.tree).mono ?_;rintro e9 w18 ⟨⟨r18,rfl,h18⟩,q18⟩;obtain rfl:r18=true:=h18.2 HB2.out;have Q18:=hid (R14.out.q.trans q18);clear q18 h18))
   go_ret
   exact ⟨rfl,Q18.out⟩
theorem sides_m11(x:Ex)(v:Value)(rows:Bool)(k a t k' a' t':Int)(W:World)(hg:Gd W)(hr:RdI W x v)(hs:Sm (cutE x 1 220).1)(h1:(fitB (cutE x 1 220).1&&mall mayN (cutE x 1 220).1)=true)(h2:L.mayB k a t=true)(h3:L.mayB k' a' t'=true)(g0:a≤1099511627776)(g1:t≤1099511627776)(g2:a'≤1099511627776)(g3:t'≤1099511627776)(hyb:L.trB k' a' t' k a t false=true)(hxb:L.trB k a t k' a' t' true=true) :
  Calls Tryz.prog 5 #[v,.bool rows,.agg #[.int .i64 k,.int .i64 a,.int .i64 t],.agg #[.int .i64 k',.int .i64 a',.int .i64 t']] W fun e W'=>e=.returned (.bool true)∧Q W W':=by
 have HBG:=hid (fun w (q:Q W w)=>begun_any w (hg.on q))
 have HCU:=hid (fun w (q:Q W w)=>cutx_any x v W w hr q)
 obtain ⟨k0,n0,t0,b0,e0,a1,l1,c1,a2,l2,c2,rfl⟩:=hr.shape;obtain ⟨y,hy⟩:∃ y,(cutE x 1 220).1=y:=⟨_,rfl⟩;rw [hy]at HCU hs h1;have HMY:=hid (fun w v (r:Rd w y v)=>rmayexpr_any y v w hs r)
 have HMA:=hid (fun w=>L.rmay_any k a t w)
 have HMB:=hid (fun w=>L.rmay_any k' a' t' w)
 have HGD:=hid hg;have HSB:=sides_begin W k0 n0 t0 b0 e0 a1 l1 c1 a2 l2 c2 k a t k' a' t';have HNB:=hid HSB.1;have HLA:=hid HSB.2.1;have HLB:=hid HSB.2.2;have HSM:=hid hs;have HGX:=hid (gx_of HSM.out h1);rw [h1]at HMY;rw [h2]at HMA;rw [h3]at HMB;have HSD:=hid (fun hr=>sides_tree HGX.out.1 (⟨#[99,48,110,48]⟩:ByteArray).data.toList (⟨#[99,48,110,48]⟩:ByteArray).data.toList rows k a t k' a' t' h2 h3 g0 g1 g2 g3 hr)
 have HT1:=hid (fun w=>L.rtransform_any k a t k' a' t' true w)
 have HT2:=hid (fun w=>L.rtransform_any k' a' t' k a t false w)
 simp only [L.trV]at HT1 HT2
 rw [hxb]at HT1 HSD;rw [hyb]at HT2 HSD;obtain ⟨xk,hxk⟩:∃ xk,L.trK k a t k' a' t' true=xk:=⟨_,rfl⟩;obtain ⟨xa,hxa⟩:∃ xa,L.trA k a t k' a' t' true=xa:=⟨_,rfl⟩;obtain ⟨xt,hxt⟩:∃ xt,L.trT k a t k' a' t' true=xt:=⟨_,rfl⟩;obtain ⟨yk,hyk⟩:∃ yk,L.trK k' a' t' k a t false=yk:=⟨_,rfl⟩;obtain ⟨ya,hya⟩:∃ ya,L.trA k' a' t' k a t false=ya:=⟨_,rfl⟩;obtain ⟨yt,hyt⟩:∃ yt,L.trT k' a' t' k a t false=yt:=⟨_,rfl⟩;rw [hxk,hxa,hxt]at HT1 HSD;rw [hyk,hya,hyt]at HT2 HSD;have HRF:=hid (fun w v (r:Rd w y v)=>rrefs_any _ y v w (Nat.le_refl _) r HGX.out.2)
 have HL1:=hid (fun w v (q:Q W w) (r:Rd w y v)=>lines_any y v ⟨#[99,48,110,48]⟩ ⟨#[99,48,110,48]⟩ rows k a t w (HGD.out.on q) r HGX.out.1.sn HGX.out.1.sm HGX.out.1.nodes HGX.out.1.may)
 have HL3:=hid (fun w v (q:Q W w) (r:Rd w y v)=>lines_any y v ⟨#[99,48,110,48]⟩ ⟨#[99,48,110,48]⟩ rows k' a' t' w (HGD.out.on q) r HGX.out.1.sn HGX.out.1.sm HGX.out.1.nodes HGX.out.1.may)
 have ha1:=HGX.out.1.ln (⟨#[99,48,110,48]⟩:ByteArray).data.toList (⟨#[99,48,110,48]⟩:ByteArray).data.toList rows k a t;have hb1:=HGX.out.1.ln (⟨#[99,48,110,48]⟩:ByteArray).data.toList (⟨#[99,48,110,48]⟩:ByteArray).data.toList rows k' a' t';obtain ⟨pa,hpa⟩:∃ pa,lnE (⟨#[99,48,110,48]⟩:ByteArray).data.toList (⟨#[99,48,110,48]⟩:ByteArray).data.toList rows k a t y=pa:=⟨_,rfl⟩;obtain ⟨pb,hpb⟩:∃ pb,lnE (⟨#[99,48,110,48]⟩:ByteArray).data.toList (⟨#[99,48,110,48]⟩:ByteArray).data.toList rows k' a' t' y=pb:=⟨_,rfl⟩;rw [hpa]at HL1 ha1 HSD;rw [hpb]at HL3 hb1 HSD;have HL2:=hid (fun w v (q:Q W w) (r:Rd w pa v)=>lines_any pa v ⟨#[99,48,110,48]⟩ ⟨#[99,48,110,48]⟩ rows yk ya yt w (HGD.out.on q) r ha1.sn ha1.sm ha1.nodes ha1.may)
 obtain ⟨qa,hqa⟩:∃ qa,lnE (⟨#[99,48,110,48]⟩:ByteArray).data.toList (⟨#[99,48,110,48]⟩:ByteArray).data.toList rows yk ya yt pa=qa:=⟨_,rfl⟩;rw [hqa]at HL2 HSD;have HL4:=hid (fun w v (q:Q W w) (r:Rd w pb v)=>lines_any pb v ⟨#[99,48,110,48]⟩ ⟨#[99,48,110,48]⟩ rows xk xa xt w (HGD.out.on q) r hb1.sn hb1.sm hb1.nodes hb1.may)
 obtain ⟨qb,hqb⟩:∃ qb,lnE (⟨#[99,48,110,48]⟩:ByteArray).data.toList (⟨#[99,48,110,48]⟩:ByteArray).data.toList rows xk xa xt pb=qb:=⟨_,rfl⟩;rw [hqb]at HL4 HSD;simp only [Bool.false_eq_true,if_true,if_false]at HSD
 have HEQ:=hid (fun w v v' (r:Rd w qa v) (r':Rd w qb v')=>eqexpr_any _ qa qb v v' w (Nat.le_refl _) r r')
 have HRL:=hid HGX.out.2;clear hg hr hs hy HSB h1 h2 h3 hyb hxb hxk hxa hxt hyk hya hyt hpa hpb ha1 hb1 hqa hqb;go_enter Tryz.func5,Tryz.ntmps5
 go_wp2_with (first
  |(go_at_call 8;refine (HBG.out _ ((((Q.refl _).alloc _).alloc _).alloc _)).mono ?_;rintro e9 w1 ⟨rfl,q1⟩;have Q1:Hid (Q W w1):=hid (((((Q.refl _).alloc _).alloc _).alloc _).trans q1);have N1:=hid (HNB.out.on q1);have La1:=hid (HLA.out.on q1);have Lb1:=hid (HLB.out.on q1);clear q1;obtain ⟨y0,y1,y2,y3,y4,y5,y6,_⟩:=N1.out;simp only [Nat.zero_add]at y0 y1 y2 y3 y4 y5 y6)
  |(go_at_call 9;refine (HCU.out _ Q1.out).mono ?_;rintro e9 w2 ⟨v2,rfl,r2,q2⟩;obtain ⟨k2,n2,t2,b2,e2,a3,l3,c3,a4,l4,c4,rfl⟩:=r2.shape;have N2:=hid (N1.out.on q2);have E2:=hid (bv_store Q1.out q2 (Nat.le_refl _) N1.out.pl.lt N2.out r2);have La2:=hid ((La1.out.on q2).qx (set7_qx w2 W.heap.size (.int .i64 k2) (.int .i64 n2) (.string t2) (.bool b2) (.int .i64 e2) (.slice a3 l3 c3) (.slice a4 l4 c4)) (by omega));have Lb2:=hid ((Lb1.out.on q2).qx (set7_qx w2 W.heap.size (.int .i64 k2) (.int .i64 n2) (.string t2) (.bool b2) (.int .i64 e2) (.slice a3 l3 c3) (.slice a4 l4 c4)) (by omega));clear r2 q2 y0 y1 y2 y3 y4 y5 y6;obtain ⟨y0,y1,y2,y3,y4,y5,y6,yp⟩:=N2.out;have f0:=yp.frozen 0;have f1:=yp.frozen 1;have f2:=yp.frozen 2;have f3:=yp.frozen 3;have f4:=yp.frozen 4;have f5:=yp.frozen 5;have f6:=yp.frozen 6;clear yp;simp only [Nat.zero_add]at y0 y1 y2 y3 y4 y5 y6)
  |(go_at_call 12;refine (HMY.out _ _ E2.out.tree).mono ?_;rintro e9 w4 ⟨rfl,q4⟩;have E4:=hid (E2.out.on q4);have La4:=hid (La2.out.on q4);have Lb4:=hid (Lb2.out.on q4);clear q4;obtain ⟨z0,z1,z2,z3,z4,z5,z6,_⟩:=E4.out.nd;obtain ⟨x0,x1,x2⟩:=La4.out;obtain ⟨x3,x4,x5⟩:=Lb4.out;simp only [Nat.zero_add]at z0 z1 z2 z3 z4 z5 z6)
  |(go_at_call 14;refine (HMA.out _).mono ?_;rintro e9 w5 ⟨rfl,h5⟩;have q5:Q w4 w5:=(by rw [h5];exact (Q.refl _).alloc _);clear h5 HMA;have E5:=hid (E4.out.on q5);have La5:=hid (La4.out.on q5);have Lb5:=hid (Lb4.out.on q5);clear q5;clear z0 z1 z2 z3 z4 z5 z6 x0 x1 x2 x3 x4 x5;obtain ⟨z0,z1,z2,z3,z4,z5,z6,_⟩:=E5.out.nd;obtain ⟨x0,x1,x2⟩:=La5.out;obtain ⟨x3,x4,x5⟩:=Lb5.out;simp only [Nat.zero_add]at z0 z1 z2 z3 z4 z5 z6)
  |(go_at_call 14;refine (HMB.out _).mono ?_;rintro e9 w6 ⟨rfl,h6⟩;have q6:Q w5 w6:=(by rw [h6];exact (Q.refl _).alloc _);clear h6 HMB;have E6:=hid (E5.out.on q6);have La6:=hid (La5.out.on q6);have Lb6:=hid (Lb5.out.on q6);clear q6;clear z0 z1 z2 z3 z4 z5 z6 x0 x1 x2 x3 x4 x5;obtain ⟨z0,z1,z2,z3,z4,z5,z6,_⟩:=E6.out.nd;obtain ⟨x0,x1,x2⟩:=La6.out;obtain ⟨x3,x4,x5⟩:=Lb6.out;simp only [Nat.zero_add]at z0 z1 z2 z3 z4 z5 z6)
  |(go_at_call 18;refine (HRF.out _ _ E6.out.tree).mono ?_;rintro e9 w7 ⟨v7,rfl,o7,q7⟩;have E7:=hid (E6.out.on q7);have La7:=hid (La6.out.on q7);have Lb7:=hid (Lb6.out.on q7);have O7:=hid o7;obtain ⟨ao7,co7,hv7,hc7,hd7⟩:=(o7.sl rf_len (by omega)).len;subst hv7;clear o7 q7;clear z0 z1 z2 z3 z4 z5 z6 x0 x1 x2 x3 x4 x5;obtain ⟨z0,z1,z2,z3,z4,z5,z6,_⟩:=E7.out.nd;obtain ⟨x0,x1,x2⟩:=La7.out;obtain ⟨x3,x4,x5⟩:=Lb7.out;simp only [Nat.zero_add]at z0 z1 z2 z3 z4 z5 z6))
 have hroom:(rfs y).length≤9223372036854775807:=by have:=HRL.out;omega
 go_loopw [11] (fun z W'=>∃ i:Nat,i≤(rfs y).length∧z=.int .i64 (i:Int)∧W'=w7∧Hid (∀ r∈(rfs y).take i,r.2.1≤1099511627776∧r.2.2.1≤1099511627776)) (fun z _=>(rfs y).length-(intOf z).toNat)
 case atStart=>exact ⟨0,Nat.zero_le _,rfl,rfl,hid (fun r hr=>absurd hr (by simp))⟩
 case round=>
  obtain ⟨i,hik,rfl,rfl,hA⟩:=hrel;by_cases hlt:i<(rfs y).length
  ·obtain ⟨g5,cg5,hvv,_⟩:=O7.out.shape (by omega)
   simp only [Value.slice.injEq]at hvv
   obtain ⟨rfl,_,rfl⟩:=hvv;have hcl:=O7.out.cell rf_len hlt;have u1:=hcl 1 _ rfl;have u2:=hcl 2 _ rfl;have HRR:=hid (List.take_succ_eq_append_getElem hlt);obtain ⟨r1,hr1⟩:∃ r1,(rfs y)[i]=r1:=⟨_,rfl⟩;rw [hr1]at u1 u2 HRR;clear hcl hr1
   rcases Int.lt_or_le 1099511627776 r1.2.1 with hrow|hrow
   ·go_wp2_with fail
    go_ret
    exact ⟨rfl,E7.out.q⟩
   ·rcases Int.lt_or_le 1099511627776 r1.2.2.1 with hcol|hcol
    ·go_wp2_with fail
     go_ret
     exact ⟨rfl,E7.out.q⟩
    ·go_wp2_with fail
     go_roundw
     case rel=>exact ⟨i+1,by omega,by go_num,by first|rfl|trivial,hid (fun r hr=>by
      rw [HRR.out]at hr
      rcases List.mem_append.1 hr with hr|hr
      ·exact hA.out r hr
      ·simp at hr;subst hr;exact ⟨hrow,hcol⟩)⟩
     case measure=>simp [intOf];omega
  ·have HB2:=hid (HSD.out (fun r hr=>hA.out r (by rw [List.take_of_length_le (by omega)];exact hr)))
   clear hA HSD;go_wp2_with (first
    |(go_at_call 20;refine (HT1.out _).mono ?_;rintro e9 w8 ⟨rfl,q8⟩;have E8:=hid (E7.out.on q8);have La8:=hid (La7.out.on q8);have Lb8:=hid (Lb7.out.on q8);have hl80:W.heap.size<w8.heap.size:=E8.out.nd.pl.lt;have hl81:W.heap.size+1<w8.heap.size:=La8.out.lt;have hl82:W.heap.size+1+1<w8.heap.size:=Lb8.out.lt;clear q8 HT1;clear z0 z1 z2 z3 z4 z5 z6 x0 x1 x2 x3 x4 x5;obtain ⟨z0,z1,z2,z3,z4,z5,z6,_⟩:=E8.out.nd;obtain ⟨x0,x1,x2⟩:=La8.out;obtain ⟨x3,x4,x5⟩:=Lb8.out;simp only [Nat.zero_add]at z0 z1 z2 z3 z4 z5 z6)
    |(go_at_call 20;refine (HT2.out _).mono ?_;rintro e9 w9 ⟨rfl,q9⟩;have q89:Q w8 w9:=((Q.refl _).alloc _).trans q9;have E9:=hid (E8.out.on q89);have La9:=hid (La8.out.on q89);have Lb9:=hid (Lb8.out.on q89);have X9:=hid ((t3_new w8 xk xa xt 28).on q9);have hl90:W.heap.size<w9.heap.size:=E9.out.nd.pl.lt;have hl91:W.heap.size+1<w9.heap.size:=La9.out.lt;have hl92:W.heap.size+1+1<w9.heap.size:=Lb9.out.lt;clear q9 q89 HT2;clear z0 z1 z2 z3 z4 z5 z6 x0 x1 x2 x3 x4 x5;obtain ⟨z0,z1,z2,z3,z4,z5,z6,_⟩:=E9.out.nd;obtain ⟨x0,x1,x2⟩:=La9.out;obtain ⟨x3,x4,x5⟩:=Lb9.out;simp only [Nat.zero_add]at z0 z1 z2 z3 z4 z5 z6)
    |(go_at_call 11;refine (HL1.out _ _ (E9.out.q.alloc _) (E9.out.on ((Q.refl _).alloc _)).tree).mono ?_;rintro e9 w10 ⟨v10,rfl,q10,lo10,hi10,hlo10,hhi10,ow10⟩;obtain ⟨k10,n10,t10,b10,e10,a10,l10,c10,a11,l11,c11,rfl⟩:=ow10.shape;have q910:Q w9 w10:=((Q.refl _).alloc _).trans q10;have E10:=hid (E9.out.on q910);have La10:=hid (La9.out.on q910);have Lb10:=hid (Lb9.out.on q910);have X10:=hid (X9.out.on q910);have Y10:=hid ((t3_new w9 yk ya yt 28).on q10);have P10:=hid (bv_new E10.out.q ow10 hhi10);have hx10:w8.heap.size<w10.heap.size:=X10.out.lt;have hy10:w9.heap.size<w10.heap.size:=Y10.out.lt;have hl100:W.heap.size<w10.heap.size:=E10.out.nd.pl.lt;have hl101:W.heap.size+1<w10.heap.size:=La10.out.lt;have hl102:W.heap.size+1+1<w10.heap.size:=Lb10.out.lt;clear ow10 hlo10 hhi10 q10 q910 HL1;clear z0 z1 z2 z3 z4 z5 z6 x0 x1 x2 x3 x4 x5;obtain ⟨z0,z1,z2,z3,z4,z5,z6,_⟩:=E10.out.nd;obtain ⟨x0,x1,x2⟩:=La10.out;obtain ⟨x3,x4,x5⟩:=Lb10.out;simp only [Nat.zero_add]at z0 z1 z2 z3 z4 z5 z6;obtain ⟨y10a,y10b,y10c⟩:=Y10.out)
    |(go_at_call 11;refine (HL2.out _ _ P10.out.q P10.out.tree).mono ?_;rintro e9 w12 ⟨v12,rfl,q12,lo12,hi12,hlo12,hhi12,ow12⟩;obtain ⟨k12,n12,t12,b12,e12,a12,l12,c12,a13,l13,c13,rfl⟩:=ow12.shape;have q1012:Q w10 w12:=((Q.refl _).alloc _).trans q12;have PN:=hid (P10.out.nd.on q12);have P12:=hid (bv_store P10.out.q q12 (by omega) (by simp) PN.out (Ow.rdg (g:=fun b=>b<W.heap.size∨(w10.alloc (.cells #[.int .i64 k10,.int .i64 n10,.string t10,.bool b10,.int .i64 e10,.slice a10 l10 c10,.slice a11 l11 c11] 26)).heap.size≤b) _ _ _ _ (fun i h _=>.inr (by omega)) ow12));have hset:=set7_qx w12 w10.heap.size (.int .i64 k12) (.int .i64 n12) (.string t12) (.bool b12) (.int .i64 e12) (.slice a12 l12 c12) (.slice a13 l13 c13);have E12:=hid ((E10.out.on q1012).qx hset (by omega) (by omega) E10.out.mx);have La12:=hid ((La10.out.on q1012).qx hset (by omega));have Lb12:=hid ((Lb10.out.on q1012).qx hset (by omega));have X12:=hid ((X10.out.on q1012).qx hset (by omega));clear hset;obtain ⟨p0,p1,p2,p3,p4,p5,p6,pp⟩:=PN.out;have f0:=pp.frozen 0;have f1:=pp.frozen 1;have f2:=pp.frozen 2;have f3:=pp.frozen 3;have f4:=pp.frozen 4;have f5:=pp.frozen 5;have f6:=pp.frozen 6;simp only [Nat.zero_add]at p0 p1 p2 p3 p4 p5 p6;have EN:=hid ((E10.out.on q1012).nd);have LaN:=hid (La10.out.on q1012);have LbN:=hid (Lb10.out.on q1012);have ne0:w10.heap.size≠W.heap.size:=(by omega);have ne1:w10.heap.size≠W.heap.size+1:=(by omega);have ne2:w10.heap.size≠W.heap.size+1+1:=(by omega);clear ow12 hlo12 hhi12 q12 q1012 pp HL2 y10a y10b y10c;clear z0 z1 z2 z3 z4 z5 z6 x0 x1 x2 x3 x4 x5;obtain ⟨z0,z1,z2,z3,z4,z5,z6,_⟩:=EN.out;obtain ⟨x0,x1,x2⟩:=LaN.out;obtain ⟨x3,x4,x5⟩:=LbN.out;simp only [Nat.zero_add]at z0 z1 z2 z3 z4 z5 z6)
    |(go_at_call 11;refine (HL3.out _ _ E12.out.q E12.out.tree).mono ?_;rintro e9 w14 ⟨v14,rfl,q14,lo14,hi14,hlo14,hhi14,ow14⟩;obtain ⟨k14,n14,t14,b14,e14,a14,l14,c14,a15,l15,c15,rfl⟩:=ow14.shape;have E14:=hid (E12.out.on q14);have La14:=hid (La12.out.on q14);have Lb14:=hid (Lb12.out.on q14);have X14:=hid (X12.out.on q14);have P14:=hid (P12.out.on q14);have R14:=hid (bv_new E14.out.q ow14 hhi14);have hx14:w8.heap.size<w14.heap.size:=X14.out.lt;have hp14:w10.heap.size<w14.heap.size:=P14.out.nd.pl.lt;have hl140:W.heap.size<w14.heap.size:=E14.out.nd.pl.lt;have hl141:W.heap.size+1<w14.heap.size:=La14.out.lt;have hl142:W.heap.size+1+1<w14.heap.size:=Lb14.out.lt;clear ow14 hlo14 hhi14 q14 HL3 p0 p1 p2 p3 p4 p5 p6 f0 f1 f2 f3 f4 f5 f6;clear z0 z1 z2 z3 z4 z5 z6 x0 x1 x2 x3 x4 x5;obtain ⟨z0,z1,z2,z3,z4,z5,z6,_⟩:=E14.out.nd;obtain ⟨x0,x1,x2⟩:=La14.out;obtain ⟨x3,x4,x5⟩:=Lb14.out;simp only [Nat.zero_add]at z0 z1 z2 z3 z4 z5 z6;obtain ⟨x14a,x14b,x14c⟩:=X14.out;obtain ⟨p0,p1,p2,p3,p4,p5,p6,_⟩:=P14.out.nd;simp only [Nat.zero_add]at p0 p1 p2 p3 p4 p5 p6)
    |(go_at_call 11;refine (HL4.out _ _ R14.out.q R14.out.tree).mono ?_;rintro e9 w16 ⟨v16,rfl,q16,lo16,hi16,hlo16,hhi16,ow16⟩;obtain ⟨k16,n16,t16,b16,e16,a16,l16,c16,a17,l17,c17,rfl⟩:=ow16.shape;have q1416:Q w14 w16:=((Q.refl _).alloc _).trans q16;have RN:=hid (R14.out.nd.on q16);have R16:=hid (bv_store R14.out.q q16 (by omega) (by simp) RN.out (Ow.rdg (g:=fun b=>b<W.heap.size∨(w14.alloc (.cells #[.int .i64 k14,.int .i64 n14,.string t14,.bool b14,.int .i64 e14,.slice a14 l14 c14,.slice a15 l15 c15] 26)).heap.size≤b) _ _ _ _ (fun i h _=>.inr (by omega)) ow16));have hset:=set7_qx w16 w14.heap.size (.int .i64 k16) (.int .i64 n16) (.string t16) (.bool b16) (.int .i64 e16) (.slice a16 l16 c16) (.slice a17 l17 c17);have P16:=hid ((P14.out.on q1416).qx hset (by omega) (by omega) P14.out.mx);clear hset;have PM:=hid ((P14.out.on q1416).nd);obtain ⟨r0,r1,r2,r3,r4,r5,r6,rp⟩:=RN.out;have f0:=rp.frozen 0;have f1:=rp.frozen 1;have f2:=rp.frozen 2;have f3:=rp.frozen 3;have f4:=rp.frozen 4;have f5:=rp.frozen 5;have f6:=rp.frozen 6;simp only [Nat.zero_add]at r0 r1 r2 r3 r4 r5 r6;have nep:w14.heap.size≠w10.heap.size:=(by omega);clear ow16 hlo16 hhi16 q16 q1416 rp HL4 p0 p1 p2 p3 p4 p5 p6 x14a x14b x14c;obtain ⟨p0,p1,p2,p3,p4,p5,p6,_⟩:=PM.out;simp only [Nat.zero_add]at p0 p1 p2 p3 p4 p5 p6)
    |(go_at_call 13;refine (HEQ.out _ _ _ P16.out.tree R16.out.tree).mono ?_;rintro e9 w18 ⟨⟨r18,rfl,h18⟩,q18⟩;obtain rfl:r18=true:=h18.2 HB2.out;have Q18:=hid (P16.out.q.trans q18);clear q18 h18))
   go_ret
   exact ⟨rfl,Q18.out⟩
end Go.Proofs.YtoikodohcieipaaGreatDoor
