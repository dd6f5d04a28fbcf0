/- counterpaneref5.may, MayExpr a. -/
import Derived.Test.YtoikodohcieipaaGreatDoorKl38
import Derived.Test.YtoikodohcieipaaGreatDoorKl37
import Derived.Test.YtoikodohcieipaaGreatDoorKl39
import Derived.Test.YtoikodohcieipaaGreatDoorKl36
import Derived.Test.YtoikodohcieipaaGreatDoorKl03
import Derived.BigQuiet
import Derived.Test.YtoikodohcieipaaGreatDoorKl01
import Derived.Test.YtoikodohcieipaaGreatDoorKl18
import Derived.Test.YtoikodohcieipaaGreatDoorKl34
set_option linter.unusedVariables false
set_option linter.unusedSimpArgs false
set_option maxRecDepth 100000
set_option maxHeartbeats 8000000
namespace Go.Proofs.YtoikodohcieipaaGreatDoor
open Go.RowKit
theorem mre_of{W:World}(x:Rf)(hs:x.1.length≤2000000):MRe W x:=by
 intro V q
 exact rmay_any ⟨x.1.toArray⟩ x.2.1 x.2.2.1 x.2.2.2.1 x.2.2.2.2 V (by show x.1.toArray.size≤4000000000;simp;omega)
theorem bare_leaf(ok:Bool)(n:Int)(t:List UInt8)(b:Bool)(e:Int)(l1:Nat)(ks:List Ex)(d:Nat):((ok&&bareB n t b e l1 ks.length)&&rm.rmL ks d)=(ok&&bareB n t b e l1 ks.length):=by
 cases h:bareB n t b e l1 ks.length
 ·rw [Bool.and_false,Bool.false_and]
 ·have:ks=[]:=List.eq_nil_of_length_eq_zero (of_decide_eq_true h).2.2.2.2.2
  subst this;rw [rm.rmL,Bool.and_true]
theorem rmay_all:∀ (s:Nat) (x:Ex) (v:Value) (W:World) (d:Nat),SizeOf.sizeOf x≤s→Sm x→Rd W x v→Calls Tryz.prog 30 #[v,.int .i64 (d:Int)] W fun e W'=>e=.returned (.bool (rm x d))∧Q W W':=by
 intro s
 induction s with
 |zero=>
  intro x v W d hs
  cases x with
  |mk k n t b e rs ks=>simp at hs
 |succ s ih=>
  intro x v W d hsz hs hr
  obtain ⟨k,n,t,b,e,rs,ks,rv',kv,ao,cap,rfl,hp⟩:=hr.prt;obtain ⟨ar,cr,hrv,hl⟩:=hp.rl;have hsl:Sl rf 5 W (.slice ar rs.length cr) rs:=hrv ▸ hp.rl
  have hkl:=hp.kl;subst hkl hrv;have hx:=hp.ex;have hcap:ks.length≤9223372036854775807:=by have h1:=hp.le;have h2:=hp.mx;unfold maxLen at h2;omega
  have HKid:Hid (∀ i (hi:i<ks.length) V,Q W V→∃ b' off c0 c1 c2 c3 c4 c5 c6,ao=some ⟨b',off,none⟩∧Kid V ks[i] b' (off+i*7) c0 c1 c2 c3 c4 c5 c6):=hid (fun i hi V q=>by
   obtain ⟨b',off,ha,hl⟩:=(hp.on q).kd (by intro h;rw [h]at hi;simp at hi)
   obtain ⟨c0,c1,c2,c3,c4,c5,c6,hk⟩:=hl.kid i hi;exact ⟨b',off,c0,c1,c2,c3,c4,c5,c6,ha,hk⟩)
  have hkids:∀ y∈ks,Sm y:=sm_kids k n t.data.toList b e rs ks (hx ▸ hs)
  have IH:Hid (∀ i (hi:i<ks.length) v V,Rd V ks[i] v→Calls Tryz.prog 30 #[v,.int .i64 ((d:Int)+1)] V fun e W'=>e=.returned (.bool (rm ks[i] (d+1)))∧Q V W'):=hid (fun i hi v V hr=>by
   have h1:=kid_size (k:=k) (n:=n) (t:=t.data.toList) (b:=b) (e:=e) (rs:=rs) i hi;rw [←hx]at h1;have:=ih ks[i] v V (d+1) (by omega) (hkids _ (List.getElem_mem hi)) hr
   rw [show ((d+1:Nat):Int)=(d:Int)+1 by omega]at this
   exact this)
  clear ih hr;subst hx;rw [Sm]at hs;obtain ⟨s1,s2,_⟩:=hs;have st:t.size≤1000000:=by rw [←len_data];exact s1
  have hm:Hid (∀ y∈rs,MRe W y):=hid (fun y hy=>mre_of y (s2 y hy))
  rw [rm,mayN];by_cases h1:k=1
  ·subst h1
   rw [if_pos rfl,bare_leaf];exact rn_1 n t b e ar rs.length cr ao ks.length cap W d
  by_cases h2:k=2
  ·subst h2
   rw [if_neg (by decide),if_pos rfl,bare_leaf]
   exact rn_2 n t b e ar rs.length cr ao ks.length cap W d (by omega)
  by_cases h3:k=3
  ·subst h3
   rw [if_neg (by decide),if_neg (by decide),if_pos rfl,bare_leaf]
   exact rn_3 n t b e ar rs.length cr ao ks.length cap W d
  by_cases h4:k=4
  ·subst h4
   rw [if_neg (by decide),if_neg (by decide),if_neg (by decide),if_pos rfl,bare_leaf]
   exact rn_4 n t b e ar rs.length cr ao ks.length cap W d
  by_cases h5:k=5
  ·subst h5
   rw [if_neg (by decide),if_neg (by decide),if_neg (by decide),if_neg (by decide),if_pos rfl,bare_leaf]
   exact rn_5 n t b e ar rs.length cr ao ks.length cap W d rs hsl hm
  by_cases h6:k=6
  ·subst h6
   rw [if_neg (by decide),if_neg (by decide),if_neg (by decide),if_neg (by decide),if_neg (by decide),if_pos rfl,bare_leaf]
   exact rn_6 n t b e ar rs.length cr ao ks.length cap W d rs hsl hm
  by_cases h7:k=7
  ·subst h7
   rw [if_neg (by decide),if_neg (by decide),if_neg (by decide),if_neg (by decide),if_neg (by decide),if_neg (by decide),if_pos rfl]
   exact rn_7 n t b e ar rs.length cr ao ks.length cap W d ks rfl hcap HKid IH
  by_cases h8:k=8
  ·subst h8
   rw [if_neg (by decide),if_neg (by decide),if_neg (by decide),if_neg (by decide),if_neg (by decide),if_neg (by decide),if_neg (by decide),if_pos rfl]
   exact rn_8 n t b e ar rs.length cr ao ks.length cap W d ks rfl hcap HKid IH
  by_cases h9:k=9
  ·subst h9
   rw [if_neg (by decide),if_neg (by decide),if_neg (by decide),if_neg (by decide),if_neg (by decide),if_neg (by decide),if_neg (by decide),if_neg (by decide),if_pos rfl]
   exact rn_9 n t b e ar rs.length cr ao ks.length cap W d (by omega) ks rfl hcap HKid IH
  rw [if_neg h1,if_neg h2,if_neg h3,if_neg h4,if_neg h5,if_neg h6,if_neg h7,if_neg h8,if_neg h9,Bool.false_and,Bool.and_false];exact rn_k k n t b e ar rs.length cr ao ks.length cap W d (by omega)
theorem rcount_any(x:Ex)(v:Value)(W:World)(hr:Rd W x v):Calls Tryz.prog 29 #[v] W fun e W'=>e=.returned (.int .i64 (min (nodes x) 201:Nat))∧Q W W':=by
 have HC:=hid (fun W' (q:Q W W')=>count_any (SizeOf.sizeOf x) x v W' 0 0 0 (Nat.le_refl _) rfl (by omega) (Rd.on q _ _ hr))
 have hn:=cnt_nodes x 0 (by omega)
 rw [Nat.zero_add]at hn;rw [←hn];obtain ⟨k,n,t,b,e,a1,l1,c1,a2,l2,c2,rfl⟩:=hr.shape;obtain ⟨c,hc⟩:∃ c,cnt x 0=c:=⟨_,rfl⟩;rw [hc]at HC ⊢;clear hn hc hr;by_cases h:200<c
 ·have h':(200:Int)<(c:Int):=by omega
  have HR:Hid (min c 201=201):=by show _=_;omega
  go_enter Tryz.func29,Tryz.ntmps29
  go_wp2_with (go_at_call 54;refine (HC.out _ ((Q.refl _).alloc _)).mono ?_;rintro e9 w1 ⟨rfl,q1⟩;have Q1:Hid (Q W w1):=hid (((Q.refl _).alloc _).trans q1);clear q1)
  go_ret
  exact ⟨by rw [HR.out];rfl,Q1.out⟩
 ·have h':¬ (200:Int)<(c:Int):=by omega
  have HR:Hid (min c 201=c):=by show _=_;omega
  go_enter Tryz.func29,Tryz.ntmps29
  go_wp2_with (go_at_call 54;refine (HC.out _ ((Q.refl _).alloc _)).mono ?_;rintro e9 w1 ⟨rfl,q1⟩;have Q1:Hid (Q W w1):=hid (((Q.refl _).alloc _).trans q1);clear q1)
  go_ret
  exact ⟨by rw [HR.out];rfl,Q1.out⟩
theorem rmayexpr_any(x:Ex)(v:Value)(W:World)(hs:Sm x)(hr:Rd W x v):Calls Tryz.prog 12 #[v] W fun e W'=>e=.returned (.bool (fitB x&&mall mayN x))∧Q W W':=by
 have HC:=hid (fun W' (q:Q W W')=>rcount_any x v W' (Rd.on q _ _ hr))
 have HA:=hid (fun W' (q:Q W W')=>rmay_all (SizeOf.sizeOf x) x v W' 1 (Nat.le_refl _) hs (Rd.on q _ _ hr))
 have he:(fitB x&&mall mayN x)=(decide (min (nodes x) 201≤200)&&rm x 1):=by
  rw [rm_shl x 1 50 rfl];unfold fitB
  have:decide (nodes x≤200)=decide (min (nodes x) 201≤200):=by
   by_cases h:nodes x≤200
   ·rw [decide_eq_true h,decide_eq_true (by omega)]
   ·rw [decide_eq_false h,decide_eq_false (by omega)]
  rw [this,Bool.and_assoc]
 rw [he];obtain ⟨k,n,t,b,e,a1,l1,c1,a2,l2,c2,rfl⟩:=hr.shape;have HX:=hid (Bx.start W (.int .i64 k) (.int .i64 n) (.string t) (.bool b) (.int .i64 e) (.slice a1 l1 c1) (.slice a2 l2 c2) 26);obtain ⟨c,hc⟩:∃ c,min (nodes x) 201=c:=⟨_,rfl⟩;obtain ⟨r,hrr⟩:∃ r,rm x 1=r:=⟨_,rfl⟩;rw [hc]at HC ⊢;rw [hrr]at HA ⊢;clear hr hs he hc hrr;by_cases h:c≤200
 ·have h':(c:Int)≤200:=by omega
  rw [decide_eq_true h,Bool.true_and];go_enter Tryz.func12,Tryz.ntmps12
  go_wp2_with (first|(go_at_call 29;refine (HC.out _ ((Q.refl _).alloc _)).mono ?_;rintro e9 w1 ⟨rfl,q1⟩;have Q1:Hid (Q W w1):=hid (((Q.refl _).alloc _).trans q1);have X1:=hid (HX.out.on q1);clear q1;obtain ⟨_,_,g0,g1,g2,g3,g4,g5,g6⟩:=X1.out)|(go_at_call 30;refine (HA.out _ Q1.out).mono ?_;rintro e9 w2 ⟨rfl,q2⟩;have Q2:Hid (Q W w2):=hid (Q1.out.trans q2);clear q2))
  go_ret
  exact ⟨rfl,Q2.out⟩
 ·have h':¬ (c:Int)≤200:=by omega
  rw [decide_eq_false h,Bool.false_and];go_enter Tryz.func12,Tryz.ntmps12
  go_wp2_with (go_at_call 29;refine (HC.out _ ((Q.refl _).alloc _)).mono ?_;rintro e9 w1 ⟨rfl,q1⟩;have Q1:Hid (Q W w1):=hid (((Q.refl _).alloc _).trans q1);clear q1)
  go_ret
  exact ⟨rfl,Q1.out⟩
theorem some_all(W0:World)(p:Nat)(hp0:W0.heap.size≤p):∀ (s:Nat) (x:Ex) (v:Value) (W:World) (d l:Nat),SizeOf.sizeOf x≤s→RdI W0 x v→Q W0 W→p<W.heap.size→W.cell? ⟨p,0,none⟩=some (.int .i64 (l:Int))→W.frozen? ⟨p,0,none⟩=false→1≤l→l≤220→d≤60→Calls Tryz.prog 22 #[v,.int .i64 (d:Int),.pointer (some ⟨p,0,none⟩)] W fun e W'=>RepS W0 p W (cutE x d l) e W':=by
 intro s
 induction s with
 |zero=>
  intro x v W d l hs
  cases x with
  |mk k n t b e rs ks=>simp at hs
 |succ s ih=>
  intro x v W d l hs hr hq hp hc hf h1 h2 hd
  cases x with
  |mk k n t b e rs ks=>
   unfold RdI at hr
   obtain ⟨rv',kv,hv,hsl,ao,cap,hk,hle,hmx,hkd⟩:=hr;obtain ⟨a1,c1,hrv,hl⟩:=hsl;have hsl':Sl rf 5 W0 (.slice a1 rs.length c1) rs:=⟨a1,c1,rfl,hl⟩
   subst hk hrv hv;have hstep:=some_step W0 p k n ⟨t.toArray⟩ b e rs ks a1 c1 ao cap W d l (hid hsl') (hid ⟨hle,hmx⟩) (hid hkd) (hid hq) hp0 hp hc hf h1 h2 hd
    (hid (fun i hi v W d l hr hq hp hc hf h1 h2 hd=>ih ks[i] v W d l (by have:=kid_size (k:=k) (n:=n) (t:=t) (b:=b) (e:=e) (rs:=rs) i hi;omega) hr hq hp hc hf h1 h2 hd))
   exact hstep
theorem cutx_any(x:Ex)(v:Value)(W0 W:World)(hr:RdI W0 x v)(hq0:Q W0 W):Calls Tryz.prog 9 #[v] W fun e W'=>∃ v',e=.returned v'∧Rdg (fun b=>b<W0.heap.size∨W.heap.size≤b) W' (cutE x 1 220).1 v'∧Q W W':=by
 have hw0:=hq0.size;have HS:=hid (fun p (hp:W0.heap.size≤p) V (q:Q W0 V) (hpv:p<V.heap.size) (hc:V.cell? ⟨p,0,none⟩=some (.int .i64 ((220:Nat):Int))) (hf:V.frozen? ⟨p,0,none⟩=false)=>some_all W0 p hp (SizeOf.sizeOf x) x v V 1 220 (Nat.le_refl _) hr q hpv hc hf (by omega) (by omega) (by omega))
 obtain ⟨k,n,t,b,e,a1,l1,c1,a2,l2,c2,rfl⟩:=hr.shape;clear hr;have t2:=tb_new (W.alloc (.cells #[.int .i64 k,.int .i64 n,.string t,.bool b,.int .i64 e,.slice a1 l1 c1,.slice a2 l2 c2] 26)) (.int .i64 0) (.int .i64 0) (.string ⟨#[]⟩) (.bool false) (.int .i64 0) (.slice none 0 0) (.slice none 0 0) 26;rw [show (W.alloc (.cells #[.int .i64 k,.int .i64 n,.string t,.bool b,.int .i64 e,.slice a1 l1 c1,.slice a2 l2 c2] 26)).heap.size=W.heap.size+1 by simp]at t2
 have T2:=hid (t2.on (p:=W.heap.size) ((Qx.refl _ _).alloc (.cells #[.int .i64 220] 3)) (by omega))
 clear t2;have hsz:(((W.alloc (.cells #[.int .i64 k,.int .i64 n,.string t,.bool b,.int .i64 e,.slice a1 l1 c1,.slice a2 l2 c2] 26)).alloc (.cells #[.int .i64 0,.int .i64 0,.string ⟨#[]⟩,.bool false,.int .i64 0,.slice none 0 0,.slice none 0 0] 26)).alloc (.cells #[.int .i64 220] 3)).heap.size=W.heap.size+3:=by simp
 have HV:=hid (HS.out (W.heap.size+1+1) (by omega) (((W.alloc (.cells #[.int .i64 k,.int .i64 n,.string t,.bool b,.int .i64 e,.slice a1 l1 c1,.slice a2 l2 c2] 26)).alloc (.cells #[.int .i64 0,.int .i64 0,.string ⟨#[]⟩,.bool false,.int .i64 0,.slice none 0 0,.slice none 0 0] 26)).alloc (.cells #[.int .i64 220] 3)) (((hq0.alloc _).alloc _).alloc _) (by rw [hsz];omega) (by
  have h:=(World.cell?_alloc_new ((W.alloc (.cells #[.int .i64 k,.int .i64 n,.string t,.bool b,.int .i64 e,.slice a1 l1 c1,.slice a2 l2 c2] 26)).alloc (.cells #[.int .i64 0,.int .i64 0,.string ⟨#[]⟩,.bool false,.int .i64 0,.slice none 0 0,.slice none 0 0] 26)) #[.int .i64 220] 3 0);simp only [World.alloc,Array.size_push]at h ⊢
  simpa using h) (by
  have h:=(World.frozen?_alloc_new ((W.alloc (.cells #[.int .i64 k,.int .i64 n,.string t,.bool b,.int .i64 e,.slice a1 l1 c1,.slice a2 l2 c2] 26)).alloc (.cells #[.int .i64 0,.int .i64 0,.string ⟨#[]⟩,.bool false,.int .i64 0,.slice none 0 0,.slice none 0 0] 26)) #[.int .i64 220] 3 0);simp only [World.alloc,Array.size_push]at h ⊢
  simpa using h))
 go_enter Tryz.func9,Tryz.ntmps9
 go_wp2_with (go_at_call 22;refine HV.out.mono ?_;rintro e8 w5 ⟨v8,rfl,hr8,q8,_,_⟩;obtain ⟨k8,m8,t8,bb8,er8,a18,l18,c18,a28,l28,c28,rfl⟩:=hr8.shape;have R8:=hid hr8;have Q8:=hid q8;have T8:=hid (T2.out.on q8 (by omega));clear hr8 q8;obtain ⟨z0,z1,z2,z3,z4,z5,z6,zf⟩:=T8.out;have y0:=zf 0;have y1:=zf 1;have y2:=zf 2;have y3:=zf 3;have y4:=zf 4;have y5:=zf 5;have y6:=zf 6;clear zf)
 refine bodyPost_ret (v:=.agg #[.int .i64 k8,.int .i64 m8,.string t8,.bool bb8,.int .i64 er8,.slice a18 l18 c18,.slice a28 l28 c28]) (by simp [results,Tryz.results9,go_sem,z0,z1,z2,z3,z4,z5,z6]) rfl ?_
 have QF:Qx (W.heap.size+1) w5 (((((((w5.setCell ⟨W.heap.size+1,0,none⟩ (.int .i64 k8)).setCell ⟨W.heap.size+1,1,none⟩ (.int .i64 m8)).setCell ⟨W.heap.size+1,2,none⟩ (.string t8)).setCell ⟨W.heap.size+1,3,none⟩ (.bool bb8)).setCell ⟨W.heap.size+1,4,none⟩ (.int .i64 er8)).setCell ⟨W.heap.size+1,5,none⟩ (.slice a18 l18 c18)).setCell ⟨W.heap.size+1,6,none⟩ (.slice a28 l28 c28)):=(((((((Qx.refl _ _).own _ _).own _ _).own _ _).own _ _).own _ _).own _ _).own _ _
 have hq5:Q W w5:=by
  have h:=Q8.out;refine ⟨h.os,h.tape,h.output,by have:=h.size;omega,fun i hi=>(h.block i (by omega) (fun e=>by have:=Option.some.inj e;omega)).trans ?_⟩
  exact Q.block ((((Q.refl W).alloc _).alloc _).alloc _) hi
 refine ⟨_,rfl,Rdg.mono (fun b hb=>by rw [hsz]at hb;omega) _ _ (Rdg.on QF (fun b hb=>by rw [hsz]at hb;omega) _ _ R8.out),?_⟩
 exact ⟨QF.os.trans hq5.os,QF.tape.trans hq5.tape,QF.output.trans hq5.output,Nat.le_trans hq5.size QF.size,fun i hi=>(QF.block i (Nat.lt_of_lt_of_le hi hq5.size) (fun e=>by have:=Option.some.inj e;omega)).trans (Q.block hq5 hi)⟩
theorem cut_sm{B:Nat}(hB:B≤2000000):∀ (x:Ex) (d l:Nat),Shs B x→Sm (cutE x d l).1
 |.mk k n t b e rs ks,d,l,h=>by
  rw [Shs]at h;rw [cutE,Sm];refine ⟨?_,fun r hr=>Nat.le_trans (h.1 r (List.mem_of_mem_take hr)) hB,go hB ks d (l-1) h.2⟩
  rw [List.length_take];omega
 where
 go {B:Nat} (hB:B≤2000000):∀ (ks:List Ex) (d l:Nat),Shs.ShsL B ks→Sm.SmL (cutE.cutL ks d l).1
 |[],d,l,_=>by rw [cutE.cutL,Sm.SmL];trivial
 |x::xs,d,l,h=>by
  rw [Shs.ShsL]at h;rw [cutE.cutL]
  split
  ·rw [Sm.SmL]
   exact ⟨cut_sm hB x (d+1) l h.1,go hB xs d _ h.2⟩
  ·rw [Sm.SmL];trivial
theorem nodesL_len:∀ (ks:List Ex),ks.length≤nodes.nodesL ks
 |[]=>by simp
 |x::xs=>by
  rw [nodes.nodesL,List.length_cons];have h1:=nodesL_len xs;have h2:=nodes_pos x;omega
structure Bk (W0 W:World) (x:Ex) (p:Nat) (v0 v1 v2 v3 v4 v5 v6:Value):Prop where
 q:Q W0 W
 nd:Nd W p 0 v0 v1 v2 v3 v4 v5 v6
 rd:Rd W x (.agg #[v0,v1,v2,v3,v4,v5,v6])
theorem bk_store{W0 w1 w2:World}{x:Ex}{p:Nat}{c0 c1 c2 c3 c4 c5 c6 d0 d1 d2 d3 d4 d5 d6:Value}(q1:Q W0 w1)(q2:Q w1 w2)(hp:W0.heap.size≤p)(hp2:p<w1.heap.size)(hn:Nd w2 p 0 c0 c1 c2 c3 c4 c5 c6)(hr:Rdg (fun b=>b<W0.heap.size∨w1.heap.size≤b) w2 x (.agg #[d0,d1,d2,d3,d4,d5,d6])) :
  Bk W0 (((((((w2.setCell ⟨p,0,none⟩ d0).setCell ⟨p,1,none⟩ d1).setCell ⟨p,2,none⟩ d2).setCell ⟨p,3,none⟩ d3).setCell ⟨p,4,none⟩ d4).setCell ⟨p,5,none⟩ d5).setCell ⟨p,6,none⟩ d6) x p d0 d1 d2 d3 d4 d5 d6:=by
 have hn7:=hn.all7 d0 d1 d2 d3 d4 d5 d6;simp only [Nat.zero_add]at hn7
 have QF:Qx p w2 (((((((w2.setCell ⟨p,0,none⟩ d0).setCell ⟨p,1,none⟩ d1).setCell ⟨p,2,none⟩ d2).setCell ⟨p,3,none⟩ d3).setCell ⟨p,4,none⟩ d4).setCell ⟨p,5,none⟩ d5).setCell ⟨p,6,none⟩ d6):=(((((((Qx.refl _ _).own _ _).own _ _).own _ _).own _ _).own _ _).own _ _).own _ _
 have hq:=q1.trans q2;exact ⟨⟨QF.os.trans hq.os,QF.tape.trans hq.tape,QF.output.trans hq.output,Nat.le_trans hq.size QF.size,fun i hi=>(QF.block i (Nat.lt_of_lt_of_le hi hq.size) (fun e=>by have:=Option.some.inj e;omega)).trans (Q.block hq hi)⟩,hn7,Rdg.rd _ _ (Rdg.on QF (fun b hb=>by omega) _ _ hr)⟩
theorem cutL_nodes:∀ (ks:List Ex) (d l:Nat),nodes.nodesL (cutE.cutL ks d l).1+(cutE.cutL ks d l).2=l
 |[],d,l=>by rw [cutE.cutL];simp [nodes.nodesL]
 |x::xs,d,l=>by
  rw [cutE.cutL]
  split
  ·rename_i h
   have h1:=cut_nodes x (d+1) l h.1;have h2:=cutL_nodes xs d (cutE x (d+1) l).2;simp only [nodes.nodesL]
   omega
  ·simp [nodes.nodesL]
theorem cut_sn{B:Nat}(hB:B≤2000000):∀ (x:Ex) (d l:Nat),l≤1000→Shs B x→Sn (cutE x d l).1
 |.mk k n t b e rs ks,d,l,hl,h=>by
  rw [Shs]at h;rw [cutE,Sn];refine ⟨?_,?_,fun r hr=>Nat.le_trans (h.1 r (List.mem_of_mem_take hr)) hB,?_,go hB ks d (l-1) (by omega) h.2⟩
  ·rw [List.length_take];omega
  ·rw [List.length_take];omega
  ·have h1:=nodesL_len (cutE.cutL ks d (l-1)).1
   have h2:=cutL_nodes ks d (l-1);omega
 where
 go {B:Nat} (hB:B≤2000000):∀ (ks:List Ex) (d l:Nat),l≤1000→Shs.ShsL B ks→Sn.SnL (cutE.cutL ks d l).1
 |[],d,l,_,_=>by rw [cutE.cutL,Sn.SnL];trivial
 |x::xs,d,l,hl,h=>by
  rw [Shs.ShsL]at h;rw [cutE.cutL]
  split
  ·rename_i hc
   rw [Sn.SnL];refine ⟨cut_sn hB x (d+1) l hl h.1,go hB xs d _ ?_ h.2⟩
   have:=cut_nodes x (d+1) l hc.1
   omega
  ·rw [Sn.SnL];trivial
theorem cut_220(x:Ex):nodes (cutE x 1 220).1≤220:=by
 have:=cut_nodes x 1 220 (by omega)
 omega
structure Bv (W0 W:World) (x:Ex) (p M:Nat) (v0 v1 v2 v3 v4 v5 v6:Value):Prop where
 q:Q W0 W
 nd:Nd W p 0 v0 v1 v2 v3 v4 v5 v6
 rd:Rdg (fun b=>b<M) W x (.agg #[v0,v1,v2,v3,v4,v5,v6])
 mx:M≤W.heap.size
theorem Rdg.onq{g:Nat→Prop}{W W':World}{x:Ex}{v:Value}{M:Nat}(h:Rdg (fun b=>b<M) W x v)(q:Q W W'):Rdg (fun b=>b<M) W' x v:=Rdg.on (Qx.of (p:=M) q) (fun b hb=>by omega) _ _ h
theorem Bv.on{W0 W W':World}{x:Ex}{p M:Nat}{v0 v1 v2 v3 v4 v5 v6:Value}(h:Bv W0 W x p M v0 v1 v2 v3 v4 v5 v6)(q:Q W W'):Bv W0 W' x p M v0 v1 v2 v3 v4 v5 v6:=⟨h.q.trans q,h.nd.on q,h.rd.onq (g:=fun _=>True) q,Nat.le_trans h.mx q.size⟩
theorem Bv.tree{W0 W:World}{x:Ex}{p M:Nat}{v0 v1 v2 v3 v4 v5 v6:Value}(h:Bv W0 W x p M v0 v1 v2 v3 v4 v5 v6):Rd W x (.agg #[v0,v1,v2,v3,v4,v5,v6]):=Rdg.rd _ _ h.rd
structure T3 (W:World) (p:Nat) (a b c:Int):Prop where
 g0:W.cell? ⟨p,0,none⟩=some (.int .i64 a)
 g1:W.cell? ⟨p,1,none⟩=some (.int .i64 b)
 g2:W.cell? ⟨p,2,none⟩=some (.int .i64 c)
theorem T3.lt{W:World}{p:Nat}{a b c:Int}(h:T3 W p a b c):p<W.heap.size:=World.block_lt_of_cell? W ⟨p,0,none⟩ h.g0
theorem T3.blk{W W':World}{p:Nat}{a b c:Int}(h:T3 W p a b c)(e:W'.heap[p]?=W.heap[p]?):T3 W' p a b c:=
 ⟨(World.cell?_of_block (a:=⟨p,0,none⟩) e).trans h.g0,(World.cell?_of_block (a:=⟨p,1,none⟩) e).trans h.g1,(World.cell?_of_block (a:=⟨p,2,none⟩) e).trans h.g2⟩
theorem T3.on{W W':World}{p:Nat}{a b c:Int}(h:T3 W p a b c)(q:Q W W'):T3 W' p a b c:=h.blk (Q.block q h.lt)
theorem T3.qx{W W':World}{p p':Nat}{a b c:Int}(h:T3 W p a b c)(k:Qx p' W W')(hn:p≠p'):T3 W' p a b c:=h.blk (k.block p h.lt (fun e=>hn (Option.some.inj e)))
theorem t3_new(W:World)(a b c:Int)(t:TypeId):T3 (W.alloc (.cells #[.int .i64 a,.int .i64 b,.int .i64 c] t)) W.heap.size a b c:=by
 refine ⟨?_,?_,?_⟩ <;> simp [World.cell?_alloc_new]
def set7(w:World)(p:Nat)(d0 d1 d2 d3 d4 d5 d6:Value):World:=(((((((w.setCell ⟨p,0,none⟩ d0).setCell ⟨p,1,none⟩ d1).setCell ⟨p,2,none⟩ d2).setCell ⟨p,3,none⟩ d3).setCell ⟨p,4,none⟩ d4).setCell ⟨p,5,none⟩ d5).setCell ⟨p,6,none⟩ d6)
theorem set7_qx(w:World)(p:Nat)(d0 d1 d2 d3 d4 d5 d6:Value):Qx p w (set7 w p d0 d1 d2 d3 d4 d5 d6):=(((((((Qx.refl _ _).own _ _).own _ _).own _ _).own _ _).own _ _).own _ _).own _ _
theorem bv_store{W0 w1 w2:World}{x:Ex}{p:Nat}{c0 c1 c2 c3 c4 c5 c6 d0 d1 d2 d3 d4 d5 d6:Value}(q1:Q W0 w1)(q2:Q w1 w2)(hp:W0.heap.size≤p)(hp2:p<w1.heap.size)(hn:Nd w2 p 0 c0 c1 c2 c3 c4 c5 c6)(hr:Rdg (fun b=>b<W0.heap.size∨w1.heap.size≤b) w2 x (.agg #[d0,d1,d2,d3,d4,d5,d6])) :
  Bv W0 (set7 w2 p d0 d1 d2 d3 d4 d5 d6) x p w2.heap.size d0 d1 d2 d3 d4 d5 d6:=by
 have h:=bk_store q1 q2 hp hp2 hn hr;refine ⟨h.q,h.nd,Rdg.mono (fun b hb=>hb.2) _ _ (Rdg.on (set7_qx w2 p d0 d1 d2 d3 d4 d5 d6) (fun b hb=>?_) _ _ (Rdg.in _ _ hr)),(set7_qx w2 p d0 d1 d2 d3 d4 d5 d6).size⟩
 omega
theorem bv_new{W0 w2:World}{x:Ex}{lo hi:Nat}{d0 d1 d2 d3 d4 d5 d6:Value}(q2:Q W0 w2)(ho:Ow w2 x (.agg #[d0,d1,d2,d3,d4,d5,d6]) lo hi)(hh:hi≤w2.heap.size) :
  Bv W0 (w2.alloc (.cells #[d0,d1,d2,d3,d4,d5,d6] 26)) x w2.heap.size w2.heap.size d0 d1 d2 d3 d4 d5 d6:=by
 have h1:Rdg (fun b=>b<w2.heap.size) w2 x (.agg #[d0,d1,d2,d3,d4,d5,d6]):=Ow.rdg _ _ _ _ (fun i _ h=>by omega) ho
 exact ⟨q2.alloc _,nd_new w2 d0 d1 d2 d3 d4 d5 d6 26,h1.onq (g:=fun _=>True) ((Q.refl _).alloc _),by simp⟩
def sx20(s:ByteArray):ByteArray:=if (20:Int)<(s.size:Int) then s.extract 0 (20:Int).toNat else s
theorem shortx(s:ByteArray)(w:World):Calls Tryz.prog 10 #[.string s,.int .i64 20] w fun e w'=>e=.returned (.string (sx20 s))∧w'=w:=short_any s 20 w (by omega) (by omega)
theorem lines_begin(W:World)(k0 n0:Int)(t0:ByteArray)(b0:Bool)(e0:Int)(a1:Option Addr)(l1 c1:Nat)(a2:Option Addr)(l2 c2:Nat)(lk la lt:Int) :
  Nd ((W.alloc (.cells #[.int .i64 k0,.int .i64 n0,.string t0,.bool b0,.int .i64 e0,.slice a1 l1 c1,.slice a2 l2 c2] 26)).alloc (.cells #[.int .i64 lk,.int .i64 la,.int .i64 lt] 28)) W.heap.size 0 (.int .i64 k0) (.int .i64 n0) (.string t0) (.bool b0) (.int .i64 e0) (.slice a1 l1 c1) (.slice a2 l2 c2)∧T3 ((W.alloc (.cells #[.int .i64 k0,.int .i64 n0,.string t0,.bool b0,.int .i64 e0,.slice a1 l1 c1,.slice a2 l2 c2] 26)).alloc (.cells #[.int .i64 lk,.int .i64 la,.int .i64 lt] 28)) (W.heap.size+1) lk la lt:=by
 refine ⟨(nd_new W _ _ _ _ _ _ _ 26).on ((Q.refl _).alloc _),?_⟩
 have h:=t3_new (W.alloc (.cells #[.int .i64 k0,.int .i64 n0,.string t0,.bool b0,.int .i64 e0,.slice a1 l1 c1,.slice a2 l2 c2] 26)) lk la lt 28
 simpa using h
theorem law_lines{y:Ex}{W:World}(home on:ByteArray)(rows:Bool)(lk la lt:Int)(hg:Gd W)(hs:Sm y)(hn:Sn y)(hk:nodes y≤220) :
  ∃ y1,((fitB y&&mall mayN y)=false→y1=y)∧((fitB y&&mall mayN y)=true→y1=lnE home.data.toList on.data.toList rows lk la lt y)∧∀ w v,Q W w→Rd w y v→Calls Tryz.prog 11 #[v,.string home,.string on,.bool rows,.agg #[.int .i64 lk,.int .i64 la,.int .i64 lt]] w fun e W'=>∃ v',e=.returned v'∧Q w W'∧∃ lo hi,w.heap.size≤lo∧hi≤W'.heap.size∧Ow W' y1 v' lo hi:=by
 cases hm:(fitB y&&mall mayN y)
 ·exact ⟨y,fun _=>rfl,fun h=>absurd h (by simp),fun w v q r=>lines_no y v _ _ rows lk la lt w (hg.on q) r hn hs (by omega) hm⟩
 ·exact ⟨_,fun h=>absurd h (by simp),fun _=>rfl,fun w v q r=>lines_any y v _ _ rows lk la lt w (hg.on q) r hn hs (Gx.nodes ⟨hn,hs,hm⟩) hm⟩
theorem lilaw_no(x:Ex)(v:Value)(home on:ByteArray)(rows:Bool)(lk la lt:Int)(W:World)(hg:Gd W)(hr:RdI W x v)(hs:Sm (cutE x 1 220).1)(hn:Sn (cutE x 1 220).1)(hm:(fitB (cutE x 1 220).1&&mall mayN (cutE x 1 220).1)=false) :
  Calls Tryz.prog 3 #[v,.string home,.string on,.bool rows,.agg #[.int .i64 lk,.int .i64 la,.int .i64 lt]] W fun e W'=>e=.returned (.bool true)∧Q W W':=by
 have HBG:=hid (fun w (q:Q W w)=>begun_any w (hg.on q))
 have HCU:=hid (fun w (q:Q W w)=>cutx_any x v W w hr q)
 obtain ⟨k0,n0,t0,b0,e0,a1,l1,c1,a2,l2,c2,rfl⟩:=hr.shape;have hk:=cut_220 x;obtain ⟨y,hy⟩:∃ y,(cutE x 1 220).1=y:=⟨_,rfl⟩;rw [hy]at HCU hs hn hk hm;obtain ⟨ya,h1,h2,hla⟩:=law_lines (sx20 home) (sx20 on) rows lk la lt hg hs hn hk;have HSO:=hid (fun s w=>shortx s w)
 have HLI:=hid hla;obtain ⟨HNB,HLA⟩:=lines_begin W k0 n0 t0 b0 e0 a1 l1 c1 a2 l2 c2 lk la lt
 replace HNB:=hid HNB
 replace HLA:=hid HLA
 have HMY:=hid (fun w v (r:Rd w y v)=>rmayexpr_any y v w hs r)
 rw [hm]at HMY;obtain rfl:=h1 hm;have HEQ:=hid (fun w v v' (r:Rd w ya v) (r':Rd w ya v')=>eqexpr_any _ ya ya v v' w (Nat.le_refl _) r r')
 clear hg hr hs hn hy hk h1 h2 hla hm;go_enter Tryz.func3,Tryz.ntmps3
 go_wp2_with (first
  |(go_at_call 8;refine (HBG.out _ (((Q.refl _).alloc _).alloc _)).mono ?_;rintro e9 w1 ⟨rfl,q1⟩;have Q1:Hid (Q W w1):=hid ((((Q.refl _).alloc _).alloc _).trans q1);have N1:=hid (HNB.out.on q1);have La1:=hid (HLA.out.on q1);clear q1;obtain ⟨y0,y1,y2,y3,y4,y5,y6,_⟩:=N1.out;simp only [Nat.zero_add]at y0 y1 y2 y3 y4 y5 y6)
  |(go_at_call 9;refine (HCU.out _ Q1.out).mono ?_;rintro e9 w2 ⟨v2,rfl,r2,q2⟩;obtain ⟨k2,n2,t2,b2,e2,a3,l3,c3,a4,l4,c4,rfl⟩:=r2.shape;have N2:=hid (N1.out.on q2);have E2:=hid (bv_store Q1.out q2 (Nat.le_refl _) N1.out.pl.lt N2.out r2);have La2:=hid ((La1.out.on q2).qx (set7_qx w2 W.heap.size (.int .i64 k2) (.int .i64 n2) (.string t2) (.bool b2) (.int .i64 e2) (.slice a3 l3 c3) (.slice a4 l4 c4)) (by omega));obtain ⟨x0,x1,x2⟩:=La1.out.on q2;have hl1:W.heap.size+1<w2.heap.size:=(La1.out.on q2).lt;clear r2 q2 y0 y1 y2 y3 y4 y5 y6;obtain ⟨y0,y1,y2,y3,y4,y5,y6,yp⟩:=N2.out;have f0:=yp.frozen 0;have f1:=yp.frozen 1;have f2:=yp.frozen 2;have f3:=yp.frozen 3;have f4:=yp.frozen 4;have f5:=yp.frozen 5;have f6:=yp.frozen 6;clear yp;simp only [Nat.zero_add]at y0 y1 y2 y3 y4 y5 y6)
  |(go_at_call 10;refine (HSO.out _ _).mono ?_;rintro e9 w9 ⟨rfl,h9⟩;replace h9:=h9.symm;subst h9)
  |(go_at_call 11;refine (HLI.out _ _ E2.out.q E2.out.tree).mono ?_;rintro e9 w5 ⟨v5,rfl,q5,lo5,hi5,h51,h52,ow5⟩;obtain ⟨k5,n5,t5,b5,e5,a5,l5,c5,a6,l6,c6,rfl⟩:=ow5.shape;have E5:=hid (E2.out.on q5);have X5:=hid (bv_new E5.out.q ow5 h52);have La5:=hid (La2.out.on q5);clear q5 h51 h52 ow5 y0 y1 y2 y3 y4 y5 y6 f0 f1 f2 f3 f4 f5 f6 x0 x1 x2 hl1;obtain ⟨z0,z1,z2,z3,z4,z5,z6,zp⟩:=E5.out.nd;have zl:=zp.lt;clear zp;simp only [Nat.zero_add]at z0 z1 z2 z3 z4 z5 z6)
  |(go_at_call 12;refine (HMY.out _ _ (E5.out.on ((Q.refl _).alloc _)).tree).mono ?_;rintro e9 w7 ⟨rfl,q7⟩;have E7:=hid ((E5.out.on ((Q.refl _).alloc _)).on q7);have X7:=hid (X5.out.on q7);have La7:=hid ((La5.out.on ((Q.refl _).alloc _)).on q7);clear q7 HMY;clear z0 z1 z2 z3 z4 z5 z6 zl;obtain ⟨z0,z1,z2,z3,z4,z5,z6,zp⟩:=E7.out.nd;have zl:=zp.lt;clear zp;simp only [Nat.zero_add]at z0 z1 z2 z3 z4 z5 z6;obtain ⟨p0,p1,p2,p3,p4,p5,p6,pp⟩:=X7.out.nd;have pl:=pp.lt;clear pp;simp only [Nat.zero_add]at p0 p1 p2 p3 p4 p5 p6;obtain ⟨x0,x1,x2⟩:=La7.out;have hl1:W.heap.size+1<w7.heap.size:=La7.out.lt)
  |(go_at_call 13;refine (HEQ.out _ _ _ X7.out.tree E7.out.tree).mono ?_;rintro e9 w8 ⟨⟨r8,rfl,h8⟩,q8⟩;obtain rfl:r8=true:=h8.2 (by trivial);have Q8:=hid (E7.out.q.trans q8);clear q8 h8))
 go_ret
 exact ⟨rfl,Q8.out⟩
theorem lilaw_out(x:Ex)(v:Value)(home on:ByteArray)(rows:Bool)(lk la lt:Int)(W:World)(hg:Gd W)(hr:RdI W x v)(hs:Sm (cutE x 1 220).1)(hn:Sn (cutE x 1 220).1)(hm:(fitB (cutE x 1 220).1&&mall mayN (cutE x 1 220).1)=true)(hmay:L.mayB lk la lt=false) :
  Calls Tryz.prog 3 #[v,.string home,.string on,.bool rows,.agg #[.int .i64 lk,.int .i64 la,.int .i64 lt]] W fun e W'=>e=.returned (.bool true)∧Q W W':=by
 have HBG:=hid (fun w (q:Q W w)=>begun_any w (hg.on q))
 have HCU:=hid (fun w (q:Q W w)=>cutx_any x v W w hr q)
 obtain ⟨k0,n0,t0,b0,e0,a1,l1,c1,a2,l2,c2,rfl⟩:=hr.shape;have hk:=cut_220 x;obtain ⟨y,hy⟩:∃ y,(cutE x 1 220).1=y:=⟨_,rfl⟩;rw [hy]at HCU hs hn hk hm;obtain ⟨ya,h1,h2,hla⟩:=law_lines (sx20 home) (sx20 on) rows lk la lt hg hs hn hk;have HSO:=hid (fun s w=>shortx s w)
 have HLI:=hid hla;obtain ⟨HNB,HLA⟩:=lines_begin W k0 n0 t0 b0 e0 a1 l1 c1 a2 l2 c2 lk la lt
 replace HNB:=hid HNB
 replace HLA:=hid HLA
 have HMY:=hid (fun w v (r:Rd w y v)=>rmayexpr_any y v w hs r)
 rw [hm]at HMY;have HML:Hid (∀ w,Calls Tryz.prog 14 #[.agg #[.int .i64 lk,.int .i64 la,.int .i64 lt]] w fun e w'=>e=.returned (.bool false)∧Q w w'):=hid (fun w=>(L.rmay_any lk la lt w).mono fun e w' h=>⟨h.1.trans (by rw [hmay]),by rw [h.2];exact (Q.refl _).alloc _⟩)
 clear hg hr hs hn hy hk h1 h2 hla hm hmay;go_enter Tryz.func3,Tryz.ntmps3
 go_wp2_with (first
  |(go_at_call 8;refine (HBG.out _ (((Q.refl _).alloc _).alloc _)).mono ?_;rintro e9 w1 ⟨rfl,q1⟩;have Q1:Hid (Q W w1):=hid ((((Q.refl _).alloc _).alloc _).trans q1);have N1:=hid (HNB.out.on q1);have La1:=hid (HLA.out.on q1);clear q1;obtain ⟨y0,y1,y2,y3,y4,y5,y6,_⟩:=N1.out;simp only [Nat.zero_add]at y0 y1 y2 y3 y4 y5 y6)
  |(go_at_call 9;refine (HCU.out _ Q1.out).mono ?_;rintro e9 w2 ⟨v2,rfl,r2,q2⟩;obtain ⟨k2,n2,t2,b2,e2,a3,l3,c3,a4,l4,c4,rfl⟩:=r2.shape;have N2:=hid (N1.out.on q2);have E2:=hid (bv_store Q1.out q2 (Nat.le_refl _) N1.out.pl.lt N2.out r2);have La2:=hid ((La1.out.on q2).qx (set7_qx w2 W.heap.size (.int .i64 k2) (.int .i64 n2) (.string t2) (.bool b2) (.int .i64 e2) (.slice a3 l3 c3) (.slice a4 l4 c4)) (by omega));obtain ⟨x0,x1,x2⟩:=La1.out.on q2;have hl1:W.heap.size+1<w2.heap.size:=(La1.out.on q2).lt;clear r2 q2 y0 y1 y2 y3 y4 y5 y6;obtain ⟨y0,y1,y2,y3,y4,y5,y6,yp⟩:=N2.out;have f0:=yp.frozen 0;have f1:=yp.frozen 1;have f2:=yp.frozen 2;have f3:=yp.frozen 3;have f4:=yp.frozen 4;have f5:=yp.frozen 5;have f6:=yp.frozen 6;clear yp;simp only [Nat.zero_add]at y0 y1 y2 y3 y4 y5 y6)
  |(go_at_call 10;refine (HSO.out _ _).mono ?_;rintro e9 w9 ⟨rfl,h9⟩;replace h9:=h9.symm;subst h9)
  |(go_at_call 11;refine (HLI.out _ _ E2.out.q E2.out.tree).mono ?_;rintro e9 w5 ⟨v5,rfl,q5,lo5,hi5,h51,h52,ow5⟩;obtain ⟨k5,n5,t5,b5,e5,a5,l5,c5,a6,l6,c6,rfl⟩:=ow5.shape;have E5:=hid (E2.out.on q5);have X5:=hid (bv_new E5.out.q ow5 h52);have La5:=hid (La2.out.on q5);clear q5 h51 h52 ow5 y0 y1 y2 y3 y4 y5 y6 f0 f1 f2 f3 f4 f5 f6 x0 x1 x2 hl1;obtain ⟨z0,z1,z2,z3,z4,z5,z6,zp⟩:=E5.out.nd;have zl:=zp.lt;clear zp;simp only [Nat.zero_add]at z0 z1 z2 z3 z4 z5 z6)
  |(go_at_call 12;refine (HMY.out _ _ (E5.out.on ((Q.refl _).alloc _)).tree).mono ?_;rintro e9 w7 ⟨rfl,q7⟩;have E7:=hid ((E5.out.on ((Q.refl _).alloc _)).on q7);have X7:=hid (X5.out.on q7);have La7:=hid ((La5.out.on ((Q.refl _).alloc _)).on q7);clear q7 HMY;clear z0 z1 z2 z3 z4 z5 z6 zl;obtain ⟨z0,z1,z2,z3,z4,z5,z6,zp⟩:=E7.out.nd;have zl:=zp.lt;clear zp;simp only [Nat.zero_add]at z0 z1 z2 z3 z4 z5 z6;obtain ⟨p0,p1,p2,p3,p4,p5,p6,pp⟩:=X7.out.nd;have pl:=pp.lt;clear pp;simp only [Nat.zero_add]at p0 p1 p2 p3 p4 p5 p6;obtain ⟨x0,x1,x2⟩:=La7.out;have hl1:W.heap.size+1<w7.heap.size:=La7.out.lt)
  |(go_at_call 14;refine (HML.out _).mono ?_;rintro e9 w8 ⟨rfl,q8⟩;have E8:=hid (E7.out.on q8);have X8:=hid (X7.out.on q8);have La8:=hid (La7.out.on q8);clear q8 x0 x1 x2 hl1;clear z0 z1 z2 z3 z4 z5 z6 zl;clear p0 p1 p2 p3 p4 p5 p6 pl;obtain ⟨z0,z1,z2,z3,z4,z5,z6,zp⟩:=E8.out.nd;have zl:=zp.lt;clear zp;simp only [Nat.zero_add]at z0 z1 z2 z3 z4 z5 z6;obtain ⟨p0,p1,p2,p3,p4,p5,p6,pp⟩:=X8.out.nd;have pl:=pp.lt;clear pp;simp only [Nat.zero_add]at p0 p1 p2 p3 p4 p5 p6;obtain ⟨x0,x1,x2⟩:=La8.out;have hl1:W.heap.size+1<w8.heap.size:=La8.out.lt))
 go_ret
 exact ⟨rfl,E8.out.q⟩
theorem rd_rdi{W:World}:∀ (x:Ex) (v:Value),Rd W x v→RdI W x v
 |.mk k n t b e rs ks,v,h=>by
  unfold Rd at h
  unfold RdI
  obtain ⟨rv,kv,hv,hr,ao,cap,hk,h1,h2,h3⟩:=h;refine ⟨rv,kv,hv,hr,ao,cap,hk,h1,h2,fun hn=>?_⟩
  obtain ⟨b',off,ha,_,hl⟩:=h3 hn;exact ⟨b',off,ha,go ks b' off hl⟩
 where
 go {W:World}:∀ (ks:List Ex) (b off:Nat),Rd.RdL W ks b off→RdI.RdIL W ks b off
 |[],_,_,_=>by unfold RdI.RdIL;trivial
 |x::xs,b,off,h=>by
  unfold Rd.RdL at h
  unfold RdI.RdIL
  obtain ⟨⟨c0,c1,c2,c3,c4,c5,c6,g0,g1,g2,g3,g4,g5,g6,hx⟩,hr⟩:=h;exact ⟨⟨c0,c1,c2,c3,c4,c5,c6,g0,g1,g2,g3,g4,g5,g6,rd_rdi x _ hx⟩,go xs b (off+7) hr⟩
def RepT(W0 W:World)(y:Ex)(e:Ending)(W':World):Prop:=
 ∃ v,e=.returned v∧Rdg (fun b=>b<W0.heap.size∨W.heap.size≤b) W' y v∧Q W W'
theorem chg_no{hm on:List UInt8}{mb:Rf→Bool}{mr:Rf→Rf}{k n:Int}{t:List UInt8}{b:Bool}{e:Int}{rs:List Rf}{ks:List Ex}(hh:hit hm on rs=false):chg hm on mb mr (.mk k n t b e rs ks)=.mk k n t b e rs (ks.map (chg hm on mb mr)):=by
 rw [chg,hh,chgL_map,if_neg (by simp),if_neg (by simp)]
theorem lost_any(W:World):Calls Tryz.prog 33 #[] W fun e W'=>e=.returned (.agg #[.int .i64 4,.int .i64 0,.string ⟨#[]⟩,.bool false,.int .i64 1,.slice none 0 0,.slice none 0 0])∧Q W W':=by
 go_enter Tryz.func33,Tryz.ntmps33
 go_wp2_with fail
 refine bodyPost_ret (v:=.agg #[.int .i64 4,.int .i64 0,.string ⟨#[]⟩,.bool false,.int .i64 1,.slice none 0 0,.slice none 0 0]) (by simp [results,Tryz.results33,go_sem]) rfl ?_
 exact ⟨rfl,by repeat (first|with_reducible exact Q.refl _|with_reducible refine Q.alloc ?_ _)⟩
theorem lost_rdg(g:Nat→Prop)(W:World):Rdg g W lostE (.agg #[.int .i64 4,.int .i64 0,.string ⟨#[]⟩,.bool false,.int .i64 1,.slice none 0 0,.slice none 0 0]):=by
 unfold lostE Rdg
 exact ⟨_,_,rfl,⟨none,0,rfl,Nat.le_refl _,Nat.zero_le _,fun h=>absurd h (by simp)⟩,none,0,rfl,Nat.le_refl _,Nat.zero_le _,fun h=>absurd rfl h⟩
theorem Tb.put5{W:World}{q:Nat}{c0 c1 c2 c3 c4 c5 c6:Value}(h:Tb W q c0 c1 c2 c3 c4 c5 c6)(d:Value):Tb (W.setCell ⟨q,5,none⟩ d) q c0 c1 c2 c3 c4 d c6:=by
 obtain ⟨h0,h1,h2,h3,h4,h5,h6,hf⟩:=h;have ot:∀ (j:Nat) (c:Value),j≠5→W.cell? ⟨q,j,none⟩=some c→(W.setCell ⟨q,5,none⟩ d).cell? ⟨q,j,none⟩=some c:=fun j c hj h=>(World.cell?_setCell_other _ _ _ _ (off_ne (by omega))).trans h
 exact ⟨ot 0 _ (by omega) h0,ot 1 _ (by omega) h1,ot 2 _ (by omega) h2,ot 3 _ (by omega) h3,ot 4 _ (by omega) h4,World.cell?_setCell_same _ _ _ h5,ot 6 _ (by omega) h6,fun j=>by rw [World.frozen?_setCell];exact hf j⟩
structure SK1 (W:World) (lk la lt k n:Int) (T:ByteArray) (b:Bool) (e:Int) (rv0 kv0:Value) (wr:World) (Rs:List Rf) (rv:Value):Prop where
 eb5:wr.cell? ⟨W.heap.size,5,none⟩=some rv0
 eb6:wr.cell? ⟨W.heap.size,6,none⟩=some kv0
 lb:T3 wr (W.heap.size+1) lk la lt
 rb:Tb wr (W.heap.size+2) (.int .i64 0) (.int .i64 0) (.string ⟨#[]⟩) (.bool false) (.int .i64 0) (.slice none 0 0) (.slice none 0 0)
 xb:Tb wr (W.heap.size+3) (.int .i64 k) (.int .i64 n) (.string T) (.bool b) (.int .i64 e) rv (.slice none 0 0)
 ow:Own rf 40 5 (W.heap.size+4) wr rv Rs
 qx:Qx (W.heap.size+3) W wr
 sz:W.heap.size+4≤wr.heap.size
theorem SK1.q{W:World}{lk la lt k n:Int}{T:ByteArray}{b:Bool}{e:Int}{rv0 kv0:Value}{wr:World}{Rs:List Rf}{rv:Value}(h:SK1 W lk la lt k n T b e rv0 kv0 wr Rs rv):Q W wr:=q_over (Q.refl W) h.qx (by omega)
theorem SK1.call{W:World}{lk la lt k n:Int}{T:ByteArray}{b:Bool}{e:Int}{rv0 kv0:Value}{wr w8:World}{Rs:List Rf}{rv:Value}(h:SK1 W lk la lt k n T b e rv0 kv0 wr Rs rv)(q:Q wr w8):SK1 W lk la lt k n T b e rv0 kv0 w8 Rs rv:=by
 have hs:=h.sz;exact ⟨(q.cell (by omega)).trans h.eb5,(q.cell (by omega)).trans h.eb6,h.lb.on q,h.rb.on (Qx.of (p:=W.heap.size) q) (by omega),h.xb.on (Qx.of (p:=W.heap.size) q) (by omega),h.ow.on q,h.qx.trans (Qx.of q),Nat.le_trans hs q.size⟩
theorem SK1.app{W:World}{lk la lt k n:Int}{T:ByteArray}{b:Bool}{e:Int}{rv0 kv0:Value}{w8 w9:World}{Rs:List Rf}{rv v9:Value}(h:SK1 W lk la lt k n T b e rv0 kv0 w8 Rs rv)(r:Rf)(o1:Obj)(hgrow:(w8.alloc o1).grownBy w9 rv.ownBlock)(ow9:Own rf 40 5 (W.heap.size+4) w9 v9 (Rs++[r])) :
  SK1 W lk la lt k n T b e rv0 kv0 (w9.setCell ⟨W.heap.size+3,5,none⟩ v9) (Rs++[r]) v9:=by
 have hs:=h.sz;have hsA:(w8.alloc o1).heap.size=w8.heap.size+1:=by simp
 obtain ⟨r9,Qr,hr9,hro⟩:=grown_qx (n:=W.heap.size+4) hgrow (by omega) h.ow.blk
 have QA:∀ r,Qx r w8 (w8.alloc o1):=fun r=>(Qx.refl r _).alloc _
 have QS:Qx (W.heap.size+3) w9 (w9.setCell ⟨W.heap.size+3,5,none⟩ v9):=(Qx.refl _ _).own 5 v9
 have hs9:w8.heap.size+1≤w9.heap.size:=by have:=Qr.size;omega
 have hob:=ow9.blk;have X9:=((h.xb.on (QA (W.heap.size+1)) (by omega)).on Qr (by omega)).put5 v9
 refine ⟨?_,?_,((h.lb.qx (QA W.heap.size) (by omega)).qx Qr (by omega)).qx QS (by omega),((h.rb.on (QA W.heap.size) (by omega)).on Qr (by omega)).on QS (by omega),X9,ow9.grown QS (.inr fun e=>by have:=hob _ e;omega),((h.qx.trans (QA _)).via Qr (by omega)).via QS (by omega),?_⟩
 ·rw [QS.cell (by omega) (by omega),Qr.cell (by omega) (by omega),(QA (W.heap.size+1)).cell (by omega) (by omega)]
  exact h.eb5
 ·rw [QS.cell (by omega) (by omega),Qr.cell (by omega) (by omega),(QA (W.heap.size+1)).cell (by omega) (by omega)]
  exact h.eb6
 ·have:(w9.setCell ⟨W.heap.size+3,5,none⟩ v9).heap.size=w9.heap.size:=by simp [World.setCell]
  omega
structure SK2 (W0 W:World) (M:Nat) (lk la lt k n:Int) (T:ByteArray) (b:Bool) (e:Int) (kv0:Value) (Rs:List Rf) (rv:Value) (wr:World) (ks':List Ex) (Ls:List V7) (kv:Value):Prop where
 eb6:wr.cell? ⟨W.heap.size,6,none⟩=some kv0
 lb:T3 wr (W.heap.size+1) lk la lt
 rb:Tb wr (W.heap.size+2) (.int .i64 0) (.int .i64 0) (.string ⟨#[]⟩) (.bool false) (.int .i64 0) (.slice none 0 0) (.slice none 0 0)
 xb:Tb wr (W.heap.size+3) (.int .i64 k) (.int .i64 n) (.string T) (.bool b) (.int .i64 e) rv kv
 sl:Slg (fun b=>b<M∧W.heap.size+4≤b) wr rv Rs
 ow:Own enc7 26 7 M wr kv Ls
 ln:ks'.length=Ls.length
 rd:∀ i (h:i<ks'.length) (h':i<Ls.length),Rdg (fun b=>(b<W0.heap.size∨W.heap.size+4≤b)∧kv.ownBlock≠some b) wr ks'[i] (agg7 Ls[i])
 qx:Qx (W.heap.size+3) W wr
 sz:M≤wr.heap.size
 mm:W.heap.size+4≤M
theorem SK1.two{W0 W:World}{lk la lt k n:Int}{T:ByteArray}{b:Bool}{e:Int}{rv0 kv0:Value}{wr:World}{Rs:List Rf}{rv:Value}(h:SK1 W lk la lt k n T b e rv0 kv0 wr Rs rv):SK2 W0 W wr.heap.size lk la lt k n T b e kv0 Rs rv wr [] [] (.slice none 0 0):=by
 refine ⟨h.eb6,h.lb,h.rb,h.xb,?_,own_nil _,rfl,fun i h=>absurd h (by simp),h.qx,Nat.le_refl _,h.sz⟩
 obtain ⟨ao,cap,hv,h1,h2,h3⟩:=h.ow.sl rf_len (by omega)
 refine ⟨ao,cap,hv,h1,h2,fun hl=>?_⟩
 obtain ⟨b',off,ha,hc⟩:=h3 hl;have hb:rv.ownBlock=some b':=by rw [hv,ha];rfl
 exact ⟨b',off,ha,⟨h.ow.lt _ hb,h.ow.blk _ hb⟩,hc⟩
theorem SK2.q{W0 W:World}{M:Nat}{lk la lt k n:Int}{T:ByteArray}{b:Bool}{e:Int}{kv0:Value}{Rs:List Rf}{rv:Value}{wr:World}{ks':List Ex}{Ls:List V7}{kv:Value}(h:SK2 W0 W M lk la lt k n T b e kv0 Rs rv wr ks' Ls kv):Q W wr:=q_over (Q.refl W) h.qx (by omega)
theorem SK2.call{W0 W:World}{M:Nat}{lk la lt k n:Int}{T:ByteArray}{b:Bool}{e:Int}{kv0:Value}{Rs:List Rf}{rv:Value}{wr w8:World}{ks':List Ex}{Ls:List V7}{kv:Value}(h:SK2 W0 W M lk la lt k n T b e kv0 Rs rv wr ks' Ls kv)(hw:W0.heap.size≤W.heap.size)(q:Q wr w8):SK2 W0 W M lk la lt k n T b e kv0 Rs rv w8 ks' Ls kv:=by
 have hs:=h.sz;have hm:=h.mm;exact ⟨(q.cell (by omega)).trans h.eb6,h.lb.on q,h.rb.on (Qx.of (p:=W.heap.size) q) (by omega),h.xb.on (Qx.of (p:=W.heap.size) q) (by omega),h.sl.on (Qx.of (p:=W.heap.size) q) (fun b hb=>by omega),h.ow.on q,h.ln,fun i h1 h2=>Rdg.on (Qx.of (p:=W.heap.size+2) q) (fun b hb=>by omega) _ _ (h.rd i h1 h2),h.qx.trans (Qx.of q),Nat.le_trans hs q.size,hm⟩
theorem SK2.app{W0 W:World}{M:Nat}{lk la lt k n:Int}{T:ByteArray}{b:Bool}{e:Int}{kv0:Value}{Rs:List Rf}{rv:Value}{wr w8 w9:World}{ks':List Ex}{Ls:List V7}{kv v9:Value}(h:SK2 W0 W M lk la lt k n T b e kv0 Rs rv w8 ks' Ls kv)(hw:W0.heap.size≤W.heap.size)
  (hwr:M≤wr.heap.size) (hlt:∀ j,kv.ownBlock=some j→j<wr.heap.size) (y:Ex) (x:V7) (R8:Rdg (fun b=>b<W0.heap.size∨wr.heap.size≤b) w8 y (agg7 x)) (o1:Obj) (hgrow:(w8.alloc o1).grownBy w9 kv.ownBlock) (ow9:Own enc7 26 7 M w9 v9 (Ls++[x])) (hat:v9.ownBlock=kv.ownBlock∨v9.ownBlock=some (w8.alloc o1).heap.size) :
  SK2 W0 W M lk la lt k n T b e kv0 Rs rv (w9.setCell ⟨W.heap.size+3,6,none⟩ v9) (ks'++[y]) (Ls++[x]) v9:=by
 have hs:=h.sz;have hm:=h.mm;have hsA:(w8.alloc o1).heap.size=w8.heap.size+1:=by simp
 obtain ⟨r9,Qr,hr9,hro⟩:=grown_qx (n:=M) hgrow (by omega) h.ow.blk
 have QA:∀ r,Qx r w8 (w8.alloc o1):=fun r=>(Qx.refl r _).alloc _
 have QS:Qx (W.heap.size+3) w9 (w9.setCell ⟨W.heap.size+3,6,none⟩ v9):=(Qx.refl _ _).own 6 v9
 have hs9:w8.heap.size+1≤w9.heap.size:=by have:=Qr.size;omega
 have hlk:=h.ow.lt;have hob:∀ j,v9.ownBlock=some j→M≤j:=ow9.blk
 have X9:=((h.xb.on (QA (W.heap.size+1)) (by omega)).on Qr (by omega)).put6 v9
 refine ⟨?_,((h.lb.qx (QA W.heap.size) (by omega)).qx Qr (by omega)).qx QS (by omega),((h.rb.on (QA W.heap.size) (by omega)).on Qr (by omega)).on QS (by omega),X9,((h.sl.on (QA W.heap.size) (fun b hb=>by omega)).on Qr (fun b hb=>by omega)).on QS (fun b hb=>by omega),ow9.grown QS (.inr fun e=>by have:=hob _ e;omega),by simp [h.ln],?_,?_,?_,hm⟩
 ·rw [QS.cell (by omega) (by omega),Qr.cell (by omega) (by omega),(QA (W.heap.size+1)).cell (by omega) (by omega)]
  exact h.eb6
 ·have fin:∀ {z:Ex} {v:Value} {gg:Nat→Prop},(∀ b,gg b→(b<W0.heap.size∨W.heap.size+4≤b)∧kv.ownBlock≠some b∧b<w8.heap.size)→Rdg gg w8 z v→Rdg (fun b=>(b<W0.heap.size∨W.heap.size+4≤b)∧v9.ownBlock≠some b) (w9.setCell ⟨W.heap.size+3,6,none⟩ v9) z v:=by
   intro z v gg hg hz
   refine Rdg.mono (fun b hb=>⟨(hg b hb).1,fun e=>?_⟩) _ _ (Rdg.on QS (fun b hb=>by have:=(hg b hb).1;omega) _ _ (Rdg.on Qr (fun b hb e=>?_) _ _ (Rdg.on (QA (W.heap.size+2)) (fun b hb=>by have:=(hg b hb).1;omega) _ _ hz)))
   ·subst e
    rcases hro with e'|e'
    ·exact (hg _ hb).2.1 e'
    ·have:=(hg _ hb).2.2;omega
   ·rcases hat with e'|e'
    ·rw [e']at e;exact (hg b hb).2.1 e
    ·rw [e']at e
     have:=Option.some.inj e
     have:=(hg b hb).2.2
     omega
  intro i h1 h2
  by_cases hi:i<ks'.length
  ·have hi':i<Ls.length:=by rw [←h.ln];exact hi
   rw [List.getElem_append_left hi,List.getElem_append_left hi'];exact fin (gg:=fun b=>((b<W0.heap.size∨W.heap.size+4≤b)∧kv.ownBlock≠some b)∧b<w8.heap.size) (fun b hb=>⟨hb.1.1,hb.1.2,hb.2⟩) (Rdg.in _ _ (h.rd i hi hi'))
  ·have e:i=ks'.length:=by simp at h1;omega
   subst e;rw [List.getElem_append_right (by omega),List.getElem_append_right (by rw [h.ln];omega)]
   simp only [h.ln,Nat.sub_self,List.getElem_cons_zero]
   refine fin (gg:=fun b=>(b<W0.heap.size∨wr.heap.size≤b)∧b<w8.heap.size) (fun b hb=>⟨by omega,fun e=>?_,hb.2⟩) (Rdg.in _ _ R8)
   have h3:=hlt _ e;have h4:=h.ow.blk _ e;omega
 ·exact ((h.qx.trans (QA _)).via Qr (by omega)).via QS (by omega)
 ·have:(w9.setCell ⟨W.heap.size+3,6,none⟩ v9).heap.size=w9.heap.size:=by simp [World.setCell]
  omega
theorem sk1_start{W:World}(lk la lt:Int)(c0 c1 c2 c3 c4 rv0 kv0:Value)(k n:Int)(T:ByteArray)(b:Bool)(e:Int) :
  SK1 W lk la lt k n T b e rv0 kv0 ((((W.alloc (.cells #[c0,c1,c2,c3,c4,rv0,kv0] 26)).alloc (.cells #[.int .i64 lk,.int .i64 la,.int .i64 lt] 28)).alloc (.cells #[.int .i64 0,.int .i64 0,.string ⟨#[]⟩,.bool false,.int .i64 0,.slice none 0 0,.slice none 0 0] 26)).alloc (.cells #[.int .i64 k,.int .i64 n,.string T,.bool b,.int .i64 e,.slice none 0 0,.slice none 0 0] 26)) [] (.slice none 0 0):=by
 have A:∀ (V:World) (o:Obj) (r:Nat),Qx r V (V.alloc o):=fun V o r=>(Qx.refl r V).alloc o
 have t1:=tb_new W c0 c1 c2 c3 c4 rv0 kv0 26;have tl:=t3_new (W.alloc (.cells #[c0,c1,c2,c3,c4,rv0,kv0] 26)) lk la lt 28;have t2:=tb_new ((W.alloc (.cells #[c0,c1,c2,c3,c4,rv0,kv0] 26)).alloc (.cells #[.int .i64 lk,.int .i64 la,.int .i64 lt] 28)) (.int .i64 0) (.int .i64 0) (.string ⟨#[]⟩) (.bool false) (.int .i64 0) (.slice none 0 0) (.slice none 0 0) 26;have t3:=tb_new (((W.alloc (.cells #[c0,c1,c2,c3,c4,rv0,kv0] 26)).alloc (.cells #[.int .i64 lk,.int .i64 la,.int .i64 lt] 28)).alloc (.cells #[.int .i64 0,.int .i64 0,.string ⟨#[]⟩,.bool false,.int .i64 0,.slice none 0 0,.slice none 0 0] 26)) (.int .i64 k) (.int .i64 n) (.string T) (.bool b) (.int .i64 e) (.slice none 0 0) (.slice none 0 0) 26;rw [show (W.alloc (.cells #[c0,c1,c2,c3,c4,rv0,kv0] 26)).heap.size=W.heap.size+1 by simp]at tl
 rw [show ((W.alloc (.cells #[c0,c1,c2,c3,c4,rv0,kv0] 26)).alloc (.cells #[.int .i64 lk,.int .i64 la,.int .i64 lt] 28)).heap.size=W.heap.size+2 by simp]at t2
 rw [show (((W.alloc (.cells #[c0,c1,c2,c3,c4,rv0,kv0] 26)).alloc (.cells #[.int .i64 lk,.int .i64 la,.int .i64 lt] 28)).alloc (.cells #[.int .i64 0,.int .i64 0,.string ⟨#[]⟩,.bool false,.int .i64 0,.slice none 0 0,.slice none 0 0] 26)).heap.size=W.heap.size+3 by simp]at t3
 have t1':=((t1.on (A _ (.cells #[.int .i64 lk,.int .i64 la,.int .i64 lt] 28) (W.heap.size+1)) (by omega)).on (A _ (.cells #[.int .i64 0,.int .i64 0,.string ⟨#[]⟩,.bool false,.int .i64 0,.slice none 0 0,.slice none 0 0] 26) (W.heap.size+1)) (by omega)).on (A _ (.cells #[.int .i64 k,.int .i64 n,.string T,.bool b,.int .i64 e,.slice none 0 0,.slice none 0 0] 26) (W.heap.size+1)) (by omega)
 exact ⟨t1'.g5,t1'.g6,(tl.qx (A _ _ W.heap.size) (by omega)).qx (A _ _ W.heap.size) (by omega),t2.on (A _ _ W.heap.size) (by omega),t3,own_nil _,((((Qx.refl _ _).alloc _).alloc _).alloc _).alloc _,by simp⟩
theorem sk_end{W0 W:World}{M:Nat}{lk la lt k n:Int}{t:List UInt8}{T:ByteArray}{b:Bool}{e:Int}{kv0:Value}{Rs:List Rf}{rv:Value}{wr:World}{ks2:List Ex}{Ls:List V7}{kv:Value}(h:SK2 W0 W M lk la lt k n T b e kv0 Rs rv wr ks2 Ls kv)(hT:T.data.toList=t)(hw:W0.heap.size≤W.heap.size) :
  RepT W0 W (.mk k n t b e Rs ks2) (.returned (.agg #[.int .i64 k,.int .i64 n,.string T,.bool b,.int .i64 e,rv,kv]))
   (((((((wr.setCell ⟨W.heap.size+2,0,none⟩ (.int .i64 k)).setCell ⟨W.heap.size+2,1,none⟩ (.int .i64 n)).setCell ⟨W.heap.size+2,2,none⟩ (.string T)).setCell ⟨W.heap.size+2,3,none⟩ (.bool b)).setCell ⟨W.heap.size+2,4,none⟩ (.int .i64 e)).setCell ⟨W.heap.size+2,5,none⟩ rv).setCell ⟨W.heap.size+2,6,none⟩ kv):=by
 have QF:Qx (W.heap.size+2) wr (((((((wr.setCell ⟨W.heap.size+2,0,none⟩ (.int .i64 k)).setCell ⟨W.heap.size+2,1,none⟩ (.int .i64 n)).setCell ⟨W.heap.size+2,2,none⟩ (.string T)).setCell ⟨W.heap.size+2,3,none⟩ (.bool b)).setCell ⟨W.heap.size+2,4,none⟩ (.int .i64 e)).setCell ⟨W.heap.size+2,5,none⟩ rv).setCell ⟨W.heap.size+2,6,none⟩ kv):=(((((((Qx.refl _ _).own _ _).own _ _).own _ _).own _ _).own _ _).own _ _).own _ _
 have hkb:=h.ow.blk;have hm:=h.mm;refine ⟨_,rfl,?_,q_over h.q QF (by omega)⟩
 refine rdg_mk k n hT b e ((h.sl.on QF (fun b hb=>by omega)).mono (fun b hb=>.inr (by omega))) (h.ow.grown QF (.inr fun e=>by have:=hkb _ e;omega)) h.ln (fun j hj=>.inr (by have:=hkb _ hj;omega)) (fun i h1 h2=>?_)
 exact Rdg.mono (fun b hb=>by omega) _ _ (Rdg.on QF (fun b hb=>by omega) _ _ (h.rd i h1 h2))
theorem mv_conv(rows:Bool)(k a t:Int)(r:Rf)(h:mayRf r=true):mayRf (mvR rows k a t r)=mvB rows k a t r:=by
 cases hb:mvB rows k a t r
 ·unfold mayRf mayR
  unfold mvB mvL at hb
  rw [mv_same];cases rows
  ·have e:(mvR false k a t r).2.2.1=L.ix k a t r.2.2.1:=rfl
   rw [e];rw [if_neg (by simp)]at hb
   rw [hb,Bool.and_false,Bool.and_false]
  ·have e:(mvR true k a t r).2.1=L.ix k a t r.2.1:=rfl
   rw [e];rw [if_pos rfl]at hb;rw [hb,Bool.false_and,Bool.and_false]
 ·exact mv_may rows k a t r h hb
structure B5 (V:World) (p:Nat) (c0 c1 c2 c3 c4:Value):Prop where
 g0:V.cell? ⟨p,0,none⟩=some c0
 g1:V.cell? ⟨p,1,none⟩=some c1
 g2:V.cell? ⟨p,2,none⟩=some c2
 g3:V.cell? ⟨p,3,none⟩=some c3
 g4:V.cell? ⟨p,4,none⟩=some c4
 f:∀ j,V.frozen? ⟨p,j,none⟩=false
theorem B5.lt{V:World}{p:Nat}{c0 c1 c2 c3 c4:Value}(h:B5 V p c0 c1 c2 c3 c4):p<V.heap.size:=World.block_lt_of_cell? V ⟨p,0,none⟩ h.g0
theorem b5_new(W:World)(c0 c1 c2 c3 c4:Value)(t:TypeId):B5 (W.alloc (.cells #[c0,c1,c2,c3,c4] t)) W.heap.size c0 c1 c2 c3 c4:=by
 refine ⟨?_,?_,?_,?_,?_,fun j=>?_⟩
 all_goals simp [World.cell?_alloc_new,World.frozen?_alloc_new]
theorem B5.on{V V':World}{p:Nat}{c0 c1 c2 c3 c4:Value}(h:B5 V p c0 c1 c2 c3 c4)(q:Q V V'):B5 V' p c0 c1 c2 c3 c4:=
 ⟨(q.cell h.lt).trans h.g0,(q.cell h.lt).trans h.g1,(q.cell h.lt).trans h.g2,(q.cell h.lt).trans h.g3,(q.cell h.lt).trans h.g4,fun j=>by rw [←h.f j];simp only [World.frozen?,Q.block q h.lt]⟩
theorem B5.put1{V:World}{p:Nat}{c0 c1 c2 c3 c4:Value}(h:B5 V p c0 c1 c2 c3 c4)(d:Value):B5 (V.setCell ⟨p,1,none⟩ d) p c0 d c2 c3 c4:=by
 have ot:∀ (j:Nat) (c:Value),j≠1→V.cell? ⟨p,j,none⟩=some c→(V.setCell ⟨p,1,none⟩ d).cell? ⟨p,j,none⟩=some c:=fun j c hj h=>(World.cell?_setCell_other _ _ _ _ (off_ne (by omega))).trans h
 exact ⟨ot 0 _ (by omega) h.g0,World.cell?_setCell_same _ _ _ h.g1,ot 2 _ (by omega) h.g2,ot 3 _ (by omega) h.g3,ot 4 _ (by omega) h.g4,fun j=>by rw [World.frozen?_setCell];exact h.f j⟩
theorem B5.put2{V:World}{p:Nat}{c0 c1 c2 c3 c4:Value}(h:B5 V p c0 c1 c2 c3 c4)(d:Value):B5 (V.setCell ⟨p,2,none⟩ d) p c0 c1 d c3 c4:=by
 have ot:∀ (j:Nat) (c:Value),j≠2→V.cell? ⟨p,j,none⟩=some c→(V.setCell ⟨p,2,none⟩ d).cell? ⟨p,j,none⟩=some c:=fun j c hj h=>(World.cell?_setCell_other _ _ _ _ (off_ne (by omega))).trans h
 exact ⟨ot 0 _ (by omega) h.g0,ot 1 _ (by omega) h.g1,World.cell?_setCell_same _ _ _ h.g2,ot 3 _ (by omega) h.g3,ot 4 _ (by omega) h.g4,fun j=>by rw [World.frozen?_setCell];exact h.f j⟩
theorem news_l(V:World)(T:List UInt8)(R C:Int)(ra ca:Bool):∀ j u,(rf (T,R,C,ra,ca))[j]?=some u→(V.alloc (.cells #[.string ⟨T.toArray⟩,.int .i64 R,.int .i64 C,.bool ra,.bool ca] 40)).cell? ((⟨V.heap.size,0,none⟩:Addr).add j)=some u:=news_new V (rf (T,R,C,ra,ca)) 40
theorem news_2(V:World)(o:Obj)(T:List UInt8)(R C:Int)(ra ca:Bool):∀ j u,(rf (T,R,C,ra,ca))[j]?=some u→((V.alloc o).alloc (.cells #[.string ⟨T.toArray⟩,.int .i64 R,.int .i64 C,.bool ra,.bool ca] 40)).cell? ((⟨V.heap.size+1,0,none⟩:Addr).add j)=some u:=by
 have h:=news_l (V.alloc o) T R C ra ca;rw [show (V.alloc o).heap.size=V.heap.size+1 by simp]at h
 exact h
theorem slx{W:World}{v:Value}{L:List Rf}(h:Sl rf 5 W v L):∃ ao cap,v=.slice ao L.length cap∧L.length≤cap∧cap≤maxLen∧(0<L.length→∃ b off,ao=some ⟨b,off,none⟩∧∀ i (h:i<L.length),Ats rf W b (off+i*5) L[i]):=h
theorem chg_hit{hm on:List UInt8}{mb:Rf→Bool}{mr:Rf→Rf}{k n:Int}{t:List UInt8}{b:Bool}{e:Int}{rs:List Rf}{ks:List Ex}(hh:hit hm on rs=true)(ha:rs.all mb=true):chg hm on mb mr (.mk k n t b e rs ks)=.mk k n t b e (rs.map mr) (ks.map (chg hm on mb mr)):=by
 rw [chg,hh,ha,chgL_map,if_neg (by simp),if_pos rfl]
theorem chg_gone{hm on:List UInt8}{mb:Rf→Bool}{mr:Rf→Rf}{k n:Int}{t:List UInt8}{b:Bool}{e:Int}{rs:List Rf}{ks:List Ex}(hh:hit hm on rs=true)(ha:rs.all mb=false):chg hm on mb mr (.mk k n t b e rs ks)=lostE:=by
 rw [chg,hh,ha,if_pos (by rfl)]
theorem mre_at{T:List UInt8}{R C:Int}{ra ca v:Bool}(h:mayRf (T,R,C,ra,ca)=v)(hl:T.length≤2000000)(V:World):Calls Tryz.prog 32 #[.agg #[.string ⟨T.toArray⟩,.int .i64 R,.int .i64 C,.bool ra,.bool ca]] V fun e w'=>e=.returned (.bool v)∧Q V w':=by
 subst h;exact mre_of (W:=V) (T,R,C,ra,ca) hl V (Q.refl V)
end Go.Proofs.YtoikodohcieipaaGreatDoor
