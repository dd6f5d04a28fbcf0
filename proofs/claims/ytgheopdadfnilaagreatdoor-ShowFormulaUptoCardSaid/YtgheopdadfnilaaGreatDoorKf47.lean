/- counterpanelaw7.some, for ever. -/
import Derived.Test.YtgheopdadfnilaaGreatDoorKf46
import Derived.Test.YtgheopdadfnilaaGreatDoorKf41
import Derived.Test.YtgheopdadfnilaaGreatDoorRows
import Derived.ProofKit
import Derived.OpenShut
import Derived.Test.YtgheopdadfnilaaGreatDoorKf21
import Derived.Test.YtgheopdadfnilaaGreatDoorKf40
import Derived.Test.YtgheopdadfnilaaGreatDoorKf45
set_option linter.unusedVariables false
set_option linter.unusedSimpArgs false
set_option maxRecDepth 100000
set_option maxHeartbeats 8000000
namespace Go.Proofs.YtgheopdadfnilaaGreatDoor
open Go.RowKit
theorem some_all(W0:World)(p:Nat)(hp0:W0.heap.size≤p):∀ (s:Nat) (x:Ex) (v:Value) (W:World) (d l:Nat),SizeOf.sizeOf x≤s→RdI W0 x v→Q W0 W→p<W.heap.size→W.cell? ⟨p,0,none⟩=some (.int .i64 (l:Int))→W.frozen? ⟨p,0,none⟩=false→1≤l→l≤220→d≤60→Calls Tryz.prog 26 #[v,.int .i64 (d:Int),.pointer (some ⟨p,0,none⟩)] W fun e W'=>RepS W0 p W (cutE x d l) e W':=by
 intro s
 induction s with
 |zero=>
  intro x v W d l hs
  cases x with
  |mk k n t b e rs ks=>simp at hs
 |succ s ih=>
  intro x v W d l hs hr hq hp hc hf h1 h2 hd
  cases x with
  |mk k n t b e rs ks=>
   unfold RdI at hr
   obtain ⟨rv',kv,hv,hsl,ao,cap,hk,hle,hmx,hkd⟩:=hr;obtain ⟨a1,c1,hrv,hl⟩:=hsl;have hsl':Sl rf 5 W0 (.slice a1 rs.length c1) rs:=⟨a1,c1,rfl,hl⟩
   subst hk hrv hv;have hstep:=some_step W0 p k n ⟨t.toArray⟩ b e rs ks a1 c1 ao cap W d l (hid hsl') (hid ⟨hle,hmx⟩) (hid hkd) (hid hq) hp0 hp hc hf h1 h2 hd
    (hid (fun i hi v W d l hr hq hp hc hf h1 h2 hd=>ih ks[i] v W d l (by have:=kid_size (k:=k) (n:=n) (t:=t) (b:=b) (e:=e) (rs:=rs) i hi;omega) hr hq hp hc hf h1 h2 hd))
   exact hstep
theorem cutx_any(x:Ex)(v:Value)(W0 W:World)(hr:RdI W0 x v)(hq0:Q W0 W):Calls Tryz.prog 9 #[v] W fun e W'=>∃ v',e=.returned v'∧Rdg (fun b=>b<W0.heap.size∨W.heap.size≤b) W' (cutE x 1 220).1 v'∧Q W W':=by
 have hw0:=hq0.size;have HS:=hid (fun p (hp:W0.heap.size≤p) V (q:Q W0 V) (hpv:p<V.heap.size) (hc:V.cell? ⟨p,0,none⟩=some (.int .i64 ((220:Nat):Int))) (hf:V.frozen? ⟨p,0,none⟩=false)=>some_all W0 p hp (SizeOf.sizeOf x) x v V 1 220 (Nat.le_refl _) hr q hpv hc hf (by omega) (by omega) (by omega))
 obtain ⟨k,n,t,b,e,a1,l1,c1,a2,l2,c2,rfl⟩:=hr.shape;clear hr;have t2:=tb_new (W.alloc (.cells #[.int .i64 k,.int .i64 n,.string t,.bool b,.int .i64 e,.slice a1 l1 c1,.slice a2 l2 c2] 26)) (.int .i64 0) (.int .i64 0) (.string ⟨#[]⟩) (.bool false) (.int .i64 0) (.slice none 0 0) (.slice none 0 0) 26;rw [show (W.alloc (.cells #[.int .i64 k,.int .i64 n,.string t,.bool b,.int .i64 e,.slice a1 l1 c1,.slice a2 l2 c2] 26)).heap.size=W.heap.size+1 by simp]at t2
 have T2:=hid (t2.on (p:=W.heap.size) ((Qx.refl _ _).alloc (.cells #[.int .i64 220] 3)) (by omega))
 clear t2;have hsz:(((W.alloc (.cells #[.int .i64 k,.int .i64 n,.string t,.bool b,.int .i64 e,.slice a1 l1 c1,.slice a2 l2 c2] 26)).alloc (.cells #[.int .i64 0,.int .i64 0,.string ⟨#[]⟩,.bool false,.int .i64 0,.slice none 0 0,.slice none 0 0] 26)).alloc (.cells #[.int .i64 220] 3)).heap.size=W.heap.size+3:=by simp
 have HV:=hid (HS.out (W.heap.size+1+1) (by omega) (((W.alloc (.cells #[.int .i64 k,.int .i64 n,.string t,.bool b,.int .i64 e,.slice a1 l1 c1,.slice a2 l2 c2] 26)).alloc (.cells #[.int .i64 0,.int .i64 0,.string ⟨#[]⟩,.bool false,.int .i64 0,.slice none 0 0,.slice none 0 0] 26)).alloc (.cells #[.int .i64 220] 3)) (((hq0.alloc _).alloc _).alloc _) (by rw [hsz];omega) (by
  have h:=(World.cell?_alloc_new ((W.alloc (.cells #[.int .i64 k,.int .i64 n,.string t,.bool b,.int .i64 e,.slice a1 l1 c1,.slice a2 l2 c2] 26)).alloc (.cells #[.int .i64 0,.int .i64 0,.string ⟨#[]⟩,.bool false,.int .i64 0,.slice none 0 0,.slice none 0 0] 26)) #[.int .i64 220] 3 0);simp only [World.alloc,Array.size_push]at h ⊢
  simpa using h) (by
  have h:=(World.frozen?_alloc_new ((W.alloc (.cells #[.int .i64 k,.int .i64 n,.string t,.bool b,.int .i64 e,.slice a1 l1 c1,.slice a2 l2 c2] 26)).alloc (.cells #[.int .i64 0,.int .i64 0,.string ⟨#[]⟩,.bool false,.int .i64 0,.slice none 0 0,.slice none 0 0] 26)) #[.int .i64 220] 3 0);simp only [World.alloc,Array.size_push]at h ⊢
  simpa using h))
 go_enter Tryz.func9,Tryz.ntmps9
 go_wp2_with (go_at_call 26;refine HV.out.mono ?_;rintro e8 w5 ⟨v8,rfl,hr8,q8,_,_⟩;obtain ⟨k8,m8,t8,bb8,er8,a18,l18,c18,a28,l28,c28,rfl⟩:=hr8.shape;have R8:=hid hr8;have Q8:=hid q8;have T8:=hid (T2.out.on q8 (by omega));clear hr8 q8;obtain ⟨z0,z1,z2,z3,z4,z5,z6,zf⟩:=T8.out;have y0:=zf 0;have y1:=zf 1;have y2:=zf 2;have y3:=zf 3;have y4:=zf 4;have y5:=zf 5;have y6:=zf 6;clear zf)
 refine bodyPost_ret (v:=.agg #[.int .i64 k8,.int .i64 m8,.string t8,.bool bb8,.int .i64 er8,.slice a18 l18 c18,.slice a28 l28 c28]) (by simp [results,Tryz.results9,go_sem,z0,z1,z2,z3,z4,z5,z6]) rfl ?_
 have QF:Qx (W.heap.size+1) w5 (((((((w5.setCell ⟨W.heap.size+1,0,none⟩ (.int .i64 k8)).setCell ⟨W.heap.size+1,1,none⟩ (.int .i64 m8)).setCell ⟨W.heap.size+1,2,none⟩ (.string t8)).setCell ⟨W.heap.size+1,3,none⟩ (.bool bb8)).setCell ⟨W.heap.size+1,4,none⟩ (.int .i64 er8)).setCell ⟨W.heap.size+1,5,none⟩ (.slice a18 l18 c18)).setCell ⟨W.heap.size+1,6,none⟩ (.slice a28 l28 c28)):=(((((((Qx.refl _ _).own _ _).own _ _).own _ _).own _ _).own _ _).own _ _).own _ _
 have hq5:Q W w5:=by
  have h:=Q8.out;refine ⟨h.os,h.tape,h.output,by have:=h.size;omega,fun i hi=>(h.block i (by omega) (fun e=>by have:=Option.some.inj e;omega)).trans ?_⟩
  exact Q.block ((((Q.refl W).alloc _).alloc _).alloc _) hi
 refine ⟨_,rfl,Rdg.mono (fun b hb=>by rw [hsz]at hb;omega) _ _ (Rdg.on QF (fun b hb=>by rw [hsz]at hb;omega) _ _ R8.out),?_⟩
 exact ⟨QF.os.trans hq5.os,QF.tape.trans hq5.tape,QF.output.trans hq5.output,Nat.le_trans hq5.size QF.size,fun i hi=>(QF.block i (Nat.lt_of_lt_of_le hi hq5.size) (fun e=>by have:=Option.some.inj e;omega)).trans (Q.block hq5 hi)⟩
end Go.Proofs.YtgheopdadfnilaaGreatDoor
namespace Go.Proofs.YtgheopdadfnilaaGreatDoor
open Go.ChangeShapes Go.WideShapes Go.ChangeAt Go.RowKit
theorem cells59:Tryz.prog.cellsOf 63=5:=by kernel_rfl
theorem cells28':Tryz.prog.cellsOf 26=7:=by kernel_rfl
theorem one_of{v u:Value}(h:[v]=[u]):v=u:=(List.cons.inj h).1
theorem bulk_mem{H:Type}{d:DataW H}:∀ {l:List (DataW H)},d∈l→Rows.uptoBulk d≤Rows.uptoBulkAll l
 |[],h=>absurd h (by simp)
 |x::xs,h=>by
  rw [Rows.uptoBulkAll]
  rcases List.mem_cons.1 h with rfl|h
  ·omega
  ·have:=bulk_mem h
   omega
theorem bulk_agg{H:Type}{d:DataW H}{l:List (DataW H)}(h:d∈l):Rows.uptoBulk d≤Rows.uptoBulk (.agg l):=by
 rw [Rows.uptoBulk];have:=bulk_mem h
 omega
theorem bulk_elem{H:Type}{d:DataW H}{l r:List (DataW H)}(h:d∈l):Rows.uptoBulk d≤Rows.uptoBulk (.slice l r):=by
 rw [Rows.uptoBulk];have:=bulk_mem h
 omega
theorem shs_mono{B C:Nat}(hBC:B≤C):∀ (x:Ex),Shs B x→Shs C x
 |.mk k n t b e rs ks,h=>by
  rw [Shs]at h ⊢;exact ⟨fun r hr=>Nat.le_trans (h.1 r hr) hBC,go hBC ks h.2⟩
 where
 go {B C:Nat} (hBC:B≤C):∀ (ks:List Ex),Shs.ShsL B ks→Shs.ShsL C ks
 |[],_=>by rw [Shs.ShsL];trivial
 |x::xs,h=>by
  rw [Shs.ShsL]at h ⊢;exact ⟨shs_mono hBC x h.1,go hBC xs h.2⟩
theorem shsl_of{B:Nat}:∀ (ks:List Ex),(∀ i (h:i<ks.length),Shs B ks[i])→Shs.ShsL B ks
 |[],_=>by rw [Shs.ShsL];trivial
 |x::xs,h=>by
  rw [Shs.ShsL];exact ⟨h 0 (by simp),shsl_of xs (fun i hi=>h (i+1) (by simpa using hi))⟩
theorem open_rf{H:Type}{enc:TypeId × Value→H}{W:World}{sp:Nat→Bool}{held:Bool}{fuel base:Nat}{cs:List Value}{x:DataW H × List MemPlace}
  (h:DataW.trod enc Tryz.prog W base sp held fuel 63 cs=some x):∃ y:Rf,cs=rf y∧y.1.length≤Rows.uptoBulk x.1:=by
 obtain ⟨xs,m,_,hx,hl,hlen,hf⟩:=DataW.trod_struct Tryz.underlying63 h;rw [cells59]at hl;have hlen':xs.length=5:=hlen
 match cs,hl with
 |[v0,v1,v2,v3,v4],_=>
  have g0:=hf 0 _ rfl;have g1:=hf 1 _ rfl;have g2:=hf 2 _ rfl;have g3:=hf 3 _ rfl;have g4:=hf 4 _ rfl
  match xs,hlen' with
  |[y0,y1,y2,y3,y4],_=>
   obtain ⟨t,e0,z0,_⟩:=DataW.trod_string Tryz.underlying9 g0;obtain ⟨k,e1,_,_⟩:=DataW.trod_int Tryz.underlying2 g1;obtain ⟨n,e2,_,_⟩:=DataW.trod_int Tryz.underlying2 g2;obtain ⟨b,e3,_⟩:=DataW.trod_bool Tryz.underlying4 g3;obtain ⟨c,e4,_⟩:=DataW.trod_bool Tryz.underlying4 g4;have hb:t.data.toList.length≤Rows.uptoBulk x.1:=by
    have h1:Rows.uptoBulk y0.1≤Rows.uptoBulk x.1:=by rw [hx];exact bulk_agg (by simp)
    rw [z0]at h1;simp only [Rows.uptoBulk]at h1
    omega
   refine ⟨(t.data.toList,k,n,b,c),?_,hb⟩
   have f0:v0=.string t:=one_of e0
   have f1:v1=.int .i64 k:=one_of e1
   have f2:v2=.int .i64 n:=one_of e2
   have f3:v3=.bool b:=one_of e3
   have f4:v4=.bool c:=one_of e4
   rw [f0,f1,f2,f3,f4]
   rfl
theorem list_of{α:Type}(P:Nat→α→Prop):∀ n,(∀ i,i<n→∃ x,P i x)→∃ l:List α,l.length=n∧∀ i (h:i<l.length),P i l[i]
 |0,_=>⟨[],rfl,fun i hi=>absurd hi (by simp)⟩
 |n+1,h=>by
  obtain ⟨l,hl,hp⟩:=list_of P n (fun i hi=>h i (by omega))
  obtain ⟨x,hx⟩:=h n (by omega)
  refine ⟨l++[x],by simp [hl],fun i hi=>?_⟩
  by_cases hin:i<l.length
  ·rw [List.getElem_append_left hin]
   exact hp i hin
  ·have hie:i=l.length:=by simp at hi;omega
   subst hie;simp
   rw [hl];exact hx
theorem add_plain(b o n:Nat):(⟨b,o,none⟩:Addr).add n=⟨b,o+n,none⟩:=by
 unfold Addr.add
 by_cases h:n=0
 ·subst h;simp
 ·simp [h]
theorem open_refs{H:Type}{enc:TypeId × Value→H}{W:World}{sp:Nat→Bool}{held:Bool}{fuel base:Nat}{v:Value}{z:DataW H × List MemPlace}
  (hf:DataW.trod enc Tryz.prog W base sp held fuel 23 [v]=some z):∃ L:List Rf,Sl rf 5 W v L∧∀ r∈L,r.1.length≤Rows.uptoBulk z.1:=by
 rcases DataW.trod_slice Tryz.underlying23 hf with ⟨hcs,_⟩|⟨x,l,c,elems,rest,m,_,hcs,hz,hb,hl,hm,hlen,hel,_,_⟩
 ·exact ⟨[],by rw [one_of hcs];exact sl_nil W,fun r hr=>absurd hr (by simp)⟩
 ·have hv:=one_of hcs
  subst hv;have hcell:∀ i,i<l→∃ y:Rf,(∀ j u,(rf y)[j]?=some u→W.cell? ((x.add (i*5)).add j)=some u)∧y.1.length≤Rows.uptoBulk z.1:=by
   intro i hi
   have hi':=hel i hi;rw [cells59,List.getElem?_eq_getElem (by omega),Option.bind_eq_some_iff]at hi'
   obtain ⟨cs,h1,h2⟩:=hi';obtain ⟨y,rfl,hy⟩:=open_rf h2;obtain ⟨_,_,h3⟩:=World.cells?_some h1;refine ⟨y,fun j u hu=>?_,Nat.le_trans hy (by rw [hz];exact bulk_elem (List.mem_map.2 ⟨_,List.getElem_mem _,rfl⟩))⟩
   have hj:j<5:=by rw [←rf_len y];exact (List.getElem?_eq_some_iff.1 hu).1
   rw [h3 j (by omega)]
   exact hu
  rcases Nat.eq_zero_or_pos l with rfl|hp
  ·exact ⟨[],⟨some x,c,rfl,Nat.zero_le _,hm,fun h=>absurd h (by simp)⟩,fun r hr=>absurd hr (by simp)⟩
  ·obtain ⟨b,off,spot⟩:=x
   obtain ⟨c0,hc0,_⟩:=hcell 0 hp;have hspot:spot=none:=by simpa [Addr.add] using World.cell?_spot (hc0 0 _ rfl)
   subst hspot;obtain ⟨L,hL,hP⟩:=list_of (fun i y=>Ats rf W b (off+i*5) y∧y.1.length≤Rows.uptoBulk z.1) l (fun i hi=>by
    obtain ⟨y,g,gb⟩:=hcell i hi;refine ⟨y,fun j u hu=>?_,gb⟩
    have:=g j u hu
    rw [add_plain,add_plain]at this;exact this)
   subst hL;refine ⟨L,⟨some ⟨b,off,none⟩,c,rfl,hl,hm,fun _=>⟨b,off,rfl,fun i hi=>(hP i hi).1⟩⟩,fun r hr=>?_⟩
   obtain ⟨i,hi,rfl⟩:=List.mem_iff_getElem.1 hr;exact (hP i hi).2
theorem rdil_of{W:World}:∀ (ks:List Ex) (b off:Nat),(∀ i (h:i<ks.length),∃ c0 c1 c2 c3 c4 c5 c6,KidI W ks[i] b (off+i*7) c0 c1 c2 c3 c4 c5 c6)→RdI.RdIL W ks b off
 |[],b,off,_=>by unfold RdI.RdIL;trivial
 |x::xs,b,off,h=>by
  unfold RdI.RdIL
  obtain ⟨c0,c1,c2,c3,c4,c5,c6,hk⟩:=h 0 (by simp)
  simp only [List.getElem_cons_zero,Nat.zero_mul,Nat.add_zero]at hk
  refine ⟨⟨c0,c1,c2,c3,c4,c5,c6,hk.g0,hk.g1,hk.g2,hk.g3,hk.g4,hk.g5,hk.g6,hk.rd⟩,rdil_of xs b (off+7) (fun i hi=>?_)⟩
  obtain ⟨d0,d1,d2,d3,d4,d5,d6,hd⟩:=h (i+1) (by simpa using hi)
  simp only [List.getElem_cons_succ]at hd
  rw [show off+(i+1)*7=off+7+i*7 by omega]at hd
  exact ⟨d0,d1,d2,d3,d4,d5,d6,hd⟩
theorem wf_le{n:Int}(h:(Lit.int .i64 n).wf=true):n≤9223372036854775807:=by
 unfold Lit.wf at h
 simp only [Bool.and_eq_true,decide_eq_true_eq]at h
 exact h.2
theorem cut_rn:∀ (x:Ex) (d l:Nat),Rn x→Rn (cutE x d l).1
 |.mk k n t b e rs ks,d,l,h=>by
  rw [Rn]at h;rw [cutE,Rn];exact ⟨h.1,go ks d (l-1) h.2⟩
 where
 go:∀ (ks:List Ex) (d l:Nat),Rn.RnL ks→Rn.RnL (cutE.cutL ks d l).1
 |[],_,_,_=>by rw [cutE.cutL,Rn.RnL];trivial
 |x::xs,d,l,h=>by
  rw [Rn.RnL]at h;rw [cutE.cutL]
  split
  ·rw [Rn.RnL]
   exact ⟨cut_rn x (d+1) l h.1,go xs d _ h.2⟩
  ·rw [Rn.RnL];trivial
theorem open_exn{H:Type}{enc:TypeId × Value→H}{W:World}{sp:Nat→Bool}{held:Bool}{base:Nat}:∀ (fuel:Nat) (cs:List Value) (z:DataW H × List MemPlace),
  DataW.trod enc Tryz.prog W base sp held fuel 26 cs=some z→∃ x:Ex,RdI W x (.agg cs.toArray)∧Shs (Rows.uptoBulk z.1) x∧Rn x:=by
 intro fuel
 induction fuel using Nat.strongRecOn with
 |_ fuel ih=>
  intro cs z h
  obtain ⟨xs,m,hm0,hz,hl,hlen,hf⟩:=DataW.trod_struct Tryz.underlying26 h;rw [cells28']at hl;have hlen':xs.length=7:=hlen
  match cs,hl with
  |[v0,v1,v2,v3,v4,v5,v6],_=>
   have g0:=hf 0 _ rfl;have g1:=hf 1 _ rfl;have g2:=hf 2 _ rfl;have g3:=hf 3 _ rfl;have g4:=hf 4 _ rfl;have g5:=hf 5 _ rfl;have g6:=hf 6 _ rfl
   match xs,hlen' with
   |[y0,y1,y2,y3,y4,y5,y6],_=>
    obtain ⟨k,e0,_,_⟩:=DataW.trod_int Tryz.underlying3 g0;obtain ⟨n,e1,_,wn⟩:=DataW.trod_int Tryz.underlying22 g1;have hn:n≤9223372036854775807:=wf_le wn
    obtain ⟨t,e2,_,_⟩:=DataW.trod_string Tryz.underlying9 g2;obtain ⟨b,e3,_⟩:=DataW.trod_bool Tryz.underlying4 g3;obtain ⟨e,e4,_,_⟩:=DataW.trod_int Tryz.underlying3 g4;obtain ⟨rs,hrs,brs0⟩:=open_refs (v:=v5) g5;have brs:∀ r∈rs,r.1.length≤Rows.uptoBulk z.1:=fun r hr=>Nat.le_trans (brs0 r hr) (by rw [hz];exact bulk_agg (by simp))
    have b6:Rows.uptoBulk y6.1≤Rows.uptoBulk z.1:=by rw [hz];exact bulk_agg (by simp)
    have f0:v0=.int .i64 k:=one_of e0
    have f1:v1=.int .i64 n:=one_of e1
    have f2:v2=.string t:=one_of e2
    have f3:v3=.bool b:=one_of e3
    have f4:v4=.int .i64 e:=one_of e4
    subst f0 f1 f2 f3 f4;have et:(⟨t.data.toList.toArray⟩:ByteArray)=t:=by
     apply ByteArray.ext
     simp
    rcases DataW.trod_slice (cs:=[v6]) Tryz.underlying24 g6 with ⟨hcs,_⟩|⟨x,l,c,elems,rest,m2,hm2,hcs,hz6,hb,hle,hm,hlen2,hel,_,_⟩
    ·have hv:=one_of hcs
     subst hv;refine ⟨.mk k n t.data.toList b e rs [],?_,by rw [Shs,Shs.ShsL];exact ⟨brs,trivial⟩,by rw [Rn,Rn.RnL];exact ⟨hn,trivial⟩⟩
     unfold RdI
     exact ⟨v5,_,by rw [et];rfl,hrs,none,0,rfl,Nat.le_refl _,Nat.zero_le _,fun h=>absurd rfl h⟩
    ·have hv:=one_of hcs
     subst hv;have hcell:∀ i,i<l→∃ y:Ex,∃ c0 c1 c2 c3 c4 c5 c6,(∀ j u,([c0,c1,c2,c3,c4,c5,c6]:List Value)[j]?=some u→W.cell? ((x.add (i*7)).add j)=some u)∧RdI W y (.agg #[c0,c1,c2,c3,c4,c5,c6])∧Shs (Rows.uptoBulk z.1) y∧Rn y:=by
      intro i hi
      have hi':=hel i hi;rw [cells28',List.getElem?_eq_getElem (by omega),Option.bind_eq_some_iff]at hi'
      obtain ⟨cs,h1,h2⟩:=hi';obtain ⟨y,hy,hsy0,hny⟩:=ih m2 (by omega) cs _ h2
      have hsy:Shs (Rows.uptoBulk z.1) y:=shs_mono (Nat.le_trans (Nat.le_trans (bulk_elem (List.mem_map.2 ⟨_,List.getElem_mem _,rfl⟩)) (Nat.le_of_eq (by rw [hz6]))) b6) y hsy0
      obtain ⟨hc1,hc2,h3⟩:=World.cells?_some h1;have hcl:cs.length=7:=by
       obtain ⟨_,_,_,_,hl7,_,_⟩:=DataW.trod_struct Tryz.underlying26 h2;rw [hl7,cells28']
      match cs,hcl with
      |[c0,c1,c2,c3,c4,c5,c6],_=>
       refine ⟨y,c0,c1,c2,c3,c4,c5,c6,fun j u hu=>?_,hy,hsy,hny⟩
       have hj:j<7:=(List.getElem?_eq_some_iff.1 hu).1
       rw [h3 j (by omega)]
       exact hu
     rcases Nat.eq_zero_or_pos l with rfl|hp
     ·refine ⟨.mk k n t.data.toList b e rs [],?_,by rw [Shs,Shs.ShsL];exact ⟨brs,trivial⟩,by rw [Rn,Rn.RnL];exact ⟨hn,trivial⟩⟩
      unfold RdI
      exact ⟨v5,_,by rw [et];rfl,hrs,some x,c,rfl,Nat.zero_le _,hm,fun h=>absurd rfl h⟩
     ·obtain ⟨bb,off,spot⟩:=x
      obtain ⟨_,q0,q1,q2,q3,q4,q5,q6,hc0,_⟩:=hcell 0 hp;have hspot:spot=none:=by simpa [Addr.add] using World.cell?_spot (hc0 0 _ rfl)
      subst hspot;obtain ⟨L,hL,hP⟩:=list_of (fun i (y:Ex)=>(∃ c0 c1 c2 c3 c4 c5 c6,KidI W y bb (off+i*7) c0 c1 c2 c3 c4 c5 c6)∧Shs (Rows.uptoBulk z.1) y∧Rn y) l (fun i hi=>by
       obtain ⟨y,c0,c1,c2,c3,c4,c5,c6,g,hy,hsy,hny⟩:=hcell i hi;have gg:∀ j u,([c0,c1,c2,c3,c4,c5,c6]:List Value)[j]?=some u→W.cell? ⟨bb,off+i*7+j,none⟩=some u:=fun j u hu=>by
        have:=g j u hu
        rw [add_plain,add_plain]at this;exact this
       exact ⟨y,⟨c0,c1,c2,c3,c4,c5,c6,gg 0 _ rfl,gg 1 _ rfl,gg 2 _ rfl,gg 3 _ rfl,gg 4 _ rfl,gg 5 _ rfl,gg 6 _ rfl,hy⟩,hsy,hny⟩)
      subst hL;refine ⟨.mk k n t.data.toList b e rs L,?_,by rw [Shs];exact ⟨brs,shsl_of L (fun i hi=>(hP i hi).2.1)⟩,by rw [Rn];exact ⟨hn,rnL_of fun y hy=>by obtain ⟨i,hi,e⟩:=List.getElem_of_mem hy;rw [←e];exact (hP i hi).2.2⟩⟩
      unfold RdI
      exact ⟨v5,_,by rw [et],hrs,some ⟨bb,off,none⟩,c,rfl,hle,hm,fun _=>⟨bb,off,rfl,rdil_of L bb off (fun i hi=>(hP i hi).1)⟩⟩
end Go.Proofs.YtgheopdadfnilaaGreatDoor
namespace Go.Proofs.YtgheopdadfnilaaGreatDoor
open Go.RowKit
theorem ans_self{X:Ex}{e:Ending}(h:Ans (X=X) e):e=.returned (.bool true):=by
 obtain ⟨r,he,h'⟩:=h;rw [he,h'.2 rfl]
theorem showformula_any(x:Ex)(v:Value)(W:World)(hg:Gd W)(hr:RdI W x v)(sx:Sm (cutE x 1 220).1)(rx:Rn (cutE x 1 220).1):Calls Tryz.prog 3 #[v] W fun e W'=>e=.returned (.bool true)∧Q W W':=by
 have HBG:=hid (fun V (q:Q W V)=>sbegun_any V (hg.on q))
 have HG:=hid hg;have HC:=hid (fun V (q:Q W V)=>cutx_any x v W V hr q)
 obtain ⟨k,n,t,b,e,a1,l1,c1,a2,l2,c2,rfl⟩:=hr.shape;have TA:=hid (tb_new W (.int .i64 k) (.int .i64 n) (.string t) (.bool b) (.int .i64 e) (.slice a1 l1 c1) (.slice a2 l2 c2) 26);have SX:=hid sx;have RX:=hid rx;clear hg hr sx rx;generalize (cutE x 1 220).1=X at HC SX RX;go_enter Tryz.func3,Tryz.ntmps3
 go_upto_region 4 with (go_at_call 8;refine (HBG.out _ ((Q.refl _).alloc _)).mono ?_;rintro e9 w1 ⟨rfl,q1⟩;have Q1:Hid (Q W w1):=hid (((Q.refl _).alloc _).trans q1);have TA1:=hid (TA.out.on (Qx.of (p:=W.heap.size+7) q1) (by omega));have hz1:W.heap.size+1≤w1.heap.size:=(by have:=q1.size;simp at this;omega);clear q1)
 have HC1:=hid (HC.out w1 Q1.out);have ga0:=TA1.out.g0;have ga1:=TA1.out.g1;have ga2:=TA1.out.g2;have ga3:=TA1.out.g3;have ga4:=TA1.out.g4;have ga5:=TA1.out.g5;have ga6:=TA1.out.g6;go_upto_region 5 with (go_at_call 9;refine HC1.out.mono ?_;rintro e8 wA ⟨vA,rfl,hrA,qA⟩;obtain ⟨k8,m8,t8,bb8,er8,a18,l18,c18,a28,l28,c28,rfl⟩:=hrA.shape;have QA:=hid qA;have RA:=hid hrA;clear hrA qA;have TAa:=hid (TA1.out.on (Qx.of (p:=W.heap.size+7) QA.out) (by omega));have pa0:=TAa.out.g0;have pa1:=TAa.out.g1;have pa2:=TAa.out.g2;have pa3:=TAa.out.g3;have pa4:=TAa.out.g4;have pa5:=TAa.out.g5;have pa6:=TAa.out.g6;have ra0:=TAa.out.f 0;have ra1:=TAa.out.f 1;have ra2:=TAa.out.f 2;have ra3:=TAa.out.f 3;have ra4:=TAa.out.f 4;have ra5:=TAa.out.f 5;have ra6:=TAa.out.f 6)
 obtain ⟨V9,hV9⟩:∃ V9,V9=(((((((wA.setCell ⟨W.heap.size,0,none⟩ (.int .i64 k8)).setCell ⟨W.heap.size,1,none⟩ (.int .i64 m8)).setCell ⟨W.heap.size,2,none⟩ (.string t8)).setCell ⟨W.heap.size,3,none⟩ (.bool bb8)).setCell ⟨W.heap.size,4,none⟩ (.int .i64 er8)).setCell ⟨W.heap.size,5,none⟩ (.slice a18 l18 c18)).setCell ⟨W.heap.size,6,none⟩ (.slice a28 l28 c28)):=⟨_,rfl⟩;have QA_:Qx W.heap.size wA V9:=by rw [hV9];exact ((((((((Qx.refl _ _).own _ _).own _ _).own _ _).own _ _).own _ _).own _ _).own _ _)
 have TA9:Hid (Tb V9 W.heap.size (.int .i64 k8) (.int .i64 m8) (.string t8) (.bool bb8) (.int .i64 er8) (.slice a18 l18 c18) (.slice a28 l28 c28)):=hid (by rw [hV9];exact TAa.out.put (.int .i64 k8) (.int .i64 m8) (.string t8) (.bool bb8) (.int .i64 er8) (.slice a18 l18 c18) (.slice a28 l28 c28))
 have RA9:Hid (Rd V9 X (.agg #[.int .i64 k8,.int .i64 m8,.string t8,.bool bb8,.int .i64 er8,.slice a18 l18 c18,.slice a28 l28 c28])):=hid (Rdg.rd _ _ (Rdg.on QA_ (fun b hb=>by omega) _ _ RA.out))
 have Q9W:Hid (Q W V9):=hid (by
  have h0:=Q1.out.trans QA.out;exact ⟨QA_.os.trans h0.os,QA_.tape.trans h0.tape,QA_.output.trans h0.output,Nat.le_trans h0.size QA_.size,fun i hi=>(QA_.block i (Nat.lt_of_lt_of_le hi h0.size) (fun e=>by have:=Option.some.inj e;omega)).trans (Q.block h0 hi)⟩)
 have HK:Hid (∀ V,Q V9 V→Tb V W.heap.size (.int .i64 k8) (.int .i64 m8) (.string t8) (.bool bb8) (.int .i64 er8) (.slice a18 l18 c18) (.slice a28 l28 c28)):=hid (fun V q=>TA9.out.on (p:=W.heap.size+7) (Qx.of q) (by omega))
 rw [←hV9];clear hV9 QA_ pa0 pa1 pa2 pa3 pa4 pa5 pa6 RA TAa HC HC1 TA TA1 QA ra0 ra1 ra2 ra3 ra4 ra5 ra6 ga0 ga1 ga2 ga3 ga4 ga5 ga6;have gb0:=TA9.out.g0;have gb1:=TA9.out.g1;have gb2:=TA9.out.g2;have gb3:=TA9.out.g3;have gb4:=TA9.out.g4;have gb5:=TA9.out.g5;have gb6:=TA9.out.g6;by_cases hm:(fitB X&&mall mayN X)=true
 ·have hf:fitB X=true:=by rw [Bool.and_eq_true]at hm;exact hm.1
  have hX:MX X:=⟨by rw [Bool.and_eq_true]at hm;exact hm.2,RX.out⟩
  have HF:=hid (fun V (q:Q V9 V)=>form_yes X _ V (HG.out.on (Q9W.out.trans q)) hX hf (Rd.on q _ _ RA9.out))
  have HM:=hid (fun V (q:Q V9 V)=>rmayexpr_any X _ V SX.out (Rd.on q _ _ RA9.out))
  rw [hm]at HM;have HR:=hid (fun V (q:Q V9 V)=>rf_all _ X (Nat.le_refl _) (fit_nodes hf) hX.1 hX.2 V _ (Rd.on q _ _ RA9.out))
  have HQ:=hid (fun (h:(fmE X).length≤1000)=>pz_fm hX.1 hX.2 hf h)
  have hln:(fmE X).length≤100000:=by have:=fm_len _ X (Nat.le_refl _) hX.1 hX.2;have:=fit_nodes hf;omega
  generalize fmE X=F at HF HR HQ hln;obtain ⟨T,hT⟩:∃ T:ByteArray,(⟨F.toArray⟩:ByteArray)=T:=⟨_,rfl⟩;have hTl:T.data.toList=F:=by rw [←hT]
  rw [hT]at HF HR;subst hTl;have hTs:T.size≤100000:=by rw [←len_data];exact hln
  have eTT:(T.toList == T.toList)=true:=by simp
  have eTN:(T.toList != T.toList)=false:=by simp
  by_cases hl:T.size≤1000
  ·have HP:=hid (fun V=>pz_ref_ok (HQ.out (by rw [len_data];exact hl)) hTs V)
   have hlI:(T.size:Int)≤1000:=by omega
   clear hT hm hf hX hln hTs;go_upto_region 11 with (first|(go_at_call 10;refine (HF.out V9 (Q.refl _)).mono ?_;rintro e9 w2 ⟨rfl,q2⟩;have Q2:=hid q2;have T2:=hid (HK.out _ Q2.out);clear q2;have gc0:=T2.out.g0;have gc1:=T2.out.g1;have gc2:=T2.out.g2;have gc3:=T2.out.g3;have gc4:=T2.out.g4;have gc5:=T2.out.g5;have gc6:=T2.out.g6)|(go_at_call 11;refine (HM.out w2 Q2.out).mono ?_;rintro e9 w3 ⟨rfl,q3⟩;have Q3:=hid (Q2.out.trans q3);have T3:=hid (HK.out _ Q3.out);clear q3;have gd0:=T3.out.g0;have gd1:=T3.out.g1;have gd2:=T3.out.g2;have gd3:=T3.out.g3;have gd4:=T3.out.g4;have gd5:=T3.out.g5;have gd6:=T3.out.g6)|(go_at_call 12;refine (HR.out w3 Q3.out).mono ?_;rintro e9 w4 ⟨rfl,q4⟩;have Q4:=hid (Q3.out.trans q4);have T4:=hid (HK.out _ Q4.out);clear q4;have ge0:=T4.out.g0;have ge1:=T4.out.g1;have ge2:=T4.out.g2;have ge3:=T4.out.g3;have ge4:=T4.out.g4;have ge5:=T4.out.g5;have ge6:=T4.out.g6)|(go_at_call 13;refine (HP.out w4).mono ?_;rintro e9 w5 ⟨v9,rfl,hr5,q5⟩;have Q5:=hid (Q4.out.trans q5);have R5:=hid hr5;obtain ⟨k9,m9,t9,bb9,er9,a19,l19,c19,a29,l29,c29,rfl⟩:=hr5.shape;clear q5 hr5))
   have Z6:=hid (tb_new w5 (.int .i64 k9) (.int .i64 m9) (.string t9) (.bool bb9) (.int .i64 er9) (.slice a19 l19 c19) (.slice a29 l29 c29) 26);have Q6:=hid (Q5.out.alloc (.cells #[.int .i64 k9,.int .i64 m9,.string t9,.bool bb9,.int .i64 er9,.slice a19 l19 c19,.slice a29 l29 c29] 26));have R6:=hid (Rd.on ((Q.refl w5).alloc (.cells #[.int .i64 k9,.int .i64 m9,.string t9,.bool bb9,.int .i64 er9,.slice a19 l19 c19,.slice a29 l29 c29] 26)) _ _ (Rdg.rd _ _ R5.out));generalize w5.alloc (.cells #[.int .i64 k9,.int .i64 m9,.string t9,.bool bb9,.int .i64 er9,.slice a19 l19 c19,.slice a29 l29 c29] 26)=w6 at Z6 Q6 R6 ⊢;generalize w5.heap.size=b6 at Z6 ⊢;have T6:=hid (HK.out _ Q6.out);have HE:=hid (eqexpr_any _ X X _ _ w6 (Nat.le_refl _) R6.out (Rd.on Q6.out _ _ RA9.out));clear R5 Q5 gb0 gb1 gb2 gb3 gb4 gb5 gb6 gc0 gc1 gc2 gc3 gc4 gc5 gc6 gd0 gd1 gd2 gd3 gd4 gd5 gd6 ge0 ge1 ge2 ge3 ge4 ge5 ge6;have gf0:=T6.out.g0;have gf1:=T6.out.g1;have gf2:=T6.out.g2;have gf3:=T6.out.g3;have gf4:=T6.out.g4;have gf5:=T6.out.g5;have gf6:=T6.out.g6;have gh0:=Z6.out.g0;have gh1:=Z6.out.g1;have gh2:=Z6.out.g2;have gh3:=Z6.out.g3;have gh4:=Z6.out.g4;have gh5:=Z6.out.g5;have gh6:=Z6.out.g6;go_wp2_with (go_at_call 14;refine HE.out.mono ?_;rintro e9 w7 ⟨a7,q7⟩;obtain rfl:=ans_self a7;have Q7:=hid (Q6.out.trans q7);clear q7 a7)
   go_ret
   exact ⟨rfl,Q9W.out.trans Q7.out⟩
  ·have HP:=hid (fun V=>rparse_scan T V hTs 0 (scanL_long (by rw [len_data];omega)))
   have hlI:(1000:Int)<(T.size:Int):=by omega
   clear hT hm hf hX hln hTs;go_wp2_with (first|(go_at_call 10;refine (HF.out V9 (Q.refl _)).mono ?_;rintro e9 w2 ⟨rfl,q2⟩;have Q2:=hid q2;have T2:=hid (HK.out _ Q2.out);clear q2;have gc0:=T2.out.g0;have gc1:=T2.out.g1;have gc2:=T2.out.g2;have gc3:=T2.out.g3;have gc4:=T2.out.g4;have gc5:=T2.out.g5;have gc6:=T2.out.g6)|(go_at_call 11;refine (HM.out w2 Q2.out).mono ?_;rintro e9 w3 ⟨rfl,q3⟩;have Q3:=hid (Q2.out.trans q3);have T3:=hid (HK.out _ Q3.out);clear q3;have gd0:=T3.out.g0;have gd1:=T3.out.g1;have gd2:=T3.out.g2;have gd3:=T3.out.g3;have gd4:=T3.out.g4;have gd5:=T3.out.g5;have gd6:=T3.out.g6)|(go_at_call 12;refine (HR.out w3 Q3.out).mono ?_;rintro e9 w4 ⟨rfl,q4⟩;have Q4:=hid (Q3.out.trans q4);clear q4)|(go_at_call 13;refine (HP.out w4).mono ?_;rintro e9 w5 ⟨v9,rfl,hr5,q5⟩;have Q5:=hid (Q4.out.trans q5);obtain ⟨k9,m9,t9,bb9,er9,a19,l19,c19,a29,l29,c29,rfl⟩:=hr5.shape;clear q5 hr5))
   go_ret
   exact ⟨rfl,(Q9W.out.trans Q5.out).alloc _⟩
 ·have hm':(fitB X&&mall mayN X)=false:=by simpa using hm
  have HF:=hid (fun V (q:Q V9 V)=>form_no X _ V (HG.out.on (Q9W.out.trans q)) SX.out (Rd.on q _ _ RA9.out) hm')
  have HM:=hid (fun V (q:Q V9 V)=>rmayexpr_any X _ V SX.out (Rd.on q _ _ RA9.out))
  rw [hm']at HM;clear hm hm';go_wp2_with (first|(go_at_call 10;refine (HF.out V9 (Q.refl _)).mono ?_;rintro e9 w2 ⟨rfl,q2⟩;have Q2:=hid q2;have T2:=hid (HK.out _ Q2.out);clear q2;have gc0:=T2.out.g0;have gc1:=T2.out.g1;have gc2:=T2.out.g2;have gc3:=T2.out.g3;have gc4:=T2.out.g4;have gc5:=T2.out.g5;have gc6:=T2.out.g6)|(go_at_call 11;refine (HM.out w2 Q2.out).mono ?_;rintro e9 w3 ⟨rfl,q3⟩;have Q3:=hid (Q2.out.trans q3);clear q3))
  go_ret
  exact ⟨rfl,Q9W.out.trans Q3.out⟩
end Go.Proofs.YtgheopdadfnilaaGreatDoor
