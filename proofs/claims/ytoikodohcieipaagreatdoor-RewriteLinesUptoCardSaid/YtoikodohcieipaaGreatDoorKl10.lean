/- counterpaneref5.EqExpr: the sa. -/
import Derived.Test.YtoikodohcieipaaGreatDoorKl09
import Derived.Test.YtoikodohcieipaaGreatDoorKl06
import Derived.Test.YtoikodohcieipaaGreatDoorKl05
import Derived.Laws.CopyRow
import Derived.OwnWalk
import Derived.Test.YtoikodohcieipaaGreatDoorKl00
import Derived.Maps.OwnSet
import Derived.LaidEql
set_option linter.unusedVariables false
set_option linter.unusedSimpArgs false
set_option maxRecDepth 100000
set_option maxHeartbeats 8000000
namespace Go.Proofs.YtoikodohcieipaaGreatDoor
open Go.RowKit
theorem eqexpr_any:∀ (s:Nat) (x y:Ex) (v v':Value) (W:World),SizeOf.sizeOf x≤s→Rd W x v→Rd W y v'→Calls Tryz.prog 13 #[v,v'] W fun e W'=>Ans (x=y) e∧Q W W':=by
 intro s
 induction s with
 |zero=>
  intro x y v v' W hs
  cases x with
  |mk k n t b e rs ks=>simp at hs
 |succ s ih=>
  intro x y v v' W hs hx hy
  obtain ⟨k,n,t,b,e,rs,ks,rv,kv,ao,cap,rfl,hp⟩:=hx.prt;obtain ⟨k',n',t',b',e',rs',ks',rv',kv',ao',cap',rfl,hp'⟩:=hy.prt;obtain ⟨a1,c1,rfl,m1,m2⟩:=hp.rl.len;obtain ⟨a3,c3,rfl,m3,m4⟩:=hp'.rl.len;obtain rfl:=hp.kl;obtain rfl:=hp'.kl;have IH:∀ i (hi:i<ks.length) z v v' W,Rd W ks[i] v→Rd W z v'→Calls Tryz.prog 13 #[v,v'] W fun x W'=>Ans (ks[i]=z) x∧Q W W':=fun i hi z v v' W h h'=>ih ks[i] z v v' W (by
   have:=kid_size (k:=k) (n:=n) (t:=t.data.toList) (b:=b) (e:=e) (rs:=rs) i hi
   rw [←hp.ex]at this;omega) h h'
  by_cases hh:k=k'∧n=n'∧t.data.toList=t'.data.toList∧b=b'∧e=e'∧rs.length=rs'.length∧ks.length=ks'.length
  ·obtain ⟨rfl,rfl,ht,rfl,rfl,hl1,hl2⟩:=hh
   obtain rfl:=str_eq ht;have hroom1:rs.length≤9223372036854775807:=by unfold maxLen at m2;omega
   have hroom2:ks.length≤9223372036854775807:=by have h1:=hp.le;have h2:=hp.mx;unfold maxLen at h2;omega
   have hxy:x=y↔(rs=rs'∧ks=ks'):=by rw [hp.ex,hp'.ex];simp
   have key:=eq_body k n t b e a1 rs.length c1 ao ks.length cap a3 c3 ao' cap' W rs rs' ks ks' (hid rfl) (hid hl1.symm) (hid rfl) (hid hl2.symm) hroom1 hroom2
    (hid fun i hi=>by
     obtain ⟨b1,o1,c,hv,_,_,hc⟩:=hp.rl.rc (by omega)
     simp only [Value.slice.injEq]at hv
     exact ⟨b1,o1,hv.1,hc i hi⟩)
    (hid fun i hi=>by
     obtain ⟨b1,o1,c,hv,_,_,hc⟩:=hp'.rl.rc (by omega)
     simp only [Value.slice.injEq]at hv
     exact ⟨b1,o1,hv.1,hc i hi⟩)
    (hid fun i hi W' q=>by
     obtain ⟨b2,o2,ha,hl⟩:=(hp.on q).kd (by intro h;rw [h]at hi;simp at hi)
     obtain ⟨p0,p1,p2,p3,p4,p5,p6,hk⟩:=hl.kid i hi;exact ⟨b2,o2,p0,p1,p2,p3,p4,p5,p6,ha,hk⟩)
    (hid fun i hi W' q=>by
     obtain ⟨b2,o2,ha,hl⟩:=(hp'.on q).kd (by intro h;rw [h]at hi;simp at hi)
     obtain ⟨p0,p1,p2,p3,p4,p5,p6,hk⟩:=hl.kid i hi;exact ⟨b2,o2,p0,p1,p2,p3,p4,p5,p6,ha,hk⟩)
    (hid fun i hi hi' v v' W' h h'=>IH i hi _ v v' W' h h')
   rw [←hl1,←hl2];refine key.mono fun x9 w9 h=>⟨?_,h.2⟩
   rw [hxy];exact h.1
  ·have hne:x≠y:=by
    rw [hp.ex,hp'.ex];intro h
    simp only [Ex.mk.injEq]at h
    obtain ⟨g1,g2,g3,g4,g5,g6,g7⟩:=h;exact hh ⟨g1,g2,g3,g4,g5,by rw [g6],by rw [g7]⟩
   refine (eq_heads k n t b e a1 rs.length c1 ao ks.length cap k' n' t' b' e' a3 rs'.length c3 ao' ks'.length cap' W hh).mono ?_
   rintro x9 w9 ⟨rfl,q⟩
   exact ⟨Ans.no hne,q⟩
abbrev Qx (p:Nat) (w w':World):Prop:=World.grownBy w w' (some p)
theorem Qx.refl(p:Nat)(w:World):Qx p w w:=⟨rfl,rfl,rfl,Nat.le_refl _,fun _ _ _=>rfl⟩
theorem Qx.trans{p:Nat}{a b c:World}(h:Qx p a b)(k:Qx p b c):Qx p a c:=
 ⟨k.os.trans h.os,k.tape.trans h.tape,k.output.trans h.output,Nat.le_trans h.size k.size,fun i hi hp=>(k.block i (Nat.lt_of_lt_of_le hi h.size) hp).trans (h.block i hi hp)⟩
theorem Qx.of{p:Nat}{a b:World}(h:Q a b):Qx p a b:=⟨h.os,h.tape,h.output,h.size,fun i hi _=>Q.block h hi⟩
theorem Qx.alloc{p:Nat}{a w:World}(h:Qx p a w)(o:Obj):Qx p a (w.alloc o):=h.trans (Qx.of ((Q.refl _).alloc o))
theorem Qx.drewN{p:Nat}{a w:World}(h:Qx p a w)(n:Nat):Qx p a (w.drewN n):=h.trans (Qx.of ((Q.refl _).drewN n))
theorem Qx.drew{p:Nat}{a w:World}(h:Qx p a w):Qx p a w.drew:=h.trans (Qx.of (Q.refl _).drew)
theorem Qx.own{p:Nat}{a w:World}(h:Qx p a w)(k:Nat)(v:Value):Qx p a (w.setCell ⟨p,k,none⟩ v):=
 h.trans ⟨rfl,rfl,rfl,by simp [World.setCell],fun i hi hp=>Below.heap_setCell _ _ _ _ (fun e=>hp (by simp [e]))⟩
theorem Qx.new{p:Nat}{a w:World}(h:Qx p a w){b:Nat}(hb:a.heap.size≤b)(k:Nat)(v:Value):Qx p a (w.setCell ⟨b,k,none⟩ v):=
 ⟨h.os,h.tape,h.output,by simpa [World.setCell] using h.size,fun i hi hp=>(Below.heap_setCell _ _ _ _ (fun e=>by simp at e;omega)).trans (h.block i hi hp)⟩
theorem Qx.cell{p:Nat}{a w:World}(h:Qx p a w){b o:Nat}(hb:b<a.heap.size)(hp:b≠p):w.cell? ⟨b,o,none⟩=a.cell? ⟨b,o,none⟩:=
 World.cell?_of_block (h.block b hb (fun e=>hp (Option.some.inj e)))
def Slg(g:Nat→Prop)(W:World)(v:Value)(L:List Rf):Prop:=
 ∃ (ao:Option Addr) (cap:Nat),v=.slice ao L.length cap∧L.length≤cap∧cap≤maxLen∧(0<L.length→∃ b off,ao=some ⟨b,off,none⟩∧g b∧∀ i (h:i<L.length),Ats rf W b (off+i*5) L[i])
theorem Slg.sl{g:Nat→Prop}{W:World}{v:Value}{L:List Rf}(h:Slg g W v L):Sl rf 5 W v L:=by
 obtain ⟨ao,cap,hv,h1,h2,h3⟩:=h;exact ⟨ao,cap,hv,h1,h2,fun hl=>by obtain ⟨b,off,ha,_,hc⟩:=h3 hl;exact ⟨b,off,ha,hc⟩⟩
theorem Slg.on{g:Nat→Prop}{W W':World}{v:Value}{L:List Rf}{p:Nat}(h:Slg g W v L)(q:Qx p W W')(hp:∀ b,g b→b≠p):Slg g W' v L:=by
 obtain ⟨ao,cap,hv,h1,h2,h3⟩:=h;refine ⟨ao,cap,hv,h1,h2,fun hl=>?_⟩
 obtain ⟨b,off,ha,hb,hc⟩:=h3 hl;exact ⟨b,off,ha,hb,fun i hi j u hu=>(q.cell (World.block_lt_of_cell? W ⟨b,off+i*5+j,none⟩ (hc i hi j u hu)) (hp _ hb)).trans (hc i hi j u hu)⟩
theorem Pl.onx{p:Nat}{W W':World}{b:Nat}(h:Pl W b)(q:Qx p W W')(hp:b≠p):Pl W' b:=by
 have hb:=h.lt;obtain ⟨c,t,h⟩:=h;exact ⟨c,t,(q.block b hb (fun e=>hp (Option.some.inj e))).trans h⟩
def Rdg(g:Nat→Prop)(W:World):Ex→Value→Prop
 |.mk k n t b e rs ks,v=>∃ rv kv,v=.agg #[.int .i64 k,.int .i64 n,.string ⟨t.toArray⟩,.bool b,.int .i64 e,rv,kv]∧Slg g W rv rs ∧
   ∃ (ao:Option Addr) (cap:Nat),kv=.slice ao ks.length cap∧ks.length≤cap∧cap≤maxLen∧(ks≠[]→∃ b' off,ao=some ⟨b',off,none⟩∧g b'∧Pl W b'∧RdLg g W ks b' off)
 where
 RdLg (g:Nat→Prop) (W:World):List Ex→Nat→Nat→Prop
 |[],_,_=>True
 |x::xs,b,off=>(∃ c0 c1 c2 c3 c4 c5 c6,W.cell? ⟨b,off,none⟩=some c0∧W.cell? ⟨b,off+1,none⟩=some c1∧W.cell? ⟨b,off+2,none⟩=some c2∧W.cell? ⟨b,off+3,none⟩=some c3∧W.cell? ⟨b,off+4,none⟩=some c4∧W.cell? ⟨b,off+5,none⟩=some c5∧W.cell? ⟨b,off+6,none⟩=some c6∧Rdg g W x (.agg #[c0,c1,c2,c3,c4,c5,c6]))∧RdLg g W xs b (off+7)
theorem Rdg.on{g:Nat→Prop}{W W':World}{p:Nat}(q:Qx p W W')(hp:∀ b,g b→b≠p):∀ (x:Ex) (v:Value),Rdg g W x v→Rdg g W' x v
 |.mk k n t b e rs ks,v,h=>by
  unfold Rdg at h ⊢
  obtain ⟨rv,kv,hv,hr,ao,cap,hk,h1,h2,h3⟩:=h;refine ⟨rv,kv,hv,hr.on q hp,ao,cap,hk,h1,h2,fun hn=>?_⟩
  obtain ⟨b',off,ha,hb,hpl,hl⟩:=h3 hn;exact ⟨b',off,ha,hb,hpl.onx q (hp _ hb),go q hp hb ks off hl⟩
 where
 go {g:Nat→Prop} {W W':World} {p:Nat} (q:Qx p W W') (hp:∀ b,g b→b≠p) {b:Nat} (hb:g b):∀ (l:List Ex) (off:Nat),Rdg.RdLg g W l b off→Rdg.RdLg g W' l b off
 |[],_,_=>by unfold Rdg.RdLg;trivial
 |x::xs,off,h=>by
  unfold Rdg.RdLg at h ⊢
  obtain ⟨⟨c0,c1,c2,c3,c4,c5,c6,g0,g1,g2,g3,g4,g5,g6,hx⟩,hr⟩:=h;have ce:∀ {o:Nat} {c:Value},W.cell? ⟨b,o,none⟩=some c→W'.cell? ⟨b,o,none⟩=some c:=fun h=>(q.cell (World.block_lt_of_cell? W ⟨b,_,none⟩ h) (hp _ hb)).trans h
  exact ⟨⟨c0,c1,c2,c3,c4,c5,c6,ce g0,ce g1,ce g2,ce g3,ce g4,ce g5,ce g6,Rdg.on q hp x _ hx⟩,go q hp hb xs (off+7) hr⟩
theorem Rdg.rd{g:Nat→Prop}{W:World}:∀ (x:Ex) (v:Value),Rdg g W x v→Rd W x v
 |.mk k n t b e rs ks,v,h=>by
  unfold Rdg at h
  unfold Rd
  obtain ⟨rv,kv,hv,hr,ao,cap,hk,h1,h2,h3⟩:=h;refine ⟨rv,kv,hv,hr.sl,ao,cap,hk,h1,h2,fun hn=>?_⟩
  obtain ⟨b',off,ha,hb,hpl,hl⟩:=h3 hn;exact ⟨b',off,ha,hpl,go ks b' off hl⟩
 where
 go {g:Nat→Prop} {W:World}:∀ (l:List Ex) (b off:Nat),Rdg.RdLg g W l b off→Rd.RdL W l b off
 |[],_,_,_=>by unfold Rd.RdL;trivial
 |x::xs,b,off,h=>by
  unfold Rdg.RdLg at h
  unfold Rd.RdL
  obtain ⟨⟨c0,c1,c2,c3,c4,c5,c6,g0,g1,g2,g3,g4,g5,g6,hx⟩,hr⟩:=h;exact ⟨⟨c0,c1,c2,c3,c4,c5,c6,g0,g1,g2,g3,g4,g5,g6,Rdg.rd x _ hx⟩,go xs b (off+7) hr⟩
theorem Slg.mono{g g':Nat→Prop}{W:World}{v:Value}{L:List Rf}(h:Slg g W v L)(hl:∀ b,g b→g' b):Slg g' W v L:=by
 obtain ⟨ao,cap,hv,h1,h2,h3⟩:=h;exact ⟨ao,cap,hv,h1,h2,fun hn=>by obtain ⟨b,off,ha,hb,hc⟩:=h3 hn;exact ⟨b,off,ha,hl _ hb,hc⟩⟩
theorem Rdg.mono{g g':Nat→Prop}{W:World}(hl:∀ b,g b→g' b):∀ (x:Ex) (v:Value),Rdg g W x v→Rdg g' W x v
 |.mk k n t b e rs ks,v,h=>by
  unfold Rdg at h ⊢
  obtain ⟨rv,kv,hv,hr,ao,cap,hk,h1,h2,h3⟩:=h;refine ⟨rv,kv,hv,hr.mono hl,ao,cap,hk,h1,h2,fun hn=>?_⟩
  obtain ⟨b',off,ha,hb,hpl,hm⟩:=h3 hn;exact ⟨b',off,ha,hl _ hb,hpl,go hl ks b' off hm⟩
 where
 go {g g':Nat→Prop} {W:World} (hl:∀ b,g b→g' b):∀ (l:List Ex) (b off:Nat),Rdg.RdLg g W l b off→Rdg.RdLg g' W l b off
 |[],_,_,_=>by unfold Rdg.RdLg;trivial
 |x::xs,b,off,h=>by
  unfold Rdg.RdLg at h ⊢
  obtain ⟨⟨c0,c1,c2,c3,c4,c5,c6,g0,g1,g2,g3,g4,g5,g6,hx⟩,hr⟩:=h;exact ⟨⟨c0,c1,c2,c3,c4,c5,c6,g0,g1,g2,g3,g4,g5,g6,Rdg.mono hl x _ hx⟩,go hl xs b (off+7) hr⟩
def zeroV:Value:=.agg #[.int .i64 0,.int .i64 0,.string ⟨#[]⟩,.bool false,.int .i64 0,.slice none 0 0,.slice none 0 0]
theorem rdg_zero(g:Nat→Prop)(W:World):Rdg g W zeroE zeroV:=by
 unfold zeroE Rdg
 exact ⟨_,_,rfl,⟨none,0,rfl,Nat.le_refl _,Nat.zero_le _,fun h=>absurd h (by simp)⟩,none,0,rfl,Nat.le_refl _,Nat.zero_le _,fun h=>absurd rfl h⟩
theorem Slg.in{g:Nat→Prop}{W:World}{v:Value}{L:List Rf}(h:Slg g W v L):Slg (fun b=>g b∧b<W.heap.size) W v L:=by
 obtain ⟨ao,cap,hv,h1,h2,h3⟩:=h;refine ⟨ao,cap,hv,h1,h2,fun hl=>?_⟩
 obtain ⟨b,off,ha,hb,hc⟩:=h3 hl;exact ⟨b,off,ha,⟨hb,World.block_lt_of_cell? W ⟨b,off+0*5+0,none⟩ (hc 0 hl 0 _ rfl)⟩,hc⟩
theorem Rdg.in{g:Nat→Prop}{W:World}:∀ (x:Ex) (v:Value),Rdg g W x v→Rdg (fun b=>g b∧b<W.heap.size) W x v
 |.mk k n t b e rs ks,v,h=>by
  unfold Rdg at h ⊢
  obtain ⟨rv,kv,hv,hr,ao,cap,hk,h1,h2,h3⟩:=h;refine ⟨rv,kv,hv,hr.in,ao,cap,hk,h1,h2,fun hn=>?_⟩
  obtain ⟨b',off,ha,hb,hpl,hm⟩:=h3 hn;refine ⟨b',off,ha,⟨hb,?_⟩,hpl,go ks b' off hm⟩
  cases ks with
  |nil=>exact absurd rfl hn
  |cons y ys=>
   unfold Rdg.RdLg at hm
   obtain ⟨⟨c0,c1,c2,c3,c4,c5,c6,g0,_⟩,_⟩:=hm;exact World.block_lt_of_cell? W ⟨b',off,none⟩ g0
 where
 go {g:Nat→Prop} {W:World}:∀ (l:List Ex) (b off:Nat),Rdg.RdLg g W l b off→Rdg.RdLg (fun b=>g b∧b<W.heap.size) W l b off
 |[],_,_,_=>by unfold Rdg.RdLg;trivial
 |x::xs,b,off,h=>by
  unfold Rdg.RdLg at h ⊢
  obtain ⟨⟨c0,c1,c2,c3,c4,c5,c6,g0,g1,g2,g3,g4,g5,g6,hx⟩,hr⟩:=h;exact ⟨⟨c0,c1,c2,c3,c4,c5,c6,g0,g1,g2,g3,g4,g5,g6,Rdg.in x _ hx⟩,go xs b (off+7) hr⟩
structure Sv (W:World) (L:List Wd) (v:Value) (b off cap:Nat):Prop where
 ev:v=.slice (some ⟨b,off,none⟩) L.length cap
 le:L.length≤cap
 mx:cap≤maxLen
 k:∀ i (h:i<L.length),W.cell? ⟨b,off+i*3,none⟩=some (.int .i64 (L[i].k:Int))
 t:∀ i (h:i<L.length),W.cell? ⟨b,off+i*3+1,none⟩=some (.string ⟨L[i].t.toArray⟩)
 p:∀ i (h:i<L.length),W.cell? ⟨b,off+i*3+2,none⟩=some (.int .i64 (L[i].p:Int))
structure PS (W:World) (p:Nat) (L:List Wd) (b off cap:Nat) (i:Nat) (bd:Bool) (n:Nat):Prop where
 c0:W.cell? ⟨p,0,none⟩=some (.slice (some ⟨b,off,none⟩) L.length cap)
 c1:W.cell? ⟨p,1,none⟩=some (.int .i64 (i:Int))
 c2:W.cell? ⟨p,2,none⟩=some (.bool bd)
 c3:W.cell? ⟨p,3,none⟩=some (.int .i64 (n:Int))
 f1:W.frozen? ⟨p,1,none⟩=false
 f2:W.frozen? ⟨p,2,none⟩=false
 f3:W.frozen? ⟨p,3,none⟩=false
 sw:Sv W L (.slice (some ⟨b,off,none⟩) L.length cap) b off cap
 ne:b≠p
theorem Sv.on{W W':World}{p:Nat}{L:List Wd}{v:Value}{b off cap:Nat}(h:Sv W L v b off cap)(q:Qx p W W')(hb:b≠p):Sv W' L v b off cap:=
 ⟨h.ev,h.le,h.mx,fun i hi=>(q.cell (World.block_lt_of_cell? W ⟨b,off+i*3,none⟩ (h.k i hi)) hb).trans (h.k i hi),
  fun i hi=>(q.cell (World.block_lt_of_cell? W ⟨b,off+i*3+1,none⟩ (h.t i hi)) hb).trans (h.t i hi),
  fun i hi=>(q.cell (World.block_lt_of_cell? W ⟨b,off+i*3+2,none⟩ (h.p i hi)) hb).trans (h.p i hi)⟩
theorem PS.lt{W:World}{p:Nat}{L:List Wd}{b off cap i:Nat}{bd:Bool}{n:Nat}(h:PS W p L b off cap i bd n):p<W.heap.size:=World.block_lt_of_cell? W ⟨p,0,none⟩ h.c0
theorem PS.on {W W' : World} {p : Nat} {L : List Wd} {b off cap i : Nat} {bd : Bool} {n : Nat} (h : PS W p L b off cap i bd n) (q : Q W W') : PS W' p L b off cap i bd n :=
  ⟨(q.cell h.lt).trans h.c0, (q.cell h.lt).trans h.c1, (q.cell h.lt).trans h.c2, (q.cell h.lt).trans h.c3,
    (Below.frozen q (p := ⟨p, 1, none⟩) h.lt).trans h.f1, (Below.frozen q (p := ⟨p, 2, none⟩) h.lt).trans h.f2, (Below.frozen q (p := ⟨p, 3, none⟩) h.lt).trans h.f3, h.sw.on (Qx.of q) h.ne, h.ne⟩
theorem PS.onx {W W' : World} {p r : Nat} {L : List Wd} {b off cap i : Nat} {bd : Bool} {n : Nat} (h : PS W p L b off cap i bd n) (q : Qx r W W') (hp : p ≠ r) (hb : b ≠ r) : PS W' p L b off cap i bd n :=
  ⟨(q.cell h.lt hp).trans h.c0, (q.cell h.lt hp).trans h.c1, (q.cell h.lt hp).trans h.c2, (q.cell h.lt hp).trans h.c3,
    (World.frozen?_of_block (a := ⟨p, 1, none⟩) (q.block p h.lt (fun e => hp (Option.some.inj e)))).trans h.f1, (World.frozen?_of_block (a := ⟨p, 2, none⟩) (q.block p h.lt (fun e => hp (Option.some.inj e)))).trans h.f2, (World.frozen?_of_block (a := ⟨p, 3, none⟩) (q.block p h.lt (fun e => hp (Option.some.inj e)))).trans h.f3,
    ⟨h.sw.ev, h.sw.le, h.sw.mx, fun i hi => (q.cell (World.block_lt_of_cell? W ⟨b, off + i * 3, none⟩ (h.sw.k i hi)) hb).trans (h.sw.k i hi), fun i hi => (q.cell (World.block_lt_of_cell? W ⟨b, off + i * 3 + 1, none⟩ (h.sw.t i hi)) hb).trans (h.sw.t i hi), fun i hi => (q.cell (World.block_lt_of_cell? W ⟨b, off + i * 3 + 2, none⟩ (h.sw.p i hi)) hb).trans (h.sw.p i hi)⟩, h.ne⟩
theorem PS.set1{W:World}{p:Nat}{L:List Wd}{b off cap i:Nat}{bd:Bool}{n:Nat}(h:PS W p L b off cap i bd n)(i':Nat)(I:Int)(hI:I=(i':Int)):PS (W.setCell ⟨p,1,none⟩ (.int .i64 I)) p L b off cap i' bd n:=by
 subst hI;refine ⟨?_,World.cell?_setCell_same _ _ _ h.c1,?_,?_,?_,?_,?_,h.sw.on ((Qx.refl p _).own _ _) h.ne,h.ne⟩
 ·rw [World.cell?_setCell_other _ _ _ _ (by simp)];exact h.c0
 ·rw [World.cell?_setCell_other _ _ _ _ (by simp)];exact h.c2
 ·rw [World.cell?_setCell_other _ _ _ _ (by simp)];exact h.c3
 ·rw [World.frozen?_setCell];exact h.f1
 ·rw [World.frozen?_setCell];exact h.f2
 ·rw [World.frozen?_setCell];exact h.f3
theorem PS.set2{W:World}{p:Nat}{L:List Wd}{b off cap i:Nat}{bd:Bool}{n:Nat}(h:PS W p L b off cap i bd n)(bd':Bool):PS (W.setCell ⟨p,2,none⟩ (.bool bd')) p L b off cap i bd' n:=by
 refine ⟨?_,?_,World.cell?_setCell_same _ _ _ h.c2,?_,?_,?_,?_,h.sw.on ((Qx.refl p _).own _ _) h.ne,h.ne⟩
 ·rw [World.cell?_setCell_other _ _ _ _ (by simp)];exact h.c0
 ·rw [World.cell?_setCell_other _ _ _ _ (by simp)];exact h.c1
 ·rw [World.cell?_setCell_other _ _ _ _ (by simp)];exact h.c3
 ·rw [World.frozen?_setCell];exact h.f1
 ·rw [World.frozen?_setCell];exact h.f2
 ·rw [World.frozen?_setCell];exact h.f3
theorem PS.set3{W:World}{p:Nat}{L:List Wd}{b off cap i:Nat}{bd:Bool}{n:Nat}(h:PS W p L b off cap i bd n)(n':Nat)(N:Int)(hN:N=(n':Int)):PS (W.setCell ⟨p,3,none⟩ (.int .i64 N)) p L b off cap i bd n':=by
 subst hN;refine ⟨?_,?_,?_,World.cell?_setCell_same _ _ _ h.c3,?_,?_,?_,h.sw.on ((Qx.refl p _).own _ _) h.ne,h.ne⟩
 ·rw [World.cell?_setCell_other _ _ _ _ (by simp)];exact h.c0
 ·rw [World.cell?_setCell_other _ _ _ _ (by simp)];exact h.c1
 ·rw [World.cell?_setCell_other _ _ _ _ (by simp)];exact h.c2
 ·rw [World.frozen?_setCell];exact h.f1
 ·rw [World.frozen?_setCell];exact h.f2
 ·rw [World.frozen?_setCell];exact h.f3
theorem toL(s:ByteArray):s.toList=s.data.toList:=Lib.toList_data s
theorem is_any(W:World)(p:Nat)(L:List Wd)(b off cap i:Nat)(bd:Bool)(n:Nat)(s:ByteArray)(h:PS W p L b off cap i bd n)(hi:i<L.length) :
  Calls Tryz.prog 102 #[.pointer (some ⟨p,0,none⟩),.string s] W fun e W'=>e=.returned (.bool (isW L i s.data.toList))∧Q W W':=by
 have c0:=h.c0;have c1:=h.c1;have d0:=h.sw.k i hi;have d1:=h.sw.t i hi;have hroom:L.length≤9223372036854775807:=by have h1:=h.sw.le;have h2:=h.sw.mx;unfold maxLen at h2;omega
 have HW:=hid (isW_at (s:=s.data.toList) hi);obtain ⟨T,hT,lT⟩:∃ T:ByteArray,⟨L[i].t.toArray⟩=T∧T.data.toList=L[i].t:=⟨_,rfl,rfl⟩;rw [hT]at d1;have LT:=hid lT;generalize isW L i s.data.toList=r at HW ⊢;clear h hT lT;by_cases hk:L[i].k=6
 ·have e6:(((L[i].k:Nat):Int) == 6)=true:=by rw [hk];rfl
  by_cases ht:L[i].t=s.data.toList
  ·have e7:(T.toList == s.toList)=true:=by rw [toL,toL,LT.out,ht];exact beq_self_eq_true _
   have HR:Hid (r=true):=by show _=_;rw [HW.out];exact decide_eq_true ⟨hk,ht⟩
   generalize ((L[i].k:Nat):Int)=kk at d0 e6;clear HW hk ht LT;go_enter Tryz.func102,Tryz.ntmps102
   go_wp2_with fail
   go_quiet (fail)
   go_wp2_with fail
   go_ret
   exact ⟨by rw [HR.out];rfl,(Q.refl _).drewN _⟩
  ·have e7:(T.toList == s.toList)=false:=by rw [toL,toL,LT.out,beq_eq_false_iff_ne];exact ht
   have HR:Hid (r=false):=by show _=_;rw [HW.out];exact decide_eq_false (fun g=>ht g.2)
   generalize ((L[i].k:Nat):Int)=kk at d0 e6;clear HW hk ht LT;go_enter Tryz.func102,Tryz.ntmps102
   go_wp2_with fail
   go_quiet (fail)
   go_wp2_with fail
   go_ret
   exact ⟨by rw [HR.out];rfl,(Q.refl _).drewN _⟩
 ·have e6:(((L[i].k:Nat):Int) == 6)=false:=by rw [beq_eq_false_iff_ne];omega
  have HR:Hid (r=false):=by show _=_;rw [HW.out];exact decide_eq_false (fun g=>hk g.1)
  generalize ((L[i].k:Nat):Int)=kk at d0 e6;clear HW hk LT;go_enter Tryz.func102,Tryz.ntmps102
  go_wp2_with fail
  go_quiet (fail)
  go_wp2_with fail
  go_ret
  exact ⟨by rw [HR.out];rfl,(Q.refl _).drewN _⟩
theorem take_any(W:World)(p:Nat)(L:List Wd)(b off cap i:Nat)(bd:Bool)(n:Nat)(s:ByteArray)(h:PS W p L b off cap i bd n)(hi:i<L.length) :
  Calls Tryz.prog 85 #[.pointer (some ⟨p,0,none⟩),.string s] W fun e W'=>e=.returned (.bool (isW L i s.data.toList))∧Qx p W W'∧PS W' p L b off cap (if isW L i s.data.toList then i+1 else i) bd n:=by
 have HI:=hid (is_any W p L b off cap i bd n s h hi);have hroom:L.length≤9223372036854775807:=by have h1:=h.sw.le;have h2:=h.sw.mx;unfold maxLen at h2;omega
 have HP:=hid h;clear h;cases hw:isW L i s.data.toList
 ·rw [hw]at HI
  go_enter Tryz.func85,Tryz.ntmps85
  go_wp2_with (go_at_call 102;refine HI.out.mono ?_;rintro e w1 ⟨rfl,q1⟩;have Q1:=hid q1;clear q1)
  go_ret
  exact ⟨rfl,Qx.of Q1.out,HP.out.on Q1.out⟩
 ·rw [hw]at HI
  go_enter Tryz.func85,Tryz.ntmps85
  go_wp2_with (go_at_call 102;refine HI.out.mono ?_;rintro e w1 ⟨rfl,q1⟩;have Q1:=hid q1;have HP1:=hid (HP.out.on q1);clear q1;have g1:=HP1.out.c1;have k1:=HP1.out.f1)
  go_ret
  exact ⟨rfl,(Qx.of Q1.out).own _ _,HP1.out.set1 (i+1) _ rfl⟩
theorem bare_any(k n:Int)(t:ByteArray)(b:Bool)(e:Int)(a1:Option Addr)(l1 c1:Nat)(a2:Option Addr)(l2 c2:Nat)(W:World):Calls Tryz.prog 94 #[.agg #[.int .i64 k,.int .i64 n,.string t,.bool b,.int .i64 e,.slice a1 l1 c1,.slice a2 l2 c2]] W fun e' W'=>e'=.returned (.bool (decide (n=0∧t.data.toList=[]∧b=false∧e=0∧l1=0∧l2=0)))∧Q W W':=by
 have et:=hid (toL t);by_cases q0:n=0
 ·skip
  have f0:(n == 0)=true:=by rw [q0];rfl
  by_cases q1:t.data.toList=[]
  ·skip
   have f1:(t.toList == [])=true:=by rw [et.out];rw [q1];rfl
   by_cases q2:b=false
   ·skip
    have f2:b=false:=q2
    by_cases q3:e=0
    ·skip
     have f3:(e == 0)=true:=by rw [q3];rfl
     by_cases q4:l1=0
     ·skip
      have f4:((l1:Int) == 0)=true:=by rw [q4];rfl
      by_cases q5:l2=0
      ·skip
       have f5:((l2:Int) == 0)=true:=by rw [q5];rfl
       have HR:Hid (decide (n=0∧t.data.toList=[]∧b=false∧e=0∧l1=0∧l2=0)=true):=by show _=_;exact decide_eq_true ⟨q0,q1,q2,q3,q4,q5⟩
       generalize decide (n=0∧t.data.toList=[]∧b=false∧e=0∧l1=0∧l2=0)=r at HR ⊢;clear et q0 q1 q2 q3 q4 q5;go_enter Tryz.func94,Tryz.ntmps94
       go_wp2_with fail
       go_ret
       exact ⟨ret_bool HR.out.symm,(Q.refl _).alloc _⟩
      ·skip
       have f5:((l2:Int) == 0)=false:=by rw [beq_eq_false_iff_ne];omega
       have HR:Hid (decide (n=0∧t.data.toList=[]∧b=false∧e=0∧l1=0∧l2=0)=false):=by show _=_;exact decide_eq_false (fun hh=>q5 hh.2.2.2.2.2)
       generalize decide (n=0∧t.data.toList=[]∧b=false∧e=0∧l1=0∧l2=0)=r at HR ⊢;clear et q0 q1 q2 q3 q4 q5;go_enter Tryz.func94,Tryz.ntmps94
       go_wp2_with fail
       go_ret
       exact ⟨ret_bool HR.out.symm,(Q.refl _).alloc _⟩
     ·skip
      have f4:((l1:Int) == 0)=false:=by rw [beq_eq_false_iff_ne];omega
      have HR:Hid (decide (n=0∧t.data.toList=[]∧b=false∧e=0∧l1=0∧l2=0)=false):=by show _=_;exact decide_eq_false (fun hh=>q4 hh.2.2.2.2.1)
      generalize decide (n=0∧t.data.toList=[]∧b=false∧e=0∧l1=0∧l2=0)=r at HR ⊢;clear et q0 q1 q2 q3 q4;go_enter Tryz.func94,Tryz.ntmps94
      go_wp2_with fail
      go_ret
      exact ⟨ret_bool HR.out.symm,(Q.refl _).alloc _⟩
    ·skip
     have f3:(e == 0)=false:=by rw [beq_eq_false_iff_ne];omega
     have HR:Hid (decide (n=0∧t.data.toList=[]∧b=false∧e=0∧l1=0∧l2=0)=false):=by show _=_;exact decide_eq_false (fun hh=>q3 hh.2.2.2.1)
     generalize decide (n=0∧t.data.toList=[]∧b=false∧e=0∧l1=0∧l2=0)=r at HR ⊢;clear et q0 q1 q2 q3;go_enter Tryz.func94,Tryz.ntmps94
     go_wp2_with fail
     go_ret
     exact ⟨ret_bool HR.out.symm,(Q.refl _).alloc _⟩
   ·skip
    have f2:b=true:=by simpa using q2
    have HR:Hid (decide (n=0∧t.data.toList=[]∧b=false∧e=0∧l1=0∧l2=0)=false):=by show _=_;exact decide_eq_false (fun hh=>q2 hh.2.2.1)
    generalize decide (n=0∧t.data.toList=[]∧b=false∧e=0∧l1=0∧l2=0)=r at HR ⊢;clear et q0 q1 q2;go_enter Tryz.func94,Tryz.ntmps94
    go_wp2_with fail
    go_ret
    exact ⟨ret_bool HR.out.symm,(Q.refl _).alloc _⟩
  ·skip
   have f1:(t.toList == [])=false:=by rw [et.out];rw [beq_eq_false_iff_ne];exact q1
   have HR:Hid (decide (n=0∧t.data.toList=[]∧b=false∧e=0∧l1=0∧l2=0)=false):=by show _=_;exact decide_eq_false (fun hh=>q1 hh.2.1)
   generalize decide (n=0∧t.data.toList=[]∧b=false∧e=0∧l1=0∧l2=0)=r at HR ⊢;clear et q0 q1;go_enter Tryz.func94,Tryz.ntmps94
   go_wp2_with fail
   go_ret
   exact ⟨ret_bool HR.out.symm,(Q.refl _).alloc _⟩
 ·skip
  have f0:(n == 0)=false:=by rw [beq_eq_false_iff_ne];omega
  have HR:Hid (decide (n=0∧t.data.toList=[]∧b=false∧e=0∧l1=0∧l2=0)=false):=by show _=_;exact decide_eq_false (fun hh=>q0 hh.1)
  generalize decide (n=0∧t.data.toList=[]∧b=false∧e=0∧l1=0∧l2=0)=r at HR ⊢;clear et q0;go_enter Tryz.func94,Tryz.ntmps94
  go_wp2_with fail
  go_ret
  exact ⟨ret_bool HR.out.symm,(Q.refl _).alloc _⟩
theorem prR_nil(sh:List UInt8)(row col:Int)(ra ca:Bool):decide (prR sh row col ra ca=[])=!mayR sh row col:=by
 unfold prR
 cases hm:mayR sh row col
 ·rw [if_neg (by simp)];rfl
 ·rw [if_pos rfl,decide_eq_false]
  ·rfl
  ·intro h
   unfold prL at h
   have h2:=(List.append_eq_nil_iff.1 h).2;have h3:=congrArg List.length h2;rw [Lib.decDigits_length]at h3;have h4:0<Lib.nDigits (row+1).toNat:=by unfold Lib.nDigits;split <;> omega
   simp at h3
   omega
theorem pmayref_any(sh:ByteArray)(row col:Int)(ra ca:Bool)(w:World)(hw:Std w)(ht:∀ W,Q w W→Lib.TabIs Tryz.prog W "internal/strconv.uint64pow10" .u64 Lib.pow10Tab)(hs:sh.size≤1000) :
  Calls Tryz.prog 90 #[rv sh row col ra ca] w fun e w'=>e=.returned (.bool (mayR sh.data.toList row col))∧Q w w':=by
 have HP:=hid (fun W (q:Q w W)=>print_any sh row col ra ca W (hw.on q) (fun W' q'=>ht W' (q.trans q')) hs)
 have hn:=prR_nil sh.data.toList row col ra ca;obtain ⟨S,hS,lS⟩:∃ S:ByteArray,⟨(prR sh.data.toList row col ra ca).toArray⟩=S∧S.data.toList=prR sh.data.toList row col ra ca:=⟨_,rfl,rfl⟩;rw [hS]at HP;rw [←lS]at hn;clear hw ht;cases hm:mayR sh.data.toList row col
 ·rw [hm]at hn
  have e7:(S.toList == [])=true:=by rw [toL,of_decide_eq_true hn];rfl
  clear hn hS lS;go_enter Tryz.func90,Tryz.ntmps90
  go_wp2_with (go_at_call 105;refine (HP.out _ ((Q.refl _).alloc _)).mono ?_;rintro e w1 ⟨rfl,q1⟩;have Q1:Hid (Q w w1):=hid (((Q.refl _).alloc _).trans q1);clear q1)
  go_ret
  exact ⟨rfl,Q1.out⟩
 ·rw [hm]at hn
  have e7:(S.toList == [])=false:=by rw [toL,beq_eq_false_iff_ne];exact of_decide_eq_false hn
  clear hn hS lS;go_enter Tryz.func90,Tryz.ntmps90
  go_wp2_with (go_at_call 105;refine (HP.out _ ((Q.refl _).alloc _)).mono ?_;rintro e w1 ⟨rfl,q1⟩;have Q1:Hid (Q w w1):=hid (((Q.refl _).alloc _).trans q1);clear q1)
  go_ret
  exact ⟨rfl,Q1.out⟩
theorem level_any(s:ByteArray)(W:World):Calls Tryz.prog 56 #[.string s] W fun e W'=>e=.returned (.int .i64 (lvl s.data.toList:Int))∧W'=W:=by
 have et:=hid (toL s);by_cases h0:s.data.toList=[61]
 ·have f0:(s.toList == [61])=true:=by rw [et.out,h0];rfl
  have HR:Hid (lvl s.data.toList=1):=by show _=_;rw [h0];rfl
  generalize lvl s.data.toList=r at HR ⊢;clear et h0;go_enter Tryz.func56,Tryz.ntmps56
  go_wp2
  go_ret
  exact ⟨ret_int (by rw [HR.out];rfl),rfl⟩
 ·have f0:(s.toList == [61])=false:=by rw [et.out,beq_eq_false_iff_ne];exact h0
  by_cases h1:s.data.toList=[60,62]
  ·have f1:(s.toList == [60,62])=true:=by rw [et.out,h1];rfl
   have HR:Hid (lvl s.data.toList=1):=by show _=_;rw [h1];rfl
   generalize lvl s.data.toList=r at HR ⊢;clear et h0 h1;go_enter Tryz.func56,Tryz.ntmps56
   go_wp2
   go_ret
   exact ⟨ret_int (by rw [HR.out];rfl),rfl⟩
  ·have f1:(s.toList == [60,62])=false:=by rw [et.out,beq_eq_false_iff_ne];exact h1
   by_cases h2:s.data.toList=[60]
   ·have f2:(s.toList == [60])=true:=by rw [et.out,h2];rfl
    have HR:Hid (lvl s.data.toList=1):=by show _=_;rw [h2];rfl
    generalize lvl s.data.toList=r at HR ⊢;clear et h0 h1 h2;go_enter Tryz.func56,Tryz.ntmps56
    go_wp2
    go_ret
    exact ⟨ret_int (by rw [HR.out];rfl),rfl⟩
   ·have f2:(s.toList == [60])=false:=by rw [et.out,beq_eq_false_iff_ne];exact h2
    by_cases h3:s.data.toList=[60,61]
    ·have f3:(s.toList == [60,61])=true:=by rw [et.out,h3];rfl
     have HR:Hid (lvl s.data.toList=1):=by show _=_;rw [h3];rfl
     generalize lvl s.data.toList=r at HR ⊢;clear et h0 h1 h2 h3;go_enter Tryz.func56,Tryz.ntmps56
     go_wp2
     go_ret
     exact ⟨ret_int (by rw [HR.out];rfl),rfl⟩
    ·have f3:(s.toList == [60,61])=false:=by rw [et.out,beq_eq_false_iff_ne];exact h3
     by_cases h4:s.data.toList=[62]
     ·have f4:(s.toList == [62])=true:=by rw [et.out,h4];rfl
      have HR:Hid (lvl s.data.toList=1):=by show _=_;rw [h4];rfl
      generalize lvl s.data.toList=r at HR ⊢;clear et h0 h1 h2 h3 h4;go_enter Tryz.func56,Tryz.ntmps56
      go_wp2
      go_ret
      exact ⟨ret_int (by rw [HR.out];rfl),rfl⟩
     ·have f4:(s.toList == [62])=false:=by rw [et.out,beq_eq_false_iff_ne];exact h4
      by_cases h5:s.data.toList=[62,61]
      ·have f5:(s.toList == [62,61])=true:=by rw [et.out,h5];rfl
       have HR:Hid (lvl s.data.toList=1):=by show _=_;rw [h5];rfl
       generalize lvl s.data.toList=r at HR ⊢;clear et h0 h1 h2 h3 h4 h5;go_enter Tryz.func56,Tryz.ntmps56
       go_wp2
       go_ret
       exact ⟨ret_int (by rw [HR.out];rfl),rfl⟩
      ·have f5:(s.toList == [62,61])=false:=by rw [et.out,beq_eq_false_iff_ne];exact h5
       by_cases h6:s.data.toList=[38]
       ·have f6:(s.toList == [38])=true:=by rw [et.out,h6];rfl
        have HR:Hid (lvl s.data.toList=2):=by show _=_;rw [h6];rfl
        generalize lvl s.data.toList=r at HR ⊢;clear et h0 h1 h2 h3 h4 h5 h6;go_enter Tryz.func56,Tryz.ntmps56
        go_wp2
        go_ret
        exact ⟨ret_int (by rw [HR.out];rfl),rfl⟩
       ·have f6:(s.toList == [38])=false:=by rw [et.out,beq_eq_false_iff_ne];exact h6
        by_cases h7:s.data.toList=[43]
        ·have f7:(s.toList == [43])=true:=by rw [et.out,h7];rfl
         have HR:Hid (lvl s.data.toList=3):=by show _=_;rw [h7];rfl
         generalize lvl s.data.toList=r at HR ⊢;clear et h0 h1 h2 h3 h4 h5 h6 h7;go_enter Tryz.func56,Tryz.ntmps56
         go_wp2
         go_ret
         exact ⟨ret_int (by rw [HR.out];rfl),rfl⟩
        ·have f7:(s.toList == [43])=false:=by rw [et.out,beq_eq_false_iff_ne];exact h7
         by_cases h8:s.data.toList=[45]
         ·have f8:(s.toList == [45])=true:=by rw [et.out,h8];rfl
          have HR:Hid (lvl s.data.toList=3):=by show _=_;rw [h8];rfl
          generalize lvl s.data.toList=r at HR ⊢;clear et h0 h1 h2 h3 h4 h5 h6 h7 h8;go_enter Tryz.func56,Tryz.ntmps56
          go_wp2
          go_ret
          exact ⟨ret_int (by rw [HR.out];rfl),rfl⟩
         ·have f8:(s.toList == [45])=false:=by rw [et.out,beq_eq_false_iff_ne];exact h8
          by_cases h9:s.data.toList=[42]
          ·have f9:(s.toList == [42])=true:=by rw [et.out,h9];rfl
           have HR:Hid (lvl s.data.toList=4):=by show _=_;rw [h9];rfl
           generalize lvl s.data.toList=r at HR ⊢;clear et h0 h1 h2 h3 h4 h5 h6 h7 h8 h9;go_enter Tryz.func56,Tryz.ntmps56
           go_wp2
           go_ret
           exact ⟨ret_int (by rw [HR.out];rfl),rfl⟩
          ·have f9:(s.toList == [42])=false:=by rw [et.out,beq_eq_false_iff_ne];exact h9
           by_cases h10:s.data.toList=[47]
           ·have f10:(s.toList == [47])=true:=by rw [et.out,h10];rfl
            have HR:Hid (lvl s.data.toList=4):=by show _=_;rw [h10];rfl
            generalize lvl s.data.toList=r at HR ⊢;clear et h0 h1 h2 h3 h4 h5 h6 h7 h8 h9 h10;go_enter Tryz.func56,Tryz.ntmps56
            go_wp2
            go_ret
            exact ⟨ret_int (by rw [HR.out];rfl),rfl⟩
           ·have f10:(s.toList == [47])=false:=by rw [et.out,beq_eq_false_iff_ne];exact h10
            have HR:Hid (lvl s.data.toList=0):=by show _=_;unfold lvl;rw [if_neg h0,if_neg h1,if_neg h2,if_neg h3,if_neg h4,if_neg h5,if_neg h6,if_neg h7,if_neg h8,if_neg h9,if_neg h10]
            generalize lvl s.data.toList=r at HR ⊢;clear et h0 h1 h2 h3 h4 h5 h6 h7 h8 h9 h10;go_enter Tryz.func56,Tryz.ntmps56
            go_wp2
            go_ret
            exact ⟨ret_int (by rw [HR.out];rfl),rfl⟩
theorem node_any(W:World)(p:Nat)(L:List Wd)(b off cap i:Nat)(bd:Bool)(n:Nat)(h:PS W p L b off cap i bd n)(hn:n≤100000)(k m:Int)(t:ByteArray)(bb:Bool)(er:Int)(a1:Option Addr)(l1 c1:Nat)(a2:Option Addr)(l2 c2:Nat) :
  Calls Tryz.prog 66 #[.pointer (some ⟨p,0,none⟩),.agg #[.int .i64 k,.int .i64 m,.string t,.bool bb,.int .i64 er,.slice a1 l1 c1,.slice a2 l2 c2]] W fun e W'=>e=.returned (.agg #[.int .i64 k,.int .i64 m,.string t,.bool bb,.int .i64 er,.slice a1 l1 c1,.slice a2 l2 c2])∧Qx p W W'∧PS W' p L b off cap i bd (n+1):=by
 have HP:=hid h;have hlt:=h.lt;have g3:=h.c3;have k3:=h.f3;have hne:p≠W.heap.size:=by omega
 clear h;go_enter Tryz.func66,Tryz.ntmps66
 go_wp2
 refine bodyPost_ret (v:=.agg #[.int .i64 k,.int .i64 m,.string t,.bool bb,.int .i64 er,.slice a1 l1 c1,.slice a2 l2 c2]) (by simp [results,Tryz.results66,go_sem]) rfl ⟨rfl,?_,?_⟩
 ·repeat' (first|with_reducible exact Qx.refl _ _|with_reducible refine Qx.new ?_ (by simp) _ _|with_reducible refine Qx.own ?_ _ _|with_reducible refine Qx.alloc ?_ _)
 ·exact (((HP.out.set3 (n+1) _ rfl).on ((Q.refl _).alloc _)).on ((Q.refl _).alloc _)).on (by repeat (first|exact Q.refl _|refine Q.setCell ?_ (by simp) _))
theorem Qx.frozen{p:Nat}{a w:World}(h:Qx p a w){b o:Nat}(hb:b<a.heap.size)(hp:b≠p):w.frozen? ⟨b,o,none⟩=a.frozen? ⟨b,o,none⟩:=
 World.frozen?_of_block (h.block b hb (fun e=>hp (Option.some.inj e)))
structure Tb (W:World) (q:Nat) (c0 c1 c2 c3 c4 c5 c6:Value):Prop where
 g0:W.cell? ⟨q,0,none⟩=some c0
 g1:W.cell? ⟨q,1,none⟩=some c1
 g2:W.cell? ⟨q,2,none⟩=some c2
 g3:W.cell? ⟨q,3,none⟩=some c3
 g4:W.cell? ⟨q,4,none⟩=some c4
 g5:W.cell? ⟨q,5,none⟩=some c5
 g6:W.cell? ⟨q,6,none⟩=some c6
 f:∀ j,W.frozen? ⟨q,j,none⟩=false
theorem Tb.on{p:Nat}{W W':World}{q:Nat}{c0 c1 c2 c3 c4 c5 c6:Value}(h:Tb W q c0 c1 c2 c3 c4 c5 c6)(x:Qx p W W')(hq:q≠p):Tb W' q c0 c1 c2 c3 c4 c5 c6:=by
 have hl:q<W.heap.size:=World.block_lt_of_cell? W ⟨q,0,none⟩ h.g0
 exact ⟨(x.cell hl hq).trans h.g0,(x.cell hl hq).trans h.g1,(x.cell hl hq).trans h.g2,(x.cell hl hq).trans h.g3,(x.cell hl hq).trans h.g4,(x.cell hl hq).trans h.g5,(x.cell hl hq).trans h.g6,fun j=>(x.frozen hl hq).trans (h.f j)⟩
theorem tb_new(W:World)(c0 c1 c2 c3 c4 c5 c6:Value)(t:TypeId):Tb (W.alloc (.cells #[c0,c1,c2,c3,c4,c5,c6] t)) W.heap.size c0 c1 c2 c3 c4 c5 c6:=by
 refine ⟨?_,?_,?_,?_,?_,?_,?_,fun j=>?_⟩
 all_goals simp [World.cell?_alloc_new,World.frozen?_alloc_new]
theorem Rdg.shape{g:Nat→Prop}{W:World}{x:Ex}{v:Value}(h:Rdg g W x v):∃ k n t b e a1 l1 c1 a2 l2 c2,v=.agg #[.int .i64 k,.int .i64 n,.string t,.bool b,.int .i64 e,.slice a1 l1 c1,.slice a2 l2 c2]:=by
 cases x with
 |mk k n t b e rs ks=>
  unfold Rdg at h
  obtain ⟨rv,kv,hv,hr,ao,cap,hk,_⟩:=h;obtain ⟨a1,c1,hr,_⟩:=hr;subst hr hk
  exact ⟨_,_,_,_,_,_,_,_,_,_,_,hv⟩
theorem rdg_kids{g:Nat→Prop}{W:World}(k:Int)(t:List UInt8)(T:ByteArray)(hT:T.data.toList=t)(ks:List Ex)(q cap:Nat)(hq:g q)(hc:ks.length≤cap)(hm:cap≤maxLen)(hpl:Pl W q)(h:Rdg.RdLg g W ks q 0) :
  Rdg g W (.mk k 0 t false 0 [] ks) (.agg #[.int .i64 k,.int .i64 0,.string T,.bool false,.int .i64 0,.slice none 0 0,.slice (some ⟨q,0,none⟩) ks.length cap]):=by
 unfold Rdg
 have e:T=⟨t.toArray⟩:=bytes_eq hT
 subst e
 exact ⟨_,_,rfl,⟨none,0,rfl,Nat.le_refl _,Nat.zero_le _,fun h=>absurd h (by simp)⟩,some ⟨q,0,none⟩,cap,rfl,hc,hm,fun _=>⟨q,0,rfl,hq,hpl,h⟩⟩
def Rep(p:Nat)(L:List Wd)(b off cap:Nat)(W:World)(r:Ex × St)(e:Ending)(W':World):Prop:=
 ∃ v,e=.returned v∧Rdg (fun b=>W.heap.size≤b) W' r.1 v∧Qx p W W'∧PS W' p L b off cap r.2.i r.2.bd r.2.n
theorem ahead_yes(L:List Wd)(p b off cap:Nat)(s:St)(r:Ex × St)(W:World)(h:PS W p L b off cap s.i s.bd s.n)(hi:s.i<L.length)(hw:isW L s.i [45]=true)
  (hn:r.2.n≤100000)
  (HT:Hid (∀ W1,PS W1 p L b off cap s.on.i s.on.bd s.on.n→Calls Tryz.prog 41 #[.pointer (some ⟨p,0,none⟩),.int .i64 5] W1 fun e W'=>Rep p L b off cap W1 r e W')) :
  Calls Tryz.prog 65 #[.pointer (some ⟨p,0,none⟩)] W fun e W'=>Rep p L b off cap W (negE r.1,r.2.node) e W':=by
 have hlt:=h.lt;have HPW:=hid h;have HP0:=hid (h.on ((Q.refl _).alloc (.cells #[.int .i64 0,.int .i64 0,.string ⟨#[]⟩,.bool false,.int .i64 0,.slice none 0 0,.slice none 0 0] 26)));have hk:=take_any _ p L b off cap s.i s.bd s.n ⟨#[45]⟩ HP0.out hi;rw [show (⟨#[45]⟩:ByteArray).data.toList=[45] from rfl,hw]at hk
 have HK:=hid hk;have HZ:=hid (tb_new W (.int .i64 0) (.int .i64 0) (.string ⟨#[]⟩) (.bool false) (.int .i64 0) (.slice none 0 0) (.slice none 0 0) 26);obtain ⟨x,s'⟩:=r;clear hk h;go_enter Tryz.func65,Tryz.ntmps65
 go_wp2_with (first|(go_at_call 85;refine HK.out.mono ?_;rintro e w1 ⟨rfl,q1,p1⟩;have Q1:=hid q1;have P1:=hid p1;clear q1 p1)|(go_at_call 41;refine (HT.out _ P1.out).mono ?_;rintro e w2 ⟨v,rfl,hr2,q2,p2⟩;obtain ⟨k,m,t,bb,er,a1,l1,c1,a2,l2,c2,rfl⟩:=hr2.shape;have R2:=hid hr2;have Q2:=hid q2;have P2:=hid p2;clear hr2 q2 p2)|(go_at_call 66;refine (node_any _ p L b off cap _ _ _ ((P2.out.on ((Q.refl _).alloc _)).on ((Q.refl _).alloc _)) hn 7 0 ⟨#[]⟩ false 0 none 0 0 (some ⟨w2.heap.size+1,0,none⟩) 1 1).mono ?_;rintro e w3 ⟨rfl,q3,p3⟩;have Q3:=hid q3;have P3:=hid p3;have Z3:=hid ((((HZ.out.on Q1.out (by omega)).on Q2.out (by omega)).on ((Qx.refl p _).alloc _) (by omega)).on (((Qx.refl p _).alloc _)) (by omega) |>.on q3 (by omega));clear q3 p3;have d0:=Z3.out.g0;have d1:=Z3.out.g1;have d2:=Z3.out.g2;have d3:=Z3.out.g3;have d4:=Z3.out.g4;have d5:=Z3.out.g5;have d6:=Z3.out.g6;have y0:=Z3.out.f 0;have y1:=Z3.out.f 1;have y2:=Z3.out.f 2;have y3:=Z3.out.f 3;have y4:=Z3.out.f 4;have y5:=Z3.out.f 5;have y6:=Z3.out.f 6))
 have hw2:=Q2.out.size;have hw1:=Q1.out.size;have hws:W.heap.size+1≤w2.heap.size:=by simp at hw1;omega
 have hw3:=Q3.out.size;have K3:=(tb_new (w2.alloc (.cells #[.int .i64 k,.int .i64 m,.string t,.bool bb,.int .i64 er,.slice a1 l1 c1,.slice a2 l2 c2] 26)) (.int .i64 k) (.int .i64 m) (.string t) (.bool bb) (.int .i64 er) (.slice a1 l1 c1) (.slice a2 l2 c2) 26).on Q3.out (by simp;omega)
 refine bodyPost_ret (v:=.agg #[.int .i64 7,.int .i64 0,.string ⟨#[]⟩,.bool false,.int .i64 0,.slice none 0 0,.slice (some ⟨w2.heap.size+1,0,none⟩) 1 1]) (by simp [results,Tryz.results65,go_sem,d0,d1,d2,d3,d4,d5,d6]) rfl ?_
 have hbW:b<W.heap.size:=World.block_lt_of_cell? W ⟨b,off+s.i*3,none⟩ (HPW.out.sw.k s.i hi)
 have hpw:p<w2.heap.size:=by omega
 have sz3:w2.heap.size+2≤w3.heap.size:=by simp at hw3;omega
 have RX:Rdg (fun b=>W.heap.size+1≤b) w3 x (.agg #[.int .i64 k,.int .i64 m,.string t,.bool bb,.int .i64 er,.slice a1 l1 c1,.slice a2 l2 c2]):=Rdg.on Q3.out (fun b hb=>by omega) _ _ (Rdg.on ((Qx.refl p _).alloc _) (fun b hb=>by omega) _ _ (Rdg.on ((Qx.refl p _).alloc _) (fun b hb=>by omega) _ _ (Rdg.mono (fun b hb=>by simp at hw1;omega) _ _ R2.out)))
 have QA:Qx p W w3:=((((((Qx.refl p W).alloc _).trans Q1.out).trans Q2.out).alloc _).alloc _).trans Q3.out
 have QF:Qx W.heap.size w3 (((((((w3.setCell ⟨W.heap.size,0,none⟩ (.int .i64 7)).setCell ⟨W.heap.size,1,none⟩ (.int .i64 0)).setCell ⟨W.heap.size,2,none⟩ (.string ⟨#[]⟩)).setCell ⟨W.heap.size,3,none⟩ (.bool false)).setCell ⟨W.heap.size,4,none⟩ (.int .i64 0)).setCell ⟨W.heap.size,5,none⟩ (.slice none 0 0)).setCell ⟨W.heap.size,6,none⟩ (.slice (some ⟨w2.heap.size+1,0,none⟩) 1 1)):=
  (((((((Qx.refl _ _).own _ _).own _ _).own _ _).own _ _).own _ _).own _ _).own _ _
 have KF:=K3.on QF (by simp;omega)
 rw [show (w2.alloc (.cells #[.int .i64 k,.int .i64 m,.string t,.bool bb,.int .i64 er,.slice a1 l1 c1,.slice a2 l2 c2] 26)).heap.size=w2.heap.size+1 by simp]at KF
 have PF:=((pl_new (w2.alloc (.cells #[.int .i64 k,.int .i64 m,.string t,.bool bb,.int .i64 er,.slice a1 l1 c1,.slice a2 l2 c2] 26)) #[.int .i64 k,.int .i64 m,.string t,.bool bb,.int .i64 er,.slice a1 l1 c1,.slice a2 l2 c2] 26).onx Q3.out (by simp;omega)).onx QF (by simp;omega)
 rw [show (w2.alloc (.cells #[.int .i64 k,.int .i64 m,.string t,.bool bb,.int .i64 er,.slice a1 l1 c1,.slice a2 l2 c2] 26)).heap.size=w2.heap.size+1 by simp]at PF
 refine ⟨_,rfl,rdg_kids 7 [] ⟨#[]⟩ rfl [x] (w2.heap.size+1) 1 (show _≤_ by omega) (by simp) (by unfold maxLen;omega) PF ?_,?_,?_⟩
 ·unfold Rdg.RdLg
  refine ⟨⟨_,_,_,_,_,_,_,KF.g0,KF.g1,KF.g2,KF.g3,KF.g4,KF.g5,KF.g6,Rdg.mono (fun b hb=>by omega) _ _ (Rdg.on QF (fun b hb=>by omega) _ _ RX)⟩,?_⟩
  unfold Rdg.RdLg
  trivial
 ·exact ((((((QA.new (Nat.le_refl _) _ _).new (Nat.le_refl _) _ _).new (Nat.le_refl _) _ _).new (Nat.le_refl _) _ _).new (Nat.le_refl _) _ _).new (Nat.le_refl _) _ _).new (Nat.le_refl _) _ _
 ·exact P3.out.onx QF (by omega) (by omega)
theorem fin7{p:Nat}{L:List Wd}{b off cap:Nat}{W w3:World}{x:Ex}{s':St}(k m:Int)(t:ByteArray)(bb:Bool)(er:Int)(a1:Option Addr)(l1 c1:Nat)(a2:Option Addr)(l2 c2:Nat)(hp:p<W.heap.size)(hb:b<W.heap.size)(hq:Qx p W w3)(hr:Rdg (fun b=>W.heap.size+1≤b) w3 x (.agg #[.int .i64 k,.int .i64 m,.string t,.bool bb,.int .i64 er,.slice a1 l1 c1,.slice a2 l2 c2]))(h:PS w3 p L b off cap s'.i s'.bd s'.n) :
  Rep p L b off cap W (x,s') (.returned (.agg #[.int .i64 k,.int .i64 m,.string t,.bool bb,.int .i64 er,.slice a1 l1 c1,.slice a2 l2 c2])) (((((((w3.setCell ⟨W.heap.size,0,none⟩ (.int .i64 k)).setCell ⟨W.heap.size,1,none⟩ (.int .i64 m)).setCell ⟨W.heap.size,2,none⟩ (.string t)).setCell ⟨W.heap.size,3,none⟩ (.bool bb)).setCell ⟨W.heap.size,4,none⟩ (.int .i64 er)).setCell ⟨W.heap.size,5,none⟩ (.slice a1 l1 c1)).setCell ⟨W.heap.size,6,none⟩ (.slice a2 l2 c2)):=by
 have QF:Qx W.heap.size w3 (((((((w3.setCell ⟨W.heap.size,0,none⟩ (.int .i64 k)).setCell ⟨W.heap.size,1,none⟩ (.int .i64 m)).setCell ⟨W.heap.size,2,none⟩ (.string t)).setCell ⟨W.heap.size,3,none⟩ (.bool bb)).setCell ⟨W.heap.size,4,none⟩ (.int .i64 er)).setCell ⟨W.heap.size,5,none⟩ (.slice a1 l1 c1)).setCell ⟨W.heap.size,6,none⟩ (.slice a2 l2 c2)):=(((((((Qx.refl _ _).own _ _).own _ _).own _ _).own _ _).own _ _).own _ _).own _ _
 refine ⟨_,rfl,Rdg.mono (fun b hb=>by omega) _ _ (Rdg.on QF (fun b hb=>by omega) _ _ hr),?_,h.onx QF (by omega) (by omega)⟩
 exact ((((((hq.new (Nat.le_refl _) _ _).new (Nat.le_refl _) _ _).new (Nat.le_refl _) _ _).new (Nat.le_refl _) _ _).new (Nat.le_refl _) _ _).new (Nat.le_refl _) _ _).new (Nat.le_refl _) _ _
theorem PS.blk{W:World}{p:Nat}{L:List Wd}{b off cap i:Nat}{bd:Bool}{n:Nat}(h:PS W p L b off cap i bd n)(hi:i<L.length):b<W.heap.size:=World.block_lt_of_cell? W ⟨b,off+i*3,none⟩ (h.sw.k i hi)
theorem ahead_no(L:List Wd)(p b off cap:Nat)(s:St)(r:Ex × St)(W:World)(h:PS W p L b off cap s.i s.bd s.n)(hi:s.i<L.length)(hw:isW L s.i [45]=false)
  (HT:Hid (∀ W1,PS W1 p L b off cap s.i s.bd s.n→Calls Tryz.prog 86 #[.pointer (some ⟨p,0,none⟩)] W1 fun e W'=>Rep p L b off cap W1 r e W')) :
  Calls Tryz.prog 65 #[.pointer (some ⟨p,0,none⟩)] W fun e W'=>Rep p L b off cap W r e W':=by
 have hlt:=h.lt;have hbW:=h.blk hi;have HP0:=hid (h.on ((Q.refl _).alloc (.cells #[.int .i64 0,.int .i64 0,.string ⟨#[]⟩,.bool false,.int .i64 0,.slice none 0 0,.slice none 0 0] 26)));have hk:=take_any _ p L b off cap s.i s.bd s.n ⟨#[45]⟩ HP0.out hi;rw [show (⟨#[45]⟩:ByteArray).data.toList=[45] from rfl,hw]at hk
 have HK:=hid hk;have HZ:=hid (tb_new W (.int .i64 0) (.int .i64 0) (.string ⟨#[]⟩) (.bool false) (.int .i64 0) (.slice none 0 0) (.slice none 0 0) 26);obtain ⟨x,s'⟩:=r;clear hk h;go_enter Tryz.func65,Tryz.ntmps65
 go_wp2_with (first|(go_at_call 85;refine HK.out.mono ?_;rintro e w1 ⟨rfl,q1,p1⟩;have Q1:=hid q1;have P1:=hid p1;clear q1 p1)|(go_at_call 86;refine (HT.out _ P1.out).mono ?_;rintro e w2 ⟨v,rfl,hr2,q2,p2⟩;obtain ⟨k,m,t,bb,er,a1,l1,c1,a2,l2,c2,rfl⟩:=hr2.shape;have R2:=hid hr2;have Q2:=hid q2;have P2:=hid p2;have Z2:=hid ((HZ.out.on Q1.out (by omega)).on Q2.out (by omega));clear hr2 q2 p2;have d0:=Z2.out.g0;have d1:=Z2.out.g1;have d2:=Z2.out.g2;have d3:=Z2.out.g3;have d4:=Z2.out.g4;have d5:=Z2.out.g5;have d6:=Z2.out.g6;have y0:=Z2.out.f 0;have y1:=Z2.out.f 1;have y2:=Z2.out.f 2;have y3:=Z2.out.f 3;have y4:=Z2.out.f 4;have y5:=Z2.out.f 5;have y6:=Z2.out.f 6))
 have hw1:=Q1.out.size;refine bodyPost_ret (v:=.agg #[.int .i64 k,.int .i64 m,.string t,.bool bb,.int .i64 er,.slice a1 l1 c1,.slice a2 l2 c2]) (by simp [results,Tryz.results65,go_sem,d0,d1,d2,d3,d4,d5,d6]) rfl ?_
 exact fin7 k m t bb er a1 l1 c1 a2 l2 c2 hlt hbW ((((Qx.refl p W).alloc _).trans Q1.out).trans Q2.out) (Rdg.mono (fun b hb=>by simp at hw1;omega) _ _ R2.out) P2.out
theorem tree_five(L:List Wd)(p b off cap:Nat)(s:St)(r:Ex × St)(W:World)(h:PS W p L b off cap s.i s.bd s.n)(hi:s.i<L.length)(hb:s.bd=false)
  (HT:Hid (∀ W1,PS W1 p L b off cap s.i s.bd s.n→Calls Tryz.prog 65 #[.pointer (some ⟨p,0,none⟩)] W1 fun e W'=>Rep p L b off cap W1 r e W')) :
  Calls Tryz.prog 41 #[.pointer (some ⟨p,0,none⟩),.int .i64 5] W fun e W'=>Rep p L b off cap W r e W':=by
 have hlt:=h.lt;have hbW:=h.blk hi;have HP0:=hid (h.on ((Q.refl _).alloc (.cells #[.int .i64 0,.int .i64 0,.string ⟨#[]⟩,.bool false,.int .i64 0,.slice none 0 0,.slice none 0 0] 26)));have g2:=HP0.out.c2;rw [hb]at g2;have HZ:=hid (tb_new W (.int .i64 0) (.int .i64 0) (.string ⟨#[]⟩) (.bool false) (.int .i64 0) (.slice none 0 0) (.slice none 0 0) 26);obtain ⟨x,s'⟩:=r;clear h;go_enter Tryz.func41,Tryz.ntmps41
 go_wp2_with (go_at_call 65;refine (HT.out _ HP0.out).mono ?_;rintro e w2 ⟨v,rfl,hr2,q2,p2⟩;obtain ⟨k,m,t,bb,er,a1,l1,c1,a2,l2,c2,rfl⟩:=hr2.shape;have R2:=hid hr2;have Q2:=hid q2;have P2:=hid p2;have Z2:=hid (HZ.out.on Q2.out (by omega));clear hr2 q2 p2;have d0:=Z2.out.g0;have d1:=Z2.out.g1;have d2:=Z2.out.g2;have d3:=Z2.out.g3;have d4:=Z2.out.g4;have d5:=Z2.out.g5;have d6:=Z2.out.g6;have y0:=Z2.out.f 0;have y1:=Z2.out.f 1;have y2:=Z2.out.f 2;have y3:=Z2.out.f 3;have y4:=Z2.out.f 4;have y5:=Z2.out.f 5;have y6:=Z2.out.f 6)
 refine bodyPost_ret (v:=.agg #[.int .i64 k,.int .i64 m,.string t,.bool bb,.int .i64 er,.slice a1 l1 c1,.slice a2 l2 c2]) (by simp [results,Tryz.results41,go_sem,d0,d1,d2,d3,d4,d5,d6]) rfl ?_
 exact fin7 k m t bb er a1 l1 c1 a2 l2 c2 hlt hbW (((Qx.refl p W).alloc _).trans Q2.out) (Rdg.mono (fun b hb=>by simp at hb;omega) _ _ R2.out) P2.out
theorem tree_bad(L:List Wd)(p b off cap lv:Nat)(s:St)(W:World)(h:PS W p L b off cap s.i s.bd s.n)(hi:s.i<L.length)(hb:s.bd=true) :
  Calls Tryz.prog 41 #[.pointer (some ⟨p,0,none⟩),.int .i64 (lv:Int)] W fun e W'=>Rep p L b off cap W (zeroE,s) e W':=by
 have hlt:=h.lt;have hbW:=h.blk hi;have HP0:=hid (h.on ((Q.refl _).alloc (.cells #[.int .i64 0,.int .i64 0,.string ⟨#[]⟩,.bool false,.int .i64 0,.slice none 0 0,.slice none 0 0] 26)));have g2:=HP0.out.c2;rw [hb]at g2;clear h;go_enter Tryz.func41,Tryz.ntmps41
 go_wp2
 refine bodyPost_ret (v:=zeroV) (by simp [results,Tryz.results41,go_sem,zeroV]) rfl ?_
 exact ⟨_,rfl,rdg_zero _ _,(Qx.refl p W).alloc _,HP0.out⟩
theorem idB_long(l:List UInt8)(h:1000<l.length):idB l=false:=by
 unfold idB
 apply decide_eq_false
 intro h0
 unfold ownK at h0
 split at h0
 ·rename_i hp
  have ht:(Lib.trimPrefix l [99]).length+1=l.length:=by
   unfold Lib.trimPrefix
   rw [if_pos hp,List.length_drop];simp
   omega
  generalize Lib.trimPrefix l [99]=m at *
  rcases cut_any 110 m with ⟨a,b,rfl,hn⟩|hn
  ·rw [cut_at 110 a b hn]at h0
   unfold ownP at h0
   simp only [List.length_append,List.length_cons]at ht
   split at h0
   ·rename_i hc
    simp only [Bool.and_eq_true,true_and]at hc
    have h1:¬ 15<a.length:=fun g=>by rw [numF_long a 15 g (by omega)]at hc;exact absurd hc.1 (by simp)
    have h2:¬ 15<b.length:=fun g=>by rw [numF_long b 999999 g (by omega)]at hc;exact absurd hc.2 (by simp)
    omega
   ·omega
  ·rw [cut_free 110 m hn]at h0
   unfold ownP at h0
   simp at h0
 ·omega
theorem pmayref_big(sh:ByteArray)(row col:Int)(ra ca:Bool)(w:World)(hw:Std w)(ht:∀ W,Q w W→Lib.TabIs Tryz.prog W "internal/strconv.uint64pow10" .u64 Lib.pow10Tab)(hs:sh.size≤2000000) :
  Calls Tryz.prog 90 #[rv sh row col ra ca] w fun e w'=>e=.returned (.bool (mayR sh.data.toList row col))∧Q w w':=by
 by_cases hz:sh.size≤1000
 ·exact pmayref_any sh row col ra ca w hw ht hz
 have hl:1000<sh.data.toList.length:=by rw [len_data];omega
 have hi:=idB_long _ hl;have he:sh.data.toList.isEmpty=false:=by
  cases hh:sh.data.toList
  ·rw [hh]at hl;simp at hl
  ·rfl
 have hb:(sh.toList == [])=false:=by
  rw [toL,beq_eq_false_iff_ne];intro hh
  rw [hh]at hl;simp at hl
 have hm:mayR sh.data.toList row col=false:=by
  unfold mayR
  rw [hi,he]
  rfl
 rw [hm];have HP:=hid (fun W (q:Q w W)=>print_no sh row col ra ca _ _ _ W (hid (fun V=>mayline_any row V)) (hid (fun V=>mayline_any col V)) (hid (fun V (q':Q W V)=>by have:=id_any sh V ((hw.on q).on q') (by omega);rw [hi]at this;exact this)) (.inr (.inr ⟨hb,rfl⟩)))
 clear hw ht hi he hm hl hb hs hz;go_enter Tryz.func90,Tryz.ntmps90
 go_wp2_with (go_at_call 105;refine (HP.out _ ((Q.refl _).alloc _)).mono ?_;rintro e w1 ⟨rfl,q1⟩;have Q1:Hid (Q w w1):=hid (((Q.refl _).alloc _).trans q1);clear q1)
 go_ret
 exact ⟨rfl,Q1.out⟩
theorem pCount_any(x:Ex)(v:Value)(W:World)(hr:Rd W x v):Calls Tryz.prog 67 #[v] W fun e W'=>e=.returned (.int .i64 (min (nodes x) 201:Nat))∧Q W W':=by
 have HC:=hid (fun W1 (q:Q W W1)=>pcount_any _ x v W1 201 201 (Nat.le_refl _) rfl (by omega) (by omega) (Rd.on q _ _ hr))
 obtain ⟨k,m,t,bb,er,a1,l1,c1,a2,l2,c2,rfl⟩:=hr.shape;generalize min (nodes x) 201=d at HC ⊢;clear hr;go_enter Tryz.func67,Tryz.ntmps67
 go_wp2_with (go_at_call 87;refine (HC.out _ ((Q.refl _).alloc _)).mono ?_;rintro e w1 ⟨rfl,q1⟩;have Q1:Hid (Q W w1):=hid (((Q.refl _).alloc _).trans q1);clear q1)
 go_ret
 exact ⟨rfl,Q1.out⟩
def fitB(x:Ex):Bool:=decide (nodes x≤200)&&shl 50 x
theorem fits_any(x:Ex)(v:Value)(W:World)(hr:Rd W x v):Calls Tryz.prog 49 #[v] W fun e W'=>e=.returned (.bool (fitB x))∧Q W W':=by
 have HC:=hid (fun W1 (q:Q W W1)=>pCount_any x v W1 (Rd.on q _ _ hr))
 have HS:=hid (fun W1 (q:Q W W1)=>shallow_any 50 x v W1 50 rfl (by omega) (Rd.on q _ _ hr))
 obtain ⟨k,m,t,bb,er,a1,l1,c1,a2,l2,c2,rfl⟩:=hr.shape;clear hr;by_cases hn:nodes x≤200
 ·have HF:Hid (fitB x=shl 50 x):=by show _=_;unfold fitB;rw [decide_eq_true hn,Bool.true_and]
  have c200:((min (nodes x) 201:Nat):Int)≤200:=by omega
  generalize ((min (nodes x) 201:Nat):Int)=d at HC c200;generalize fitB x=r at HF ⊢;generalize shl 50 x=sh at HS HF;go_enter Tryz.func49,Tryz.ntmps49
  go_wp2_with (first|(go_at_call 67;refine (HC.out _ ((Q.refl _).alloc _)).mono ?_;rintro e w1 ⟨rfl,q1⟩;have Q1:Hid (Q W w1):=hid (((Q.refl _).alloc _).trans q1);have X1:=hid ((tb_new W (.int .i64 k) (.int .i64 m) (.string t) (.bool bb) (.int .i64 er) (.slice a1 l1 c1) (.slice a2 l2 c2) 26).on (p:=W.heap.size+1) (Qx.of q1) (by omega));clear q1;have n0:=X1.out.g0;have n1:=X1.out.g1;have n2:=X1.out.g2;have n3:=X1.out.g3;have n4:=X1.out.g4;have n5:=X1.out.g5;have n6:=X1.out.g6)|(go_at_call 72;refine (HS.out _ Q1.out).mono ?_;rintro e w2 ⟨rfl,q2⟩;have Q2:=hid q2;clear q2))
  go_ret
  exact ⟨ret_bool HF.out.symm,Q1.out.trans Q2.out⟩
 ·have HF:Hid (fitB x=false):=by show _=_;unfold fitB;rw [decide_eq_false hn,Bool.false_and]
  have c200:¬ ((min (nodes x) 201:Nat):Int)≤200:=by omega
  generalize ((min (nodes x) 201:Nat):Int)=d at HC c200;generalize fitB x=r at HF ⊢;go_enter Tryz.func49,Tryz.ntmps49
  go_wp2_with (go_at_call 67;refine (HC.out _ ((Q.refl _).alloc _)).mono ?_;rintro e w1 ⟨rfl,q1⟩;have Q1:Hid (Q W w1):=hid (((Q.refl _).alloc _).trans q1);clear q1)
  go_ret
  exact ⟨ret_bool HF.out.symm,Q1.out⟩
theorem Q.of_eq{a w:World}(h:w=a):Q a w:=h ▸ Q.refl _
structure Qp (P:Nat→Prop) (w w':World):Prop where
 os:w'.os=w.os
 tape:w'.tape=w.tape
 output:w'.output=w.output
 size:w.heap.size≤w'.heap.size
 block:∀ i,i<w.heap.size→¬ P i→w'.heap[i]?=w.heap[i]?
theorem Qp.refl(P:Nat→Prop)(w:World):Qp P w w:=⟨rfl,rfl,rfl,Nat.le_refl _,fun _ _ _=>rfl⟩
theorem Qp.trans{P:Nat→Prop}{a b c:World}(h:Qp P a b)(k:Qp P b c):Qp P a c:=
 ⟨k.os.trans h.os,k.tape.trans h.tape,k.output.trans h.output,Nat.le_trans h.size k.size,fun i hi hp=>(k.block i (Nat.lt_of_lt_of_le hi h.size) hp).trans (h.block i hi hp)⟩
theorem Qp.of{P:Nat→Prop}{a b:World}(h:Q a b):Qp P a b:=⟨h.os,h.tape,h.output,h.size,fun i hi _=>Q.block h hi⟩
theorem Qp.mono{P P':Nat→Prop}{a b:World}(h:Qp P a b)(hp:∀ i,i<a.heap.size→P i→P' i):Qp P' a b:=
 ⟨h.os,h.tape,h.output,h.size,fun i hi hn=>h.block i hi (fun k=>hn (hp i hi k))⟩
theorem Qp.after{P P':Nat→Prop}{a b c:World}(h:Qp P a b)(k:Qp P' b c)(hp:∀ i,i<a.heap.size→P' i→P i):Qp P a c:=
 ⟨k.os.trans h.os,k.tape.trans h.tape,k.output.trans h.output,Nat.le_trans h.size k.size,fun i hi hn=>(k.block i (Nat.lt_of_lt_of_le hi h.size) (fun e=>hn (hp i hi e))).trans (h.block i hi hn)⟩
theorem Qp.q{P:Nat→Prop}{a b:World}(h:Qp P a b)(hp:∀ i,i<a.heap.size→¬ P i):Q a b:=⟨h.os,h.tape,h.output,h.size,fun i hi=>h.block i hi (hp i hi)⟩
theorem Qp.set{P:Nat→Prop}{a w:World}(h:Qp P a w){b:Nat}(k:Nat)(v:Value)(hb:P b∨a.heap.size≤b):Qp P a (w.setCell ⟨b,k,none⟩ v):=
 ⟨h.os,h.tape,h.output,by simpa [World.setCell] using h.size,fun i hi hp=>(Below.heap_setCell _ _ _ _ (fun e=>by
  rcases hb with hb|hb
  ·exact hp (by rw [e];exact hb)
  ·simp at e;omega)).trans (h.block i hi hp)⟩
theorem Qp.cell{P:Nat→Prop}{a w:World}(h:Qp P a w){b o:Nat}(hb:b<a.heap.size)(hp:¬ P b):w.cell? ⟨b,o,none⟩=a.cell? ⟨b,o,none⟩:=
 World.cell?_of_block (h.block b hb hp)
theorem Pl.frozen{W:World}{b:Nat}(h:Pl W b)(j:Nat):W.frozen? ⟨b,j,none⟩=false:=by
 obtain ⟨c,t,h⟩:=h;simp [World.frozen?,h]
theorem Pl.blk{W W':World}{b:Nat}(h:Pl W b)(q:W'.heap[b]?=W.heap[b]?):Pl W' b:=by
 obtain ⟨c,t,h⟩:=h;exact ⟨c,t,q.trans h⟩
theorem Pl.set{W:World}{b:Nat}(h:Pl W b)(p k:Nat)(v:Value):Pl (W.setCell ⟨p,k,none⟩ v) b:=by
 by_cases e:b=p
 ·subst e
  obtain ⟨c,t,h⟩:=h;exact ⟨c.set! k v,t,by
   have hl:b<W.heap.size:=by
    rcases Nat.lt_or_ge b W.heap.size with h'|h'
    ·exact h'
    ·rw [Array.getElem?_eq_none h']at h;cases h
   simp only [World.setCell,Array.getElem?_modify,if_true,h]
   rfl⟩
 ·exact h.blk (Below.heap_setCell _ _ _ _ (fun e'=>e e'))
def OwR(W:World)(v:Value)(L:List Rf)(lo hi:Nat):Prop:=
 lo≤hi∧∃ (ao:Option Addr) (cap:Nat),v=.slice ao L.length cap∧L.length≤cap∧cap≤maxLen∧(0<L.length→∃ g,ao=some ⟨g,0,none⟩∧lo≤g∧g<hi∧Pl W g∧∀ i (h:i<L.length),Ats rf W g (0+i*5) L[i])
def Ow(W:World):Ex→Value→Nat→Nat→Prop
 |.mk k n t b e rs ks,v,lo,hi=>∃ rv kv m,v=.agg #[.int .i64 k,.int .i64 n,.string ⟨t.toArray⟩,.bool b,.int .i64 e,rv,kv]∧OwR W rv rs lo m∧m≤hi ∧
   ∃ (ao:Option Addr) (cap:Nat),kv=.slice ao ks.length cap∧ks.length≤cap∧cap≤maxLen∧(ks≠[]→∃ g m',ao=some ⟨g,0,none⟩∧m≤g∧g<m'∧Pl W g∧OwL W ks g 0 m' hi)
 where
 OwL (W:World):List Ex→Nat→Nat→Nat→Nat→Prop
 |[],_,_,lo,hi=>lo≤hi
 |x::xs,b,off,lo,hi=>∃ m,(∃ c0 c1 c2 c3 c4 c5 c6,W.cell? ⟨b,off,none⟩=some c0∧W.cell? ⟨b,off+1,none⟩=some c1∧W.cell? ⟨b,off+2,none⟩=some c2∧W.cell? ⟨b,off+3,none⟩=some c3∧W.cell? ⟨b,off+4,none⟩=some c4∧W.cell? ⟨b,off+5,none⟩=some c5∧W.cell? ⟨b,off+6,none⟩=some c6∧Ow W x (.agg #[c0,c1,c2,c3,c4,c5,c6]) lo m)∧OwL W xs b (off+7) m hi
theorem Ow.le{W:World}:∀ (x:Ex) (v:Value) (lo hi:Nat),Ow W x v lo hi→lo≤hi
 |.mk k n t b e rs ks,v,lo,hi,h=>by
  unfold Ow at h
  obtain ⟨rv,kv,m,hv,hr,hm,_⟩:=h;exact Nat.le_trans hr.1 hm
theorem Ow.OwL.le{W:World}:∀ (l:List Ex) (b off lo hi:Nat),Ow.OwL W l b off lo hi→lo≤hi
 |[],_,_,_,_,h=>by unfold Ow.OwL at h;exact h
 |x::xs,b,off,lo,hi,h=>by
  unfold Ow.OwL at h
  obtain ⟨m,⟨c0,c1,c2,c3,c4,c5,c6,g0,g1,g2,g3,g4,g5,g6,hx⟩,hr⟩:=h;exact Nat.le_trans (Ow.le x _ lo m hx) (Ow.OwL.le xs b (off+7) m hi hr)
theorem OwR.mono{W:World}{v:Value}{L:List Rf}{lo hi lo' hi':Nat}(h:OwR W v L lo hi)(h1:lo'≤lo)(h2:hi≤hi'):OwR W v L lo' hi':=by
 obtain ⟨hl,ao,cap,hv,a1,a2,a3⟩:=h;exact ⟨by omega,ao,cap,hv,a1,a2,fun hn=>by obtain ⟨g,ha,b1,b2,b3⟩:=a3 hn;exact ⟨g,ha,by omega,by omega,b3⟩⟩
theorem Ow.mono{W:World}:∀ (x:Ex) (v:Value) (lo hi lo' hi':Nat),Ow W x v lo hi→lo'≤lo→hi≤hi'→Ow W x v lo' hi'
 |.mk k n t b e rs ks,v,lo,hi,lo',hi',h,h1,h2=>by
  unfold Ow at h ⊢
  obtain ⟨rv,kv,m,hv,hr,hm,ao,cap,hk,a1,a2,a3⟩:=h;refine ⟨rv,kv,m,hv,hr.mono h1 (Nat.le_refl _),by omega,ao,cap,hk,a1,a2,fun hn=>?_⟩
  obtain ⟨g,m',ha,b1,b2,b3,b4⟩:=a3 hn;exact ⟨g,m',ha,b1,b2,b3,go ks g 0 m' hi m' hi' b4 (Nat.le_refl _) h2⟩
 where
 go {W:World}:∀ (l:List Ex) (b off lo hi lo' hi':Nat),Ow.OwL W l b off lo hi→lo'≤lo→hi≤hi'→Ow.OwL W l b off lo' hi'
 |[],_,_,_,_,_,_,h,h1,h2=>by unfold Ow.OwL at h ⊢;omega
 |x::xs,b,off,lo,hi,lo',hi',h,h1,h2=>by
  unfold Ow.OwL at h ⊢
  obtain ⟨m,⟨c0,c1,c2,c3,c4,c5,c6,g0,g1,g2,g3,g4,g5,g6,hx⟩,hr⟩:=h;exact ⟨m,⟨c0,c1,c2,c3,c4,c5,c6,g0,g1,g2,g3,g4,g5,g6,Ow.mono x _ lo m lo' m hx h1 (Nat.le_refl _)⟩,go xs b (off+7) m hi m hi' hr (Nat.le_refl _) h2⟩
theorem Ow.OwL.mono{W:World}{l:List Ex}{b off lo hi lo' hi':Nat}(h:Ow.OwL W l b off lo hi)(h1:lo'≤lo)(h2:hi≤hi'):Ow.OwL W l b off lo' hi':=Ow.mono.go 0 0 0 0 l b off lo hi lo' hi' h h1 h2
structure Bs (W W':World) (i:Nat):Prop where
 pl:Pl W i→Pl W' i
 cl:∀ j,W'.cell? ⟨i,j,none⟩=W.cell? ⟨i,j,none⟩
theorem Bs.of{W W':World}{i:Nat}(h:W'.heap[i]?=W.heap[i]?):Bs W W' i:=⟨fun p=>p.blk h,fun j=>World.cell?_of_block h⟩
theorem OwR.on{W W':World}{v:Value}{L:List Rf}{lo hi:Nat}(h:OwR W v L lo hi)(q:∀ i,lo≤i→i<hi→Bs W W' i):OwR W' v L lo hi:=by
 obtain ⟨hl,ao,cap,hv,a1,a2,a3⟩:=h;refine ⟨hl,ao,cap,hv,a1,a2,fun hn=>?_⟩
 obtain ⟨g,ha,b1,b2,b3,b4⟩:=a3 hn;exact ⟨g,ha,b1,b2,(q g b1 b2).pl b3,fun i hi j u hu=>((q g b1 b2).cl _).trans (b4 i hi j u hu)⟩
theorem Ow.on{W W':World}:∀ (x:Ex) (v:Value) (lo hi:Nat),(∀ i,lo≤i→i<hi→Bs W W' i)→Ow W x v lo hi→Ow W' x v lo hi
 |.mk k n t b e rs ks,v,lo,hi,q,h=>by
  unfold Ow at h ⊢
  obtain ⟨rv,kv,m,hv,hr,hm,ao,cap,hk,a1,a2,a3⟩:=h;refine ⟨rv,kv,m,hv,hr.on (fun i p1 p2=>q i p1 (by omega)),hm,ao,cap,hk,a1,a2,fun hn=>?_⟩
  obtain ⟨g,m',ha,b1,b2,b3,b4⟩:=a3 hn;have hl:=Ow.OwL.le _ _ _ _ _ b4;have h0:=hr.1;exact ⟨g,m',ha,b1,b2,(q g (by omega) (by omega)).pl b3,go ks g 0 m' hi (fun i p1 p2=>q i (by omega) p2) (fun j _ _=>(q g (by omega) (by omega)).cl j) b4⟩
 where
 go {W W':World}:∀ (l:List Ex) (b off lo hi:Nat),(∀ i,lo≤i→i<hi→Bs W W' i)→(∀ j,off≤j→j<off+7*l.length→W'.cell? ⟨b,j,none⟩=W.cell? ⟨b,j,none⟩)→Ow.OwL W l b off lo hi→Ow.OwL W' l b off lo hi
 |[],_,_,_,_,_,_,h=>by unfold Ow.OwL at h ⊢;exact h
 |x::xs,b,off,lo,hi,q,c,h=>by
  unfold Ow.OwL at h ⊢
  obtain ⟨m,⟨c0,c1,c2,c3,c4,c5,c6,g0,g1,g2,g3,g4,g5,g6,hx⟩,hr⟩:=h;have h1:=Ow.le _ _ _ _ hx;have h2:=Ow.OwL.le _ _ _ _ _ hr;have hln:(x::xs).length=xs.length+1:=rfl
  rw [hln]at c;exact ⟨m,⟨c0,c1,c2,c3,c4,c5,c6,(c _ (by omega) (by omega)).trans g0,(c _ (by omega) (by omega)).trans g1,(c _ (by omega) (by omega)).trans g2,(c _ (by omega) (by omega)).trans g3,(c _ (by omega) (by omega)).trans g4,(c _ (by omega) (by omega)).trans g5,(c _ (by omega) (by omega)).trans g6,Ow.on x _ lo m (fun i p1 p2=>q i p1 (by omega)) hx⟩,go xs b (off+7) m hi (fun i p1 p2=>q i (by omega) p2) (fun j p1 p2=>c j (by omega) (by omega)) hr⟩
theorem Ow.OwL.on{W W':World}{l:List Ex}{b off lo hi:Nat}(h:Ow.OwL W l b off lo hi)(q:∀ i,lo≤i→i<hi→Bs W W' i)(c:∀ j,off≤j→j<off+7*l.length→W'.cell? ⟨b,j,none⟩=W.cell? ⟨b,j,none⟩):Ow.OwL W' l b off lo hi:=Ow.on.go l b off lo hi q c h
theorem OwR.slg{W:World}{v:Value}{L:List Rf}{lo hi:Nat}{g:Nat→Prop}(h:OwR W v L lo hi)(hg:∀ i,lo≤i→i<hi→g i):Slg g W v L:=by
 obtain ⟨hl,ao,cap,hv,a1,a2,a3⟩:=h;exact ⟨ao,cap,hv,a1,a2,fun hn=>by obtain ⟨b,ha,b1,b2,b3,b4⟩:=a3 hn;exact ⟨b,0,ha,hg b b1 b2,b4⟩⟩
theorem Ow.rdg{W:World}{g:Nat→Prop}:∀ (x:Ex) (v:Value) (lo hi:Nat),(∀ i,lo≤i→i<hi→g i)→Ow W x v lo hi→Rdg g W x v
 |.mk k n t b e rs ks,v,lo,hi,hg,h=>by
  unfold Ow at h
  unfold Rdg
  obtain ⟨rv,kv,m,hv,hr,hm,ao,cap,hk,a1,a2,a3⟩:=h;refine ⟨rv,kv,hv,hr.slg (fun i p1 p2=>hg i p1 (by omega)),ao,cap,hk,a1,a2,fun hn=>?_⟩
  obtain ⟨b',m',ha,b1,b2,b3,b4⟩:=a3 hn;have hl:=Ow.OwL.le _ _ _ _ _ b4;have h0:=hr.1;exact ⟨b',0,ha,hg b' (by omega) (by omega),b3,go ks b' 0 m' hi (fun i p1 p2=>hg i (by omega) p2) b4⟩
 where
 go {W:World} {g:Nat→Prop}:∀ (l:List Ex) (b off lo hi:Nat),(∀ i,lo≤i→i<hi→g i)→Ow.OwL W l b off lo hi→Rdg.RdLg g W l b off
 |[],_,_,_,_,_,_=>by unfold Rdg.RdLg;trivial
 |x::xs,b,off,lo,hi,hg,h=>by
  unfold Ow.OwL at h
  unfold Rdg.RdLg
  obtain ⟨m,⟨c0,c1,c2,c3,c4,c5,c6,g0,g1,g2,g3,g4,g5,g6,hx⟩,hr⟩:=h;have h1:=Ow.le _ _ _ _ hx;have h2:=Ow.OwL.le _ _ _ _ _ hr;exact ⟨⟨c0,c1,c2,c3,c4,c5,c6,g0,g1,g2,g3,g4,g5,g6,Ow.rdg x _ lo m (fun i p1 p2=>hg i p1 (by omega)) hx⟩,go xs b (off+7) m hi (fun i p1 p2=>hg i (by omega) p2) hr⟩
theorem info23r:(Tryz.prog.info? 40).map (fun i=>(i.zero,i.size,i.bytes))=some (some (.agg #[.string ⟨#[]⟩,.int .i64 0,.int .i64 0,.bool false,.bool false]),5,40):=by kernel_rfl
theorem info26r:(Tryz.prog.info? 26).map (fun i=>(i.zero,i.size,i.bytes))=some (some (.agg #[.int .i64 0,.int .i64 0,.string ⟨#[]⟩,.bool false,.int .i64 0,.slice none 0 0,.slice none 0 0]),7,96):=by kernel_rfl
theorem run_copy_k{P:Program}(w:World)(dT sT ty elem:TypeId)(g n dCap:Nat)(a:Addr)(sCap k:Nat)(i:TypeInfo)(cur:Array Value)(t:TypeId)(cs:List Value)
  (hu:P.underlying dT=some (.slice elem)) (hi:P.info? elem=some i) (hs:i.size=k)
  (hg:w.heap[g]?=some (.cells cur t (0,0))) (hn:cs.length=n*k)
  (hsrc:∀ j v,cs[j]?=some v→w.cell? (a.add j)=some v) (hfit:cs.length=cur.size) (h1:∀ v∈cs,v.oneCell'=true) :
  (Builtin.copy_ #[dT,sT] ty #[.slice (some ⟨g,0,none⟩) n dCap,.slice (some a) n sCap]).run P w =
   .ok (goInt n) (w.setRow g cs.toArray):=by
 have hf:=run_firstCells_some (P:=P) w k n a n sCap cs hn hsrc;have hst:=run_storeCells_at P g 0 t cs 0 cur w hg (by simp;omega) h1
 have e:(cur.toList.take (0+0)++cs++cur.toList.drop (0+0+cs.length)).toArray=cs.toArray:=by
  rw [List.drop_of_length_le (by simp;omega)]
  simp
 rw [e]at hst;simp [Builtin.copy_,run_underlying hu,Builtin.lenOf,sizeOf,typeInfo,hi,hs,hf,hst]
theorem wpList_copy_r{P:Program}(w:World){ops:Array Oper}{rest:List Oper}{o:Oper}{a:Act}{Q:Exit→Act→World→Prop}(hgd:o.guard=none)(d s:Operand)(t t':TypeId)
  (ho:o.op=.call { callee:=.builtin .copy,args:=#[d,s],argTypes:=#[t,t'] }) (v u:Value) (hd:a.eval d=v) (hs:a.eval s=u) {v':Value} {w':World}
  (hr:(Builtin.copy_ #[t,t'] o.type #[v,u]).run P w=.ok v' w') (h:wpList P ops Q rest (a.put o.dst v') w'):wpList P ops Q (o::rest) a w:=
 wpList_plain hgd fun _ hK=>by
  unfold Oper.wp execOp
  simp only [ho,resolve,invoke,builtin,Sem.run_bind,Sem.run_pure,Result.andThen_ok,List.map_toArray,List.map_cons,List.map_nil,hd,hs,hr]
  exact hK _ _ h
theorem own_cur{w:World}{base:Nat}{e:TypeId}{k g n cap:Nat}{xs:List Value}(h:w.ownsRow base e k (.slice (some ⟨g,0,none⟩) n cap) n xs):∃ cur,w.heap[g]?=some (.cells cur e (0,0))∧cur.size=cap*k:=by
 rcases h.2 with ⟨h,_⟩|⟨g',cap',cur,hv,_,hg,_,_,hs,_⟩
 ·cases h
 ·cases hv
  exact ⟨cur,hg,hs⟩
structure Anw (W W':World) (e:TypeId) (n:Nat) (cs:List Value):Prop where
 q:Q W W'
 lt:W.heap.size<W'.heap.size
 hp:W'.heap[W.heap.size]?=some (.cells cs.toArray e (0,0))
theorem anew70_nil(n cap:Nat)(W:World):Calls Tryz.prog 70 #[.slice none n cap] W fun e W'=>e=.returned (.slice none 0 0)∧W'=W:=by
 have hb:(binOp BinOp.eql 23 (.slice none n cap) (.slice none 0 0)).run Tryz.prog W=.ok (.bool true) W:=by kernel_rfl
 go_enter Tryz.func70,Tryz.ntmps70
 go_wp2
 go_ret
 exact ⟨rfl,rfl⟩
theorem anew70_any(a:Addr)(n cap:Nat)(cs:List Value)(W:World)(hn:n≤1000)(hl:cs.length=n*5)(hsrc:∀ j v,cs[j]?=some v→W.cell? (a.add j)=some v)(h1:∀ v∈cs,v.oneCell'=true) :
  Calls Tryz.prog 70 #[.slice (some a) n cap] W fun e W'=>e=.returned (.slice (some ⟨W.heap.size,0,none⟩) n n)∧Anw W W' 40 n cs:=by
 obtain ⟨i0,hi,hz0,hz1,hz2⟩:=inf_of info23r;have hb:(binOp BinOp.eql 23 (.slice (some a) n cap) (.slice none 0 0)).run Tryz.prog W=.ok (.bool false) W:=by kernel_rfl
 have HC:=hid hsrc;have H1:=hid h1;clear hsrc h1;go_enter Tryz.func70,Tryz.ntmps70
 go_wp2_with (first
  |(at_make;refine wpList_make_full _ rfl _ _ 23 rfl W.heap.size 40 i0 (.agg #[.string ⟨#[]⟩,.int .i64 0,.int .i64 0,.bool false,.bool false]) 5 Tryz.underlying23 hi hz0 hz1 .i64 .i64 _ _ n rfl rfl (by first|rfl|omega) (by first|rfl|omega) (by rw [hz2];omega) (by unfold maxLen;omega) (Nat.le_refl _) ?_;intro w1 o1 g1;obtain ⟨cur,hg,hcs⟩:=own_cur o1;have hr:=run_copy_k (P:=Tryz.prog) w1 23 23 3 40 W.heap.size n n a cap 5 i0 cur 40 cs Tryz.underlying23 hi hz1 hg hl (fun j v h=>g1.cell (HC.out j v h) (by simp)) (by omega) H1.out;have G1:=hid g1;have HG:=hid hg;clear g1 o1 hg)
  |(at_builtin;refine wpList_copy_r _ rfl _ _ 23 23 rfl _ _ rfl rfl hr ?_))
 go_ret
 refine ⟨rfl,?_,?_,?_⟩
 ·exact ⟨G1.out.os,G1.out.tape,G1.out.output,by simpa [World.setRow] using G1.out.size,fun i hi=>(setRow_other w1 _ i _ (by omega)).trans (G1.out.block i hi (by simp))⟩
 ·have:=(Array.getElem?_eq_some_iff.1 HG.out).1
  simpa [World.setRow] using this
 ·exact setRow_heap w1 _ _ _ _ _ HG.out
theorem anew71_nil(n cap:Nat)(W:World):Calls Tryz.prog 71 #[.slice none n cap] W fun e W'=>e=.returned (.slice none 0 0)∧W'=W:=by
 have hb:(binOp BinOp.eql 24 (.slice none n cap) (.slice none 0 0)).run Tryz.prog W=.ok (.bool true) W:=by kernel_rfl
 go_enter Tryz.func71,Tryz.ntmps71
 go_wp2
 go_ret
 exact ⟨rfl,rfl⟩
theorem anew71_any(a:Addr)(n cap:Nat)(cs:List Value)(W:World)(hn:n≤1000)(hl:cs.length=n*7)(hsrc:∀ j v,cs[j]?=some v→W.cell? (a.add j)=some v)(h1:∀ v∈cs,v.oneCell'=true) :
  Calls Tryz.prog 71 #[.slice (some a) n cap] W fun e W'=>e=.returned (.slice (some ⟨W.heap.size,0,none⟩) n n)∧Anw W W' 26 n cs:=by
 obtain ⟨i0,hi,hz0,hz1,hz2⟩:=inf_of info26r;have hb:(binOp BinOp.eql 24 (.slice (some a) n cap) (.slice none 0 0)).run Tryz.prog W=.ok (.bool false) W:=by kernel_rfl
 have HC:=hid hsrc;have H1:=hid h1;clear hsrc h1;go_enter Tryz.func71,Tryz.ntmps71
 go_wp2_with (first
  |(at_make;refine wpList_make_full _ rfl _ _ 24 rfl W.heap.size 26 i0 (.agg #[.int .i64 0,.int .i64 0,.string ⟨#[]⟩,.bool false,.int .i64 0,.slice none 0 0,.slice none 0 0]) 7 Tryz.underlying24 hi hz0 hz1 .i64 .i64 _ _ n rfl rfl (by first|rfl|omega) (by first|rfl|omega) (by rw [hz2];omega) (by unfold maxLen;omega) (Nat.le_refl _) ?_;intro w1 o1 g1;obtain ⟨cur,hg,hcs⟩:=own_cur o1;have hr:=run_copy_k (P:=Tryz.prog) w1 24 24 3 26 W.heap.size n n a cap 7 i0 cur 26 cs Tryz.underlying24 hi hz1 hg hl (fun j v h=>g1.cell (HC.out j v h) (by simp)) (by omega) H1.out;have G1:=hid g1;have HG:=hid hg;clear g1 o1 hg)
  |(at_builtin;refine wpList_copy_r _ rfl _ _ 24 24 rfl _ _ rfl rfl hr ?_))
 go_ret
 refine ⟨rfl,?_,?_,?_⟩
 ·exact ⟨G1.out.os,G1.out.tape,G1.out.output,by simpa [World.setRow] using G1.out.size,fun i hi=>(setRow_other w1 _ i _ (by omega)).trans (G1.out.block i hi (by simp))⟩
 ·have:=(Array.getElem?_eq_some_iff.1 HG.out).1
  simpa [World.setRow] using this
 ·exact setRow_heap w1 _ _ _ _ _ HG.out
theorem flat_one'{α:Type}{enc:α→List Value}{L:List α}(h:∀ x,∀ u∈enc x,u.oneCell'=true):∀ u∈flat enc L,u.oneCell'=true:=by
 intro u hu
 unfold flat at hu
 rw [List.mem_flatMap]at hu;obtain ⟨x,_,hx⟩:=hu;exact h x u hx
theorem rf_one(x:Rf):∀ u∈rf x,u.oneCell'=true:=by
 intro u hu
 simp [rf]at hu
 rcases hu with rfl|rfl|rfl|rfl|rfl <;> rfl
theorem add_lit(b o j:Nat):(⟨b,o,none⟩:Addr).add j=⟨b,o+j,none⟩:=by unfold Addr.add;split <;> simp_all
structure Rl (W:World) (g:Nat) (L:List Rf):Prop where
 pl:Pl W g
 at_:∀ i (h:i<L.length),Ats rf W g (0+i*5) L[i]
theorem Rl.blk{W W':World}{g:Nat}{L:List Rf}(h:Rl W g L)(q:W'.heap[g]?=W.heap[g]?):Rl W' g L:=⟨h.pl.blk q,fun i hi=>(h.at_ i hi).blk q⟩
theorem Rl.on{W W':World}{g:Nat}{L:List Rf}(h:Rl W g L)(q:Q W W'):Rl W' g L:=h.blk (Q.block q h.pl.lt)
theorem flat_cell{α:Type}{enc:α→List Value}{k:Nat}(hk:∀ x,(enc x).length=k){W:World}{b off:Nat}{L:List α}(hp:0<k)(h:∀ i (hi:i<L.length),Ats enc W b (off+i*k) L[i]):∀ j v,(flat enc L)[j]?=some v→W.cell? ((⟨b,off,none⟩:Addr).add j)=some v:=by
 intro j v hj
 have hl:j<(flat enc L).length:=(List.getElem?_eq_some_iff.1 hj).1
 rw [flat_len enc hk]at hl;have hi:j / k<L.length:=Nat.div_lt_of_lt_mul (by rw [Nat.mul_comm];exact hl)
 have hm:j % k<k:=Nat.mod_lt _ hp
 have e:j / k*k+j % k=j:=by rw [Nat.mul_comm];exact Nat.div_add_mod j k
 rw [←e,flat_at enc hk L (j / k) hi (j % k) hm]at hj;rw [add_lit,←e,←Nat.add_assoc];exact h _ hi _ _ hj
theorem Rl.made{W:World}{g:Nat}{L:List Rf}{t:TypeId}(h:W.heap[g]?=some (.cells (flat rf L).toArray t (0,0))):Rl W g L:=by
 refine ⟨⟨_,_,h⟩,fun i hi j u hu=>?_⟩
 have hj:j<5:=by rw [←rf_len L[i]];exact (List.getElem?_eq_some_iff.1 hu).1
 rw [cell_of_row W g _ _ t (0,0) h];have:=flat_at rf (k:=5) rf_len L i hi j hj
 rw [Nat.zero_add]
 simpa [hu] using this
theorem Rl.set0{W:World}{g:Nat}{L:List Rf}(h:Rl W g L)(i:Nat)(hi:i<L.length):Rl (W.setCell ⟨g,i*5,none⟩ (.string ⟨L[i].1.toArray⟩)) g L:=by
 refine ⟨h.pl.set _ _ _,fun k hk j u hu=>?_⟩
 by_cases e:0+k*5+j=i*5
 ·have hj:j<5:=by rw [←rf_len L[k]];exact (List.getElem?_eq_some_iff.1 hu).1
  obtain rfl:j=0:=by omega
  obtain rfl:k=i:=by omega
  have:=h.at_ k hk 0 u hu
  rw [e]at this ⊢;rw [World.cell?_setCell_same _ _ _ this];exact hu
 ·rw [World.cell?_setCell_other _ _ _ _ (by intro h;injection h with _ h;omega)]
  exact h.at_ k hk j u hu
theorem Rl.owr{W:World}{g lo hi n:Nat}{L:List Rf}(h:Rl W g L)(h1:lo≤g)(h2:g<hi)(hm:L.length≤maxLen)(e:n=L.length):OwR W (.slice (some ⟨g,0,none⟩) n n) L lo hi:=by
 subst e;exact ⟨by omega,_,_,rfl,Nat.le_refl _,hm,fun _=>⟨g,rfl,h1,h2,h.pl,h.at_⟩⟩
theorem copiedRefs_nil(cap:Nat)(W:World):Calls Tryz.prog 47 #[.slice none 0 cap] W fun e W'=>e=.returned (.slice none 0 0)∧Q W W':=by
 have HA:=hid (anew70_nil 0 cap W);go_enter Tryz.func47,Tryz.ntmps47
 go_wp2_with (go_at_call 70;refine HA.out.mono ?_;rintro e w1 ⟨rfl,h9⟩;have Q1:=hid (Q.of_eq h9);clear h9)
 go_loopw [9,4] (fun x _ W'=>x=.int .i64 0∧Hid (Q W W')) (fun x _ _=>0)
 case atStart=>exact ⟨rfl,Q1⟩
 case round=>
  obtain ⟨rfl,hQ⟩:=hrel;go_wp2_with fail
  go_ret
  exact ⟨rfl,hQ.out⟩
theorem copiedRefs_any(rs:List Rf)(v:Value)(W:World)(h:Sl rf 5 W v rs)(hn:rs.length≤1000)(hs:∀ r∈rs,r.1.length≤2000000) :
  Calls Tryz.prog 47 #[v] W fun e W'=>∃ v',e=.returned v'∧OwR W' v' rs W.heap.size W'.heap.size∧Q W W':=by
 obtain ⟨ao,cap,rfl,h1,h2,h3⟩:=h;cases ao with
 |none=>
  have e0:rs.length=0:=by
   rcases Nat.eq_zero_or_pos rs.length with e|e
   ·exact e
   ·obtain ⟨b,off,ha,_⟩:=h3 e
    cases ha
  rw [e0];refine (copiedRefs_nil cap W).mono ?_
  rintro e W' ⟨rfl,q⟩
  exact ⟨_,rfl,⟨q.size,none,0,by rw [e0],by rw [e0];exact Nat.le_refl _,Nat.zero_le _,fun h=>absurd h (by rw [e0];simp)⟩,q⟩
 |some a=>
  have HA:=hid (anew70_any a rs.length cap (flat rf rs) W hn (flat_len rf rf_len rs) (fun j v hj=>by
   have hl:0<rs.length:=by
    rcases Nat.eq_zero_or_pos rs.length with e|e
    ·rw [List.eq_nil_of_length_eq_zero e]at hj
     simp [flat]at hj
    ·exact e
   obtain ⟨b,off,ha,hc⟩:=h3 hl;cases ha
   exact flat_cell (enc:=rf) rf_len (by omega) hc j v hj) (flat_one' rf_one))
  have HS:=hid hs;have hroom:rs.length≤9223372036854775807:=by omega
  clear h3 hs;go_enter Tryz.func47,Tryz.ntmps47
  go_wp2_with (go_at_call 70;refine HA.out.mono ?_;rintro e w1 ⟨rfl,q1,l1,p1⟩;have Q1:=hid q1;have L1:=hid l1;have R1:=hid (Rl.made p1);clear q1 l1 p1)
  go_loopw [9,4] (fun x _ W'=>∃ (i:Nat),i≤rs.length∧x=.int .i64 (i:Int)∧Hid (Q W W')∧Hid (Rl W' W.heap.size rs)) (fun x _ _=>rs.length-(intOf x).toNat)
  case atStart=>exact ⟨0,Nat.zero_le _,rfl,Q1,R1⟩
  case round=>
   obtain ⟨i,hi,rfl,hQ,hR⟩:=hrel;by_cases hlt:i<rs.length
   ·have g0:wr.cell? ⟨W.heap.size,i*5,none⟩=some (.string ⟨rs[i].1.toArray⟩):=by have:=hR.out.at_ i hlt 0 _ rfl;simpa using this
    have HC:=hid (clone_any ⟨rs[i].1.toArray⟩ wr (by have:=HS.out _ (List.getElem_mem hlt);rw [size_mk];omega))
    go_wp2_with (go_at_call 46;refine HC.out.mono ?_;rintro e9 w9 ⟨rfl,q9⟩;have R9:=hid (hR.out.on q9);have Q9:=hid (hQ.out.trans q9);clear q9;have f9:=R9.out.pl.frozen (i*5);have g9:w9.cell? ⟨W.heap.size,i*5,none⟩=some (.string ⟨rs[i].1.toArray⟩):=by (have:=R9.out.at_ i hlt 0 _ rfl;simpa using this))
    go_roundw
    case rel=>exact ⟨i+1,by omega,by go_num,hid (Q9.out.setCell (Nat.le_refl _) _),hid (R9.out.set0 i hlt)⟩
    case measure=>simp [intOf];omega
   ·go_wp2_with fail
    go_ret
    exact ⟨_,rfl,hR.out.owr (Nat.le_refl _) hR.out.pl.lt (by unfold maxLen;omega) rfl,hQ.out⟩
theorem fits_apart(x:Ex)(r:Nat)(c0 c1 c2 c3 c4 c5 c6:Value)(W:World)(hk:Kid W x r 0 c0 c1 c2 c3 c4 c5 c6)(hn:nodes x≤200) :
  Calls Tryz.prog 43 #[.slice (some ⟨r,0,none⟩) 1 1] W fun e W'=>e=.returned (.bool true)∧Q W W':=by
 have HC:=hid (pCount_any x _ W hk.rd);have HN:=hid hn;obtain ⟨c,hc⟩:∃ c,min (nodes x) 201=c:=⟨_,rfl⟩;rw [hc]at HC;have hle:(c:Int)≤200:=by omega
 obtain ⟨g0,g1,g2,g3,g4,g5,g6,_⟩:=hk;clear hc hn;go_enter Tryz.func43,Tryz.ntmps43
 go_wp2_with (go_at_call 67;refine HC.out.mono ?_;rintro e w1 ⟨rfl,q1⟩;have Q1:=hid q1;clear q1)
 go_ret
 exact ⟨rfl,Q1.out⟩
theorem of_nil(p n cap:Nat)(W:World)(hp:W.cell? ⟨p,0,none⟩=some (.bool true)) :
  Calls Tryz.prog 48 #[.pointer (some ⟨p,0,none⟩),.slice none n cap] W fun e W'=>e=.returned (.tuple #[.slice none 0 0,.bool false])∧Q W W':=by
 have HA:=hid (anew71_nil n cap W);go_enter Tryz.func48,Tryz.ntmps48
 go_wp2_with (go_at_call 71;refine HA.out.mono ?_;rintro e w1 ⟨rfl,h9⟩;have Q1:=hid (Q.of_eq h9);clear h9)
 go_ret2
 exact ⟨rfl,Q1.out⟩
theorem of_any(p:Nat)(a:Addr)(n cap:Nat)(cs:List Value)(W:World)(hp:W.cell? ⟨p,0,none⟩=some (.bool true))(hn:n≤1000)(hl:cs.length=n*7)(hsrc:∀ j v,cs[j]?=some v→W.cell? (a.add j)=some v)(h1:∀ v∈cs,v.oneCell'=true) :
  Calls Tryz.prog 48 #[.pointer (some ⟨p,0,none⟩),.slice (some a) n cap] W fun e W'=>e=.returned (.tuple #[.slice (some ⟨W.heap.size,0,none⟩) n n,.bool false])∧Anw W W' 26 n cs:=by
 have HA:=hid (anew71_any a n cap cs W hn hl hsrc h1);clear hl hsrc h1;go_enter Tryz.func48,Tryz.ntmps48
 go_wp2_with (go_at_call 71;refine HA.out.mono ?_;rintro e w1 ⟨rfl,a1⟩;have A1:=hid a1;clear a1)
 go_ret2
 exact ⟨rfl,A1.out⟩
theorem bmk(s:ByteArray):(⟨s.data.toList.toArray⟩:ByteArray)=s:=(bytes_eq rfl).symm
def orT(s t:List UInt8):List UInt8:=if s=[] then t else s
theorem or_any(b:Nat)(s t:ByteArray)(W:World)(h0:W.cell? ⟨b,0,none⟩=some (.string s))(h1:W.cell? ⟨b,1,none⟩=some (.string t)) :
  Calls Tryz.prog 52 #[.slice (some ⟨b,0,none⟩) 2 2] W fun e W'=>e=.returned (.string ⟨(orT s.data.toList t.data.toList).toArray⟩)∧W'=W:=by
 have es:=hid (toL s);have et:=hid (toL t);go_enter Tryz.func52,Tryz.ntmps52
 go_wp2
 go_loopw [8,5] (fun x _ W'=>∃ i:Nat,i≤2∧x=.int .i64 (i:Int)∧W'=W∧Hid (1≤i→s.data.toList=[])∧Hid (2≤i→t.data.toList=[])) (fun x _ _=>2-(intOf x).toNat)
 case atStart=>exact ⟨0,by omega,rfl,rfl,hid (fun h=>by omega),hid (fun h=>by omega)⟩
 case round=>
  obtain ⟨i,hi,rfl,rfl,h2,h3⟩:=hrel;obtain rfl|rfl|rfl:i=0∨i=1∨i=2:=by omega
  ·by_cases hs:s.data.toList=[]
   ·have f0:(s.toList == [])=true:=by rw [es.out,hs];rfl
    have HS:=hid hs;clear hs es;go_wp2_with fail
    go_roundw
    case rel=>exact ⟨1,by omega,by go_num,by first|rfl|trivial,hid (fun _=>HS.out),hid (fun h=>by omega)⟩
    case measure=>simp [intOf]
   ·have f0:(s.toList == [])=false:=by rw [es.out,beq_eq_false_iff_ne];exact hs
    have HR:Hid (orT s.data.toList t.data.toList=s.data.toList):=hid (by unfold orT;rw [if_neg hs])
    clear hs es et;go_wp2_with fail
    go_ret
    exact ⟨ret_str (by rw [HR.out,bmk]),rfl⟩
  ·have HR:Hid (orT s.data.toList t.data.toList=t.data.toList):=hid (by unfold orT;rw [if_pos (h2.out (by omega))])
   by_cases ht:t.data.toList=[]
   ·have f1:(t.toList == [])=true:=by rw [et.out,ht];rfl
    have HT:=hid ht;clear ht es et;go_wp2_with fail
    go_roundw
    case rel=>exact ⟨2,by omega,by go_num,by first|rfl|trivial,hid (fun _=>h2.out (by omega)),hid (fun h=>HT.out)⟩
    case measure=>simp [intOf]
   ·have f1:(t.toList == [])=false:=by rw [et.out,beq_eq_false_iff_ne];exact ht
    clear ht es et;go_wp2_with fail
    go_ret
    exact ⟨ret_str (by rw [HR.out,bmk]),rfl⟩
  ·have HR:Hid (orT s.data.toList t.data.toList=[]):=hid (by unfold orT;rw [if_pos (h2.out (by omega))];exact h3.out (by omega))
   clear es et;go_wp2_with fail
   go_ret
   exact ⟨ret_str (by rw [HR.out]),rfl⟩
abbrev Pk:=Nat × Nat × Nat
abbrev S3:=Int × Bool × Bool
def pkV(k:Pk):Value:=.agg #[.pointer (some ⟨k.1,k.2.1,none⟩),.int .i64 (k.2.2:Int)]
def s3V(s:S3):Value:=.agg #[.int .i64 s.1,.bool s.2.1,.bool s.2.2]
theorem info26s:∃ j,Tryz.prog.info? 26=some j∧j.size≠0:=by
 cases h:Tryz.prog.info? 26 with
 |none=>
  have:(Tryz.prog.info? 26).isSome=true:=by kernel_rfl
  rw [h]at this;cases this
 |some j=>
  refine ⟨j,rfl,?_⟩
  have:((Tryz.prog.info? 26).map (fun i=>i.size))=some 7:=by kernel_rfl
  rw [h]at this;simp at this
  omega
theorem run_ptr(W:World)(d:Nat)(a b:Addr)(ha:Pl W a.block)(hb:Pl W b.block):(Op.equalIn (d+1) 53 (.pointer (some a)) (.pointer (some b))).run Tryz.prog W=.ok (decide (a=b)) W:=by
 obtain ⟨j,hj,hs⟩:=info26s;obtain ⟨ca,ta,ha⟩:=ha;obtain ⟨cb,tb,hb⟩:=hb;have hu:Tryz.prog.underlying 53=some (.pointer 26):=Tryz.underlying53
 by_cases h:a=b
 ·subst h
  simp [Op.equalIn,run_underlying hu,sizeOf,typeInfo,hj,hs,run_sameAddr_same]
 ·simp [Op.equalIn,run_underlying hu,sizeOf,typeInfo,hj,hs,run_sameAddr_other W h ha hb,h]
theorem pk_eq(W:World)(k k':Pk)(h:Pl W k.1)(h':Pl W k'.1):(Op.equal 106 (pkV k) (pkV k')).run Tryz.prog W=.ok (decide (k=k')) W:=by
 obtain ⟨b1,o1,n⟩:=k;obtain ⟨c1,p1,m⟩:=k';have e1:(Op.equalIn 9999 53 (.pointer (some ⟨b1,o1,none⟩)) (.pointer (some ⟨c1,p1,none⟩))).run Tryz.prog W=.ok (decide (b1=c1∧o1=p1)) W:=by
  have:=run_ptr W 9998 ⟨b1,o1,none⟩ ⟨c1,p1,none⟩ h h'
  simpa using this
 have e3:(Op.equalIn 9999 3 (.int .i64 (n:Int)) (.int .i64 (m:Int))).run Tryz.prog W=.ok ((n:Int) == (m:Int)) W:=run_equalIn_int (P:=Tryz.prog) W 9998 3 .i64 .i64 (n:Int) (m:Int) Tryz.underlying3
 have hf:(Tryz.prog.fieldsOf 106).toList.map (fun f=>(f.name == "_",f.type,f.offset))=[(false,53,0),(false,3,1)]:=by kernel_rfl
 have hu:Tryz.prog.underlying 106=some (.struct (Tryz.prog.fieldsOf 106)):=by kernel_rfl
 have hp:Tryz.prog.stoodInHeld 106=false:=by kernel_rfl
 unfold Op.equal Op.maxDepth pkV
 rw [run_equalIn_struct W 9999 106 _ _ hu hp];have q1:∀ x y:Value,(part 53 #[x,y] 0).run Tryz.prog W=.ok x W:=fun _ _=>by kernel_rfl
 have q3:∀ x y:Value,(part 3 #[x,y] 1).run Tryz.prog W=.ok y W:=fun _ _=>by kernel_rfl
 generalize (Tryz.prog.fieldsOf 106).toList=fs at hf ⊢;obtain ⟨f1,r1,rfl,h1,hf⟩:=List.map_eq_cons_iff.1 hf;obtain ⟨f3,r3,rfl,h3,hf⟩:=List.map_eq_cons_iff.1 hf;obtain rfl:=List.map_eq_nil_iff.1 hf;simp only [Prod.mk.injEq,beq_eq_false_iff_ne,ne_eq]at h1 h3
 obtain ⟨n1,t1,o1'⟩:=h1;obtain ⟨n3,t3,o3'⟩:=h3;simp only [Op.eqFields,ne_eq,n1,n3,not_false_eq_true,if_true,t1,t3,o1',o3',Sem.run_bind,Sem.run_ite,Sem.run_pure,q1,q3,e1,e3,Result.andThen_ok]
 by_cases g1:b1=c1∧o1=p1
 ·by_cases g3:n=m
  ·simp [g1,g3]
  ·have:((n:Int) == (m:Int))=false:=by rw [beq_eq_false_iff_ne];omega
   simp [g1,g3,this]
 ·have:¬ (b1=c1∧o1=p1∧n=m):=fun h=>g1 ⟨h.1,h.2.1⟩
  simp [g1,this]
def getS:List (Pk × S3)→Pk→Option S3
 |[],_=>none
 |(k',s)::es,k=>if k=k' then some s else getS es k
def putS:List (Pk × S3)→Pk→S3→List (Pk × S3)
 |[],k,s=>[(k,s)]
 |(k',s')::es,k,s=>if k=k' then (k',s)::es else (k',s')::putS es k s
theorem get_put(es:List (Pk × S3))(k k':Pk)(s:S3):getS (putS es k s) k'=if k'=k then some s else getS es k':=by
 induction es with
 |nil=>
  rw [putS,getS,getS]
  rfl
 |cons e es ih=>
  obtain ⟨k0,s0⟩:=e;rw [putS]
  split
  ·rename_i h
   subst h;rw [getS,getS]
   split <;> rfl
  ·rename_i h
   rw [getS,getS,ih];by_cases h1:k'=k0
   ·rw [if_pos h1,if_pos h1,if_neg (fun e=>h (by rw [←e,h1]))]
   ·rw [if_neg h1,if_neg h1]
theorem put_keys{es:List (Pk × S3)}{k:Pk}{s:S3}{P:Pk→Prop}(h:∀ e∈es,P e.1)(hk:P k):∀ e∈putS es k s,P e.1:=by
 induction es with
 |nil=>intro e he;rw [putS]at he;simp at he;subst he;exact hk
 |cons x es ih=>
  obtain ⟨k0,s0⟩:=x;intro e he
  rw [putS]at he
  split at he
  ·rcases List.mem_cons.1 he with rfl|he
   ·exact h (k0,s0) (List.mem_cons_self ..)
   ·exact h e (List.mem_cons_of_mem _ he)
  ·rcases List.mem_cons.1 he with rfl|he
   ·exact h (k0,s0) (List.mem_cons_self ..)
   ·exact ih (fun e he=>h e (List.mem_cons_of_mem _ he)) e he
def MapS(W:World)(b:Nat)(es:List (Pk × S3)):Prop:=∃ ms clock,W.heap[b]?=some (.map ms clock)∧ms.toList.map (fun e=>(e.key,e.val))=es.map (fun e=>(pkV e.1,s3V e.2))
theorem find_pk (W : World) (k : Pk) (hk : Pl W k.1) : ∀ (es : List (Pk × S3)) (ms : List MapEntry) (i : Nat), ms.map (fun e => (e.key, e.val)) = es.map (fun e => (pkV e.1, s3V e.2)) → (∀ e ∈ es, Pl W e.1.1) →
    ((getS es k = none ∧ (Instr.findAsking 106 (pkV k) ms i).run Tryz.prog W = .ok none W ∧ ∀ s, putS es k s = es ++ [(k, s)]) ∨
     ∃ s j e, getS es k = some s ∧ (Instr.findAsking 106 (pkV k) ms i).run Tryz.prog W = .ok (some (i + j, s3V s)) W ∧ ms[j]? = some e ∧ e.key = pkV k ∧ ∀ s' (f : MapEntry → MapEntry), (∀ x, (f x).key = pkV k ∧ (f x).val = s3V s') → (ms.modify j f).map (fun e => (e.key, e.val)) = (putS es k s').map (fun e => (pkV e.1, s3V e.2)))
  | [], ms, i, he, _ => by
    have : ms = [] := by simpa using he
    subst this
    exact .inl ⟨rfl, by simp [Instr.findAsking], fun s => rfl⟩
  | (x, sx) :: xs, ms, i, he, hp => by
    cases ms with
    | nil => simp at he
    | cons e ms =>
      simp only [List.map_cons, List.cons.injEq, Prod.mk.injEq] at he
      obtain ⟨⟨h1, h2⟩, h3⟩ := he
      have hx := pk_eq W k x hk (hp (x, sx) (by simp))
      by_cases h : k = x
      · refine .inr ⟨sx, 0, e, by rw [getS, if_pos h], ?_, rfl, by rw [h1, h], fun s' f hf => ?_⟩
        · simp only [Instr.findAsking, Sem.run_bind, h1, hx, Result.andThen_ok]
          simp [h, h2]
        · rw [putS, if_pos h]
          simp only [List.modify_zero_cons, List.map_cons, List.cons.injEq, Prod.mk.injEq]
          exact ⟨⟨by rw [(hf e).1, h], (hf e).2⟩, h3⟩
      · have hrun : ∀ r, (Instr.findAsking 106 (pkV k) ms (i + 1)).run Tryz.prog W = .ok r W → (Instr.findAsking 106 (pkV k) (e :: ms) i).run Tryz.prog W = .ok r W := fun r hr => by
          simp only [Instr.findAsking, Sem.run_bind, h1, hx, Result.andThen_ok]
          simp [h, hr]
        rcases find_pk W k hk xs ms (i + 1) h3 (fun y hy => hp y (by simp [hy])) with ⟨g1, g2, g3⟩ | ⟨s, j, e', g1, g2, g3, g4, g5⟩
        · exact .inl ⟨by rw [getS, if_neg h]; exact g1, hrun _ g2, fun s => by rw [putS, if_neg h, g3 s]; rfl⟩
        · refine .inr ⟨s, j + 1, e', by rw [getS, if_neg h]; exact g1, ?_, by simpa using g3, g4, fun s' f hf => ?_⟩
          · rw [hrun _ g2, show i + 1 + j = i + (j + 1) by omega]
          · rw [putS, if_neg h, List.modify_succ_cons]
            simp only [List.map_cons, List.cons.injEq, Prod.mk.injEq]
            exact ⟨⟨h1, h2⟩, g5 s' f hf⟩
theorem findkey_pk(W:World)(k:Pk)(es:List (Pk × S3))(ms:List MapEntry)(he:ms.map (fun e=>(e.key,e.val))=es.map (fun e=>(pkV e.1,s3V e.2))):(Instr.findKey 106 (pkV k) ms).run Tryz.prog W=(Instr.findAsking 106 (pkV k) ms 0).run Tryz.prog W:=by
 have hu:Tryz.prog.underlying 106=some (.struct (Tryz.prog.fieldsOf 106)):=by kernel_rfl
 cases ms with
 |nil=>simp [Instr.findKey,run_underlying hu,Instr.findNow,Instr.findAsking]
 |cons e ms=>
  have hnow:Instr.findNow (.struct (Tryz.prog.fieldsOf 106)) (pkV k) (e::ms) 0=none:=by
   unfold Instr.findNow pkV
   simp [Instr.sameNow]
  simp only [Instr.findKey,Sem.run_bind,run_underlying hu,Result.andThen_ok,hnow]
theorem check_pk(W:World)(k:Pk)(b:Bool):(Instr.checkKey b 10000 106 (pkV k)).run Tryz.prog W=.ok () W:=by
 unfold pkV
 cases b <;> kernel_rfl
theorem MapS.lookup{W:World}{b:Nat}{es:List (Pk × S3)}(h:MapS W b es)(k:Pk)(c:Bool)(hk:Pl W k.1)(hp:∀ e∈es,Pl W e.1.1) :
  (Instr.lookup 64 (.map (some b)) (pkV k) c).run Tryz.prog W=.ok (if c=true then .tuple #[s3V ((getS es k).getD (0,false,false)),.bool (getS es k).isSome] else s3V ((getS es k).getD (0,false,false))) W:=by
 obtain ⟨ms,clock,hb,he⟩:=h;have hu:Tryz.prog.underlying 64=some (.map 106 104):=Tryz.underlying64
 have hz:(zeroValue 104).run Tryz.prog W=.ok (s3V (0,false,false)) W:=by kernel_rfl
 have hc:=check_pk W k ms.isEmpty;have hf:=findkey_pk W k es ms.toList he
 rcases find_pk W k hk es ms.toList 0 he hp with ⟨g1,g2,_⟩|⟨s,j,e,g1,g2,_⟩
 ·rw [g2]at hf
  cases c <;> simp [Instr.lookup,run_underlying hu,MapKept.run_getObj_map hb,hc,hf,hz,g1]
 ·rw [g2]at hf
  cases c <;> simp [Instr.lookup,run_underlying hu,MapKept.run_getObj_map hb,hc,hf,g1]
theorem same_pk(k:Pk):Instr.sameBits 10000 (pkV k) (pkV k)=true:=by
 unfold pkV
 simp [Instr.sameBits]
theorem MapS.update{W:World}{b:Nat}{es:List (Pk × S3)}(h:MapS W b es)(k:Pk)(s:S3)(hk:Pl W k.1)(hp:∀ e∈es,Pl W e.1.1) :
  ∃ W',(Instr.mapUpdate 64 (.map (some b)) (pkV k) (s3V s)).run Tryz.prog W=.ok () W'∧MapS W' b (putS es k s)∧W.grownBy W' (some b):=by
 obtain ⟨ms,clock,hb,he⟩:=h;have hu:Tryz.prog.underlying 64=some (.map 106 104):=Tryz.underlying64
 have hc:=check_pk W k false;have hf:=findkey_pk W k es ms.toList he
 rcases find_pk W k hk es ms.toList 0 he hp with ⟨g1,g2,g3⟩|⟨s0,j,e,g1,g2,g3,g4,g5⟩
 ·rw [g2]at hf
  refine ⟨ChangeMaps.setBlock W b (.map (ms.push { key:=pkV k,val:=s3V s,born:=clock }) (clock+1)),?_,⟨_,_,ChangeMaps.heap_setBlock_same hb _,by rw [g3 s];simp [he]⟩,⟨rfl,rfl,rfl,by simp [ChangeMaps.setBlock],fun i _ hi=>ChangeMaps.heap_setBlock_other hb _ (fun e=>hi (by rw [e]))⟩⟩
  simp [Instr.mapUpdate,run_underlying hu,MapKept.run_getObj_map hb,hc,hf,MapKept.run_setObj_map _ hb,ChangeMaps.setBlock]
 ·rw [g2,Nat.zero_add]at hf
  have hk':((ms[j]?).map (·.key)).getD (pkV k)=pkV k:=by
   have:ms[j]?=some e:=by simpa using g3
   rw [this]
   simpa using g4
  refine ⟨ChangeMaps.setBlock W b (.map (ms.modify j fun e=>{ e with key:=pkV k,val:=s3V s }) clock),?_,⟨_,_,ChangeMaps.heap_setBlock_same hb _,?_⟩,⟨rfl,rfl,rfl,by simp [ChangeMaps.setBlock],fun i _ hi=>ChangeMaps.heap_setBlock_other hb _ (fun e=>hi (by rw [e]))⟩⟩
  ·have hst:(Instr.keyThatStays (((ms[j]?).map (·.key)).getD (pkV k)) (pkV k)).run Tryz.prog W=.ok (pkV k) W:=by
    rw [hk'];simp [Instr.keyThatStays,same_pk]
   simp only [Instr.mapUpdate,Sem.run_bind,run_underlying hu,Result.andThen_ok,MapKept.run_getObj_map hb,hc,hf,hst]
   simp [MapKept.run_setObj_map _ hb,ChangeMaps.setBlock]
  ·rw [Array.toList_modify]
   exact g5 s _ (fun x=>⟨rfl,rfl⟩)
theorem MapS.blk{W W':World}{b:Nat}{es:List (Pk × S3)}(h:MapS W b es)(e:W'.heap[b]?=W.heap[b]?):MapS W' b es:=by
 obtain ⟨ms,clock,hb,he⟩:=h;exact ⟨ms,clock,e.trans hb,he⟩
end Go.Proofs.YtoikodohcieipaaGreatDoor
