/- counterpaneref5.EqExpr: the sa. -/
import Derived.Test.YtgheopdadfnilaaGreatDoorKf03
import Derived.Test.YtgheopdadfnilaaGreatDoorKf00
import Derived.Test.YtgheopdadfnilaaGreatDoorKf01
import Derived.Lib.ItoaMem
set_option linter.unusedVariables false
set_option linter.unusedSimpArgs false
set_option maxRecDepth 100000
set_option maxHeartbeats 8000000
namespace Go.Proofs.YtgheopdadfnilaaGreatDoor
open Go.RowKit
theorem eqexpr_any:∀ (s:Nat) (x y:Ex) (v v':Value) (W:World),SizeOf.sizeOf x≤s→Rd W x v→Rd W y v'→Calls Tryz.prog 14 #[v,v'] W fun e W'=>Ans (x=y) e∧Q W W':=by
 intro s
 induction s with
 |zero=>
  intro x y v v' W hs
  cases x with
  |mk k n t b e rs ks=>simp at hs
 |succ s ih=>
  intro x y v v' W hs hx hy
  obtain ⟨k,n,t,b,e,rs,ks,rv,kv,ao,cap,rfl,hp⟩:=hx.prt;obtain ⟨k',n',t',b',e',rs',ks',rv',kv',ao',cap',rfl,hp'⟩:=hy.prt;obtain ⟨a1,c1,rfl,m1,m2⟩:=hp.rl.len;obtain ⟨a3,c3,rfl,m3,m4⟩:=hp'.rl.len;obtain rfl:=hp.kl;obtain rfl:=hp'.kl;have IH:∀ i (hi:i<ks.length) z v v' W,Rd W ks[i] v→Rd W z v'→Calls Tryz.prog 14 #[v,v'] W fun x W'=>Ans (ks[i]=z) x∧Q W W':=fun i hi z v v' W h h'=>ih ks[i] z v v' W (by
   have:=kid_size (k:=k) (n:=n) (t:=t.data.toList) (b:=b) (e:=e) (rs:=rs) i hi
   rw [←hp.ex]at this;omega) h h'
  by_cases hh:k=k'∧n=n'∧t.data.toList=t'.data.toList∧b=b'∧e=e'∧rs.length=rs'.length∧ks.length=ks'.length
  ·obtain ⟨rfl,rfl,ht,rfl,rfl,hl1,hl2⟩:=hh
   obtain rfl:=str_eq ht;have hroom1:rs.length≤9223372036854775807:=by unfold maxLen at m2;omega
   have hroom2:ks.length≤9223372036854775807:=by have h1:=hp.le;have h2:=hp.mx;unfold maxLen at h2;omega
   have hxy:x=y↔(rs=rs'∧ks=ks'):=by rw [hp.ex,hp'.ex];simp
   have key:=eq_body k n t b e a1 rs.length c1 ao ks.length cap a3 c3 ao' cap' W rs rs' ks ks' (hid rfl) (hid hl1.symm) (hid rfl) (hid hl2.symm) hroom1 hroom2
    (hid fun i hi=>by
     obtain ⟨b1,o1,c,hv,_,_,hc⟩:=hp.rl.rc (by omega)
     simp only [Value.slice.injEq]at hv
     exact ⟨b1,o1,hv.1,hc i hi⟩)
    (hid fun i hi=>by
     obtain ⟨b1,o1,c,hv,_,_,hc⟩:=hp'.rl.rc (by omega)
     simp only [Value.slice.injEq]at hv
     exact ⟨b1,o1,hv.1,hc i hi⟩)
    (hid fun i hi W' q=>by
     obtain ⟨b2,o2,ha,hl⟩:=(hp.on q).kd (by intro h;rw [h]at hi;simp at hi)
     obtain ⟨p0,p1,p2,p3,p4,p5,p6,hk⟩:=hl.kid i hi;exact ⟨b2,o2,p0,p1,p2,p3,p4,p5,p6,ha,hk⟩)
    (hid fun i hi W' q=>by
     obtain ⟨b2,o2,ha,hl⟩:=(hp'.on q).kd (by intro h;rw [h]at hi;simp at hi)
     obtain ⟨p0,p1,p2,p3,p4,p5,p6,hk⟩:=hl.kid i hi;exact ⟨b2,o2,p0,p1,p2,p3,p4,p5,p6,ha,hk⟩)
    (hid fun i hi hi' v v' W' h h'=>IH i hi _ v v' W' h h')
   rw [←hl1,←hl2];refine key.mono fun x9 w9 h=>⟨?_,h.2⟩
   rw [hxy];exact h.1
  ·have hne:x≠y:=by
    rw [hp.ex,hp'.ex];intro h
    simp only [Ex.mk.injEq]at h
    obtain ⟨g1,g2,g3,g4,g5,g6,g7⟩:=h;exact hh ⟨g1,g2,g3,g4,g5,by rw [g6],by rw [g7]⟩
   refine (eq_heads k n t b e a1 rs.length c1 ao ks.length cap k' n' t' b' e' a3 rs'.length c3 ao' ks'.length cap' W hh).mono ?_
   rintro x9 w9 ⟨rfl,q⟩
   exact ⟨Ans.no hne,q⟩
abbrev Qx (p:Nat) (w w':World):Prop:=World.grownBy w w' (some p)
theorem Qx.refl(p:Nat)(w:World):Qx p w w:=⟨rfl,rfl,rfl,Nat.le_refl _,fun _ _ _=>rfl⟩
theorem Qx.trans{p:Nat}{a b c:World}(h:Qx p a b)(k:Qx p b c):Qx p a c:=
 ⟨k.os.trans h.os,k.tape.trans h.tape,k.output.trans h.output,Nat.le_trans h.size k.size,fun i hi hp=>(k.block i (Nat.lt_of_lt_of_le hi h.size) hp).trans (h.block i hi hp)⟩
theorem Qx.of{p:Nat}{a b:World}(h:Q a b):Qx p a b:=⟨h.os,h.tape,h.output,h.size,fun i hi _=>Q.block h hi⟩
theorem Qx.alloc{p:Nat}{a w:World}(h:Qx p a w)(o:Obj):Qx p a (w.alloc o):=h.trans (Qx.of ((Q.refl _).alloc o))
theorem Qx.drewN{p:Nat}{a w:World}(h:Qx p a w)(n:Nat):Qx p a (w.drewN n):=h.trans (Qx.of ((Q.refl _).drewN n))
theorem Qx.drew{p:Nat}{a w:World}(h:Qx p a w):Qx p a w.drew:=h.trans (Qx.of (Q.refl _).drew)
theorem Qx.own{p:Nat}{a w:World}(h:Qx p a w)(k:Nat)(v:Value):Qx p a (w.setCell ⟨p,k,none⟩ v):=
 h.trans ⟨rfl,rfl,rfl,by simp [World.setCell],fun i hi hp=>Below.heap_setCell _ _ _ _ (fun e=>hp (by simp [e]))⟩
theorem Qx.new{p:Nat}{a w:World}(h:Qx p a w){b:Nat}(hb:a.heap.size≤b)(k:Nat)(v:Value):Qx p a (w.setCell ⟨b,k,none⟩ v):=
 ⟨h.os,h.tape,h.output,by simpa [World.setCell] using h.size,fun i hi hp=>(Below.heap_setCell _ _ _ _ (fun e=>by simp at e;omega)).trans (h.block i hi hp)⟩
theorem Qx.cell{p:Nat}{a w:World}(h:Qx p a w){b o:Nat}(hb:b<a.heap.size)(hp:b≠p):w.cell? ⟨b,o,none⟩=a.cell? ⟨b,o,none⟩:=
 World.cell?_of_block (h.block b hb (fun e=>hp (Option.some.inj e)))
def Slg(g:Nat→Prop)(W:World)(v:Value)(L:List Rf):Prop:=
 ∃ (ao:Option Addr) (cap:Nat),v=.slice ao L.length cap∧L.length≤cap∧cap≤maxLen∧(0<L.length→∃ b off,ao=some ⟨b,off,none⟩∧g b∧∀ i (h:i<L.length),Ats rf W b (off+i*5) L[i])
theorem Slg.sl{g:Nat→Prop}{W:World}{v:Value}{L:List Rf}(h:Slg g W v L):Sl rf 5 W v L:=by
 obtain ⟨ao,cap,hv,h1,h2,h3⟩:=h;exact ⟨ao,cap,hv,h1,h2,fun hl=>by obtain ⟨b,off,ha,_,hc⟩:=h3 hl;exact ⟨b,off,ha,hc⟩⟩
theorem Slg.on{g:Nat→Prop}{W W':World}{v:Value}{L:List Rf}{p:Nat}(h:Slg g W v L)(q:Qx p W W')(hp:∀ b,g b→b≠p):Slg g W' v L:=by
 obtain ⟨ao,cap,hv,h1,h2,h3⟩:=h;refine ⟨ao,cap,hv,h1,h2,fun hl=>?_⟩
 obtain ⟨b,off,ha,hb,hc⟩:=h3 hl;exact ⟨b,off,ha,hb,fun i hi j u hu=>(q.cell (World.block_lt_of_cell? W ⟨b,off+i*5+j,none⟩ (hc i hi j u hu)) (hp _ hb)).trans (hc i hi j u hu)⟩
theorem Pl.onx{p:Nat}{W W':World}{b:Nat}(h:Pl W b)(q:Qx p W W')(hp:b≠p):Pl W' b:=by
 have hb:=h.lt;obtain ⟨c,t,h⟩:=h;exact ⟨c,t,(q.block b hb (fun e=>hp (Option.some.inj e))).trans h⟩
def Rdg(g:Nat→Prop)(W:World):Ex→Value→Prop
 |.mk k n t b e rs ks,v=>∃ rv kv,v=.agg #[.int .i64 k,.int .i64 n,.string ⟨t.toArray⟩,.bool b,.int .i64 e,rv,kv]∧Slg g W rv rs ∧
   ∃ (ao:Option Addr) (cap:Nat),kv=.slice ao ks.length cap∧ks.length≤cap∧cap≤maxLen∧(ks≠[]→∃ b' off,ao=some ⟨b',off,none⟩∧g b'∧Pl W b'∧RdLg g W ks b' off)
 where
 RdLg (g:Nat→Prop) (W:World):List Ex→Nat→Nat→Prop
 |[],_,_=>True
 |x::xs,b,off=>(∃ c0 c1 c2 c3 c4 c5 c6,W.cell? ⟨b,off,none⟩=some c0∧W.cell? ⟨b,off+1,none⟩=some c1∧W.cell? ⟨b,off+2,none⟩=some c2∧W.cell? ⟨b,off+3,none⟩=some c3∧W.cell? ⟨b,off+4,none⟩=some c4∧W.cell? ⟨b,off+5,none⟩=some c5∧W.cell? ⟨b,off+6,none⟩=some c6∧Rdg g W x (.agg #[c0,c1,c2,c3,c4,c5,c6]))∧RdLg g W xs b (off+7)
theorem Rdg.on{g:Nat→Prop}{W W':World}{p:Nat}(q:Qx p W W')(hp:∀ b,g b→b≠p):∀ (x:Ex) (v:Value),Rdg g W x v→Rdg g W' x v
 |.mk k n t b e rs ks,v,h=>by
  unfold Rdg at h ⊢
  obtain ⟨rv,kv,hv,hr,ao,cap,hk,h1,h2,h3⟩:=h;refine ⟨rv,kv,hv,hr.on q hp,ao,cap,hk,h1,h2,fun hn=>?_⟩
  obtain ⟨b',off,ha,hb,hpl,hl⟩:=h3 hn;exact ⟨b',off,ha,hb,hpl.onx q (hp _ hb),go q hp hb ks off hl⟩
 where
 go {g:Nat→Prop} {W W':World} {p:Nat} (q:Qx p W W') (hp:∀ b,g b→b≠p) {b:Nat} (hb:g b):∀ (l:List Ex) (off:Nat),Rdg.RdLg g W l b off→Rdg.RdLg g W' l b off
 |[],_,_=>by unfold Rdg.RdLg;trivial
 |x::xs,off,h=>by
  unfold Rdg.RdLg at h ⊢
  obtain ⟨⟨c0,c1,c2,c3,c4,c5,c6,g0,g1,g2,g3,g4,g5,g6,hx⟩,hr⟩:=h;have ce:∀ {o:Nat} {c:Value},W.cell? ⟨b,o,none⟩=some c→W'.cell? ⟨b,o,none⟩=some c:=fun h=>(q.cell (World.block_lt_of_cell? W ⟨b,_,none⟩ h) (hp _ hb)).trans h
  exact ⟨⟨c0,c1,c2,c3,c4,c5,c6,ce g0,ce g1,ce g2,ce g3,ce g4,ce g5,ce g6,Rdg.on q hp x _ hx⟩,go q hp hb xs (off+7) hr⟩
theorem Rdg.rd{g:Nat→Prop}{W:World}:∀ (x:Ex) (v:Value),Rdg g W x v→Rd W x v
 |.mk k n t b e rs ks,v,h=>by
  unfold Rdg at h
  unfold Rd
  obtain ⟨rv,kv,hv,hr,ao,cap,hk,h1,h2,h3⟩:=h;refine ⟨rv,kv,hv,hr.sl,ao,cap,hk,h1,h2,fun hn=>?_⟩
  obtain ⟨b',off,ha,hb,hpl,hl⟩:=h3 hn;exact ⟨b',off,ha,hpl,go ks b' off hl⟩
 where
 go {g:Nat→Prop} {W:World}:∀ (l:List Ex) (b off:Nat),Rdg.RdLg g W l b off→Rd.RdL W l b off
 |[],_,_,_=>by unfold Rd.RdL;trivial
 |x::xs,b,off,h=>by
  unfold Rdg.RdLg at h
  unfold Rd.RdL
  obtain ⟨⟨c0,c1,c2,c3,c4,c5,c6,g0,g1,g2,g3,g4,g5,g6,hx⟩,hr⟩:=h;exact ⟨⟨c0,c1,c2,c3,c4,c5,c6,g0,g1,g2,g3,g4,g5,g6,Rdg.rd x _ hx⟩,go xs b (off+7) hr⟩
theorem Slg.mono{g g':Nat→Prop}{W:World}{v:Value}{L:List Rf}(h:Slg g W v L)(hl:∀ b,g b→g' b):Slg g' W v L:=by
 obtain ⟨ao,cap,hv,h1,h2,h3⟩:=h;exact ⟨ao,cap,hv,h1,h2,fun hn=>by obtain ⟨b,off,ha,hb,hc⟩:=h3 hn;exact ⟨b,off,ha,hl _ hb,hc⟩⟩
theorem Rdg.mono{g g':Nat→Prop}{W:World}(hl:∀ b,g b→g' b):∀ (x:Ex) (v:Value),Rdg g W x v→Rdg g' W x v
 |.mk k n t b e rs ks,v,h=>by
  unfold Rdg at h ⊢
  obtain ⟨rv,kv,hv,hr,ao,cap,hk,h1,h2,h3⟩:=h;refine ⟨rv,kv,hv,hr.mono hl,ao,cap,hk,h1,h2,fun hn=>?_⟩
  obtain ⟨b',off,ha,hb,hpl,hm⟩:=h3 hn;exact ⟨b',off,ha,hl _ hb,hpl,go hl ks b' off hm⟩
 where
 go {g g':Nat→Prop} {W:World} (hl:∀ b,g b→g' b):∀ (l:List Ex) (b off:Nat),Rdg.RdLg g W l b off→Rdg.RdLg g' W l b off
 |[],_,_,_=>by unfold Rdg.RdLg;trivial
 |x::xs,b,off,h=>by
  unfold Rdg.RdLg at h ⊢
  obtain ⟨⟨c0,c1,c2,c3,c4,c5,c6,g0,g1,g2,g3,g4,g5,g6,hx⟩,hr⟩:=h;exact ⟨⟨c0,c1,c2,c3,c4,c5,c6,g0,g1,g2,g3,g4,g5,g6,Rdg.mono hl x _ hx⟩,go hl xs b (off+7) hr⟩
def zeroV:Value:=.agg #[.int .i64 0,.int .i64 0,.string ⟨#[]⟩,.bool false,.int .i64 0,.slice none 0 0,.slice none 0 0]
theorem rdg_zero(g:Nat→Prop)(W:World):Rdg g W zeroE zeroV:=by
 unfold zeroE Rdg
 exact ⟨_,_,rfl,⟨none,0,rfl,Nat.le_refl _,Nat.zero_le _,fun h=>absurd h (by simp)⟩,none,0,rfl,Nat.le_refl _,Nat.zero_le _,fun h=>absurd rfl h⟩
theorem Slg.in{g:Nat→Prop}{W:World}{v:Value}{L:List Rf}(h:Slg g W v L):Slg (fun b=>g b∧b<W.heap.size) W v L:=by
 obtain ⟨ao,cap,hv,h1,h2,h3⟩:=h;refine ⟨ao,cap,hv,h1,h2,fun hl=>?_⟩
 obtain ⟨b,off,ha,hb,hc⟩:=h3 hl;exact ⟨b,off,ha,⟨hb,World.block_lt_of_cell? W ⟨b,off+0*5+0,none⟩ (hc 0 hl 0 _ rfl)⟩,hc⟩
theorem Rdg.in{g:Nat→Prop}{W:World}:∀ (x:Ex) (v:Value),Rdg g W x v→Rdg (fun b=>g b∧b<W.heap.size) W x v
 |.mk k n t b e rs ks,v,h=>by
  unfold Rdg at h ⊢
  obtain ⟨rv,kv,hv,hr,ao,cap,hk,h1,h2,h3⟩:=h;refine ⟨rv,kv,hv,hr.in,ao,cap,hk,h1,h2,fun hn=>?_⟩
  obtain ⟨b',off,ha,hb,hpl,hm⟩:=h3 hn;refine ⟨b',off,ha,⟨hb,?_⟩,hpl,go ks b' off hm⟩
  cases ks with
  |nil=>exact absurd rfl hn
  |cons y ys=>
   unfold Rdg.RdLg at hm
   obtain ⟨⟨c0,c1,c2,c3,c4,c5,c6,g0,_⟩,_⟩:=hm;exact World.block_lt_of_cell? W ⟨b',off,none⟩ g0
 where
 go {g:Nat→Prop} {W:World}:∀ (l:List Ex) (b off:Nat),Rdg.RdLg g W l b off→Rdg.RdLg (fun b=>g b∧b<W.heap.size) W l b off
 |[],_,_,_=>by unfold Rdg.RdLg;trivial
 |x::xs,b,off,h=>by
  unfold Rdg.RdLg at h ⊢
  obtain ⟨⟨c0,c1,c2,c3,c4,c5,c6,g0,g1,g2,g3,g4,g5,g6,hx⟩,hr⟩:=h;exact ⟨⟨c0,c1,c2,c3,c4,c5,c6,g0,g1,g2,g3,g4,g5,g6,Rdg.in x _ hx⟩,go xs b (off+7) hr⟩
structure Sv (W:World) (L:List Wd) (v:Value) (b off cap:Nat):Prop where
 ev:v=.slice (some ⟨b,off,none⟩) L.length cap
 le:L.length≤cap
 mx:cap≤maxLen
 k:∀ i (h:i<L.length),W.cell? ⟨b,off+i*3,none⟩=some (.int .i64 (L[i].k:Int))
 t:∀ i (h:i<L.length),W.cell? ⟨b,off+i*3+1,none⟩=some (.string ⟨L[i].t.toArray⟩)
 p:∀ i (h:i<L.length),W.cell? ⟨b,off+i*3+2,none⟩=some (.int .i64 (L[i].p:Int))
structure PS (W:World) (p:Nat) (L:List Wd) (b off cap:Nat) (i:Nat) (bd:Bool) (n:Nat):Prop where
 c0:W.cell? ⟨p,0,none⟩=some (.slice (some ⟨b,off,none⟩) L.length cap)
 c1:W.cell? ⟨p,1,none⟩=some (.int .i64 (i:Int))
 c2:W.cell? ⟨p,2,none⟩=some (.bool bd)
 c3:W.cell? ⟨p,3,none⟩=some (.int .i64 (n:Int))
 f1:W.frozen? ⟨p,1,none⟩=false
 f2:W.frozen? ⟨p,2,none⟩=false
 f3:W.frozen? ⟨p,3,none⟩=false
 sw:Sv W L (.slice (some ⟨b,off,none⟩) L.length cap) b off cap
 ne:b≠p
theorem Sv.on{W W':World}{p:Nat}{L:List Wd}{v:Value}{b off cap:Nat}(h:Sv W L v b off cap)(q:Qx p W W')(hb:b≠p):Sv W' L v b off cap:=
 ⟨h.ev,h.le,h.mx,fun i hi=>(q.cell (World.block_lt_of_cell? W ⟨b,off+i*3,none⟩ (h.k i hi)) hb).trans (h.k i hi),
  fun i hi=>(q.cell (World.block_lt_of_cell? W ⟨b,off+i*3+1,none⟩ (h.t i hi)) hb).trans (h.t i hi),
  fun i hi=>(q.cell (World.block_lt_of_cell? W ⟨b,off+i*3+2,none⟩ (h.p i hi)) hb).trans (h.p i hi)⟩
theorem PS.lt{W:World}{p:Nat}{L:List Wd}{b off cap i:Nat}{bd:Bool}{n:Nat}(h:PS W p L b off cap i bd n):p<W.heap.size:=World.block_lt_of_cell? W ⟨p,0,none⟩ h.c0
theorem PS.on {W W' : World} {p : Nat} {L : List Wd} {b off cap i : Nat} {bd : Bool} {n : Nat} (h : PS W p L b off cap i bd n) (q : Q W W') : PS W' p L b off cap i bd n :=
  ⟨(q.cell h.lt).trans h.c0, (q.cell h.lt).trans h.c1, (q.cell h.lt).trans h.c2, (q.cell h.lt).trans h.c3,
    (Below.frozen q (p := ⟨p, 1, none⟩) h.lt).trans h.f1, (Below.frozen q (p := ⟨p, 2, none⟩) h.lt).trans h.f2, (Below.frozen q (p := ⟨p, 3, none⟩) h.lt).trans h.f3, h.sw.on (Qx.of q) h.ne, h.ne⟩
theorem PS.onx {W W' : World} {p r : Nat} {L : List Wd} {b off cap i : Nat} {bd : Bool} {n : Nat} (h : PS W p L b off cap i bd n) (q : Qx r W W') (hp : p ≠ r) (hb : b ≠ r) : PS W' p L b off cap i bd n :=
  ⟨(q.cell h.lt hp).trans h.c0, (q.cell h.lt hp).trans h.c1, (q.cell h.lt hp).trans h.c2, (q.cell h.lt hp).trans h.c3,
    (World.frozen?_of_block (a := ⟨p, 1, none⟩) (q.block p h.lt (fun e => hp (Option.some.inj e)))).trans h.f1, (World.frozen?_of_block (a := ⟨p, 2, none⟩) (q.block p h.lt (fun e => hp (Option.some.inj e)))).trans h.f2, (World.frozen?_of_block (a := ⟨p, 3, none⟩) (q.block p h.lt (fun e => hp (Option.some.inj e)))).trans h.f3,
    ⟨h.sw.ev, h.sw.le, h.sw.mx, fun i hi => (q.cell (World.block_lt_of_cell? W ⟨b, off + i * 3, none⟩ (h.sw.k i hi)) hb).trans (h.sw.k i hi), fun i hi => (q.cell (World.block_lt_of_cell? W ⟨b, off + i * 3 + 1, none⟩ (h.sw.t i hi)) hb).trans (h.sw.t i hi), fun i hi => (q.cell (World.block_lt_of_cell? W ⟨b, off + i * 3 + 2, none⟩ (h.sw.p i hi)) hb).trans (h.sw.p i hi)⟩, h.ne⟩
theorem PS.set1{W:World}{p:Nat}{L:List Wd}{b off cap i:Nat}{bd:Bool}{n:Nat}(h:PS W p L b off cap i bd n)(i':Nat)(I:Int)(hI:I=(i':Int)):PS (W.setCell ⟨p,1,none⟩ (.int .i64 I)) p L b off cap i' bd n:=by
 subst hI;refine ⟨?_,World.cell?_setCell_same _ _ _ h.c1,?_,?_,?_,?_,?_,h.sw.on ((Qx.refl p _).own _ _) h.ne,h.ne⟩
 ·rw [World.cell?_setCell_other _ _ _ _ (by simp)];exact h.c0
 ·rw [World.cell?_setCell_other _ _ _ _ (by simp)];exact h.c2
 ·rw [World.cell?_setCell_other _ _ _ _ (by simp)];exact h.c3
 ·rw [World.frozen?_setCell];exact h.f1
 ·rw [World.frozen?_setCell];exact h.f2
 ·rw [World.frozen?_setCell];exact h.f3
theorem PS.set2{W:World}{p:Nat}{L:List Wd}{b off cap i:Nat}{bd:Bool}{n:Nat}(h:PS W p L b off cap i bd n)(bd':Bool):PS (W.setCell ⟨p,2,none⟩ (.bool bd')) p L b off cap i bd' n:=by
 refine ⟨?_,?_,World.cell?_setCell_same _ _ _ h.c2,?_,?_,?_,?_,h.sw.on ((Qx.refl p _).own _ _) h.ne,h.ne⟩
 ·rw [World.cell?_setCell_other _ _ _ _ (by simp)];exact h.c0
 ·rw [World.cell?_setCell_other _ _ _ _ (by simp)];exact h.c1
 ·rw [World.cell?_setCell_other _ _ _ _ (by simp)];exact h.c3
 ·rw [World.frozen?_setCell];exact h.f1
 ·rw [World.frozen?_setCell];exact h.f2
 ·rw [World.frozen?_setCell];exact h.f3
theorem PS.set3{W:World}{p:Nat}{L:List Wd}{b off cap i:Nat}{bd:Bool}{n:Nat}(h:PS W p L b off cap i bd n)(n':Nat)(N:Int)(hN:N=(n':Int)):PS (W.setCell ⟨p,3,none⟩ (.int .i64 N)) p L b off cap i bd n':=by
 subst hN;refine ⟨?_,?_,?_,World.cell?_setCell_same _ _ _ h.c3,?_,?_,?_,h.sw.on ((Qx.refl p _).own _ _) h.ne,h.ne⟩
 ·rw [World.cell?_setCell_other _ _ _ _ (by simp)];exact h.c0
 ·rw [World.cell?_setCell_other _ _ _ _ (by simp)];exact h.c1
 ·rw [World.cell?_setCell_other _ _ _ _ (by simp)];exact h.c2
 ·rw [World.frozen?_setCell];exact h.f1
 ·rw [World.frozen?_setCell];exact h.f2
 ·rw [World.frozen?_setCell];exact h.f3
theorem toL(s:ByteArray):s.toList=s.data.toList:=Lib.toList_data s
theorem is_any(W:World)(p:Nat)(L:List Wd)(b off cap i:Nat)(bd:Bool)(n:Nat)(s:ByteArray)(h:PS W p L b off cap i bd n)(hi:i<L.length) :
  Calls Tryz.prog 138 #[.pointer (some ⟨p,0,none⟩),.string s] W fun e W'=>e=.returned (.bool (isW L i s.data.toList))∧Q W W':=by
 have c0:=h.c0;have c1:=h.c1;have d0:=h.sw.k i hi;have d1:=h.sw.t i hi;have hroom:L.length≤9223372036854775807:=by have h1:=h.sw.le;have h2:=h.sw.mx;unfold maxLen at h2;omega
 have HW:=hid (isW_at (s:=s.data.toList) hi);obtain ⟨T,hT,lT⟩:∃ T:ByteArray,⟨L[i].t.toArray⟩=T∧T.data.toList=L[i].t:=⟨_,rfl,rfl⟩;rw [hT]at d1;have LT:=hid lT;generalize isW L i s.data.toList=r at HW ⊢;clear h hT lT;by_cases hk:L[i].k=6
 ·have e6:(((L[i].k:Nat):Int) == 6)=true:=by rw [hk];rfl
  by_cases ht:L[i].t=s.data.toList
  ·have e7:(T.toList == s.toList)=true:=by rw [toL,toL,LT.out,ht];exact beq_self_eq_true _
   have HR:Hid (r=true):=by show _=_;rw [HW.out];exact decide_eq_true ⟨hk,ht⟩
   generalize ((L[i].k:Nat):Int)=kk at d0 e6;clear HW hk ht LT;go_enter Tryz.func138,Tryz.ntmps138
   go_wp2_with fail
   go_quiet (fail)
   go_wp2_with fail
   go_ret
   exact ⟨by rw [HR.out];rfl,(Q.refl _).drewN _⟩
  ·have e7:(T.toList == s.toList)=false:=by rw [toL,toL,LT.out,beq_eq_false_iff_ne];exact ht
   have HR:Hid (r=false):=by show _=_;rw [HW.out];exact decide_eq_false (fun g=>ht g.2)
   generalize ((L[i].k:Nat):Int)=kk at d0 e6;clear HW hk ht LT;go_enter Tryz.func138,Tryz.ntmps138
   go_wp2_with fail
   go_quiet (fail)
   go_wp2_with fail
   go_ret
   exact ⟨by rw [HR.out];rfl,(Q.refl _).drewN _⟩
 ·have e6:(((L[i].k:Nat):Int) == 6)=false:=by rw [beq_eq_false_iff_ne];omega
  have HR:Hid (r=false):=by show _=_;rw [HW.out];exact decide_eq_false (fun g=>hk g.1)
  generalize ((L[i].k:Nat):Int)=kk at d0 e6;clear HW hk LT;go_enter Tryz.func138,Tryz.ntmps138
  go_wp2_with fail
  go_quiet (fail)
  go_wp2_with fail
  go_ret
  exact ⟨by rw [HR.out];rfl,(Q.refl _).drewN _⟩
theorem take_any(W:World)(p:Nat)(L:List Wd)(b off cap i:Nat)(bd:Bool)(n:Nat)(s:ByteArray)(h:PS W p L b off cap i bd n)(hi:i<L.length) :
  Calls Tryz.prog 104 #[.pointer (some ⟨p,0,none⟩),.string s] W fun e W'=>e=.returned (.bool (isW L i s.data.toList))∧Qx p W W'∧PS W' p L b off cap (if isW L i s.data.toList then i+1 else i) bd n:=by
 have HI:=hid (is_any W p L b off cap i bd n s h hi);have hroom:L.length≤9223372036854775807:=by have h1:=h.sw.le;have h2:=h.sw.mx;unfold maxLen at h2;omega
 have HP:=hid h;clear h;cases hw:isW L i s.data.toList
 ·rw [hw]at HI
  go_enter Tryz.func104,Tryz.ntmps104
  go_wp2_with (go_at_call 138;refine HI.out.mono ?_;rintro e w1 ⟨rfl,q1⟩;have Q1:=hid q1;clear q1)
  go_ret
  exact ⟨rfl,Qx.of Q1.out,HP.out.on Q1.out⟩
 ·rw [hw]at HI
  go_enter Tryz.func104,Tryz.ntmps104
  go_wp2_with (go_at_call 138;refine HI.out.mono ?_;rintro e w1 ⟨rfl,q1⟩;have Q1:=hid q1;have HP1:=hid (HP.out.on q1);clear q1;have g1:=HP1.out.c1;have k1:=HP1.out.f1)
  go_ret
  exact ⟨rfl,(Qx.of Q1.out).own _ _,HP1.out.set1 (i+1) _ rfl⟩
theorem val_lt(l:List UInt8)(h:allD l=true):val l+1≤10 ^ l.length:=by
 revert h
 refine rev_ind (P:=fun l=>allD l=true→val l+1≤10 ^ l.length) (fun _=>by simp [val]) ?_ l
 ·intro l c ih h
  rw [allD_app,Bool.and_eq_true]at h;have h1:=ih h.1;have h2:=allD_mem h.2 (c:=c) (by simp)
  rw [val_snoc,List.length_append,List.length_singleton,Nat.pow_succ];omega
theorem val_fifteen(l:List UInt8)(h:allD l=true)(h9:l.length≤15):val l≤999999999999999:=by
 have h1:=val_lt l h;have h2:10 ^ l.length≤10 ^ 15:=Nat.pow_le_pow_right (by omega) h9
 omega
theorem num_any(s:ByteArray)(m:Nat)(M:Int)(w:World)(hM:Hid (M=(m:Int)))(M0:0≤M)(M1:M≤2199023255552)(hs:s.size≤9223372036854775807) :
  Calls Tryz.prog 137 #[.string s,.int .i64 M] w fun e w'=>e=.returned (.int .i64 (numR s.data.toList m))∧w'=w:=by
 have HF:∀ b:Bool,numF s.data.toList m=b→Hid (numR s.data.toList m=if b then (val s.data.toList:Int) else -1):=by
  intro b e
  show _=_
  unfold numR
  rw [e]
 have et:=hid (Lib.toList_data s);by_cases h0:s.size=0
 ·have e0:s.toList=[]:=by rw [Lib.toList_data];exact List.eq_nil_of_length_eq_zero (by rw [len_data];exact h0)
  have hF:=HF false (by rw [←et.out,e0];rfl)
  have h1:(s.size:Int)<1:=by omega
  clear h0;go_enter Tryz.func137,Tryz.ntmps137
  go_wp2
  go_ret
  exact ⟨ret_int (by rw [hF.out];rfl),rfl⟩
 ·have hp:0<s.size:=by omega
  by_cases hg:15<s.size
  ·have hF:=HF false (numF_long _ _ (by rw [len_data];exact hg) (by have:=hM.out;omega))
   have h1:¬ (s.size:Int)<1:=by omega
   clear h0;go_enter Tryz.func137,Tryz.ntmps137
   go_wp2
   go_ret
   exact ⟨ret_int (by rw [hF.out];rfl),rfl⟩
  have hh:=hid (headD_get s hp);by_cases hz:s[0]=48∧1<s.size
  ·have hF:=HF false (numF_zero (by rw [hh.out];exact hz.1) (by rw [len_data];exact hz.2))
   have hc:(s[0].toNat:Int)=48:=by rw [hz.1];rfl
   have h1:=hz.2;clear hz h0;go_enter Tryz.func137,Tryz.ntmps137
   go_wp2
   go_ret
   exact ⟨ret_int (by rw [hF.out];rfl),rfl⟩
  ·have HZ:Hid (¬ (s.data.toList.headD 0=48∧1<s.data.toList.length)):=by
    show ¬ _
    rw [hh.out,len_data];exact hz
   have hc:((s[0].toNat:Int) == 48)=false∨((s[0].toNat:Int)=48∧¬ 1<(s.size:Int)):=by
    by_cases h:s[0]=48
    ·exact .inr ⟨by rw [h];rfl,fun g=>hz ⟨h,by omega⟩⟩
    ·exact .inl (byte_ne (n:=48) (by omega) h)
   clear hz h0
   rcases hc with hc|⟨hc,h1⟩
   ·go_enter Tryz.func137,Tryz.ntmps137
    go_wp2
    go_loop [5,6] (fun a i=>∃ (k:Nat) (n:Int),k≤s.size∧i=.int .i64 k∧a=.int .i64 n∧0≤n∧n≤999999999999999∧Hid (allD (s.data.toList.take k)=true∧n=(val (s.data.toList.take k):Int))) (fun _ i=>s.size-(intOf i).toNat)
    case atStart=>exact ⟨0,0,Nat.zero_le _,rfl,rfl,by omega,by omega,rfl,rfl⟩
    case round=>
     obtain ⟨k,n,hk,rfl,rfl,n0,n1,hn⟩:=hrel;by_cases hlt:k<s.size
     ·by_cases hd:dig s[k]=true
      ·have b0:48≤(s[k].toNat:Int):=by unfold dig at hd;simp at hd;omega
       have b1:(s[k].toNat:Int)≤57:=by unfold dig at hd;simp at hd;omega
       have hv:Hid (allD (s.data.toList.take (k+1))=true∧(val (s.data.toList.take (k+1)):Int)=n*10+((s[k].toNat:Int)-48)):=by
        have:=hn.out
        refine ⟨?_,?_⟩
        ·rw [take_snoc s k hlt,allD_app,this.1]
         unfold allD
         simp [hd]
        ·rw [take_snoc s k hlt,val_snoc,this.2]
         omega
       have hb:=val_fifteen _ hv.out.1 (by rw [List.length_take];omega)
       have hb':n*10+((s[k].toNat:Int)-48)≤999999999999999:=by have:=hv.out.2;omega
       clear hd hb;go_wp2
       go_round
       case rel=>exact ⟨k+1,n*10+((s[k].toNat:Int)-48),by omega,by go_num,by go_num,by omega,by omega,hv.out.1,hv.out.2.symm⟩
       case measure=>simp [intOf];omega
      ·have hF:=HF false (numF_nodig (allD_no s k hlt (by simpa using hd)))
       by_cases b0:(s[k].toNat:Int)<48
       ·clear hd
        go_wp2
        go_ret
        exact ⟨ret_int (by rw [hF.out];rfl),rfl⟩
       ·have b1:57<(s[k].toNat:Int):=by unfold dig at hd;simp at hd;omega
        clear hd;go_wp2
        go_ret
        exact ⟨ret_int (by rw [hF.out];rfl),rfl⟩
     ·have hN:Hid (allD s.data.toList=true∧n=(val s.data.toList:Int)):=by have:=hn.out;rw [take_all s k (by omega)]at this;exact this
      by_cases hb:M<n
      ·have hF:=HF false (numF_great (by have:=hN.out.2;have:=hM.out;omega))
       go_wp2
       go_ret
       exact ⟨ret_int (by rw [hF.out];rfl),rfl⟩
      ·have hF:=HF true (numF_yes (ne_of_pos hp) HZ.out hN.out.1 (by have:=hN.out.2;have:=hM.out;omega))
       go_wp2
       go_ret
       exact ⟨ret_int (by rw [hF.out,hN.out.2];rfl),rfl⟩
   ·go_enter Tryz.func137,Tryz.ntmps137
    go_wp2
    go_loop [5,6] (fun a i=>∃ (k:Nat) (n:Int),k≤s.size∧i=.int .i64 k∧a=.int .i64 n∧0≤n∧n≤999999999999999∧Hid (allD (s.data.toList.take k)=true∧n=(val (s.data.toList.take k):Int))) (fun _ i=>s.size-(intOf i).toNat)
    case atStart=>exact ⟨0,0,Nat.zero_le _,rfl,rfl,by omega,by omega,rfl,rfl⟩
    case round=>
     obtain ⟨k,n,hk,rfl,rfl,n0,n1,hn⟩:=hrel;by_cases hlt:k<s.size
     ·by_cases hd:dig s[k]=true
      ·have b0:48≤(s[k].toNat:Int):=by unfold dig at hd;simp at hd;omega
       have b1:(s[k].toNat:Int)≤57:=by unfold dig at hd;simp at hd;omega
       have hv:Hid (allD (s.data.toList.take (k+1))=true∧(val (s.data.toList.take (k+1)):Int)=n*10+((s[k].toNat:Int)-48)):=by
        have:=hn.out
        refine ⟨?_,?_⟩
        ·rw [take_snoc s k hlt,allD_app,this.1]
         unfold allD
         simp [hd]
        ·rw [take_snoc s k hlt,val_snoc,this.2]
         omega
       have hb:=val_fifteen _ hv.out.1 (by rw [List.length_take];omega)
       have hb':n*10+((s[k].toNat:Int)-48)≤999999999999999:=by have:=hv.out.2;omega
       clear hd hb;go_wp2
       go_round
       case rel=>exact ⟨k+1,n*10+((s[k].toNat:Int)-48),by omega,by go_num,by go_num,by omega,by omega,hv.out.1,hv.out.2.symm⟩
       case measure=>simp [intOf];omega
      ·have hF:=HF false (numF_nodig (allD_no s k hlt (by simpa using hd)))
       by_cases b0:(s[k].toNat:Int)<48
       ·clear hd
        go_wp2
        go_ret
        exact ⟨ret_int (by rw [hF.out];rfl),rfl⟩
       ·have b1:57<(s[k].toNat:Int):=by unfold dig at hd;simp at hd;omega
        clear hd;go_wp2
        go_ret
        exact ⟨ret_int (by rw [hF.out];rfl),rfl⟩
     ·have hN:Hid (allD s.data.toList=true∧n=(val s.data.toList:Int)):=by have:=hn.out;rw [take_all s k (by omega)]at this;exact this
      by_cases hb:M<n
      ·have hF:=HF false (numF_great (by have:=hN.out.2;have:=hM.out;omega))
       go_wp2
       go_ret
       exact ⟨ret_int (by rw [hF.out];rfl),rfl⟩
      ·have hF:=HF true (numF_yes (ne_of_pos hp) HZ.out hN.out.1 (by have:=hN.out.2;have:=hM.out;omega))
       go_wp2
       go_ret
       exact ⟨ret_int (by rw [hF.out,hN.out.2];rfl),rfl⟩
theorem own_none0{s:ByteArray}(h:s.size=0∨∃ h:0<s.size,s[0]≠99):ownK s.data.toList=-1:=by
 unfold ownK
 rw [if_neg];unfold Lib.hasPrefix
 rcases h with h|⟨h,h0⟩
 ·rw [show s.data.toList=[] from List.eq_nil_of_length_eq_zero (by rw [len_data];exact h)]
  simp
 ·have e:=drop_cons s 0 h
  rw [List.drop_zero]at e;rw [e];simp [Ne.symm h0]
theorem own_c{s:ByteArray}(h:0<s.size)(h0:s[0]=99):ownK s.data.toList=ownP (Lib.cut (s.data.toList.drop 1) [110]):=by
 have e:=drop_cons s 0 h;rw [List.drop_zero,h0]at e;have hp:Lib.hasPrefix s.data.toList [99]=true:=by rw [e];unfold Lib.hasPrefix;simp
 unfold ownK
 rw [if_pos hp];unfold Lib.trimPrefix
 rw [if_pos hp]
 rfl
theorem ownP_R(a b:List UInt8):ownP (a,b,true)=if numR b 999999<0 then -1 else numR a 15:=by
 unfold ownP numR
 cases numF a 15 <;> cases numF b 999999 <;> simp <;> omega
theorem rowner_any(s:ByteArray)(w:World)(hs:s.size<4294967281) :
  Calls Tryz.prog 135 #[.string s] w fun e w'=>e=.returned (.int .i64 (ownK s.data.toList))∧w'=w:=by
 by_cases hz:s.size=0∨∃ h:0<s.size,s[0]≠99
 ·have HO:=hid (own_none0 hz)
  have hz':∀ h:0<s.size,((s[0].toNat:Int) == 99)=false:=fun h=>by
   rcases hz with g|⟨_,g⟩
   ·omega
   ·exact byte_ne (n:=99) (by omega) g
  clear hz;go_enter Tryz.func135,Tryz.ntmps135
  go_wp2
  go_loop [3] (fun i=>∃ k:Nat,1≤k∧k≤s.size+1∧i=.int .i64 k) (fun i=>s.size+1-(intOf i).toNat)
  case atStart=>exact ⟨1,by omega,by omega,rfl⟩
  case round=>
   obtain ⟨k,k1,hk,rfl⟩:=hrel;by_cases hlt:k<s.size
   ·have h0:=hz' (by omega)
    by_cases hn:s[k]=110
    ·have hn':(s[k].toNat:Int)=110:=by rw [hn];rfl
     clear hn;go_wp2
     go_round
     case rel=>exact ⟨k+1,by omega,by omega,by go_num⟩
     case measure=>simp [intOf];omega
    ·have hn':((s[k].toNat:Int) == 110)=false:=byte_ne (n:=110) (by omega) hn
     clear hn;go_wp2
     go_round
     case rel=>exact ⟨k+1,by omega,by omega,by go_num⟩
     case measure=>simp [intOf];omega
   ·go_wp2
    go_ret
    exact ⟨ret_int HO.out.symm,rfl⟩
 ·have hp:0<s.size:=by
   rcases Nat.eq_zero_or_pos s.size with h|h
   ·exact absurd (.inl h) hz
   ·exact h
  have hc:s[0]=99:=by
   by_cases h:s[0]=99
   ·exact h
   ·exact absurd (.inr ⟨hp,h⟩) hz
  have HO:=hid (own_c hp hc);have hc':(s[0].toNat:Int)=99:=by rw [hc];rfl
  clear hz hc;go_enter Tryz.func135,Tryz.ntmps135
  go_wp2
  go_loop [3] (fun i=>∃ k:Nat,1≤k∧k≤s.size∧i=.int .i64 k∧Hid ((110:UInt8) ∉ (s.data.toList.take k).drop 1)) (fun i=>s.size+1-(intOf i).toNat)
  case atStart=>exact ⟨1,by omega,by omega,rfl,by show _ ∉ _;rw [List.drop_take];simp⟩
  case round=>
   obtain ⟨k,k1,hk,rfl,ha⟩:=hrel;by_cases hlt:k<s.size
   ·by_cases hn:s[k]=110
    ·have hn':(s[k].toNat:Int)=110:=by rw [hn];rfl
     have eL:s.data.toList.drop 1=(s.data.toList.take k).drop 1++110::s.data.toList.drop (k+1):=by
      have e1:s.data.toList=s.data.toList.take k++s.data.toList.drop k:=(List.take_append_drop _ _).symm
      rw [drop_cons s k hlt,hn]at e1;have e2:=congrArg (List.drop 1) e1;rw [List.drop_append_of_le_length (by rw [List.length_take,len_data];omega)]at e2
      exact e2
     have HR:Hid (ownK s.data.toList=if numR (s.data.toList.drop (k+1)) 999999<0 then -1 else numR ((s.data.toList.take k).drop 1) 15):=by
      show _=_
      rw [HO.out,eL,cut_at 110 _ _ ha.out,ownP_R]
     have eA:(s.extract 1 k).data.toList=(s.data.toList.take k).drop 1:=by
      rw [Lib.extract_data,List.drop_take]
     have eB:(s.extract (k+1) s.size).data.toList=s.data.toList.drop (k+1):=by
      rw [Lib.extract_data];exact List.take_of_length_le (by rw [List.length_drop,len_data];omega)
     have HA:=hid (fun W=>num_any (s.extract 1 k) 15 15 W rfl (by omega) (by omega) (by simp only [ByteArray.size_extract];omega))
     have HB:=hid (fun W=>num_any (s.extract (k+1) s.size) 999999 999999 W rfl (by omega) (by omega) (by simp only [ByteArray.size_extract];omega))
     rw [eA]at HA;rw [eB]at HB;obtain ⟨A,qA⟩:∃ A,s.extract 1 k=A:=⟨_,rfl⟩;obtain ⟨B,qB⟩:∃ B,s.extract (k+1) s.size=B:=⟨_,rfl⟩;rw [qA]at HA;rw [qB]at HB;generalize numR ((s.data.toList.take k).drop 1) 15=X at *;generalize numR (s.data.toList.drop (k+1)) 999999=Y at *;clear hn eL eA eB HO;by_cases hY:Y<0
     ·go_wp2_with (first|(go_at_call_of 137 A;refine (HA.out _).mono ?_;rintro e w1 ⟨rfl,rfl⟩)|(go_at_call_of 137 B;refine (HB.out _).mono ?_;rintro e w2 ⟨rfl,rfl⟩))
      go_ret
      exact ⟨ret_int (by rw [HR.out,if_pos hY]),rfl⟩
     ·go_wp2_with (first|(go_at_call_of 137 A;refine (HA.out _).mono ?_;rintro e w1 ⟨rfl,rfl⟩)|(go_at_call_of 137 B;refine (HB.out _).mono ?_;rintro e w2 ⟨rfl,rfl⟩))
      go_ret
      exact ⟨ret_int (by rw [HR.out,if_neg (by omega)]),rfl⟩
    ·have hn':((s[k].toNat:Int) == 110)=false:=byte_ne (n:=110) (by omega) hn
     have ha':Hid ((110:UInt8) ∉ (s.data.toList.take (k+1)).drop 1):=by
      show _ ∉ _
      rw [take_snoc s k hlt,List.drop_append_of_le_length (by rw [List.length_take,len_data];omega),List.mem_append]
      intro h
      rcases h with h|h
      ·exact ha.out h
      ·simp at h
       exact hn h.symm
     clear hn;go_wp2
     go_round
     case rel=>exact ⟨k+1,by omega,by omega,by go_num,ha'⟩
     case measure=>simp [intOf];omega
   ·have HF:Hid (ownK s.data.toList=-1):=by
     show _=_
     have h1:=ha.out;rw [take_all s k (by omega)]at h1
     rw [HO.out,cut_free 110 _ h1]
     rfl
    go_wp2
    go_ret
    exact ⟨ret_int HF.out.symm,rfl⟩
theorem rid_any(s:ByteArray)(w:World)(hs:s.size<4294967281) :
  Calls Tryz.prog 101 #[.string s] w fun e w'=>e=.returned (.bool (idB s.data.toList))∧w'=w:=by
 have HO:=hid (fun W=>rowner_any s W hs)
 have HI:Hid (idB s.data.toList=decide (0≤ownK s.data.toList)):=rfl
 generalize ownK s.data.toList=K at *;clear hs;go_enter Tryz.func101,Tryz.ntmps101
 go_wp2_with (go_at_call 135;refine (HO.out _).mono ?_;rintro e w1 ⟨rfl,rfl⟩)
 go_ret
 exact ⟨ret_bool HI.out.symm,rfl⟩
abbrev rv (sh:ByteArray) (row col:Int) (ra ca:Bool):Value:=.agg #[.string sh,.int .i64 row,.int .i64 col,.bool ra,.bool ca]
def mayR(sh:List UInt8)(row col:Int):Bool:=(sh.isEmpty || idB sh)&&(decide (0≤row∧row<2199023255552)&&decide (0≤col∧col<2199023255552))
theorem rmay_any(sh:ByteArray)(row col:Int)(ra ca:Bool)(w:World)(hs:sh.size≤4000000000) :
  Calls Tryz.prog 67 #[rv sh row col ra ca] w fun e w'=>e=.returned (.bool (mayR sh.data.toList row col))∧Q w w':=by
 have HI:=hid (fun W=>rid_any sh W (by omega))
 have HV:Hid (mayR sh.data.toList row col=((sh.data.toList.isEmpty || idB sh.data.toList)&&(decide (0≤row∧row<2199023255552)&&decide (0≤col∧col<2199023255552)))):=rfl
 have et:=hid (Lib.toList_data sh);have main:∀ X:Bool,(sh.data.toList.isEmpty || idB sh.data.toList)=X→Hid (mayR sh.data.toList row col=(X&&(decide (0≤row∧row<2199023255552)&&decide (0≤col∧col<2199023255552)))):=fun X e=>by show _=_;rw [HV.out,e]
 by_cases he:sh.toList=[]
 ·have HX:=main true (by rw [←et.out,he];rfl)
  have he':(sh.toList == [])=true:=by rw [he];rfl
  clear main HV;by_cases a:0≤row
  ·by_cases b:row<2199023255552
   ·by_cases c:0≤col
    ·by_cases d:col<2199023255552
     ·go_enter Tryz.func67,Tryz.ntmps67
      go_wp2
      go_ret
      exact ⟨ret_bool (by rw [HX.out,Bool.eq_iff_iff];simp;omega),(Q.refl _).alloc _⟩
     ·go_enter Tryz.func67,Tryz.ntmps67
      go_wp2
      go_ret
      exact ⟨ret_bool (by rw [HX.out,Bool.eq_iff_iff];simp;omega),(Q.refl _).alloc _⟩
    ·go_enter Tryz.func67,Tryz.ntmps67
     go_wp2
     go_ret
     exact ⟨ret_bool (by rw [HX.out,Bool.eq_iff_iff];simp;omega),(Q.refl _).alloc _⟩
   ·go_enter Tryz.func67,Tryz.ntmps67
    go_wp2
    go_ret
    exact ⟨ret_bool (by rw [HX.out,Bool.eq_iff_iff];simp;omega),(Q.refl _).alloc _⟩
  ·go_enter Tryz.func67,Tryz.ntmps67
   go_wp2
   go_ret
   exact ⟨ret_bool (by rw [HX.out,Bool.eq_iff_iff];simp;omega),(Q.refl _).alloc _⟩
 ·have he':(sh.toList == [])=false:=by simpa using he
  have hei:sh.data.toList.isEmpty=false:=by
   rw [←et.out];cases hh:sh.toList
   ·exact absurd hh he
   ·rfl
  cases hB:idB sh.data.toList
  ·have HX:=main false (by rw [hei,hB];rfl)
   rw [hB]at HI;clear main HV he hei;go_enter Tryz.func67,Tryz.ntmps67
   go_wp2_with (go_at_call 101;refine (HI.out _).mono ?_;rintro e w1 ⟨rfl,rfl⟩)
   go_ret
   exact ⟨ret_bool (by rw [HX.out];rfl),(Q.refl _).alloc _⟩
  ·have HX:=main true (by rw [hei,hB];rfl)
   rw [hB]at HI;clear main HV he hei;by_cases a:0≤row
   ·by_cases b:row<2199023255552
    ·by_cases c:0≤col
     ·by_cases d:col<2199023255552
      ·go_enter Tryz.func67,Tryz.ntmps67
       go_wp2_with (go_at_call 101;refine (HI.out _).mono ?_;rintro e w1 ⟨rfl,rfl⟩)
       go_ret
       exact ⟨ret_bool (by rw [HX.out,Bool.eq_iff_iff];simp;omega),(Q.refl _).alloc _⟩
      ·go_enter Tryz.func67,Tryz.ntmps67
       go_wp2_with (go_at_call 101;refine (HI.out _).mono ?_;rintro e w1 ⟨rfl,rfl⟩)
       go_ret
       exact ⟨ret_bool (by rw [HX.out,Bool.eq_iff_iff];simp;omega),(Q.refl _).alloc _⟩
     ·go_enter Tryz.func67,Tryz.ntmps67
      go_wp2_with (go_at_call 101;refine (HI.out _).mono ?_;rintro e w1 ⟨rfl,rfl⟩)
      go_ret
      exact ⟨ret_bool (by rw [HX.out,Bool.eq_iff_iff];simp;omega),(Q.refl _).alloc _⟩
    ·go_enter Tryz.func67,Tryz.ntmps67
     go_wp2_with (go_at_call 101;refine (HI.out _).mono ?_;rintro e w1 ⟨rfl,rfl⟩)
     go_ret
     exact ⟨ret_bool (by rw [HX.out,Bool.eq_iff_iff];simp;omega),(Q.refl _).alloc _⟩
   ·go_enter Tryz.func67,Tryz.ntmps67
    go_wp2_with (go_at_call 101;refine (HI.out _).mono ?_;rintro e w1 ⟨rfl,rfl⟩)
    go_ret
    exact ⟨ret_bool (by rw [HX.out,Bool.eq_iff_iff];simp;omega),(Q.refl _).alloc _⟩
theorem mayline_any(n:Int)(w:World) :
  Calls Tryz.prog 96 #[.int .i64 n] w fun e w'=>e=.returned (.bool (decide (0≤n∧n<2199023255552)))∧w'=w:=by
 by_cases h0:0≤n
 ·by_cases h1:n<2199023255552
  ·have hd:=hid (decide_eq_true (show 0≤n∧n<2199023255552 from ⟨h0,h1⟩))
   go_enter Tryz.func96,Tryz.ntmps96
   go_wp2
   go_ret
   exact ⟨ret_bool hd.out.symm,rfl⟩
  ·have hd:=hid (decide_eq_false (show ¬ (0≤n∧n<2199023255552) from fun h=>h1 h.2))
   go_enter Tryz.func96,Tryz.ntmps96
   go_wp2
   go_ret
   exact ⟨ret_bool (by simp;omega),rfl⟩
 ·have hd:=hid (decide_eq_false (show ¬ (0≤n∧n<2199023255552) from fun h=>h0 h.1))
  go_enter Tryz.func96,Tryz.ntmps96
  go_wp2
  go_ret
  exact ⟨ret_bool (by simp;omega),rfl⟩
def sgS(b:Bool):List UInt8:=if b then [36] else []
theorem asign_any(b:Bool)(w:World) :
  Calls Tryz.prog 98 #[.bool b] w fun e w'=>e=.returned (.string ⟨(sgS b).toArray⟩)∧w'=w:=by
 cases b
 ·go_enter Tryz.func98,Tryz.ntmps98
  go_wp2
  go_ret
  exact ⟨rfl,rfl⟩
 ·go_enter Tryz.func98,Tryz.ntmps98
  go_wp2
  go_ret
  exact ⟨rfl,rfl⟩
def cnL(n:Int):List UInt8:=if 0≤n∧n<2199023255552 then nmL (n+1).toNat else []
theorem nm_nat(m:Nat):((UInt8.ofNat (65+m % 26)).toNat:Int)=65+(m:Int) % 26:=by
 rw [nm_byte];omega
def NI(N m:Nat)(l:List UInt8):Prop:=nmL m++l=nmL N
theorem NI.next{N m:Nat}{l:List UInt8}(h:NI N (m+1) l):NI N (m / 26) (UInt8.ofNat (65+m % 26)::l):=by
 unfold NI at *
 rw [nm_succ]at h;rw [←h];simp
theorem NI.len{N m:Nat}{l:List UInt8}(h:NI N m l)(hN:N≤2199023255552):(nmL m).length+l.length≤9:=by
 have h1:=nm_nine N hN;rw [←h,List.length_append]at h1;exact h1
structure RM (W:World) (B:Nat) (l:List UInt8):Prop where
 cells:∀ o:Nat,o<9→∃ v,W.cell? ⟨B,o,none⟩=some (.int .u8 v)
 tail:∀ j (h:j<l.length),W.cell? ⟨B,9-l.length+j,none⟩=some (.int .u8 (l[j].toNat:Int))
 free:∀ o:Nat,o<9→W.frozen? ⟨B,o,none⟩=false
 big:B<W.heap.size
theorem RM.set{W:World}{B k:Nat}{l:List UInt8}(h:RM W B l)(hk:k+l.length=8)(c:UInt8):RM (W.setCell ⟨B,k,none⟩ (.int .u8 (c.toNat:Int))) B (c::l):=by
 refine ⟨fun o ho=>?_,fun j hj=>?_,fun o ho=>?_,?_⟩
 ·by_cases e:o=k
  ·subst e
   obtain ⟨v,hv⟩:=h.cells o ho
   exact ⟨_,World.cell?_setCell_same _ _ _ hv⟩
  ·rw [World.cell?_setCell_other _ _ _ _ (by simp [Ne.symm e])]
   exact h.cells o ho
 ·have e9:9-(c::l).length=k:=by rw [List.length_cons];omega
  rw [e9]
  match j,hj with
  |0,_=>
   obtain ⟨v,hv⟩:=h.cells k (by omega)
   exact World.cell?_setCell_same _ _ _ hv
  |j+1,hj=>
   rw [World.cell?_setCell_other _ _ _ _ (by simp)]
   have h1:=h.tail j (by simpa using hj)
   rw [show 9-l.length+j=k+(j+1) by omega]at h1
   exact h1
 ·rw [World.frozen?_setCell];exact h.free o ho
 ·rw [World.size_setCell];exact h.big
theorem RM.start(w:World):RM (w.alloc (.cells #[.int .u8 0,.int .u8 0,.int .u8 0,.int .u8 0,.int .u8 0,.int .u8 0,.int .u8 0,.int .u8 0,.int .u8 0] 160)) w.heap.size []:=by
 refine ⟨fun o ho=>⟨0,?_⟩,fun j hj=>absurd hj (by simp),fun o ho=>World.frozen?_alloc_new _ _ _ _,by rw [World.size_alloc];omega⟩
 rw [World.cell?_alloc_new]
 rcases (by omega:o=0∨o=1∨o=2∨o=3∨o=4∨o=5∨o=6∨o=7∨o=8) with rfl|rfl|rfl|rfl|rfl|rfl|rfl|rfl|rfl <;> rfl
theorem name_yes(n:Int)(N:Nat)(w:World)(hN:Hid (n+1=(N:Int)))(n0:0≤n)(n1:n<2199023255552) :
  Calls Tryz.prog 99 #[.int .i64 n] w fun e w'=>e=.returned (.string ⟨(nmL N).toArray⟩)∧Q w w':=by
 have HM:=hid (fun W=>mayline_any n W)
 rw [show decide (0≤n∧n<2199023255552)=true from decide_eq_true ⟨n0,n1⟩]at HM
 have hal:Tryz.prog.arrayLen 160=9:=by kernel_rfl
 have HS:=hid (RM.start w);go_enter Tryz.func99,Tryz.ntmps99
 go_wp2_with (go_at_call 96;refine (HM.out _).mono ?_;rintro e w1 ⟨rfl,rfl⟩)
 go_loopw [0,4] (fun a b W=>∃ (x:Int) (m k:Nat) (l:List UInt8),a=.int .i64 x∧b=.int .i64 (k:Int)∧k+l.length=9∧Hid (x=(m:Int))∧0≤x∧x≤2199023255552∧NI N m l∧RM W w1.heap.size l∧Q w1 W) (fun a b _=>(intOf a).toNat)
 case atStart=>exact ⟨n+1,N,9,[],rfl,rfl,rfl,hN,by omega,by omega,List.append_nil _,HS.out,(Q.refl _).alloc _⟩
 case round=>
  obtain ⟨x,m,k,l,rfl,rfl,hk,hx,x0,x1,di,hr,hq⟩:=hrel;have hl20:=di.len (by have:=hN.out;omega)
  have HD:=hid di;have HR:=hid hr;have HQ:=hid hq;clear di hr hq;by_cases hp:0<x
  ·obtain ⟨p,rfl⟩:∃ p,m=p+1:=⟨m-1,by have:=hx.out;omega⟩
   have hne:0<(nmL (p+1)).length:=List.length_pos_iff.2 (nm_ne _ (by omega))
   obtain ⟨k,rfl⟩:∃ k',k=k'+1:=⟨k-1,by omega⟩
   have HN:=hid (HD.out.next);have hc:((UInt8.ofNat (65+p % 26)).toNat:Int)=65+(x-1) % 26:=by rw [nm_nat p,hx.out];omega
   obtain ⟨c,ec⟩:∃ c,c=UInt8.ofNat (65+p % 26):=⟨_,rfl⟩;rw [←ec]at HN hc;have hx':Hid ((x-1) / 26=((p / 26:Nat):Int)):=by show _=_;rw [hx.out];omega
   obtain ⟨v,hv⟩:=HR.out.cells k (by omega)
   have hf:=HR.out.free k (by omega)
   have hbg:=HR.out.big;have HW:=hid (HR.out.set (k:=k) (by omega) c)
   rw [hc]at HW;clear ec hc HD;go_wp2
   go_roundw
   case rel=>exact ⟨(x-1) / 26,p / 26,k,c::l,rfl,rfl,by rw [List.length_cons];omega,hx',by omega,by omega,HN.out,HW.out,HQ.out.setCell (Nat.le_refl _) _⟩
   case measure=>
    simp only [intOf]
    omega
  ·have hm0:m=0:=by have:=hx.out;omega
   subst hm0;have HF:Hid (l=nmL N):=by have:=HD.out;unfold NI at this;rw [nmL]at this;exact this
   have hlp:0<l.length:=by rw [HF.out];exact List.length_pos_iff.2 (nm_ne _ (by have:=hN.out;omega))
   have hsl:∀ W,(Instr.sliceAt 160 (.pointer (some ⟨w1.heap.size,0,none⟩)) (some (.int .i64 (k:Int))) none none).run Tryz.prog W=.ok (.slice (some ⟨w1.heap.size,k,none⟩) l.length l.length) W:=fun W=>by
    rw [run_sliceAt_array_l W 160 ⟨w1.heap.size,0,none⟩ (by kernel_rfl) .i64 (k:Int) (by omega) (by rw [hal];omega)]
    go_simp
    omega
   have hcv:(convert 52 9 (.slice (some ⟨w1.heap.size,k,none⟩) l.length l.length)).run Tryz.prog wr=.ok (.string ⟨l.toArray⟩) wr:=
    run_convert_bytes_back (P:=Tryz.prog) wr 52 9 5 ⟨w1.heap.size,k,none⟩ l.length l Tryz.underlying52 Tryz.underlying5 Tryz.underlying9 (fun j hj=>by
     have h1:=HR.out.tail j hj;rw [show 9-l.length+j=k+j by omega]at h1
     rw [Lib.add_plain];exact h1)
   clear HD;go_wp2
   go_ret
   exact ⟨ret_str (by rw [HF.out]),HQ.out⟩
theorem name_any(n:Int)(w:World) :
  Calls Tryz.prog 99 #[.int .i64 n] w fun e w'=>e=.returned (.string ⟨(cnL n).toArray⟩)∧Q w w':=by
 by_cases h:0≤n∧n<2199023255552
 ·unfold cnL
  rw [if_pos h];exact name_yes n _ w (by show _=_;omega) h.1 h.2
 ·have HC:Hid (cnL n=[]):=by show _=_;unfold cnL;rw [if_neg h]
  have HM:=hid (fun W=>mayline_any n W)
  rw [show decide (0≤n∧n<2199023255552)=false from decide_eq_false h]at HM
  clear h;go_enter Tryz.func99,Tryz.ntmps99
  go_wp2_with (go_at_call 96;refine (HM.out _).mono ?_;rintro e w1 ⟨rfl,rfl⟩)
  go_ret
  exact ⟨ret_str (by rw [HC.out]),Q.refl _⟩
end Go.Proofs.YtgheopdadfnilaaGreatDoor
