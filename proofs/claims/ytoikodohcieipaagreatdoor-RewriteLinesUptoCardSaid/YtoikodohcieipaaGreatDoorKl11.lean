/- rewrite's walker: enter and ne. -/
import Derived.Test.YtoikodohcieipaaGreatDoorKl10
import Derived.Maps.AppendAt
import Derived.Deep.RegionWith
import Derived.Carry
import Derived.Deep.AppendLies
import Derived.Deep.RegionLaw
import Derived.Test.YtoikodohcieipaaGreatDoorKl05
set_option linter.unusedVariables false
set_option linter.unusedSimpArgs false
set_option maxRecDepth 100000
set_option maxHeartbeats 8000000
namespace Go.Proofs.YtoikodohcieipaaGreatDoor
open Go.RowKit
abbrev Sc:=Nat × Nat × Nat × Nat
def sv(x:Sc):List Value:=[.slice (some ⟨x.1,x.2.1,none⟩) x.2.2.1 x.2.2.2]
theorem sv_len(x:Sc):(sv x).length=1:=rfl
theorem info24r:(Tryz.prog.info? 24).map (fun i=>(i.zero,i.size,i.bytes))=some (some (.slice none 0 0),1,24):=by kernel_rfl
structure Wk (W:World) (wb:Nat) (X:Nat→Prop) (ov:Value) (L:List Sc):Prop where
 c:W.cell? ⟨wb,0,none⟩=some ov
 f:W.frozen? ⟨wb,0,none⟩=false
 ow:Own sv 24 1 0 W ov L
 x:X wb
 xo:∀ j,ov.ownBlock=some j→X j∧j≠wb
theorem Wk.lt{W:World}{wb:Nat}{X:Nat→Prop}{ov:Value}{L:List Sc}(h:Wk W wb X ov L):wb<W.heap.size:=World.block_lt_of_cell? W ⟨wb,0,none⟩ h.c
theorem Own.qp{α:Type}{enc:α→List Value}{e:TypeId}{k B:Nat}{W W':World}{P:Nat→Prop}{v:Value}{L:List α}(h:Own enc e k B W v L)(q:Qp P W W')(hp:∀ j,v.ownBlock=some j→¬ P j):Own enc e k B W' v L:=by
 have hl:=h.lt;obtain ⟨hn,h⟩:=h;refine ⟨hn,?_⟩
 rcases h with h|⟨g,cap,cur,hv,hb,hg,hr⟩
 ·exact .inl h
 ·refine .inr ⟨g,cap,cur,hv,hb,?_,hr⟩
  have hob:v.ownBlock=some g:=by rw [hv];rfl
  rw [q.block g (hl g hob) (hp g hob)];exact hg
theorem Wk.qp{W W':World}{P:Nat→Prop}{wb:Nat}{X:Nat→Prop}{ov:Value}{L:List Sc}(h:Wk W wb X ov L)(q:Qp P W W')(hp:∀ i,P i→¬ X i):Wk W' wb X ov L:=
 ⟨(q.cell h.lt (fun e=>hp _ e h.x)).trans h.c,(World.frozen?_of_block (a:=⟨wb,0,none⟩) (q.block wb h.lt (fun e=>hp _ e h.x))).trans h.f,h.ow.qp q (fun j hj e=>hp _ e (h.xo j hj).1),h.x,h.xo⟩
theorem own_cutg{α:Type}{enc:α→List Value}{e:TypeId}{k B:Nat}(hk:∀ x,(enc x).length=k){W:World}{g n cap:Nat}{L:List α}{x:α}(h:Own enc e k B W (.slice (some ⟨g,0,none⟩) (n+1) cap) (L++[x]))(hn:L.length=n):Own enc e k B W (.slice (some ⟨g,0,none⟩) n cap) L:=by
 subst hn;obtain ⟨hl,h⟩:=h;refine ⟨flat_len enc hk L,.inr ?_⟩
 rcases h with ⟨hv,_⟩|⟨g',cap',cur,hv,hb,hg,h1,h2,h3,h4⟩
 ·cases hv
 ·simp only [Value.slice.injEq,Option.some.injEq,Addr.mk.injEq]at hv
  obtain ⟨⟨rfl,_⟩,_,rfl⟩:=hv;refine ⟨g,cap,cur,rfl,hb,hg,by simp at h1;omega,h2,h3,?_⟩
  have e:(flat enc (L++[x])).take (L.length*k)=flat enc L:=by
   unfold flat
   rw [List.flatMap_append,List.take_append_of_le_length (by have:=flat_len enc hk L;unfold flat at this;rw [this];exact Nat.le_refl _),List.take_of_length_le (by have:=flat_len enc hk L;unfold flat at this;rw [this];exact Nat.le_refl _)]
  rw [←e,←h4,List.take_take]
  congr 1
  simp
theorem row_shape{w:World}{base:Nat}{e:TypeId}{k n:Nat}{v:Value}{xs:List Value}(h:w.ownsRow base e k v n xs)(hn:0<n):∃ g cap,v=.slice (some ⟨g,0,none⟩) n cap:=by
 rcases h.2 with ⟨_,h⟩|⟨g,cap,_,hv,_⟩
 ·omega
 ·exact ⟨g,cap,hv⟩
theorem flat_sv(L:List Sc)(x:Sc):flat sv L++[.slice (some ⟨x.1,x.2.1,none⟩) x.2.2.1 x.2.2.2]=flat sv (L++[x]):=by
 rw [flat_snoc]
 rfl
theorem enter_any(wb:Nat)(X:Nat→Prop)(ov:Value)(L:List Sc)(b o n cap:Nat)(W:World)(h:Wk W wb X ov L)(hn:0<n)(hm:n≤9223372036854775807)(hl:L.length≤100000) :
  Calls Tryz.prog 44 #[.pointer (some ⟨wb,0,none⟩),.slice (some ⟨b,o,none⟩) n cap] W fun e W'=>(∃ u,e=.returned u)∧∃ ov',Wk W' wb (fun i=>X i∨ov'.ownBlock=some i) ov' (L++[(b,o,n,cap)])∧Qp X W W'∧∀ j,ov'.ownBlock=some j→X j∨W.heap.size≤j:=by
 obtain ⟨i0,hi,hz0,hz1,hz2⟩:=inf_of info24r;have HW:=hid h;have c0:=h.c;have f0:=h.f;have ow:=hid h.ow;have hlt:=h.lt;have hn':(0:Int)<(n:Int):=by omega
 clear h;go_enter Tryz.func44,Tryz.ntmps44
 go_wp2_with (at_builtin;refine wpList_append_own_at _ rfl _ _ 84 rfl 0 24 i0 (.slice none 0 0) 1 24 Tryz.underlying84 hi hz0 hz1 hz2 rfl (by decide) ov _ _ rfl (ow.out.alloc _) ⟨W.heap.size,0,none⟩ 1 1 [.slice (some ⟨b,o,none⟩) n cap] rfl rfl (news_at _ [.slice (some ⟨b,o,none⟩) n cap] 24 _ rfl) (by intro u hu;simp at hu;subst hu;rfl) (by unfold maxLen;omega) (by omega) (Nat.zero_le _) ?_;intro v1 w1 o1 g1 n1 p1;obtain ⟨g2,k2,hv2⟩:=row_shape o1 (by omega);subst hv2;have O1:=hid o1;have G1:=hid g1;have P1:=hid p1;clear o1 g1 n1 p1;have c1:w1.cell? ⟨wb,0,none⟩=some ov:=G1.out.cell ((Q.cell ((Q.refl W).alloc _) hlt).trans c0) (fun e=>(HW.out.xo _ e.symm).2 rfl);have f1:w1.frozen? ⟨wb,0,none⟩=false:=(World.frozen?_of_block (a:=⟨wb,0,none⟩) (G1.out.block wb (by simp;omega) (fun e=>(HW.out.xo _ e.symm).2 rfl))).trans ((World.frozen?_of_block (a:=⟨wb,0,none⟩) (Q.block ((Q.refl W).alloc _) hlt)).trans f0))
 refine bodyPost_end (v:=.tuple #[]) (by simp [results,Tryz.results44,go_sem]) rfl ?_
 have hsz:(W.alloc (.cells #[.slice (some ⟨b,o,none⟩) n cap] 24)).heap.size=W.heap.size+1:=by simp
 have hne:g2≠wb:=by
  rcases P1.out with e|e
  ·intro h;exact (HW.out.xo g2 (by rw [←e];rfl)).2 h
  ·intro h
   have:=Option.some.inj e
   rw [hsz]at this;simp only at this
   omega
 have qa:Qp X W w1:=⟨G1.out.os,G1.out.tape,G1.out.output,by have:=G1.out.size;rw [hsz]at this;omega,fun i hi hx=>(G1.out.block i (by rw [hsz];omega) (fun e=>hx (HW.out.xo i e.symm).1)).trans (Q.block ((Q.refl W).alloc _) hi)⟩
 refine ⟨⟨_,rfl⟩,_,⟨World.cell?_setCell_same _ _ _ c1,by rw [World.frozen?_setCell];exact f1,?_,.inl HW.out.x,fun j hj=>?_⟩,qa.set _ _ (.inl HW.out.x),fun j hj=>?_⟩
 ·have ow1:Own sv 24 1 0 w1 (.slice (some ⟨g2,0,none⟩) (L.length+1) k2) (L++[(b,o,n,cap)]):=by
   unfold Own
   rw [←flat_sv,List.length_append];exact O1.out
  exact ow1.qp (P:=fun i=>i=wb) ((Qp.refl _ _).set _ _ (.inl rfl)) (fun j hj e=>hne (by rw [←e];exact Option.some.inj hj))
 ·obtain rfl:g2=j:=Option.some.inj hj
  exact ⟨.inr rfl,hne⟩
 ·obtain rfl:g2=j:=Option.some.inj hj
  rcases P1.out with e|e
  ·exact .inl (HW.out.xo g2 (by rw [←e];rfl)).1
  ·have:=Option.some.inj e
   rw [hsz]at this;simp only at this
   exact .inr (by omega)
theorem enter_nil(wb cap:Nat)(ao:Option Addr)(W:World) :
  Calls Tryz.prog 44 #[.pointer (some ⟨wb,0,none⟩),.slice ao 0 cap] W fun e W'=>(∃ u,e=.returned u)∧W'=W:=by
 go_enter Tryz.func44,Tryz.ntmps44
 go_wp2
 refine bodyPost_end (v:=.tuple #[]) (by simp [results,Tryz.results44,go_sem]) rfl ?_
 exact ⟨⟨_,rfl⟩,rfl⟩
theorem next_nil(wb:Nat)(X:Nat→Prop)(ov:Value)(W:World)(h:Wk W wb X ov []) :
  Calls Tryz.prog 45 #[.pointer (some ⟨wb,0,none⟩)] W fun e W'=>e=.returned (.pointer none)∧W'=W:=by
 have c0:=h.c;obtain ⟨ao,cap,hv,_⟩:=(h.ow.sl sv_len (by omega)).len
 simp only [List.length_nil]at hv
 subst hv;clear h;go_enter Tryz.func45,Tryz.ntmps45
 go_wp2_with fail
 go_ret
 exact ⟨rfl,rfl⟩
theorem Wk.last{W:World}{wb:Nat}{X:Nat→Prop}{ov:Value}{L:List Sc}{x:Sc}(h:Wk W wb X ov (L++[x])):∃ g capo,ov=.slice (some ⟨g,0,none⟩) (L.length+1) capo∧L.length+1≤capo∧capo≤maxLen∧g<W.heap.size∧W.cell? ⟨g,L.length,none⟩=some (.slice (some ⟨x.1,x.2.1,none⟩) x.2.2.1 x.2.2.2)∧W.frozen? ⟨g,L.length,none⟩=false:=by
 have ow:=h.ow;obtain ⟨g,cap,hv,_,hg2,hc1,hc2⟩:=ow.shape (by simp)
 rw [List.length_append,List.length_singleton]at hv hc1;subst hv;have ow2:Own sv 24 1 0 W (.slice (some ⟨g,0,none⟩) (L++[x]).length cap) (L++[x]):=by rw [List.length_append,List.length_singleton];exact ow
 have cl:=ow2.cell sv_len (i:=L.length) (by rw [List.length_append,List.length_singleton];omega) 0 _ (by rw [List.getElem_append_right (Nat.le_refl _)];simp;rfl)
 exact ⟨g,cap,rfl,hc1,hc2,hg2,by simpa using cl,World.ownsRow.frozenAt (w:=W) (by unfold Own at ow2;exact ow2) _⟩
theorem Wk.pop{W:World}{wb g m capo:Nat}{X:Nat→Prop}{L:List Sc}{x:Sc}(h:Wk W wb X (.slice (some ⟨g,0,none⟩) (m+1) capo) (L++[x]))(hm:L.length=m):Wk (W.setCell ⟨wb,0,none⟩ (.slice (some ⟨g,0,none⟩) m capo)) wb X (.slice (some ⟨g,0,none⟩) m capo) L:=
 ⟨World.cell?_setCell_same _ _ _ h.c,by rw [World.frozen?_setCell];exact h.f,(own_cutg sv_len h.ow hm).qp (P:=fun i=>i=wb) ((Qp.refl _ _).set _ _ (.inl rfl)) (fun j hj e=>(h.xo j hj).2 e),h.x,h.xo⟩
theorem Wk.put{W:World}{wb g m capo:Nat}{X:Nat→Prop}{L:List Sc}{x:Sc}(h:Wk W wb X (.slice (some ⟨g,0,none⟩) (m+1) capo) (L++[x]))(hm:L.length=m)(y:Sc):Wk (W.setCell ⟨g,m,none⟩ (.slice (some ⟨y.1,y.2.1,none⟩) y.2.2.1 y.2.2.2)) wb X (.slice (some ⟨g,0,none⟩) (m+1) capo) (L++[y]):=by
 have hne:g≠wb:=(h.xo g rfl).2
 refine ⟨?_,by rw [World.frozen?_setCell];exact h.f,?_,h.x,h.xo⟩
 ·rw [World.cell?_setCell_other _ _ _ _ (by intro e;injection e with e;exact hne e)]
  exact h.c
 ·have ow:=h.ow
  unfold Own at ow ⊢
  rw [List.length_append,List.length_singleton,hm]at ow ⊢;have:=(World.ownsRow.stored ow m (.slice (some ⟨y.1,y.2.1,none⟩) y.2.2.1 y.2.2.2)).1
  rw [←flat_sv]at this ⊢;have e:(flat sv L).length=m:=by rw [flat_len sv sv_len,hm];omega
  rw [List.set_append_right _ _ (by omega),e,Nat.sub_self]at this
  exact this
theorem next_one(wb:Nat)(X:Nat→Prop)(ov:Value)(L:List Sc)(b o cap:Nat)(W:World)(h:Wk W wb X ov (L++[(b,o,1,cap)]))(hc:1≤cap)(hm:cap≤maxLen) :
  Calls Tryz.prog 45 #[.pointer (some ⟨wb,0,none⟩)] W fun e W'=>e=.returned (.pointer (some ⟨b,o,none⟩))∧(∃ ov',Wk W' wb X ov' L)∧Qp X W W':=by
 have HW:=hid h;obtain ⟨g,capo,rfl,h1,h2,h3,z0,zf⟩:=h.last;obtain ⟨m,hmm⟩:∃ m,L.length=m:=⟨_,rfl⟩;have HM:=hid hmm;rw [hmm]at h1 z0 zf HW;simp only at z0
 have c0:=HW.out.c;have f0:=HW.out.f;have hcap:(1:Int)≤(cap:Int):=by omega
 have hmx:cap≤9223372036854775807:=by unfold maxLen at hm;omega
 have hm1:m+1≤9223372036854775807:=by unfold maxLen at h2;omega
 have i0:(0:Int)<((m+1:Nat):Int):=by omega
 have i1:((m+1:Nat):Int)-1=(m:Int):=by omega
 clear h hmm;go_enter Tryz.func45,Tryz.ntmps45
 go_wp2_with fail
 all_goals go_ret
 all_goals exact ⟨rfl,⟨_,HW.out.pop HM.out⟩,(Qp.refl _ _).set _ _ (.inl HW.out.x)⟩
theorem next_more(wb:Nat)(X:Nat→Prop)(ov:Value)(L:List Sc)(b o n cap:Nat)(W:World)(h:Wk W wb X ov (L++[(b,o,n+2,cap)]))(hc:n+2≤cap)(hm:cap≤maxLen) :
  Calls Tryz.prog 45 #[.pointer (some ⟨wb,0,none⟩)] W fun e W'=>e=.returned (.pointer (some ⟨b,o,none⟩))∧Wk W' wb X ov (L++[(b,o+7,n+1,cap-1)])∧Qp X W W':=by
 have HW:=hid h;obtain ⟨g,capo,rfl,h1,h2,h3,z0,zf⟩:=h.last;obtain ⟨m,hmm⟩:∃ m,L.length=m:=⟨_,rfl⟩;have HM:=hid hmm;rw [hmm]at h1 z0 zf HW ⊢;simp only at z0
 have c0:=HW.out.c;have f0:=HW.out.f;have hcap:(1:Int)≤(cap:Int):=by omega
 have hmx:cap≤9223372036854775807:=by unfold maxLen at hm;omega
 have hm1:m+1≤9223372036854775807:=by unfold maxLen at h2;omega
 have i0:(0:Int)<((m+1:Nat):Int):=by omega
 have i1:((m+1:Nat):Int)-1=(m:Int):=by omega
 clear h hmm;go_enter Tryz.func45,Tryz.ntmps45
 go_wp2_with fail
 go_ret
 exact ⟨rfl,HW.out.put HM.out (b,o+7,n+1,cap-1),(Qp.refl _ _).set _ _ (.inl (HW.out.xo g rfl).1)⟩
def PdL(W0 W:World):List Ex→Nat→Nat→Prop
 |[],_,_=>True
 |x::xs,b,off=>(∃ c0 c1 c2 c3 c4 c5 c6,W.cell? ⟨b,off,none⟩=some c0∧W.cell? ⟨b,off+1,none⟩=some c1∧W.cell? ⟨b,off+2,none⟩=some c2∧W.cell? ⟨b,off+3,none⟩=some c3∧W.cell? ⟨b,off+4,none⟩=some c4∧W.cell? ⟨b,off+5,none⟩=some c5∧W.cell? ⟨b,off+6,none⟩=some c6∧Rd W0 x (.agg #[c0,c1,c2,c3,c4,c5,c6]))∧PdL W0 W xs b (off+7)
theorem PdL.on{W0 W W':World}:∀ {l:List Ex} {b off:Nat},PdL W0 W l b off→(∀ j,off≤j→j<off+7*l.length→W'.cell? ⟨b,j,none⟩=W.cell? ⟨b,j,none⟩)→PdL W0 W' l b off
 |[],_,_,_,_=>by unfold PdL;trivial
 |x::xs,b,off,h,c=>by
  unfold PdL at h ⊢
  obtain ⟨⟨c0,c1,c2,c3,c4,c5,c6,g0,g1,g2,g3,g4,g5,g6,hx⟩,hr⟩:=h;have hln:(x::xs).length=xs.length+1:=rfl
  rw [hln]at c;exact ⟨⟨c0,c1,c2,c3,c4,c5,c6,(c _ (by omega) (by omega)).trans g0,(c _ (by omega) (by omega)).trans g1,(c _ (by omega) (by omega)).trans g2,(c _ (by omega) (by omega)).trans g3,(c _ (by omega) (by omega)).trans g4,(c _ (by omega) (by omega)).trans g5,(c _ (by omega) (by omega)).trans g6,hx⟩,hr.on (fun j p1 p2=>c j (by omega) (by omega))⟩
abbrev Pd:=Nat × Nat × Nat × List Ex
def Pd.sc(p:Pd):Sc:=(p.1,p.2.1,p.2.2.2.length,p.2.2.1)
def Pd.at_(p:Pd)(i j:Nat):Prop:=p.1=i∧p.2.1≤j∧j<p.2.1+7*p.2.2.2.length
def DnS(W:World):List Pd→Nat→Nat→Prop
 |[],lo,hi=>lo≤hi
 |p::S,lo,hi=>∃ m,Ow.OwL W p.2.2.2 p.1 p.2.1 lo m∧DnS W S m hi
theorem DnS.mono{W:World}:∀ {S:List Pd} {lo lo' hi:Nat},DnS W S lo hi→lo'≤lo→DnS W S lo' hi
 |[],lo,lo',hi,h,h1=>by unfold DnS at h ⊢;omega
 |p::S,lo,lo',hi,h,h1=>by
  unfold DnS at h ⊢
  obtain ⟨m,h2,h3⟩:=h;exact ⟨m,h2.mono h1 (Nat.le_refl _),h3⟩
def Fx(W W':World)(X:Nat→Prop)(S:List Pd):Prop:=
 ∀ i,i<W.heap.size→¬ X i→(Pl W i→Pl W' i)∧∀ j,(∀ p∈S,¬ p.at_ i j)→W'.cell? ⟨i,j,none⟩=W.cell? ⟨i,j,none⟩
def Prm(x:Ex)(r n1:Nat)(W:World)(X:Nat→Prop)(S:List Pd):Prop:=
 ∀ W' hi,Fx W W' X S→DnS W' S W.heap.size hi→Ow.OwL W' [x] r 0 n1 hi
theorem Prm.start(x:Ex)(r n1 c:Nat)(W:World)(X:Nat→Prop)(h:n1≤W.heap.size):Prm x r n1 W X [(r,0,c,[x])]:=by
 intro W' hi hF hD
 unfold DnS at hD
 obtain ⟨m,h1,h2⟩:=hD;unfold DnS at h2
 exact h1.mono h h2
theorem Prm.done{x:Ex}{r n1:Nat}{W:World}{X:Nat→Prop}(h:Prm x r n1 W X []):Ow.OwL W [x] r 0 n1 W.heap.size:=
 h W W.heap.size (fun i _ _=>⟨fun h=>h,fun j _=>rfl⟩) (by unfold DnS;exact Nat.le_refl _)
theorem Prm.same{x:Ex}{r n1:Nat}{W W':World}{X X':Nat→Prop}{S:List Pd}(h:Prm x r n1 W X S)(q:Qp X W W')(h1:∀ i,i<W.heap.size→X' i→X i):Prm x r n1 W' X' S:=by
 intro W'' hi hF hD
 refine h W'' hi (fun i hi' hx=>?_) (hD.mono q.size)
 obtain ⟨f1,f2⟩:=hF i (Nat.lt_of_lt_of_le hi' q.size) (fun e=>hx (h1 i hi' e))
 have hb:=q.block i hi' hx;exact ⟨fun p=>f1 (p.blk hb),fun j hj=>(f2 j hj).trans (World.cell?_of_block hb)⟩
theorem Prm.split{x:Ex}{r n1:Nat}{W:World}{X:Nat→Prop}{S:List Pd}{b o c c1 c2:Nat}{y:Ex}{ys:List Ex}(h:Prm x r n1 W X ((b,o,c,y::ys)::S)):Prm x r n1 W X ((b,o,c1,[y])::(b,o+7,c2,ys)::S):=by
 intro W' hi hF hD
 refine h W' hi (fun i hi' hx=>?_) ?_
 ·obtain ⟨f1,f2⟩:=hF i hi' hx
  refine ⟨f1,fun j hj=>f2 j (fun p hp=>?_)⟩
  simp only [List.mem_cons]at hp
  have h0:=hj (b,o,c,y::ys) (List.mem_cons_self ..);have hln:(y::ys).length=ys.length+1:=rfl
  unfold Pd.at_ at h0
  simp only [hln]at h0
  rcases hp with rfl|rfl|hp
  ·unfold Pd.at_
   intro ⟨e1,e2,e3⟩
   simp only [List.length_singleton]at e1 e2 e3
   exact h0 ⟨e1,by omega,by omega⟩
  ·unfold Pd.at_
   intro ⟨e1,e2,e3⟩
   simp only at e1 e2 e3
   exact h0 ⟨e1,by omega,by omega⟩
  ·exact hj p (List.mem_cons_of_mem _ hp)
 ·unfold DnS at hD
  obtain ⟨m,h1,h2⟩:=hD;unfold DnS at h2
  obtain ⟨m2,h2,h3⟩:=h2;unfold DnS
  refine ⟨m2,?_,h3⟩
  simp only at h1 h2 ⊢
  unfold Ow.OwL at h1 ⊢
  obtain ⟨m3,h4,h5⟩:=h1;unfold Ow.OwL at h5
  exact ⟨m3,h4,h2.mono h5 (Nat.le_refl _)⟩
structure Nd (W:World) (b o:Nat) (c0 c1 c2 c3 c4 c5 c6:Value):Prop where
 g0:W.cell? ⟨b,o,none⟩=some c0
 g1:W.cell? ⟨b,o+1,none⟩=some c1
 g2:W.cell? ⟨b,o+2,none⟩=some c2
 g3:W.cell? ⟨b,o+3,none⟩=some c3
 g4:W.cell? ⟨b,o+4,none⟩=some c4
 g5:W.cell? ⟨b,o+5,none⟩=some c5
 g6:W.cell? ⟨b,o+6,none⟩=some c6
 pl:Pl W b
theorem Nd.blk{W W':World}{b o:Nat}{c0 c1 c2 c3 c4 c5 c6:Value}(h:Nd W b o c0 c1 c2 c3 c4 c5 c6)(q:W'.heap[b]?=W.heap[b]?):Nd W' b o c0 c1 c2 c3 c4 c5 c6:=by
 have ce:∀ j,W'.cell? ⟨b,j,none⟩=W.cell? ⟨b,j,none⟩:=fun j=>World.cell?_of_block q
 exact ⟨(ce _).trans h.g0,(ce _).trans h.g1,(ce _).trans h.g2,(ce _).trans h.g3,(ce _).trans h.g4,(ce _).trans h.g5,(ce _).trans h.g6,h.pl.blk q⟩
theorem Nd.on{W W':World}{b o:Nat}{c0 c1 c2 c3 c4 c5 c6:Value}(h:Nd W b o c0 c1 c2 c3 c4 c5 c6)(q:Q W W'):Nd W' b o c0 c1 c2 c3 c4 c5 c6:=h.blk (Q.block q h.pl.lt)
theorem off_ne{b o o':Nat}(h:o≠o'):(⟨b,o,none⟩:Addr)≠⟨b,o',none⟩:=by intro e;injection e with _ e;exact h e
theorem Nd.set2{W:World}{b o:Nat}{c0 c1 c2 c3 c4 c5 c6:Value}(h:Nd W b o c0 c1 c2 c3 c4 c5 c6)(d:Value):Nd (W.setCell ⟨b,o+2,none⟩ d) b o c0 c1 d c3 c4 c5 c6:=by
 have ce:∀ j,j≠o+2→(W.setCell ⟨b,o+2,none⟩ d).cell? ⟨b,j,none⟩=W.cell? ⟨b,j,none⟩:=fun j hj=>World.cell?_setCell_other _ _ _ _ (off_ne (by omega))
 exact ⟨(ce _ (by omega)).trans h.g0,(ce _ (by omega)).trans h.g1,World.cell?_setCell_same _ _ _ h.g2,(ce _ (by omega)).trans h.g3,(ce _ (by omega)).trans h.g4,(ce _ (by omega)).trans h.g5,(ce _ (by omega)).trans h.g6,h.pl.set _ _ _⟩
theorem Nd.set5{W:World}{b o:Nat}{c0 c1 c2 c3 c4 c5 c6:Value}(h:Nd W b o c0 c1 c2 c3 c4 c5 c6)(d:Value):Nd (W.setCell ⟨b,o+5,none⟩ d) b o c0 c1 c2 c3 c4 d c6:=by
 have ce:∀ j,j≠o+5→(W.setCell ⟨b,o+5,none⟩ d).cell? ⟨b,j,none⟩=W.cell? ⟨b,j,none⟩:=fun j hj=>World.cell?_setCell_other _ _ _ _ (off_ne (by omega))
 exact ⟨(ce _ (by omega)).trans h.g0,(ce _ (by omega)).trans h.g1,(ce _ (by omega)).trans h.g2,(ce _ (by omega)).trans h.g3,(ce _ (by omega)).trans h.g4,World.cell?_setCell_same _ _ _ h.g5,(ce _ (by omega)).trans h.g6,h.pl.set _ _ _⟩
theorem Nd.set6{W:World}{b o:Nat}{c0 c1 c2 c3 c4 c5 c6:Value}(h:Nd W b o c0 c1 c2 c3 c4 c5 c6)(d:Value):Nd (W.setCell ⟨b,o+6,none⟩ d) b o c0 c1 c2 c3 c4 c5 d:=by
 have ce:∀ j,j≠o+6→(W.setCell ⟨b,o+6,none⟩ d).cell? ⟨b,j,none⟩=W.cell? ⟨b,j,none⟩:=fun j hj=>World.cell?_setCell_other _ _ _ _ (off_ne (by omega))
 exact ⟨(ce _ (by omega)).trans h.g0,(ce _ (by omega)).trans h.g1,(ce _ (by omega)).trans h.g2,(ce _ (by omega)).trans h.g3,(ce _ (by omega)).trans h.g4,(ce _ (by omega)).trans h.g5,World.cell?_setCell_same _ _ _ h.g6,h.pl.set _ _ _⟩
structure Ch7 (W W':World) (b o:Nat):Prop where
 q:Qp (fun i=>i=b) W W'
 c:∀ j,j<o∨o+7≤j→W'.cell? ⟨b,j,none⟩=W.cell? ⟨b,j,none⟩
theorem Ch7.refl(W:World)(b o:Nat):Ch7 W W b o:=⟨Qp.refl _ _,fun _ _=>rfl⟩
theorem Ch7.q'{W W' W'':World}{b o:Nat}(h:Ch7 W W' b o)(hb:b<W.heap.size)(q:Q W' W''):Ch7 W W'' b o:=
 ⟨h.q.trans (Qp.of q),fun j hj=>(q.cell (Nat.lt_of_lt_of_le hb h.q.size)).trans (h.c j hj)⟩
theorem Ch7.set{W W':World}{b o:Nat}(h:Ch7 W W' b o)(k:Nat)(hk:k<7)(v:Value):Ch7 W (W'.setCell ⟨b,o+k,none⟩ v) b o:=
 ⟨h.q.set _ _ (.inl rfl),fun j hj=>(World.cell?_setCell_other _ _ _ _ (off_ne (by omega))).trans (h.c j hj)⟩
theorem Prm.step{x:Ex}{r n1:Nat}{W W3:World}{X:Nat→Prop}{S T3:List Pd}{b o c m:Nat}{k n:Int}{t:List UInt8}{bb:Bool}{e:Int}{rs:List Rf}{ks:List Ex}{rv:Value}{ao:Option Addr}{cap:Nat}
  (h:Prm x r n1 W X ((b,o,c,[.mk k n t bb e rs ks])::S)) (hX:∀ i,X i→i<W.heap.size) (hb:b<W.heap.size) (hbx:¬ X b)
  (hc:Ch7 W W3 b o) (hn:Nd W3 b o (.int .i64 k) (.int .i64 n) (.string ⟨t.toArray⟩) (.bool bb) (.int .i64 e) rv (.slice ao ks.length cap))
  (hr:OwR W3 rv rs W.heap.size m) (hm:m≤W3.heap.size) (hcap:ks.length≤cap) (hmx:cap≤maxLen)
  (hk:(ks=[]∧T3=S)∨∃ kb,ao=some ⟨kb,0,none⟩∧m≤kb∧kb<W3.heap.size∧Pl W3 kb∧T3=(kb,0,cap,ks)::S)
  (hS:∀ p∈S,p.1<W.heap.size∧(p.1=b→o+7≤p.2.1∨p.2.1+7*p.2.2.2.length≤o)):Prm x r n1 W3 X T3:=by
 intro W' hi hF hD
 have hsz:=hc.q.size;have hm0:=hr.1;have hT:∀ p∈T3,p∈S∨(m≤p.1):=by
  intro p hp
  rcases hk with ⟨_,e⟩|⟨kb,_,h1,_,_,e⟩
  ·rw [e]at hp;exact .inl hp
  ·rw [e]at hp
   rcases List.mem_cons.1 hp with rfl|hp
   ·exact .inr h1
   ·exact .inl hp
 have hold:∀ i j,i<W.heap.size→¬ X i→(i=b→j<o∨o+7≤j)→(∀ p∈S,¬ p.at_ i j)→W'.cell? ⟨i,j,none⟩=W.cell? ⟨i,j,none⟩:=by
  intro i j hi' hx hbo hp
  have f2:=(hF i (by omega) hx).2 j (fun p hp'=>by
   rcases hT p hp' with h'|h'
   ·exact hp p h'
   ·intro ⟨e1,_⟩
    omega)
  refine f2.trans ?_
  by_cases e:i=b
  ·subst e;exact hc.c j (hbo rfl)
  ·exact hc.q.cell hi' e
 have hnew:∀ i,W.heap.size≤i→i<m→Bs W3 W' i:=by
  intro i h1 h2
  obtain ⟨f1,f2⟩:=hF i (by omega) (fun e=>by have:=hX i e;omega)
  refine ⟨f1,fun j=>f2 j (fun p hp ⟨e1,_⟩=>?_)⟩
  rcases hT p hp with h'|h'
  ·have:=(hS p h').1;omega
  ·omega
 have hbo:∀ j,o≤j→j<o+7→W'.cell? ⟨b,j,none⟩=W3.cell? ⟨b,j,none⟩:=by
  intro j h1 h2
  refine (hF b (by omega) hbx).2 j (fun p hp ⟨e1,e2,e3⟩=>?_)
  rcases hT p hp with h'|h'
  ·rcases (hS p h').2 e1 with h''|h'' <;> omega
  ·omega
 refine h W' hi (fun i hi' hx=>⟨fun p=>?_,fun j hj=>?_⟩) ?_
 ·refine (hF i (by omega) hx).1 ?_
  by_cases e:i=b
  ·rw [e];exact hn.pl
  ·exact p.blk (hc.q.block i hi' e)
 ·refine hold i j hi' hx (fun e=>?_) (fun p hp=>hj p (List.mem_cons_of_mem _ hp))
  have:=hj _ (List.mem_cons_self ..)
  unfold Pd.at_ at this
  simp only [List.length_singleton]at this
  rcases Nat.lt_or_ge j o with h1|h1
  ·exact .inl h1
  ·rcases Nat.lt_or_ge j (o+7) with h2|h2
   ·exact absurd ⟨e.symm,h1,by omega⟩ this
   ·exact .inr h2
 ·have hy:∀ m0,W3.heap.size≤m0→(ks≠[]→∃ kb,ao=some ⟨kb,0,none⟩∧m≤kb∧kb<W3.heap.size∧Pl W' kb∧Ow.OwL W' ks kb 0 W3.heap.size m0)→Ow.OwL W' [.mk k n t bb e rs ks] b o W.heap.size m0:=by
   intro m0 h0 hkk
   unfold Ow.OwL
   refine ⟨m0,⟨_,_,_,_,_,_,_,(hbo _ (by omega) (by omega)).trans hn.g0,(hbo _ (by omega) (by omega)).trans hn.g1,(hbo _ (by omega) (by omega)).trans hn.g2,(hbo _ (by omega) (by omega)).trans hn.g3,(hbo _ (by omega) (by omega)).trans hn.g4,(hbo _ (by omega) (by omega)).trans hn.g5,(hbo _ (by omega) (by omega)).trans hn.g6,?_⟩,by unfold Ow.OwL;exact Nat.le_refl _⟩
   unfold Ow
   refine ⟨_,_,m,rfl,hr.on hnew,by omega,ao,cap,rfl,hcap,hmx,fun hne=>?_⟩
   obtain ⟨kb,e1,e2,e3,e4,e5⟩:=hkk hne;exact ⟨kb,_,e1,e2,e3,e4,e5⟩
  rcases hk with ⟨e0,e1⟩|⟨kb,k1,k2,k3,k4,k5⟩
  ·rw [e1]at hD
   unfold DnS
   exact ⟨W3.heap.size,hy _ (Nat.le_refl _) (fun h=>absurd e0 h),hD⟩
  ·rw [k5]at hD
   unfold DnS at hD
   obtain ⟨m',h1,h2⟩:=hD;have hle:=Ow.OwL.le _ _ _ _ _ h1;unfold DnS
   exact ⟨m',hy _ hle (fun _=>⟨kb,k1,k2,k3,(hF kb k3 (fun e=>by have:=hX kb e;omega)).1 k4,h1⟩),h2⟩
def Sn:Ex→Prop
 |.mk _ _ t _ _ rs ks=>t.length≤1000000∧rs.length≤1000∧(∀ r∈rs,r.1.length≤2000000)∧ks.length≤1000∧SnL ks
 where
 SnL:List Ex→Prop
 |[]=>True
 |x::xs=>Sn x∧SnL xs
theorem sn_kid:∀ {ks:List Ex},Sn.SnL ks→∀ y∈ks,Sn y
 |[],_,y,hy=>absurd hy (by simp)
 |x::xs,h,y,hy=>by
  unfold Sn.SnL at h
  rcases List.mem_cons.1 hy with rfl|hy
  ·exact h.1
  ·exact sn_kid h.2 y hy
def wgtP:List Pd→Nat
 |[]=>0
 |p::S=>nodes.nodesL p.2.2.2+wgtP S
theorem nodes_pos(y:Ex):1≤nodes y:=by
 cases y with
 |mk k n t b e rs ks=>rw [nodes];omega
structure Pg (W0 W:World) (r n1:Nat) (X:Nat→Prop) (p:Pd):Prop where
 pd:PdL W0 W p.2.2.2 p.1 p.2.1
 pl:Pl W p.1
 nx:¬ X p.1
 at_:p.1=r∨n1≤p.1
 ne:p.2.2.2≠[]
 le:p.2.2.2.length≤p.2.2.1
 mx:p.2.2.1≤maxLen
 sn:∀ y∈p.2.2.2,Sn y
theorem wgt_len{W0 W:World}{r n1:Nat}{X:Nat→Prop}:∀ {S:List Pd},(∀ p∈S,Pg W0 W r n1 X p)→S.length≤wgtP S
 |[],_=>by simp [wgtP]
 |p::S,h=>by
  have h1:=wgt_len (fun q hq=>h q (List.mem_cons_of_mem _ hq))
  have h2:=(h p (List.mem_cons_self ..)).ne;rw [wgtP];cases hp:p.2.2.2 with
  |nil=>exact absurd hp h2
  |cons y ys=>
   rw [nodes.nodesL,List.length_cons];have:=nodes_pos y
   omega
def Ap(p p':Pd):Prop:=p.1=p'.1→p.2.1+7*p.2.2.2.length≤p'.2.1∨p'.2.1+7*p'.2.2.2.length≤p.2.1
structure CI (W0 Ws:World) (x:Ex) (r n1 wb pm:Nat) (W:World) (X:Nat→Prop) (ov:Value) (S T:List Pd):Prop where
 q:Q W0 W
 wk:Wk W wb X ov (S.reverse.map Pd.sc)
 md:W.cell? ⟨pm,0,none⟩=some (.bool true)
 lo:n1≤W.heap.size∧W0.heap.size≤r∧r<n1∧W0.heap.size≤pm∧pm<n1∧pm≠r
 xl:∀ i,X i→i<W.heap.size∧W0.heap.size≤i∧i≠pm∧(i=wb∨n1≤i)
 kp:∀ i,i<n1→i≠r→i≠wb→W.heap[i]?=Ws.heap[i]?
 pd:∀ p∈T,Pg W0 W r n1 X p
 nd:T.Pairwise Ap
 prm:Prm x r n1 W X T
 wg:wgtP T≤1000
theorem Pg.qp{W0 W W':World}{r n1:Nat}{X X':Nat→Prop}{p:Pd}(h:Pg W0 W r n1 X p)(q:Qp X W W')(hx:∀ i,i<W.heap.size→X' i→X i):Pg W0 W' r n1 X' p:=by
 have hb:=q.block p.1 h.pl.lt h.nx;exact ⟨h.pd.on (fun j _ _=>World.cell?_of_block hb),h.pl.blk hb,fun e=>h.nx (hx _ h.pl.lt e),h.at_,h.ne,h.le,h.mx,h.sn⟩
theorem CI.qp{W0 Ws:World}{x:Ex}{r n1 wb pm:Nat}{W W':World}{X X':Nat→Prop}{ov ov':Value}{S S' T:List Pd}(h:CI W0 Ws x r n1 wb pm W X ov S T)(q:Qp X W W')(hx:∀ i,i<W.heap.size→X' i→X i)(hx':∀ i,X' i→X i∨W.heap.size≤i∧i<W'.heap.size)(wk:Wk W' wb X' ov' (S'.reverse.map Pd.sc)):CI W0 Ws x r n1 wb pm W' X' ov' S' T:=by
 have hl:=h.lo;have hs:=q.size;have hpm:¬ X pm:=fun e=>(h.xl pm e).2.2.1 rfl
 refine ⟨⟨q.os.trans h.q.os,q.tape.trans h.q.tape,q.output.trans h.q.output,Nat.le_trans h.q.size q.size,fun i hi=>(q.block i (Nat.lt_of_lt_of_le hi h.q.size) (fun e=>by have:=(h.xl i e).2.1;omega)).trans (Q.block h.q hi)⟩,wk,(q.cell (by omega) hpm).trans h.md,⟨by omega,hl.2⟩,fun i hi=>?_,fun i h1 h2 h3=>(q.block i (by omega) (fun e=>by have:=(h.xl i e).2.2.2;omega)).trans (h.kp i h1 h2 h3),fun p hp=>(h.pd p hp).qp q hx,h.nd,h.prm.same q hx,h.wg⟩
 rcases hx' i hi with e|e
 ·have:=h.xl i e
  exact ⟨by omega,this.2.1,this.2.2⟩
 ·have:=h.q.size
  exact ⟨e.2,by omega,by omega,.inr (by omega)⟩
theorem Prm.cap{x:Ex}{r n1:Nat}{W:World}{X:Nat→Prop}{S:List Pd}{b o c c':Nat}{f:List Ex}(h:Prm x r n1 W X ((b,o,c,f)::S)):Prm x r n1 W X ((b,o,c',f)::S):=by
 intro W' hi hF hD
 refine h W' hi (fun i hi' hx=>⟨(hF i hi' hx).1,fun j hj=>(hF i hi' hx).2 j (fun p hp=>?_)⟩) (by unfold DnS at hD ⊢;exact hD)
 rcases List.mem_cons.1 hp with rfl|hp
 ·exact hj (b,o,c,f) (List.mem_cons_self ..)
 ·exact hj p (List.mem_cons_of_mem _ hp)
def CR(W0 Ws:World)(x:Ex)(r n1 wb pm:Nat)(k:Nat)(v:Value)(W:World):Prop:=
 ∃ X ov S,(v=.pointer none∧k=0∧CI W0 Ws x r n1 wb pm W X ov [] [])∨∃ b o y,v=.pointer (some ⟨b,o,none⟩)∧k=wgtP ((b,o,1,[y])::S)∧CI W0 Ws x r n1 wb pm W X ov S ((b,o,1,[y])::S)
theorem next_ci{W0 Ws:World}{x:Ex}{r n1 wb pm:Nat}{W:World}{X:Nat→Prop}{ov:Value}{S:List Pd}(h:CI W0 Ws x r n1 wb pm W X ov S S) :
  Calls Tryz.prog 45 #[.pointer (some ⟨wb,0,none⟩)] W fun e W'=>∃ v,e=.returned v∧CR W0 Ws x r n1 wb pm (wgtP S) v W':=by
 cases S with
 |nil=>
  refine (next_nil wb X ov W h.wk).mono ?_
  rintro e W' ⟨rfl,rfl⟩
  exact ⟨_,rfl,X,ov,[],.inl ⟨rfl,rfl,h⟩⟩
 |cons p S=>
  obtain ⟨b,o,c,f⟩:=p;have hp:=h.pd _ (List.mem_cons_self ..);have hw:=h.wk;rw [List.reverse_cons,List.map_append,List.map_cons,List.map_nil]at hw;have hnd:=List.pairwise_cons.1 h.nd;cases f with
  |nil=>exact absurd rfl hp.ne
  |cons y ys=>
   have hpd:=hp.pd;unfold PdL at hpd
   have hy1:Pg W0 W r n1 X (b,o,1,[y]):=⟨by unfold PdL;exact ⟨hpd.1,by unfold PdL;trivial⟩,hp.pl,hp.nx,hp.at_,by simp,Nat.le_refl _,by show 1≤maxLen;unfold maxLen;omega,fun z hz=>hp.sn z (by simp at hz;subst hz;exact List.mem_cons_self ..)⟩
   cases ys with
   |nil=>
    refine (next_one wb X ov _ b o c W hw hp.le hp.mx).mono ?_
    rintro e W' ⟨rfl,⟨ov',hw'⟩,q⟩
    refine ⟨_,rfl,X,ov',S,.inr ⟨b,o,y,rfl,rfl,?_⟩⟩
    have h1:CI W0 Ws x r n1 wb pm W X ov ((b,o,c,[y])::S) ((b,o,1,[y])::S):=
     ⟨h.q,h.wk,h.md,h.lo,h.xl,h.kp,fun p hp'=>by
      rcases List.mem_cons.1 hp' with rfl|hp'
      ·exact hy1
      ·exact h.pd p (List.mem_cons_of_mem _ hp'),List.pairwise_cons.2 ⟨fun p hp'=>hnd.1 p hp',hnd.2⟩,h.prm.cap,h.wg⟩
    exact h1.qp q (fun _ _ e=>e) (fun _ e=>.inl e) hw'
   |cons z zs=>
    have hln:(y::z::zs).length=zs.length+2:=rfl
    have hw2:Wk W wb X ov (S.reverse.map Pd.sc++[(b,o,zs.length+2,c)]):=hw
    refine (next_more wb X ov _ b o zs.length c W hw2 hp.le hp.mx).mono ?_
    rintro e W' ⟨rfl,hw',q⟩
    refine ⟨_,rfl,X,ov,(b,o+7,c-1,z::zs)::S,.inr ⟨b,o,y,rfl,by simp [wgtP,nodes.nodesL];omega,?_⟩⟩
    have hle:=hp.le;have hmx:=hp.mx;simp only [hln]at hle
    have hz:Pg W0 W r n1 X (b,o+7,c-1,z::zs):=⟨hpd.2,hp.pl,hp.nx,hp.at_,by simp,by simp only [List.length_cons];omega,by simp only at hmx ⊢;omega,fun y' hy'=>hp.sn y' (List.mem_cons_of_mem _ hy')⟩
    have h1:CI W0 Ws x r n1 wb pm W X ov ((b,o,c,y::z::zs)::S) ((b,o,1,[y])::(b,o+7,c-1,z::zs)::S):=
     ⟨h.q,h.wk,h.md,h.lo,h.xl,h.kp,fun p hp'=>by
      rcases List.mem_cons.1 hp' with rfl|hp'
      ·exact hy1
      ·rcases List.mem_cons.1 hp' with rfl|hp'
       ·exact hz
       ·exact h.pd p (List.mem_cons_of_mem _ hp'),by
      refine List.pairwise_cons.2 ⟨fun p hp'=>?_,List.pairwise_cons.2 ⟨fun p hp'=>?_,hnd.2⟩⟩
      ·rcases List.mem_cons.1 hp' with rfl|hp'
       ·intro _;simp
       ·intro e
        have:=hnd.1 p hp' e
        simp only [hln,List.length_singleton]at this ⊢
        omega
      ·intro e
       have:=hnd.1 p hp' e
       simp only [hln,List.length_cons]at this ⊢
       omega,h.prm.split,by have:=h.wg;simp only [wgtP,nodes.nodesL]at this ⊢;omega⟩
    refine h1.qp q (fun _ _ e=>e) (fun _ e=>.inl e) ?_
    rw [List.reverse_cons,List.map_append,List.map_cons,List.map_nil];exact hw'
theorem enter_ci{W0 Ws:World}{x:Ex}{r n1 wb pm:Nat}{W:World}{X:Nat→Prop}{ov:Value}{S T:List Pd}{ao:Option Addr}{n cap:Nat}(h:CI W0 Ws x r n1 wb pm W X ov S T)(hn:n≤1000)(hk:(n=0∧T=S)∨∃ kb ks,0<n∧ao=some ⟨kb,0,none⟩∧n=ks.length∧T=(kb,0,cap,ks)::S) :
  Calls Tryz.prog 44 #[.pointer (some ⟨wb,0,none⟩),.slice ao n cap] W fun e W'=>(∃ u,e=.returned u)∧∃ X' ov',CI W0 Ws x r n1 wb pm W' X' ov' T T:=by
 rcases hk with ⟨rfl,rfl⟩|⟨kb,ks,h0,rfl,hl,rfl⟩
 ·refine (enter_nil wb cap ao W).mono ?_
  rintro e W' ⟨hu,rfl⟩
  exact ⟨hu,X,ov,h⟩
 ·have hlen:=wgt_len h.pd
  have hwg:=h.wg;refine (enter_any wb X ov _ kb 0 n cap W h.wk h0 (by omega) (by simp only [List.length_map,List.length_reverse,List.length_cons]at hlen ⊢;omega)).mono ?_
  rintro e W' ⟨hu,ov',hw',q,hj⟩
  refine ⟨hu,(fun i=>X i∨ov'.ownBlock=some i),ov',h.qp q (fun i hi e=>?_) (fun i e=>?_) ?_⟩
  ·rcases e with e|e
   ·exact e
   ·rcases hj i e with e'|e'
    ·exact e'
    ·omega
  ·rcases e with e|e
   ·exact .inl e
   ·rcases hj i e with e'|e'
    ·exact .inl e'
    ·exact .inr ⟨e',hw'.ow.lt i e⟩
  ·rw [List.reverse_cons,List.map_append,List.map_cons,List.map_nil]
   have:Pd.sc (kb,0,cap,ks)=(kb,0,n,cap):=by unfold Pd.sc;rw [hl]
   rw [this];exact hw'
theorem mu_ex{P:Nat→Prop}(h:∃ k,P k):P (Classical.epsilon (fun k=>P k∧∀ j,P j→k≤j))∧∀ j,P j→Classical.epsilon (fun k=>P k∧∀ j,P j→k≤j)≤j:=by
 have hm:∃ k,P k∧∀ j,P j→k≤j:=by
  obtain ⟨k,hk⟩:=h
  induction k using Nat.strongRecOn with
  |_ k ih=>
   by_cases hj:∃ j,j<k∧P j
   ·obtain ⟨j,h1,h2⟩:=hj
    exact ih j h1 h2
   ·exact ⟨k,hk,fun j h2=>Nat.le_of_not_lt (fun h1=>hj ⟨j,h1,h2⟩)⟩
 exact Classical.epsilon_spec hm
theorem kids_cells{W0:World}:∀ (ks:List Ex) (b off:Nat),Rd.RdL W0 ks b off→∃ cs:List Value,cs.length=ks.length*7∧(∀ j v,cs[j]?=some v→W0.cell? ⟨b,off+j,none⟩=some v)∧(∀ v∈cs,v.oneCell'=true)∧∀ (W:World) (kb o:Nat),(∀ j v,cs[j]?=some v→W.cell? ⟨kb,o+j,none⟩=some v)→PdL W0 W ks kb o
 |[],_,_,_=>⟨[],by simp,by simp,by simp,fun _ _ _ _=>by unfold PdL;trivial⟩
 |x::xs,b,off,h=>by
  unfold Rd.RdL at h
  obtain ⟨⟨c0,c1,c2,c3,c4,c5,c6,g0,g1,g2,g3,g4,g5,g6,hx⟩,hr⟩:=h;obtain ⟨cs,e1,e2,e3,e4⟩:=kids_cells xs b (off+7) hr;refine ⟨c0::c1::c2::c3::c4::c5::c6::cs,by simp only [List.length_cons,e1];omega,?_,?_,?_⟩
  ·intro j v hj
   match j,hj with
   |0,hj=>simp at hj;subst hj;exact g0
   |1,hj=>simp at hj;subst hj;exact g1
   |2,hj=>simp at hj;subst hj;exact g2
   |3,hj=>simp at hj;subst hj;exact g3
   |4,hj=>simp at hj;subst hj;exact g4
   |5,hj=>simp at hj;subst hj;exact g5
   |6,hj=>simp at hj;subst hj;exact g6
   |j+7,hj=>
    have:=e2 j v (by simpa using hj)
    rw [show off+(j+7)=off+7+j by omega]
    exact this
  ·obtain ⟨k',n',t',b1',e',a1',l1',c1',a2',l2',c2',hsh⟩:=hx.shape
   simp only [Value.agg.injEq,Array.mk.injEq,List.cons.injEq,and_true]at hsh
   obtain ⟨rfl,rfl,rfl,rfl,rfl,rfl,rfl⟩:=hsh;intro v hv
   simp only [List.mem_cons]at hv
   rcases hv with rfl|rfl|rfl|rfl|rfl|rfl|rfl|hv
   all_goals first|rfl|exact e3 v hv
  ·intro W kb o hc
   unfold PdL
   refine ⟨⟨c0,c1,c2,c3,c4,c5,c6,hc 0 _ rfl,hc 1 _ rfl,hc 2 _ rfl,hc 3 _ rfl,hc 4 _ rfl,hc 5 _ rfl,hc 6 _ rfl,hx⟩,e4 W kb (o+7) (fun j v hj=>?_)⟩
   have:=hc (j+7) v (by simpa using hj)
   rw [show o+7+j=o+(j+7) by omega]
   exact this
theorem of_ci(pm:Nat)(ao:Option Addr)(ks:List Ex)(cap:Nat)(W0 W:World)(q:Q W0 W)(hp:W.cell? ⟨pm,0,none⟩=some (.bool true))(hn:ks.length≤1000)(hk:ks≠[]→∃ b' off,ao=some ⟨b',off,none⟩∧Pl W0 b'∧Rd.RdL W0 ks b' off) :
  Calls Tryz.prog 48 #[.pointer (some ⟨pm,0,none⟩),.slice ao ks.length cap] W fun e W'=>∃ ao' cap',e=.returned (.tuple #[.slice ao' ks.length cap',.bool false])∧Q W W'∧ks.length≤cap'∧cap'≤maxLen∧(ks≠[]→∃ kb,ao'=some ⟨kb,0,none⟩∧W.heap.size≤kb∧kb<W'.heap.size∧Pl W' kb∧PdL W0 W' ks kb 0):=by
 cases ao with
 |none=>
  have e0:ks=[]:=by
   cases ks with
   |nil=>rfl
   |cons y ys=>
    obtain ⟨b',off,ha,_⟩:=hk (by simp)
    cases ha
  subst e0;refine (of_nil pm 0 cap W hp).mono ?_
  rintro e W' ⟨rfl,q'⟩
  exact ⟨none,0,rfl,q',Nat.le_refl _,Nat.zero_le _,fun h=>absurd rfl h⟩
 |some a=>
  by_cases hne:ks=[]
  ·subst hne
   refine (of_any pm a 0 cap [] W hp (by omega) rfl (by simp) (by simp)).mono ?_
   rintro e W' ⟨rfl,h⟩
   exact ⟨_,0,rfl,h.q,Nat.le_refl _,Nat.zero_le _,fun h=>absurd rfl h⟩
  ·obtain ⟨b',off,ha,_,hl⟩:=hk hne
   cases ha
   obtain ⟨cs,e1,e2,e3,e4⟩:=kids_cells ks b' off hl;refine (of_any pm ⟨b',off,none⟩ ks.length cap cs W hp hn e1 (fun j v hj=>?_) e3).mono ?_
   ·rw [add_lit]
    have:=e2 j v hj
    exact (q.cell (World.block_lt_of_cell? W0 ⟨b',off+j,none⟩ this)).trans this
   ·rintro e W' ⟨rfl,h⟩
    refine ⟨_,_,rfl,h.q,Nat.le_refl _,by unfold maxLen;omega,fun _=>⟨_,rfl,Nat.le_refl _,h.lt,⟨_,_,h.hp⟩,e4 W' _ 0 (fun j v hj=>?_)⟩⟩
    rw [cell_of_row W' _ _ _ _ (0,0) h.hp]
    simpa using hj
theorem Pg.ch7{W0 W W':World}{r n1:Nat}{X:Nat→Prop}{p:Pd}{b o:Nat}(h:Pg W0 W r n1 X p)(c:Ch7 W W' b o)(hb:Pl W' b)(ha:p.1=b→o+7≤p.2.1∨p.2.1+7*p.2.2.2.length≤o):Pg W0 W' r n1 X p:=by
 by_cases e:p.1=b
 ·refine ⟨h.pd.on (fun j h1 h2=>?_),by rw [e];exact hb,h.nx,h.at_,h.ne,h.le,h.mx,h.sn⟩
  rw [e]
  rcases ha e with h'|h'
  ·exact c.c j (by omega)
  ·exact c.c j (by omega)
 ·have hq:=c.q.block p.1 h.pl.lt e
  exact ⟨h.pd.on (fun j _ _=>World.cell?_of_block hq),h.pl.blk hq,h.nx,h.at_,h.ne,h.le,h.mx,h.sn⟩
theorem CI.node{W0 Ws:World}{x:Ex}{r n1 wb pm:Nat}{W W3:World}{X:Nat→Prop}{ov:Value}{S:List Pd}{b o m:Nat}{k n:Int}{t:List UInt8}{bb:Bool}{e:Int}{rs:List Rf}{ks:List Ex}{rv:Value}{ao:Option Addr}{cap:Nat}
  (h:CI W0 Ws x r n1 wb pm W X ov S ((b,o,1,[.mk k n t bb e rs ks])::S))
  (hc:Ch7 W W3 b o) (hn:Nd W3 b o (.int .i64 k) (.int .i64 n) (.string ⟨t.toArray⟩) (.bool bb) (.int .i64 e) rv (.slice ao ks.length cap))
  (hr:OwR W3 rv rs W.heap.size m) (hm:m≤W3.heap.size) (hcap:ks.length≤cap) (hmx:cap≤maxLen)
  (hk:ks≠[]→∃ kb,ao=some ⟨kb,0,none⟩∧m≤kb∧kb<W3.heap.size∧Pl W3 kb∧PdL W0 W3 ks kb 0) :
  ∃ T3,CI W0 Ws x r n1 wb pm W3 X ov S T3∧wgtP T3<wgtP ((b,o,1,[.mk k n t bb e rs ks])::S)∧((ks.length=0∧T3=S)∨∃ kb ks',0<ks.length∧ao=some ⟨kb,0,none⟩∧ks.length=ks'.length∧T3=(kb,0,cap,ks')::S):=by
 have hp:=h.pd _ (List.mem_cons_self ..);have hb:b<W.heap.size:=hp.pl.lt
 have hbx:¬ X b:=hp.nx
 have hat:b=r∨n1≤b:=hp.at_
 have hlo:=h.lo;have hsz:=hc.q.size;have hm0:=hr.1;have hnd:=List.pairwise_cons.1 h.nd;have hsn:=hp.sn _ (List.mem_cons_self ..);unfold Sn at hsn
 have hS:∀ p∈S,p.1<W.heap.size∧(p.1=b→o+7≤p.2.1∨p.2.1+7*p.2.2.2.length≤o):=fun p hp'=>⟨(h.pd p (List.mem_cons_of_mem _ hp')).pl.lt,fun e=>by
  have:=hnd.1 p hp' e.symm
  simpa using this⟩
 have hq0:Q W0 W3:=⟨hc.q.os.trans h.q.os,hc.q.tape.trans h.q.tape,hc.q.output.trans h.q.output,Nat.le_trans h.q.size hsz,fun i hi=>(hc.q.block i (Nat.lt_of_lt_of_le hi h.q.size) (fun e=>by have:=h.q.size;omega)).trans (Q.block h.q hi)⟩
 have hwk:Wk W3 wb X ov (S.reverse.map Pd.sc):=h.wk.qp hc.q (fun i e hx=>by subst e;exact hbx hx)
 have hmd:W3.cell? ⟨pm,0,none⟩=some (.bool true):=(hc.q.cell (by omega) (fun e=>by omega)).trans h.md
 have hkp:∀ i,i<n1→i≠r→i≠wb→W3.heap[i]?=Ws.heap[i]?:=fun i h1 h2 h3=>(hc.q.block i (by omega) (fun e=>by omega)).trans (h.kp i h1 h2 h3)
 have hxl:∀ i,X i→i<W3.heap.size∧W0.heap.size≤i∧i≠pm∧(i=wb∨n1≤i):=fun i hi=>by have:=h.xl i hi;exact ⟨by omega,this.2⟩
 have hpd:∀ p∈S,Pg W0 W3 r n1 X p:=fun p hp'=>(h.pd p (List.mem_cons_of_mem _ hp')).ch7 hc hn.pl (hS p hp').2
 have hwg:=h.wg;have hw1:wgtP ((b,o,1,[.mk k n t bb e rs ks])::S)=1+nodes.nodesL ks+wgtP S:=by simp only [wgtP,nodes.nodesL,nodes];omega
 by_cases hne:ks=[]
 ·refine ⟨S,⟨hq0,hwk,hmd,⟨by omega,hlo.2⟩,hxl,hkp,hpd,hnd.2,?_,by omega⟩,by omega,.inl ⟨by rw [hne];rfl,rfl⟩⟩
  exact h.prm.step (fun i hi=>(h.xl i hi).1) hb hbx hc hn hr hm hcap hmx (.inl ⟨hne,rfl⟩) hS
 ·obtain ⟨kb,k1,k2,k3,k4,k5⟩:=hk hne
  refine ⟨(kb,0,cap,ks)::S,⟨hq0,hwk,hmd,⟨by omega,hlo.2⟩,hxl,hkp,fun p hp'=>?_,List.pairwise_cons.2 ⟨fun p hp' e=>?_,hnd.2⟩,?_,by simp only [wgtP];omega⟩,by rw [hw1];simp only [wgtP];omega,.inr ⟨kb,ks,List.length_pos_iff.2 hne,k1,rfl,rfl⟩⟩
  ·rcases List.mem_cons.1 hp' with rfl|hp'
   ·exact ⟨k5,k4,fun hx=>by have:=(h.xl _ hx).1;simp only at this;omega,.inr (by simp only;omega),hne,hcap,hmx,sn_kid hsn.2.2.2.2⟩
   ·exact hpd p hp'
  ·have:=(hS p hp').1
   simp only at e
   omega
  ·exact h.prm.step (fun i hi=>(h.xl i hi).1) hb hbx hc hn hr hm hcap hmx (.inr ⟨kb,k1,k2,k3,k4,rfl⟩) hS
theorem OwR.shape{W:World}{v:Value}{L:List Rf}{lo hi:Nat}(h:OwR W v L lo hi):∃ a l c,v=.slice a l c:=by
 obtain ⟨_,ao,cap,hv,_⟩:=h
 exact ⟨_,_,_,hv⟩
theorem CI.start{W0 W:World}{x:Ex}{v:Value}{r pm wb:Nat}{c0 c1 c2 c3 c4 c5 c6:Value}(q:Q W0 W)(hr:W0.heap.size≤r)(h1:r<pm)(h2:pm<wb)(h3:wb<W.heap.size)
  (hn:Nd W r 0 c0 c1 c2 c3 c4 c5 c6) (hx:Rd W0 x (.agg #[c0,c1,c2,c3,c4,c5,c6])) (hm:W.cell? ⟨pm,0,none⟩=some (.bool true)) (hw:W.cell? ⟨wb,0,none⟩=some (.slice none 0 0)) (hf:W.frozen? ⟨wb,0,none⟩=false)
  (hs:Sn x) (hk:nodes x≤1000):CI W0 W x r W.heap.size wb pm W (fun i=>i=wb) (.slice none 0 0) [] [(r,0,1,[x])]:=by
 refine ⟨q,⟨hw,hf,own_nil _,rfl,fun j hj=>by cases hj⟩,hm,⟨Nat.le_refl _,hr,by omega,by omega,by omega,by omega⟩,fun i hi=>by subst hi;exact ⟨h3,by omega,by omega,.inl rfl⟩,fun _ _ _ _=>rfl,fun p hp=>?_,List.pairwise_singleton _ _,Prm.start x r _ 1 W _ (Nat.le_refl _),by simp only [wgtP,nodes.nodesL];omega⟩
 simp only [List.mem_singleton]at hp
 subst hp;refine ⟨?_,hn.pl,by simp only;omega,.inl rfl,by simp,by simp,by show 1≤maxLen;unfold maxLen;omega,fun y hy=>by simp at hy;subst hy;exact hs⟩
 unfold PdL
 exact ⟨⟨c0,c1,c2,c3,c4,c5,c6,hn.g0,by simpa using hn.g1,by simpa using hn.g2,by simpa using hn.g3,by simpa using hn.g4,by simpa using hn.g5,by simpa using hn.g6,hx⟩,by unfold PdL;trivial⟩
theorem nd_new(W:World)(c0 c1 c2 c3 c4 c5 c6:Value)(t:TypeId):Nd (W.alloc (.cells #[c0,c1,c2,c3,c4,c5,c6] t)) W.heap.size 0 c0 c1 c2 c3 c4 c5 c6:=by
 refine ⟨?_,?_,?_,?_,?_,?_,?_,pl_new _ _ _⟩
 all_goals simp [World.cell?_alloc_new]
theorem Tb.blk{W W':World}{q:Nat}{c0 c1 c2 c3 c4 c5 c6:Value}(h:Tb W q c0 c1 c2 c3 c4 c5 c6)(e:W'.heap[q]?=W.heap[q]?):Tb W' q c0 c1 c2 c3 c4 c5 c6:=by
 have ce:∀ j,W'.cell? ⟨q,j,none⟩=W.cell? ⟨q,j,none⟩:=fun j=>World.cell?_of_block e
 exact ⟨(ce _).trans h.g0,(ce _).trans h.g1,(ce _).trans h.g2,(ce _).trans h.g3,(ce _).trans h.g4,(ce _).trans h.g5,(ce _).trans h.g6,fun j=>(World.frozen?_of_block (a:=⟨q,j,none⟩) e).trans (h.f j)⟩
theorem copied_start(x:Ex)(v0 v1 v2 v3 v4 v5 v6:Value)(W w2:World)(hx:Rd W x (.agg #[v0,v1,v2,v3,v4,v5,v6]))(hs:Sn x)(hk:nodes x≤1000)
  (q2:Q (((W.alloc (.cells #[v0,v1,v2,v3,v4,v5,v6] 26)).alloc (.cells #[.int .i64 0,.int .i64 0,.string ⟨#[]⟩,.bool false,.int .i64 0,.slice none 0 0,.slice none 0 0] 26)).alloc (.cells #[v0,v1,v2,v3,v4,v5,v6] 26)) w2) :
  ∃ Ws M,Hid (Tb Ws (W.heap.size+1) (.int .i64 0) (.int .i64 0) (.string ⟨#[]⟩) (.bool false) (.int .i64 0) (.slice none 0 0) (.slice none 0 0))∧W.heap.size+1+1<M∧W.heap.size+1<w2.heap.size∧Calls Tryz.prog 44 #[.pointer (some ⟨w2.heap.size+1,0,none⟩),.slice (some ⟨W.heap.size+1+1,0,none⟩) 1 1] ((w2.alloc (.cells #[.bool true,.map none] 83)).alloc (.cells #[.slice none 0 0] 86)) fun e W'=>(∃ u,e=.returned u)∧∃ X' ov',CI W Ws x (W.heap.size+1+1) M (w2.heap.size+1) w2.heap.size W' X' ov' [(W.heap.size+1+1,0,1,[x])] [(W.heap.size+1+1,0,1,[x])]:=by
 obtain ⟨wa,hwa⟩:∃ wa,wa=(W.alloc (.cells #[v0,v1,v2,v3,v4,v5,v6] 26)).alloc (.cells #[.int .i64 0,.int .i64 0,.string ⟨#[]⟩,.bool false,.int .i64 0,.slice none 0 0,.slice none 0 0] 26):=⟨_,rfl⟩;have sza:wa.heap.size=W.heap.size+1+1:=by rw [hwa];simp
 have qa:Q W wa:=by rw [hwa];exact ((Q.refl _).alloc _).alloc _
 have ta:Tb wa (W.heap.size+1) (.int .i64 0) (.int .i64 0) (.string ⟨#[]⟩) (.bool false) (.int .i64 0) (.slice none 0 0) (.slice none 0 0):=by
  have:=tb_new (W.alloc (.cells #[v0,v1,v2,v3,v4,v5,v6] 26)) (.int .i64 0) (.int .i64 0) (.string ⟨#[]⟩) (.bool false) (.int .i64 0) (.slice none 0 0) (.slice none 0 0) 26
  rw [hwa]
  simpa using this
 rw [←hwa]at q2;have nb:=nd_new wa v0 v1 v2 v3 v4 v5 v6 26;rw [sza]at nb;have sz2:=q2.size;rw [World.size_alloc,sza]at sz2;obtain ⟨w3,hw3⟩:∃ w3,w3=(w2.alloc (.cells #[.bool true,.map none] 83)).alloc (.cells #[.slice none 0 0] 86):=⟨_,rfl⟩;have q3:Q w2 w3:=by rw [hw3];exact ((Q.refl _).alloc _).alloc _
 have sz3:w3.heap.size=w2.heap.size+1+1:=by rw [hw3];simp
 have q13:Q wa w3:=(((Q.refl _).alloc _).trans q2).trans q3
 have hci:CI W w3 x (W.heap.size+1+1) w3.heap.size (w2.heap.size+1) w2.heap.size w3 (fun i=>i=w2.heap.size+1) (.slice none 0 0) [] [(W.heap.size+1+1,0,1,[x])]:=by
  refine CI.start (v:=.agg #[v0,v1,v2,v3,v4,v5,v6]) (qa.trans q13) (by omega) (by omega) (by omega) (by omega) ((nb.on q2).on q3) hx ?_ ?_ ?_ hs hk
  ·rw [hw3];simp [go_sem]
  ·rw [hw3];simp
  ·rw [hw3];simp
 refine ⟨w3,w3.heap.size,hid (ta.blk (Q.block q13 (by omega))),by omega,by omega,?_⟩
 have he:=enter_ci (n:=1) (cap:=1) (ao:=some ⟨W.heap.size+1+1,0,none⟩) hci (by omega) (.inr ⟨_,[x],by omega,rfl,rfl,rfl⟩)
 rw [←hw3];exact he
theorem rf_inj{x y:Rf}(h:rf x=rf y):x=y:=by
 obtain ⟨s,r,c,a,b⟩:=x;obtain ⟨s',r',c',a',b'⟩:=y;simp only [rf,List.cons.injEq,Value.string.injEq,ByteArray.mk.injEq,Value.int.injEq,Value.bool.injEq,true_and,and_true]at h
 obtain ⟨h1,h2,h3,h4,h5⟩:=h;have:s=s':=by simpa using h1
 subst this h2 h3 h4 h5
 rfl
theorem ats_det{W:World}{b o:Nat}{x y:Rf}(h:Ats rf W b o x)(h':Ats rf W b o y):x=y:=by
 refine rf_inj (List.ext_getElem? fun i=>?_)
 by_cases hi:i<5
 ·have h1:=h i _ (List.getElem?_eq_getElem (l:=rf x) (by rw [rf_len];exact hi))
  have h2:=h' i _ (List.getElem?_eq_getElem (l:=rf y) (by rw [rf_len];exact hi))
  rw [h1]at h2;rw [List.getElem?_eq_getElem (l:=rf x) (by rw [rf_len];exact hi),List.getElem?_eq_getElem (l:=rf y) (by rw [rf_len];exact hi)]
  exact h2
 ·rw [List.getElem?_eq_none (by rw [rf_len];omega),List.getElem?_eq_none (by rw [rf_len];omega)]
theorem sl_det{W:World}{v:Value}{L L':List Rf}(h:Sl rf 5 W v L)(h':Sl rf 5 W v L'):L=L':=by
 obtain ⟨ao,cap,hv,_,_,h⟩:=h;obtain ⟨ao',cap',hv',_,_,h'⟩:=h';rw [hv]at hv';simp only [Value.slice.injEq]at hv'
 obtain ⟨ha,hl,_⟩:=hv';subst ha;refine List.ext_getElem hl fun i h1 h2=>?_
 obtain ⟨b,off,e,hc⟩:=h (by omega)
 obtain ⟨b',off',e',hc'⟩:=h' (by omega)
 rw [e]at e';simp only [Option.some.injEq,Addr.mk.injEq]at e'
 obtain ⟨rfl,rfl,_⟩:=e';exact ats_det (hc i h1) (hc' i h2)
theorem Rd.det{W:World}:∀ (x y:Ex) (v:Value),Rd W x v→Rd W y v→x=y
 |.mk k n t b e rs ks,.mk k' n' t' b' e' rs' ks',v,h,h'=>by
  unfold Rd at h h'
  obtain ⟨rv,kv,hv,hr,ao,cap,hk,_,_,h3⟩:=h;obtain ⟨rv',kv',hv',hr',ao',cap',hk',_,_,h3'⟩:=h';rw [hv]at hv';simp only [Value.agg.injEq,Array.mk.injEq,List.cons.injEq,Value.int.injEq,Value.string.injEq,ByteArray.mk.injEq,Value.bool.injEq,true_and,and_true]at hv'
  obtain ⟨rfl,rfl,ht,rfl,rfl,rfl,rfl⟩:=hv';have et:t=t':=by simpa using ht
  subst et;have er:=sl_det hr hr';subst er;rw [hk]at hk';simp only [Value.slice.injEq]at hk'
  obtain ⟨rfl,hl,_⟩:=hk';have ek:ks=ks':=by
   by_cases hn:ks=[]
   ·subst hn
    exact (List.eq_nil_of_length_eq_zero hl.symm).symm
   ·obtain ⟨q,off,ea,_,hd⟩:=h3 hn
    obtain ⟨q',off',ea',_,hd'⟩:=h3' (fun e=>hn (by rw [e]at hl;exact List.eq_nil_of_length_eq_zero hl))
    rw [ea]at ea';simp only [Option.some.injEq,Addr.mk.injEq]at ea'
    obtain ⟨rfl,rfl,_⟩:=ea';exact go ks ks' q off hl hd hd'
  subst ek
  rfl
 where
 go {W:World}:∀ (l l':List Ex) (b off:Nat),l.length=l'.length→Rd.RdL W l b off→Rd.RdL W l' b off→l=l'
 |[],[],_,_,_,_,_=>rfl
 |[],_::_,_,_,hl,_,_=>by simp at hl
 |_::_,[],_,_,hl,_,_=>by simp at hl
 |x::xs,y::ys,b,off,hl,h,h'=>by
  unfold Rd.RdL at h h'
  obtain ⟨⟨c0,c1,c2,c3,c4,c5,c6,g0,g1,g2,g3,g4,g5,g6,hx⟩,hr⟩:=h;obtain ⟨⟨d0,d1,d2,d3,d4,d5,d6,i0,i1,i2,i3,i4,i5,i6,hy⟩,hs⟩:=h';rw [g0]at i0;rw [g1]at i1;rw [g2]at i2;rw [g3]at i3;rw [g4]at i4;rw [g5]at i5;rw [g6]at i6;cases i0
  cases i1
  cases i2
  cases i3
  cases i4
  cases i5
  cases i6
  rw [Rd.det x y _ hx hy,go xs ys b (off+7) (by simpa using hl) hr hs]
theorem rdl_det{W:World}{l l':List Ex}{b off:Nat}(hl:l.length=l'.length)(h:Rd.RdL W l b off)(h':Rd.RdL W l' b off):l=l':=Rd.det.go l l' b off hl h h'
def kd:Ex→List Ex
 |.mk _ _ _ _ _ _ ks=>ks
def TL(W:World)(v:Value)(ks:List Ex):Prop:=∃ (ao:Option Addr) (cap:Nat),v=.slice ao ks.length cap∧ks.length≤cap∧cap≤maxLen∧(ks≠[]→∃ b off,ao=some ⟨b,off,none⟩∧Pl W b∧Rd.RdL W ks b off)
theorem place_of(b o n cap:Nat)(W:World)(hn:0<n)(hm:n≤1000) :
  Calls Tryz.prog 63 #[.slice (some ⟨b,o,none⟩) n cap] W fun e W'=>e=.returned (pkV (b,o,n))∧Q W W':=by
 have hn':(0:Int)<(n:Int):=by omega
 unfold pkV
 go_enter Tryz.func63,Tryz.ntmps63
 go_wp2
 refine bodyPost_ret (v:=.agg #[.pointer (some ⟨b,o,none⟩),.int .i64 (n:Int)]) (by simp [results,Tryz.results63,go_sem]) rfl ?_
 exact ⟨rfl,by repeat (first|with_reducible exact Q.refl _|with_reducible refine Q.alloc ?_ _|with_reducible refine Q.setCell ?_ (by simp) _)⟩
theorem refs_weight(b o:Nat)(c0 c1 c2 c3 c4 c6:Value)(ar:Option Addr)(n cr:Nat)(W:World)(h:W.cell? ⟨b,o+5,none⟩=some (.slice ar n cr))(hn:n≤100000000) :
  Calls Tryz.prog 37 #[.pointer (some ⟨b,o,none⟩)] W fun e W'=>e=.returned (.int .i64 (40*(n:Int)))∧W'=W:=by
 have hn':(n:Int)≤100000000:=by omega
 go_enter Tryz.func37,Tryz.ntmps37
 go_wp2
 go_ret
 exact ⟨rfl,rfl⟩
theorem whole_weight(b o:Nat)(t:ByteArray)(ar:Option Addr)(n cr:Nat)(W:World)(h2:W.cell? ⟨b,o+2,none⟩=some (.string t))(h:W.cell? ⟨b,o+5,none⟩=some (.slice ar n cr))(hn:n≤100000000)(ht:t.size≤3000000000) :
  Calls Tryz.prog 68 #[.pointer (some ⟨b,o,none⟩)] W fun e W'=>e=.returned (.int .i64 (96+(t.size:Int)+40*(n:Int)))∧∃ m,W'=W.drewN m:=by
 have HR:=hid (fun m=>refs_weight b o (.bool true) (.bool true) (.bool true) (.bool true) (.bool true) (.bool true) ar n cr (W.drewN m) h hn)
 have hn':(n:Int)≤100000000:=by omega
 have ht':(t.size:Int)≤3000000000:=by omega
 go_enter Tryz.func68,Tryz.ntmps68
 go_wp2_with fail
 go_quiet (first|(go_at_call 37;exact Calls.quiet_of_same (HR.out _))|(exact Calls.quiet_of_same (HR.out _)))
 all_goals go_wp2_with fail
 all_goals go_ret
 all_goals first|exact ⟨rfl,_,rfl⟩|exact ⟨rfl,1,rfl⟩
theorem add_any(g o:Nat)(x n:Int)(W:World)(h:W.cell? ⟨g,o+3,none⟩=some (.int .i64 x))(hf:W.frozen? ⟨g,o+3,none⟩=false)(h0:0≤x)(h1:0≤n)(h2:x+n≤2147483648) :
  Calls Tryz.prog 80 #[.pointer (some ⟨g,o,none⟩),.int .i64 n] W fun e W'=>e=.returned (.tuple #[])∧W'=W.setCell ⟨g,o+3,none⟩ (.int .i64 (x+n)):=by
 have hmin:min (x+n) 2147483648=x+n:=by omega
 go_enter Tryz.func80,Tryz.ntmps80
 go_wp2
 refine bodyPost_end (v:=.tuple #[]) (by simp [results,Tryz.results80,go_sem]) rfl ?_
 exact ⟨rfl,by simp only [hmin]⟩
abbrev Od:=Pk × Value × Int
def encO(x:Od):List Value:=[.pointer (some ⟨x.1.1,x.1.2.1,none⟩),.int .i64 (x.1.2.2:Int),x.2.1,.int .i64 x.2.2]
theorem encO_len(x:Od):(encO x).length=4:=rfl
theorem flat_encO(L:List Od)(x:Od):flat encO L++encO x=flat encO (L++[x]):=by
 rw [flat_snoc]
theorem info119o:(Tryz.prog.info? 119).map (fun i=>(i.zero,i.size,i.bytes))=some (some (.agg #[.pointer none,.int .i64 0,.slice none 0 0,.int .i64 0]),4,48):=by kernel_rfl
theorem Qp.gr{W W':World}{r:Option Nat}(g:W.grownBy W' r):Qp (fun i=>r=some i) W W':=⟨g.os,g.tape,g.output,g.size,fun i hi hp=>g.block i hi (fun e=>hp e.symm)⟩
structure ScA (W:World) (B s mb:Nat) (wv v:Value) (es:List (Pk × S3)) (L:List Od):Prop where
 c0:W.cell? ⟨s,0,none⟩=some wv
 c1:W.cell? ⟨s,1,none⟩=some (.map (some mb))
 c2:W.cell? ⟨s,2,none⟩=some v
 c3:W.cell? ⟨s,3,none⟩=some (.bool false)
 f:∀ j,W.frozen? ⟨s,j,none⟩=false
 mp:MapS W mb es
 ow:Own encO 119 4 B W v L
 hs:B≤s
 hm:B≤mb
 sm:s≠mb
 os:v.ownBlock≠some s
 om:v.ownBlock≠some mb
 pl:∀ e∈es,Pl W e.1.1∧e.1.1<B
theorem MapS.lt{W:World}{b:Nat}{es:List (Pk × S3)}(h:MapS W b es):b<W.heap.size:=by
 obtain ⟨ms,c,hb,_⟩:=h;exact (Array.getElem?_eq_some_iff.1 hb).1
theorem ScA.lt{W:World}{B s mb:Nat}{wv v:Value}{es:List (Pk × S3)}{L:List Od}(h:ScA W B s mb wv v es L):s<W.heap.size:=World.block_lt_of_cell? W ⟨s,0,none⟩ h.c0
theorem ScA.bs{W:World}{B s mb:Nat}{wv v:Value}{es:List (Pk × S3)}{L:List Od}(h:ScA W B s mb wv v es L):B≤W.heap.size:=Nat.le_of_lt (Nat.lt_of_le_of_lt h.hs h.lt)
theorem ScA.qp{W W':World}{B s mb:Nat}{wv v:Value}{es:List (Pk × S3)}{L:List Od}{P:Nat→Prop}(h:ScA W B s mb wv v es L)(q:Qp P W W')(hs:¬ P s)(hm:¬ P mb)(ho:∀ j,v.ownBlock=some j→¬ P j)(hb:∀ i,P i→B≤i):ScA W' B s mb wv v es L:=by
 have cs:∀ j,W'.cell? ⟨s,j,none⟩=W.cell? ⟨s,j,none⟩:=fun j=>q.cell h.lt hs
 exact ⟨(cs 0).trans h.c0,(cs 1).trans h.c1,(cs 2).trans h.c2,(cs 3).trans h.c3,fun j=>(World.frozen?_of_block (a:=⟨s,j,none⟩) (q.block s h.lt hs)).trans (h.f j),h.mp.blk (q.block mb h.mp.lt hm),h.ow.qp q ho,h.hs,h.hm,h.sm,h.os,h.om,fun e he=>⟨(h.pl e he).1.blk (q.block _ (h.pl e he).1.lt (fun p=>by have:=hb _ p;have:=(h.pl e he).2;omega)),(h.pl e he).2⟩⟩
theorem ScA.on{W W':World}{B s mb:Nat}{wv v:Value}{es:List (Pk × S3)}{L:List Od}(h:ScA W B s mb wv v es L)(q:Q W W'):ScA W' B s mb wv v es L:=h.qp (P:=fun _=>False) (Qp.of q) id id (fun _ _=>id) (fun _ e=>e.elim)
theorem ScA.put{W:World}{B s mb:Nat}{wv v:Value}{es:List (Pk × S3)}{L:List Od}(h:ScA W B s mb wv v es L)(k:Pk)(x:S3)(hk:Pl W k.1)(hb:k.1<B) :
  ∃ W',(Instr.mapUpdate 64 (.map (some mb)) (pkV k) (s3V x)).run Tryz.prog W=.ok () W'∧ScA W' B s mb wv v (putS es k x) L∧Qp (fun i=>i=mb) W W':=by
 obtain ⟨W',hr,hm,hg⟩:=h.mp.update k x hk (fun e he=>(h.pl e he).1)
 have q:Qp (fun i=>i=mb) W W':=(Qp.gr hg).mono (fun i _ e=>(Option.some.inj e).symm)
 have hs:¬ (s=mb):=h.sm
 have cs:∀ j,W'.cell? ⟨s,j,none⟩=W.cell? ⟨s,j,none⟩:=fun j=>q.cell h.lt hs
 have pk:∀ b,Pl W b→b<B→Pl W' b∧b<B:=fun b p l=>⟨p.blk (q.block _ p.lt (fun e=>by have:=h.hm;omega)),l⟩
 exact ⟨W',hr,⟨(cs 0).trans h.c0,(cs 1).trans h.c1,(cs 2).trans h.c2,(cs 3).trans h.c3,fun j=>(World.frozen?_of_block (a:=⟨s,j,none⟩) (q.block s h.lt hs)).trans (h.f j),hm,h.ow.qp q (fun j hj e=>h.om (by rw [hj,e])),h.hs,h.hm,h.sm,h.os,h.om,put_keys (P:=fun k=>Pl W' k.1∧k.1<B) (fun e he=>pk _ (h.pl e he).1 (h.pl e he).2) (pk _ hk hb)⟩,q⟩
theorem ScA.push{W:World}{B s mb:Nat}{wv v:Value}{es:List (Pk × S3)}{L:List Od}(h:ScA W B s mb wv v es L)(x:Od)(g:Nat)(hc:∀ j u,(encO x)[j]?=some u→W.cell? ((⟨g,0,none⟩:Addr).add j)=some u)(ho:x.2.1.oneCell'=true)(hl:L.length≤100000) :
  ∃ v' W',(Builtin.append_ #[100,100] 100 #[v,.slice (some ⟨g,0,none⟩) 1 1]).run Tryz.prog W=.ok v' W'∧Qp (fun i=>v.ownBlock=some i) W W'∧(∃ g2 k2,v'=.slice (some ⟨g2,0,none⟩) (L.length+1) k2)∧W'.cell? ⟨s,2,none⟩=some v∧(∀ j,W'.frozen? ⟨s,j,none⟩=false)∧ScA (W'.setCell ⟨s,2,none⟩ v') B s mb wv v' es (L++[x]):=by
 obtain ⟨i0,hi,hz0,hz1,hz2⟩:=inf_of info119o;obtain ⟨v',W',hr,h2,h3,_,h5⟩:=run_append_own_at (P:=Tryz.prog) W B 100 100 119 i0 _ 4 48 Tryz.underlying100 hi hz0 hz1 hz2 rfl (by decide) v L.length (flat encO L) h.ow ⟨g,0,none⟩ 1 1 (encO x) rfl hc (by intro u hu;simp [encO]at hu;rcases hu with rfl|rfl|rfl|rfl <;> first|rfl|exact ho) (by unfold maxLen;omega) (by omega) h.bs
 have q:=Qp.gr h3;have hs:¬ (v.ownBlock=some s):=h.os
 have cs:∀ j,W'.cell? ⟨s,j,none⟩=W.cell? ⟨s,j,none⟩:=fun j=>q.cell h.lt hs
 have fs:∀ j,W'.frozen? ⟨s,j,none⟩=false:=fun j=>(World.frozen?_of_block (a:=⟨s,j,none⟩) (q.block s h.lt hs)).trans (h.f j)
 have os':v'.ownBlock≠some s:=by
  rcases h5 with e|e
  ·rw [e];exact hs
  ·rw [e];intro e';have:=Option.some.inj e';have:=h.lt;omega
 have om':v'.ownBlock≠some mb:=by
  rcases h5 with e|e
  ·rw [e];exact h.om
  ·rw [e];intro e';have:=Option.some.inj e';have:=h.mp.lt;omega
 have q2:Qp (fun i=>i=s) W' (W'.setCell ⟨s,2,none⟩ v'):=(Qp.refl _ _).set _ _ (.inl rfl)
 have ow1:Own encO 119 4 B W' v' (L++[x]):=by
  unfold Own
  rw [←flat_encO,List.length_append];exact h2
 have ot:∀ j,j≠2→(W'.setCell ⟨s,2,none⟩ v').cell? ⟨s,j,none⟩=W.cell? ⟨s,j,none⟩:=fun j hj=>(World.cell?_setCell_other _ _ _ _ (fun e=>hj (Addr.mk.inj e).2.1.symm)).trans (cs j)
 have pk:∀ b,Pl W b→b<B→Pl W' b:=fun b p l=>p.blk (q.block _ p.lt (fun e=>by have:=h.ow.blk b e;omega))
 refine ⟨v',W',hr,q,row_shape h2 (by omega),(cs 2).trans h.c2,fs,⟨(ot 0 (by omega)).trans h.c0,(ot 1 (by omega)).trans h.c1,World.cell?_setCell_same _ _ _ ((cs 2).trans h.c2),(ot 3 (by omega)).trans h.c3,fun j=>by rw [World.frozen?_setCell];exact fs j,?_,?_,h.hs,h.hm,h.sm,os',om',fun e he=>⟨?_,(h.pl e he).2⟩⟩⟩
 ·exact (h.mp.blk (q.block mb h.mp.lt h.om)).blk (q2.block mb (Nat.lt_of_lt_of_le h.mp.lt q.size) (fun e=>h.sm e.symm))
 ·exact ow1.qp q2 (fun j hj e=>os' (by rw [hj,e]))
 ·have p1:=pk _ (h.pl e he).1 (h.pl e he).2
  exact p1.blk (q2.block _ p1.lt (fun e'=>by have:=(h.pl e he).2;have:=h.hs;omega))
theorem step_append_run{P:Program}{ops:Array Oper}{o:Oper}{a:Act}{w:World}{K:Act→World→Prop}{Q:Exit→Act→World→Prop}{E:Prop}(hg:o.guard=none)(s x:Operand)(t ty:TypeId)(hop:o.op=.call { callee:=.builtin .append,args:=#[s,x],argTypes:=#[t,t] })(hty:o.type=ty)
  {u1 u2 v':Value} {w':World} (hs:a.eval s=u1) (hx:a.eval x=u2) (hr:(Builtin.append_ #[t,t] ty #[u1,u2]).run P w=.ok v' w') (hK:K (a.put o.dst v') w'):if Region.wanted o (yielded ops a.tmps)=true then Oper.wp P o a w K Q else E:=by
 have hw:Region.wanted o (yielded ops a.tmps)=true:=by simp [Region.wanted,hg]
 rw [if_pos hw];subst hty;unfold Oper.wp
 simp [execOp,hop,resolve,invoke,builtin,hs,hx,hr,Result.andThen]
 exact hK
theorem begin_any(B s mb b o n cap:Nat)(wv v:Value)(es:List (Pk × S3))(L:List Od)(W:World)(h:ScA W B s mb wv v es L)(hn:0<n)(hm:n≤1000)(hb:Pl W b)(hB:b<B)(hl:L.length≤100000) :
  Calls Tryz.prog 61 #[.pointer (some ⟨s,0,none⟩),.slice (some ⟨b,o,none⟩) n cap] W fun e W'=>(∃ u,e=.returned u)∧Qp (fun i=>B≤i) W W'∧∃ v',ScA W' B s mb wv v' (putS es (b,o,n) (0,false,false)) (L++[((b,o,n),.slice (some ⟨b,o,none⟩) n cap,0)]):=by
 have HS:=hid h;have HB:=hid hb;clear h hb;go_enter Tryz.func61,Tryz.ntmps61
 go_wp2_with (go_at_call 63;refine (place_of _ _ _ _ _ hn hm).mono ?_;rintro e w1 ⟨rfl,q1⟩;unfold pkV)
 have q2:Q W ((w1.alloc (.cells #[.pointer (some ⟨b,o,none⟩),.int .i64 (n:Int)] 106)).drew):=(q1.alloc _).drew
 have s2:=HS.out.on q2;obtain ⟨w3,r3,s3,q3⟩:=s2.put (b,o,n) (0,false,false) (HB.out.on q2) hB;unfold pkV s3V at r3
 have l1:=HS.out.on (q1.alloc (.cells #[.pointer (some ⟨b,o,none⟩),.int .i64 (n:Int)] 106)) |>.c1
 have hne:w1.heap.size≠mb:=fun e=>by have:=HS.out.mp.lt;have:=q1.size;omega
 have at0:w3.cell? ⟨w1.heap.size,0,none⟩=some (.pointer (some ⟨b,o,none⟩)):=(q3.cell (by simp) hne).trans (by simp [World.cell?_alloc_new])
 have at1:w3.cell? ⟨w1.heap.size,1,none⟩=some (.int .i64 (n:Int)):=(q3.cell (by simp) hne).trans (by simp [World.cell?_alloc_new])
 have o2:w3.cell? ⟨s,2,none⟩=some v:=s3.c2
 have qa:Q w3 ((w3.alloc (.cells #[.pointer (some ⟨b,o,none⟩),.int .i64 (n:Int),.slice (some ⟨b,o,none⟩) n cap,.int .i64 0] 119)).drew):=((Q.refl _).alloc _).drew
 have o2a:=(s3.on ((Q.refl _).alloc (.cells #[.pointer (some ⟨b,o,none⟩),.int .i64 (n:Int),.slice (some ⟨b,o,none⟩) n cap,.int .i64 0] 119))).c2;obtain ⟨v5,w5,r5,q5,⟨g5,k5,e5⟩,c5,f5,s5⟩:=(s3.on qa).push ((b,o,n),.slice (some ⟨b,o,none⟩) n cap,0) w3.heap.size (news_at w3 [.pointer (some ⟨b,o,none⟩),.int .i64 (n:Int),.slice (some ⟨b,o,none⟩) n cap,.int .i64 0] 119 _ rfl) rfl hl;subst e5;have R5:=hid r5;have f52:=f5 2;have ob:∀ j,v.ownBlock=some j→B≤j:=HS.out.ow.blk
 have HF:Hid (Qp (fun i=>B≤i) W (w5.setCell ⟨s,2,none⟩ (.slice (some ⟨g5,0,none⟩) (L.length+1) k5))∧ScA (w5.setCell ⟨s,2,none⟩ (.slice (some ⟨g5,0,none⟩) (L.length+1) k5)) B s mb wv (.slice (some ⟨g5,0,none⟩) (L.length+1) k5) (putS es (b,o,n) (0,false,false)) (L++[((b,o,n),.slice (some ⟨b,o,none⟩) n cap,0)])):=
  hid ⟨((((Qp.of q2).trans (q3.mono (fun i _ e=>by have:=HS.out.hm;omega))).trans (Qp.of qa)).trans (q5.mono (fun i _ e=>ob i e))).set _ _ (.inl HS.out.hs),s5⟩
 clear s2 s3 q2 q3 q1 HS HB qa q5 s5 f5 hne ob r5;go_region_with fail
 all_goals go_wp2_with fail
 all_goals go_region_law (refine step_append_run (by rfl) _ _ 100 100 (by rfl) (by rfl) (by rfl) (by rfl) R5.out ?_)
 all_goals go_wp2_with fail
 all_goals refine bodyPost_end (v:=.tuple #[]) (by simp [results,Tryz.results61,go_sem]) rfl ?_
 all_goals exact ⟨⟨_,rfl⟩,HF.out.1,_,HF.out.2⟩
def wt:Ex→Int
 |.mk _ _ t _ _ rs ks=>96+(t.length:Int)+40*(rs.length:Int)+wtL ks
 where
 wtL:List Ex→Int
 |[]=>0
 |x::xs=>wt x+wtL xs
def own1:Ex→Int
 |.mk _ _ t _ _ rs _=>96+(t.length:Int)+40*(rs.length:Int)
theorem wt_own(x:Ex):wt x=own1 x+wt.wtL (kd x):=by
 cases x
 simp only [wt,own1,kd]
theorem wtL_cons(x:Ex)(xs:List Ex):wt.wtL (x::xs)=wt x+wt.wtL xs:=by rw [wt.wtL]
theorem wtL_nil:wt.wtL []=0:=by rw [wt.wtL]
theorem wtL_app(xs ys:List Ex):wt.wtL (xs++ys)=wt.wtL xs+wt.wtL ys:=by
 induction xs with
 |nil=>rw [List.nil_append,wtL_nil];omega
 |cons x xs ih=>rw [List.cons_append,wtL_cons,wtL_cons,ih];omega
theorem own1_pos(x:Ex):96≤own1 x:=by
 cases x
 simp only [own1]
 omega
theorem wt_pos:∀ x:Ex,0≤wt x
 |.mk k n t b e rs ks=>by
  rw [wt];have:=go ks
  omega
 where
 go:∀ xs:List Ex,0≤wt.wtL xs
 |[]=>by rw [wt.wtL];omega
 |x::xs=>by
  rw [wt.wtL];have:=wt_pos x
  have:=go xs
  omega
theorem wtL_pos(xs:List Ex):0≤wt.wtL xs:=wt_pos.go xs
theorem nl_app(xs ys:List Ex):nodes.nodesL (xs++ys)=nodes.nodesL xs+nodes.nodesL ys:=by
 induction xs with
 |nil=>rw [List.nil_append];simp [nodes.nodesL]
 |cons x xs ih=>rw [List.cons_append,nodes.nodesL,nodes.nodesL,ih];omega
theorem nl_kd(x:Ex):nodes x=1+nodes.nodesL (kd x):=by
 cases x
 simp only [nodes,kd]
theorem nl_one(x:Ex):nodes.nodesL [x]=nodes x:=by simp [nodes.nodesL]
theorem nl_cons(x:Ex)(xs:List Ex):nodes.nodesL (x::xs)=nodes x+nodes.nodesL xs:=by rw [nodes.nodesL]
theorem len_nl(xs:List Ex):xs.length≤nodes.nodesL xs:=by
 induction xs with
 |nil=>simp
 |cons x xs ih=>rw [nl_cons,nl_kd,List.length_cons];omega
structure Opn (W0:World) (p:Option (List Ex)) (x:Od) (ds ys:List Ex):Prop where
 at_:Rd.RdL W0 (ds++ys) x.1.1 x.1.2.1
 ln:(ds++ys).length=x.1.2.2
 pl:Pl W0 x.1.1
 rs:TL W0 x.2.1 ys
 no:p=none→x.2.2=wt.wtL ds
 so:∀ ks,p=some ks→∃ d z,ds=d++[z]∧kd z=ks∧x.2.2=wt.wtL d+own1 z
def Stk(W0:World):Option (List Ex)→List Od→List (List Ex × List Ex)→Prop
 |_,[],[]=>True
 |p,x::S,(ds,ys)::T=>Opn W0 p x ds ys∧Stk W0 (some (ds++ys)) S T
 |_,[],_::_=>False
 |_,_::_,[]=>False
theorem kd_less{d r:List Ex}{z:Ex}:nodes.nodesL (kd z)<nodes.nodesL (d++z::r):=by
 rw [nl_app,nl_cons,nl_kd];omega
theorem Stk.less{W0:World}:∀ {S:List Od} {T:List (List Ex × List Ex)} {ks:List Ex},Stk W0 (some ks) S T→∀ y∈S,∃ xs,Rd.RdL W0 xs y.1.1 y.1.2.1∧xs.length=y.1.2.2∧nodes.nodesL ks<nodes.nodesL xs
 |[],_,_,_,y,hy=>absurd hy (by simp)
 |x::S,[],_,h,_,_=>by cases h
 |x::S,(ds,ys)::T,ks,h,y,hy=>by
  obtain ⟨h1,h2⟩:=h;obtain ⟨d,z,e1,e2,_⟩:=h1.so ks rfl;have hl:nodes.nodesL ks<nodes.nodesL (ds++ys):=by
   rw [←e2,e1,List.append_assoc];exact kd_less
  rcases List.mem_cons.1 hy with rfl|hy
  ·exact ⟨_,h1.at_,h1.ln,hl⟩
  ·obtain ⟨xs,a,b,c⟩:=Stk.less h2 y hy
   exact ⟨xs,a,b,by omega⟩
theorem Stk.fresh{W0:World}{S:List Od}{T:List (List Ex × List Ex)}{x:Od}{ds ys:List Ex}{p:Option (List Ex)}(h:Stk W0 p (x::S) ((ds,ys)::T)){k:Pk}{ks:List Ex}(hk:Rd.RdL W0 ks k.1 k.2.1)(hl:ks.length=k.2.2)(hn:nodes.nodesL ks<nodes.nodesL (ds++ys)):∀ y∈x::S,y.1≠k:=by
 intro y hy e
 obtain ⟨h1,h2⟩:=h;subst e
 rcases List.mem_cons.1 hy with rfl|hy
 ·have:=rdl_det (hl.trans h1.ln.symm) hk h1.at_
  rw [this]at hn;omega
 ·obtain ⟨xs,a,b,c⟩:=Stk.less h2 y hy
  have:=rdl_det (hl.trans b.symm) hk a
  rw [this]at hn;omega
structure EsI (W0:World) (es:List (Pk × S3)) (S:List Od):Prop where
 cl:∀ k s,getS es k=some s→(∃ xs,Rd.RdL W0 xs k.1 k.2.1∧xs.length=k.2.2∧s=(wt.wtL xs,true,false))∨(s=(0,false,false)∧∃ x∈S,x.1=k)
 op:∀ x∈S,getS es x.1=some (0,false,false)
def ms:List (List Ex × List Ex)→Nat
 |[]=>0
 |t::T=>2*nodes.nodesL t.2+1+ms T
theorem EsI.same{W0:World}{es:List (Pk × S3)}{x x':Od}{S:List Od}(h:EsI W0 es (x::S))(e:x'.1=x.1):EsI W0 es (x'::S):=by
 refine ⟨fun k s hk=>?_,fun y hy=>?_⟩
 ·rcases h.cl k s hk with h1|⟨h1,y,hy,h2⟩
  ·exact .inl h1
  ·refine .inr ⟨h1,?_⟩
   rcases List.mem_cons.1 hy with rfl|hy
   ·exact ⟨x',List.mem_cons_self ..,e.trans h2⟩
   ·exact ⟨y,List.mem_cons_of_mem _ hy,h2⟩
 ·rcases List.mem_cons.1 hy with rfl|hy
  ·rw [e];exact h.op x (List.mem_cons_self ..)
  ·exact h.op y (List.mem_cons_of_mem _ hy)
theorem EsI.begun{W0:World}{es:List (Pk × S3)}{S:List Od}(h:EsI W0 es S)(x:Od):EsI W0 (putS es x.1 (0,false,false)) (x::S):=by
 refine ⟨fun k s hk=>?_,fun y hy=>?_⟩
 ·rw [get_put]at hk
  split at hk
  ·rename_i e
   exact .inr ⟨(Option.some.inj hk).symm,x,List.mem_cons_self ..,e.symm⟩
  ·rcases h.cl k s hk with h1|⟨h1,y,hy,h2⟩
   ·exact .inl h1
   ·exact .inr ⟨h1,y,List.mem_cons_of_mem _ hy,h2⟩
 ·rw [get_put]
  split
  ·rfl
  ·rename_i e
   rcases List.mem_cons.1 hy with rfl|hy
   ·exact absurd rfl e
   ·exact h.op y hy
theorem EsI.ended{W0:World}{es:List (Pk × S3)}{S:List Od}{x:Od}(h:EsI W0 es (x::S)){xs:List Ex}(h1:Rd.RdL W0 xs x.1.1 x.1.2.1)(h2:xs.length=x.1.2.2)(hf:∀ y∈S,y.1≠x.1):EsI W0 (putS es x.1 (wt.wtL xs,true,false)) S:=by
 refine ⟨fun k s hk=>?_,fun y hy=>?_⟩
 ·rw [get_put]at hk
  split at hk
  ·rename_i e
   subst e;exact .inl ⟨xs,h1,h2,(Option.some.inj hk).symm⟩
  ·rename_i e
   rcases h.cl k s hk with h3|⟨h3,y,hy,h4⟩
   ·exact .inl h3
   ·rcases List.mem_cons.1 hy with hy|hy
    ·exact absurd (by rw [←h4,hy]) e
    ·exact .inr ⟨h3,y,hy,h4⟩
 ·rw [get_put,if_neg (hf y hy)]
  exact h.op y (List.mem_cons_of_mem _ hy)
theorem ScA.last{W:World}{B s mb:Nat}{wv v:Value}{es:List (Pk × S3)}{L:List Od}{x:Od}(h:ScA W B s mb wv v es (L++[x])):∃ g cap,v=.slice (some ⟨g,0,none⟩) (L.length+1) cap∧L.length+1≤cap∧cap≤maxLen∧g<W.heap.size∧(∀ j u,(encO x)[j]?=some u→W.cell? ⟨g,L.length*4+j,none⟩=some u)∧∀ j,W.frozen? ⟨g,j,none⟩=false:=by
 have ow:=h.ow;obtain ⟨g,cap,hv,_,hg2,hc1,hc2⟩:=ow.shape (by simp)
 rw [List.length_append,List.length_singleton]at hv hc1;subst hv;have ow2:Own encO 119 4 B W (.slice (some ⟨g,0,none⟩) (L++[x]).length cap) (L++[x]):=by rw [List.length_append,List.length_singleton];exact ow
 have cl:=ow2.cell encO_len (i:=L.length) (by rw [List.length_append,List.length_singleton];omega)
 rw [List.getElem_append_right (Nat.le_refl _)]at cl;simp only [Nat.sub_self,List.getElem_cons_zero]at cl
 exact ⟨g,cap,rfl,hc1,hc2,hg2,fun j u hu=>cl j u hu,fun j=>World.ownsRow.frozenAt (w:=W) (by unfold Own at ow2;exact ow2) _⟩
theorem ScA.pop{W:World}{B s mb g m cap:Nat}{wv:Value}{es:List (Pk × S3)}{L:List Od}{x:Od}(h:ScA W B s mb wv (.slice (some ⟨g,0,none⟩) (m+1) cap) es (L++[x]))(hm:L.length=m):ScA (W.setCell ⟨s,2,none⟩ (.slice (some ⟨g,0,none⟩) m cap)) B s mb wv (.slice (some ⟨g,0,none⟩) m cap) es L:=by
 have q2:Qp (fun i=>i=s) W (W.setCell ⟨s,2,none⟩ (.slice (some ⟨g,0,none⟩) m cap)):=(Qp.refl _ _).set _ _ (.inl rfl)
 have ot:∀ j,j≠2→(W.setCell ⟨s,2,none⟩ (.slice (some ⟨g,0,none⟩) m cap)).cell? ⟨s,j,none⟩=W.cell? ⟨s,j,none⟩:=fun j hj=>World.cell?_setCell_other _ _ _ _ (fun e=>hj (Addr.mk.inj e).2.1.symm)
 exact ⟨(ot 0 (by omega)).trans h.c0,(ot 1 (by omega)).trans h.c1,World.cell?_setCell_same _ _ _ h.c2,(ot 3 (by omega)).trans h.c3,fun j=>by rw [World.frozen?_setCell];exact h.f j,h.mp.blk (q2.block mb h.mp.lt (fun e=>h.sm e.symm)),(own_cutg encO_len h.ow hm).qp q2 (fun j hj e=>h.os (by rw [←e];exact hj)),h.hs,h.hm,h.sm,h.os,h.om,fun e he=>⟨(h.pl e he).1.blk (q2.block _ (h.pl e he).1.lt (fun e'=>by have:=(h.pl e he).2;have:=h.hs;omega)),(h.pl e he).2⟩⟩
theorem ScA.turn{W:World}{B s mb g m cap:Nat}{wv:Value}{es:List (Pk × S3)}{L:List Od}{x:Od}(h:ScA W B s mb wv (.slice (some ⟨g,0,none⟩) (m+1) cap) es (L++[x]))(hm:L.length=m)(j:Nat)(hj:j<4)(u:Value)(x':Od)(hx:encO x'=(encO x).set j u):ScA (W.setCell ⟨g,m*4+j,none⟩ u) B s mb wv (.slice (some ⟨g,0,none⟩) (m+1) cap) es (L++[x']):=by
 subst hm;have q2:Qp (fun i=>i=g) W (W.setCell ⟨g,L.length*4+j,none⟩ u):=(Qp.refl _ _).set _ _ (.inl rfl)
 have hs:¬ (s=g):=fun e=>h.os (by rw [e];rfl)
 have hmb:¬ (mb=g):=fun e=>h.om (by rw [e];rfl)
 have hg:B≤g:=h.ow.blk g rfl
 have cs:∀ j',(W.setCell ⟨g,L.length*4+j,none⟩ u).cell? ⟨s,j',none⟩=W.cell? ⟨s,j',none⟩:=fun j'=>q2.cell h.lt hs
 refine ⟨(cs 0).trans h.c0,(cs 1).trans h.c1,(cs 2).trans h.c2,(cs 3).trans h.c3,fun j=>by rw [World.frozen?_setCell];exact h.f j,h.mp.blk (q2.block mb h.mp.lt hmb),?_,h.hs,h.hm,h.sm,h.os,h.om,fun e he=>⟨(h.pl e he).1.blk (q2.block _ (h.pl e he).1.lt (fun e'=>by have:=(h.pl e he).2;omega)),(h.pl e he).2⟩⟩
 have ow:=h.ow;have ow2:Own encO 119 4 B W (.slice (some ⟨g,0,none⟩) (L++[x]).length cap) (L++[x]):=by rw [List.length_append,List.length_singleton];exact ow
 have r:=ow2.set encO_len (i:=L.length) (by rw [List.length_append,List.length_singleton];omega) j hj u x' (by rw [List.getElem_append_right (Nat.le_refl _)];simpa using hx)
 rw [List.set_append_right _ _ (Nat.le_refl _),Nat.sub_self,List.length_append,List.length_singleton]at r;exact r
def DetQ(a1:Act)(w1:World):Exit→Act→World→Prop
 |.panic _,_,_=>False
 |e,a,w=>e=.normal∧a=a1∧w=w1
theorem wp_region_det{P:Program}{id:Nat}{ops:Array Oper}{b:Bool}{Q:Exit→Act→World→Prop}{a:Act}{w:World}{a1:Act}{w1:World}(h:(Code.region id ops b).wp P (DetQ a1 w1) a w)(hq:Q .normal a1 w1):(Code.region id ops b).wp P Q a w:=
 Code.wp_mono (fun e a w h=>by
  cases e with
  |panic x=>exact (h:False).elim
  |normal=>obtain ⟨_,h2,h3⟩:=h;rw [h2,h3];exact hq
  |_=>exact absurd h.1 (by intro e;cases e)) h
def rfs:Ex→List Rf
 |.mk _ _ _ _ _ rs ks=>rs++rfsL ks
 where
 rfsL:List Ex→List Rf
 |[]=>[]
 |x::xs=>rfs x++rfsL xs
theorem run_append_no{P:Program}{w:World}(base:Nat)(t ty e:TypeId)(i:TypeInfo)(size c:Nat)(ht:P.underlying t=some (.slice e))(hi:P.info? e=some i)
  (v:Value) (n:Nat) (xs:List Value) (hown:w.ownsRow base e size v n xs) :
  (Builtin.append_ #[t,t] ty #[v,.slice none 0 c]).run P w=.ok v w:=by
 rcases hown.2 with ⟨rfl,rfl⟩|⟨g,cap,cur,rfl,_,_,hnc,_⟩
 ·simp [Builtin.append_,run_underlying ht,sizeOf,typeInfo,hi,Builtin.lenOf,Builtin.firstCells]
 ·simp [Builtin.append_,run_underlying ht,sizeOf,typeInfo,hi,Builtin.lenOf,Builtin.firstCells,hnc,storeCells]
theorem wpList_append_src{P:Program}{w:World}{ops:Array Oper}{rest:List Oper}{o:Oper}{a:Act}{Q:Exit→Act→World→Prop}(hgd:o.guard=none)(s x:Operand)(t:TypeId)
  (ho:o.op=.call { callee:=.builtin .append,args:=#[s,x],argTypes:=#[t,t] })
  (base:Nat) (e:TypeId) (i:TypeInfo) (z:Value) (size bytes:Nat) (ht:P.underlying t=some (.slice e)) (hi:P.info? e=some i) (hz:i.zero=some z)
  (hsize:i.size=size) (hby:i.bytes=bytes) (hzs:z.cells.size=size) (hsz:0<size)
  (v:Value) (n:Nat) (xs:List Value) (hs:a.eval s=v) (hown:w.ownsRow base e size v n xs)
  (u:Value) (hx:a.eval x=u) (m:Nat) (news:List Value) (hu:(∃ c,u=.slice none 0 c∧m=0∧news=[])∨∃ ad c,u=.slice (some ad) m c∧∀ j u,news[j]?=some u→w.cell? (ad.add j)=some u)
  (hl:news.length=m*size) (h1:∀ u∈news,u.oneCell'=true)
  (h63:n+m≤maxLen) (hbytes:(n+m)*bytes≤140737488355328) (hbase:base≤w.heap.size)
  (h:∀ v' w',w'.ownsRow base e size v' (n+m) (xs++news)→w.grownBy w' v.ownBlock→(v'.ownBlock=v.ownBlock∨v'.ownBlock=some w.heap.size)→wpList P ops Q rest (a.put o.dst v') w'):wpList P ops Q (o::rest) a w:=by
 rcases hu with ⟨c,rfl,rfl,rfl⟩|⟨ad,c,rfl,hnews⟩
 ·refine wpList_plain hgd fun K hK=>?_
  have hrun:=run_append_no (P:=P) (w:=w) base t o.type e i size c ht hi v n xs hown;unfold Oper.wp
  simp [execOp,ho,resolve,invoke,builtin,hs,hx,hrun,Result.andThen]
  exact hK _ _ (h v w (by simpa using hown) ⟨rfl,rfl,rfl,Nat.le_refl _,fun _ _ _=>rfl⟩ (.inl rfl))
 ·exact wpList_append_own_at w hgd s x t ho base e i z size bytes ht hi hz hsize hby hzs hsz v n xs hs hown ad m c news hx hl hnews h1 h63 hbytes hbase fun v' w' h2 h3 _ h4=>h v' w' h2 h3 h4
theorem sl_src{W:World}{v:Value}{L:List Rf}(h:Sl rf 5 W v L):(∃ c,v=.slice none 0 c∧L.length=0∧flat rf L=[])∨∃ ad c,v=.slice (some ad) L.length c∧∀ j u,(flat rf L)[j]?=some u→W.cell? (ad.add j)=some u:=by
 obtain ⟨ao,cap,rfl,h1,h2,h3⟩:=h
 rcases Nat.eq_zero_or_pos L.length with e|e
 ·have e2:flat rf L=[]:=by rw [List.eq_nil_of_length_eq_zero e];rfl
  cases ao with
  |none=>exact .inl ⟨cap,by rw [e],e,e2⟩
  |some ad=>exact .inr ⟨ad,cap,rfl,fun j u hu=>by rw [e2]at hu;simp at hu⟩
 ·obtain ⟨b,off,rfl,hc⟩:=h3 e
  exact .inr ⟨_,cap,rfl,flat_cell (enc:=rf) rf_len (by omega) hc⟩
theorem own_app{B:Nat}{W:World}{v:Value}{L L':List Rf}{n:Nat}(h:W.ownsRow B 40 5 v n (flat rf L++flat rf L'))(hn:n=L.length+L'.length):Own rf 40 5 B W v (L++L'):=by
 subst hn;unfold Own flat
 rw [List.flatMap_append,List.length_append];exact h
def Xo(wb:Nat)(ov:Value):Nat→Prop:=fun i=>i=wb∨ov.ownBlock=some i
theorem Wk.less{W:World}{wb:Nat}{X:Nat→Prop}{ov:Value}{L:List Sc}(h:Wk W wb X ov L):Wk W wb (Xo wb ov) ov L:=⟨h.c,h.f,h.ow,.inl rfl,fun j hj=>⟨.inr hj,(h.xo j hj).2⟩⟩
def rfsS:List Pd→List Rf
 |[]=>[]
 |p::S=>rfs.rfsL p.2.2.2++rfsS S
structure Pf (W0:World) (p:Pd):Prop where
 pd:PdL W0 W0 p.2.2.2 p.1 p.2.1
 ne:p.2.2.2≠[]
 le:p.2.2.2.length≤p.2.2.1
 mx:p.2.2.1≤maxLen
 sn:∀ y∈p.2.2.2,Sn y
structure FI (W0:World) (wb:Nat) (W:World) (ov:Value) (S:List Pd):Prop where
 q:Q W0 W
 wk:Wk W wb (Xo wb ov) ov (S.reverse.map Pd.sc)
 hx:∀ j,Xo wb ov j→W0.heap.size≤j
 pd:∀ p∈S,Pf W0 p
 wg:wgtP S≤300
theorem FI.len{W0:World}{wb:Nat}{W:World}{ov:Value}:∀ {S:List Pd},(∀ p∈S,Pf W0 p)→S.length≤wgtP S
 |[],_=>by simp [wgtP]
 |p::S,h=>by
  have h1:=FI.len (wb:=wb) (W:=W) (ov:=ov) (fun q hq=>h q (List.mem_cons_of_mem _ hq))
  have h2:=(h p (List.mem_cons_self ..)).ne;rw [wgtP];cases hp:p.2.2.2 with
  |nil=>exact absurd hp h2
  |cons y ys=>
   rw [nodes.nodesL,List.length_cons];have:=nodes_pos y
   omega
theorem FI.qp{W0 W W':World}{wb:Nat}{ov:Value}{S:List Pd}{P:Nat→Prop}(h:FI W0 wb W ov S)(q:Qp P W W')(h1:∀ i,P i→¬ Xo wb ov i∧W0.heap.size≤i):FI W0 wb W' ov S:=
 ⟨⟨q.os.trans h.q.os,q.tape.trans h.q.tape,q.output.trans h.q.output,Nat.le_trans h.q.size q.size,fun i hi=>(q.block i (Nat.lt_of_lt_of_le hi h.q.size) (fun e=>by have:=(h1 i e).2;omega)).trans (Q.block h.q hi)⟩,h.wk.qp q (fun i e=>(h1 i e).1),h.hx,h.pd,h.wg⟩
theorem FI.on{W0 W W':World}{wb:Nat}{ov:Value}{S:List Pd}(h:FI W0 wb W ov S)(q:Q W W'):FI W0 wb W' ov S:=h.qp (P:=fun _=>False) (Qp.of q) (fun _ e=>e.elim)
theorem q_qp{W0 W W':World}{P:Nat→Prop}(q:Q W0 W)(k:Qp P W W')(h:∀ j,P j→W0.heap.size≤j):Q W0 W':=
 ⟨k.os.trans q.os,k.tape.trans q.tape,k.output.trans q.output,Nat.le_trans q.size k.size,fun i hi=>(k.block i (Nat.lt_of_lt_of_le hi q.size) (fun e=>by have:=h i e;omega)).trans (Q.block q hi)⟩
theorem next_fi{W0 W:World}{wb:Nat}{ov:Value}{S:List Pd}(h:FI W0 wb W ov S) :
  Calls Tryz.prog 45 #[.pointer (some ⟨wb,0,none⟩)] W fun e W'=>∃ v,e=.returned v∧∃ ov' S',FI W0 wb W' ov' S'∧Qp (Xo wb ov) W W'∧(∀ j,ov'.ownBlock=some j→ov.ownBlock=some j) ∧
   ((v=.pointer none∧S=[]∧S'=[])∨∃ b o y,v=.pointer (some ⟨b,o,none⟩)∧PdL W0 W0 [y] b o∧Sn y∧nodes y+wgtP S'=wgtP S∧rfs y++rfsS S'=rfsS S):=by
 cases S with
 |nil=>
  refine (next_nil wb _ ov W h.wk).mono ?_
  rintro e W' ⟨rfl,rfl⟩
  exact ⟨_,rfl,ov,[],h,Qp.refl _ _,fun _ e=>e,.inl ⟨rfl,rfl,rfl⟩⟩
 |cons p S=>
  obtain ⟨b,o,c,f⟩:=p;have hp:=h.pd _ (List.mem_cons_self ..);have hw:=h.wk;rw [List.reverse_cons,List.map_append,List.map_cons,List.map_nil]at hw;have hwg:=h.wg;cases f with
  |nil=>exact absurd rfl hp.ne
  |cons y ys=>
   have hpd:=hp.pd;unfold PdL at hpd
   have hy1:PdL W0 W0 [y] b o:=by unfold PdL;exact ⟨hpd.1,by unfold PdL;trivial⟩
   have hsn:=hp.sn y (List.mem_cons_self ..);cases ys with
   |nil=>
    refine (next_one wb _ ov _ b o c W hw hp.le hp.mx).mono ?_
    rintro e W' ⟨rfl,⟨ov',hw'⟩,q⟩
    have hob:∀ j,ov'.ownBlock=some j→ov.ownBlock=some j:=fun j hj=>by
     have:=hw'.xo j hj
     rcases this.1 with e|e
     ·exact absurd e this.2
     ·exact e
    refine ⟨_,rfl,ov',S,⟨q_qp h.q q h.hx,hw'.less,fun j hj=>?_,fun p hp'=>h.pd p (List.mem_cons_of_mem _ hp'),by simp only [wgtP]at hwg;omega⟩,q,hob,.inr ⟨b,o,y,rfl,hy1,hsn,by simp only [wgtP,nodes.nodesL];omega,by simp [rfsS,rfs.rfsL]⟩⟩
    rcases hj with e|e
    ·exact h.hx j (.inl e)
    ·exact h.hx j (.inr (hob j e))
   |cons z zs=>
    have hln:(y::z::zs).length=zs.length+2:=rfl
    have hw2:Wk W wb (Xo wb ov) ov (S.reverse.map Pd.sc++[(b,o,zs.length+2,c)]):=hw
    refine (next_more wb _ ov _ b o zs.length c W hw2 hp.le hp.mx).mono ?_
    rintro e W' ⟨rfl,hw',q⟩
    have hle:=hp.le;have hmx:=hp.mx;simp only [hln]at hle
    refine ⟨_,rfl,ov,(b,o+7,c-1,z::zs)::S,⟨q_qp h.q q h.hx,?_,h.hx,fun p hp'=>?_,by simp only [wgtP,nodes.nodesL]at hwg ⊢;omega⟩,q,fun _ e=>e,.inr ⟨b,o,y,rfl,hy1,hsn,by simp only [wgtP,nodes.nodesL];omega,by simp [rfsS,rfs.rfsL]⟩⟩
    ·rw [List.reverse_cons,List.map_append,List.map_cons,List.map_nil]
     exact hw'
    ·rcases List.mem_cons.1 hp' with rfl|hp'
     ·exact ⟨hpd.2,by simp,by simp only [List.length_cons];omega,by simp only at hmx ⊢;omega,fun y' hy'=>hp.sn y' (List.mem_cons_of_mem _ hy')⟩
     ·exact h.pd p (List.mem_cons_of_mem _ hp')
theorem enter_fi{W0 W:World}{wb:Nat}{ov:Value}{S:List Pd}{ks:List Ex}{ao:Option Addr}{cap:Nat}(h:FI W0 wb W ov S)(hw:nodes.nodesL ks+wgtP S≤300)(hn:ks.length≤1000)(hc:ks.length≤cap)(hm:cap≤maxLen)(hs:∀ y∈ks,Sn y)(hk:ks≠[]→∃ b o,ao=some ⟨b,o,none⟩∧PdL W0 W0 ks b o) :
  Calls Tryz.prog 44 #[.pointer (some ⟨wb,0,none⟩),.slice ao ks.length cap] W fun e W'=>(∃ u,e=.returned u)∧∃ ov' S',FI W0 wb W' ov' S'∧Qp (Xo wb ov) W W'∧(∀ j,ov'.ownBlock=some j→ov.ownBlock=some j∨W.heap.size≤j)∧wgtP S'=nodes.nodesL ks+wgtP S∧rfsS S'=rfs.rfsL ks++rfsS S:=by
 by_cases hne:ks=[]
 ·subst hne
  refine (enter_nil wb cap ao W).mono ?_
  rintro e W' ⟨hu,rfl⟩
  exact ⟨hu,ov,S,h,Qp.refl _ _,fun _ e=>.inl e,by simp [nodes.nodesL],by simp [rfs.rfsL]⟩
 ·obtain ⟨b,o,rfl,hpd⟩:=hk hne
  have hlen:=FI.len (wb:=wb) (W:=W) (ov:=ov) h.pd;have hwg:=h.wg;have hpos:=List.length_pos_iff.2 hne;refine (enter_any wb _ ov _ b o ks.length cap W h.wk hpos (by omega) (by simp only [List.length_map,List.length_reverse];omega)).mono ?_
  rintro e W' ⟨hu,ov',hw',q,hj⟩
  have hob:∀ j,ov'.ownBlock=some j→ov.ownBlock=some j∨W.heap.size≤j:=fun j e=>by
   rcases hj j e with e'|e'
   ·rcases e' with e''|e''
    ·exact absurd e'' (hw'.xo j e).2
    ·exact .inl e''
   ·exact .inr e'
  refine ⟨hu,ov',(b,o,cap,ks)::S,⟨q_qp h.q q h.hx,?_,fun j hj'=>?_,fun p hp'=>?_,by simp only [wgtP];omega⟩,q,hob,rfl,rfl⟩
  ·rw [List.reverse_cons,List.map_append,List.map_cons,List.map_nil]
   exact hw'.less
  ·rcases hj' with e'|e'
   ·exact h.hx j (.inl e')
   ·rcases hob j e' with e''|e''
    ·exact h.hx j (.inr e'')
    ·have:=h.q.size;omega
  ·rcases List.mem_cons.1 hp' with rfl|hp'
   ·exact ⟨hpd,hne,hc,hm,hs⟩
   ·exact h.pd p hp'
theorem row_apart{W:World}{wb B:Nat}{X:Nat→Prop}{ov l:Value}{L:List Sc}{R:List Rf}(h:Wk W wb X ov L)(o:Own rf 40 5 B W l R)(hn:l.ownBlock≠some wb):∀ j,l.ownBlock=some j→¬ Xo wb ov j:=by
 intro j hj e
 rcases e with e|e
 ·exact hn (by rw [hj,e])
 ·obtain ⟨_,ho⟩:=o
  obtain ⟨_,hw⟩:=h.ow
  rcases ho with ⟨hv,_⟩|⟨g,cap,cur,hv,_,hg,_⟩
  ·rw [hv]at hj;cases hj
  ·rcases hw with ⟨hv',_⟩|⟨g',cap',cur',hv',_,hg',_⟩
   ·rw [hv']at e;cases e
   ·rw [hv]at hj
    rw [hv']at e;have h1:g=j:=Option.some.inj hj
    have h2:g'=j:=Option.some.inj e
    subst h1 h2;rw [hg]at hg'
    injection hg' with hg'
    injection hg' with _ hg'
    exact absurd hg' (by decide)
end Go.Proofs.YtoikodohcieipaaGreatDoor
