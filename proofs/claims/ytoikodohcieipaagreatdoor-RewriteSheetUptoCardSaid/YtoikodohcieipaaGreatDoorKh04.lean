/- Words of formulas, plainly; Wo. -/
import Derived.Test.YtoikodohcieipaaGreatDoorKh00
import Derived.Laws.AppendOwn
import Derived.Laws.AppendOwnNone
import Derived.Laws.OwnMore
import Derived.OneCell
import Derived.BigQuiet
import Derived.Deep.RegionHeld3
import Derived.Laws.Bits64b
import Derived.Deep.RegionHeld
import Derived.Deep.CutBlock
import Derived.Deep.CutRange
set_option linter.unusedVariables false
set_option linter.unusedSimpArgs false
set_option maxRecDepth 100000
set_option maxHeartbeats 8000000
namespace Go.Proofs.YtoikodohcieipaaGreatDoor
open Go.RowKit
def joinB(c:UInt8):Bool:=
 decide (65≤c.toNat∧c.toNat≤90) || (decide (97≤c.toNat∧c.toNat≤122) || (decide (48≤c.toNat∧c.toNat≤57) || (c == 36 || (c == 33 || c == 46))))
def tru:List UInt8:=[84,82,85,69]
def fls:List UInt8:=[70,65,76,83,69]
def kindJ(t:List UInt8)(called:Bool):Nat:=
 if V.pf (V.parseO t) then 1 else if refF t then 3 else if t=tru∨t=fls∨(called=true∧allL t=true) then 4 else 0
def bad:Nat × List UInt8 × Nat:=(0,[],0)
def joinW(l:List UInt8):Nat × List UInt8 × Nat:=
 if kindJ (l.takeWhile joinB) (Lib.hasPrefix (l.dropWhile joinB) [40])=0 then bad
 else (kindJ (l.takeWhile joinB) (Lib.hasPrefix (l.dropWhile joinB) [40]),l.takeWhile joinB,(l.takeWhile joinB).length)
def quoF:List UInt8→List UInt8→Nat→Option (List UInt8 × Nat)
 |[],_,_=>none
 |[c],acc,n=>if c=34 then some (acc,n+1) else none
 |c::d::r,acc,n=>if c=34 then (if d=34 then quoF r (acc++[34]) (n+2) else some (acc,n+1)) else quoF (d::r) (acc++[c]) (n+1)
def quoP:Option (List UInt8 × Nat)→Nat × List UInt8 × Nat
 |none=>bad
 |some (t,n)=>if V.mtB t then (2,t,n) else bad
def quoW(l:List UInt8):Nat × List UInt8 × Nat:=quoP (quoF (l.drop 1) [] 1)
def errP:Option Int→Nat × List UInt8 × Nat
 |none=>bad
 |some e=>(5,enL e,(enL e).length)
def errF(l:List UInt8):Option Int:=[1,2,3,4,5,6,7].find? (fun e=>Lib.hasPrefix l (enL e))
def errW(l:List UInt8):Nat × List UInt8 × Nat:=errP (errF l)
def sigP:Option (List UInt8)→Nat × List UInt8 × Nat
 |none=>bad
 |some t=>(6,t,t.length)
def sigF(l:List UInt8):Option (List UInt8):=sgL.find? (fun t=>Lib.hasPrefix l t)
def sigW(l:List UInt8):Nat × List UInt8 × Nat:=sigP (sigF l)
def wordF(l:List UInt8):Nat × List UInt8 × Nat:=
 if l.headD 0=34 then quoW l else if l.headD 0=35 then errW l else if joinB (l.headD 0) then joinW l else sigW l
def scanG:Nat→List UInt8→Nat→List Wd→Option (List Wd) × Nat
 |0,_,_,acc=>(some acc,0)
 |_+1,[],_,acc=>(some acc,0)
 |f+1,c::r,at',acc=>
  if c=32 then scanG f r (at'+1) acc
  else if (wordF (c::r)).2.2=0 then (none,at')
  else scanG f ((c::r).drop (wordF (c::r)).2.2) (at'+(wordF (c::r)).2.2) (acc++[⟨(wordF (c::r)).1,(wordF (c::r)).2.1,at'⟩])
theorem scanG_fuel:∀ (f g:Nat) (l:List UInt8) (a:Nat) (acc:List Wd),l.length≤f→l.length≤g→scanG f l a acc=scanG g l a acc:=by
 intro f
 induction f with
 |zero=>
  intro g l a acc h _
  have e:l=[]:=List.eq_nil_of_length_eq_zero (by omega)
  subst e;cases g <;> rfl
 |succ f ih=>
  intro g l a acc h h'
  cases l with
  |nil=>cases g <;> rfl
  |cons c r=>
   cases g with
   |zero=>simp at h'
   |succ g=>
    simp only [List.length_cons]at h h'
    unfold scanG
    split
    ·exact ih g r _ _ (by omega) (by omega)
    ·split
     ·rfl
     ·rename_i hn
      exact ih g _ _ _ (by rw [List.length_drop,List.length_cons];omega) (by rw [List.length_drop,List.length_cons];omega)
def scanF(l:List UInt8)(a:Nat)(acc:List Wd):Option (List Wd) × Nat:=scanG l.length l a acc
theorem scanF_nil(a:Nat)(acc:List Wd):scanF [] a acc=(some acc,0):=rfl
theorem scanF_blank(r:List UInt8)(a:Nat)(acc:List Wd):scanF (32::r) a acc=scanF r (a+1) acc:=by
 unfold scanF
 rw [List.length_cons,scanG];exact if_pos rfl
theorem scanF_bad{l:List UInt8}(a:Nat)(acc:List Wd)(h0:l≠[])(h1:l.headD 0≠32)(h:(wordF l).2.2=0):scanF l a acc=(none,a):=by
 unfold scanF
 cases l with
 |nil=>exact absurd rfl h0
 |cons c r=>
  simp only [List.headD_cons]at h1
  rw [List.length_cons,scanG,if_neg h1,if_pos h]
theorem scanF_word{l:List UInt8}(a:Nat)(acc:List Wd)(h0:l≠[])(h1:l.headD 0≠32)(h:(wordF l).2.2≠0):scanF l a acc=scanF (l.drop (wordF l).2.2) (a+(wordF l).2.2) (acc++[⟨(wordF l).1,(wordF l).2.1,a⟩]):=by
 unfold scanF
 cases l with
 |nil=>exact absurd rfl h0
 |cons c r=>
  simp only [List.headD_cons]at h1
  rw [List.length_cons,scanG,if_neg h1,if_neg h];refine scanG_fuel _ _ _ _ _ ?_ (Nat.le_refl _)
  rw [List.length_drop,List.length_cons];omega
theorem quoF_not{c:UInt8}{r acc:List UInt8}{n:Nat}(h:c≠34):quoF (c::r) acc n=quoF r (acc++[c]) (n+1):=by
 cases r with
 |nil=>simp [quoF,h]
 |cons d r=>simp [quoF,h]
theorem quoF_two{r acc:List UInt8}{n:Nat}:quoF (34::34::r) acc n=quoF r (acc++[34]) (n+2):=by simp [quoF]
theorem quoF_end{r acc:List UInt8}{n:Nat}(h:Lib.hasPrefix r [34]=false):quoF (34::r) acc n=some (acc,n+1):=by
 cases r with
 |nil=>simp [quoF]
 |cons d r=>
  have hd:d≠34:=fun e=>by subst e;simp [Lib.hasPrefix]at h
  simp [quoF,hd]
end Go.Proofs.YtoikodohcieipaaGreatDoor
namespace Go.Proofs.YtoikodohcieipaaGreatDoor
open Go.RowKit
set_option linter.unusedVariables false
set_option linter.unusedSimpArgs false
theorem Q.block{a w:World}(h:Q a w){b:Nat}(hb:b<a.heap.size):w.heap[b]?=a.heap[b]?:=Below.block h b hb
def wd(x:Wd):List Value:=[.int .i64 (x.k:Int),.string ⟨x.t.toArray⟩,.int .i64 (x.p:Int)]
theorem wd_len(x:Wd):(wd x).length=3:=rfl
theorem wd_one(x:Wd):∀ u∈wd x,u.oneCell'=true:=by
 intro u hu
 simp [wd]at hu
 rcases hu with rfl|rfl|rfl <;> rfl
section
variable {α:Type} (enc:α→List Value)
def flat(L:List α):List Value:=L.flatMap enc
theorem flat_cons(x:α)(L:List α):flat enc (x::L)=enc x++flat enc L:=by unfold flat;simp
theorem flat_snoc(L:List α)(x:α):flat enc (L++[x])=flat enc L++enc x:=by unfold flat;simp
theorem flat_len{k:Nat}(hk:∀ x,(enc x).length=k)(L:List α):(flat enc L).length=L.length*k:=by
 induction L with
 |nil=>simp [flat]
 |cons x L ih=>rw [flat_cons,List.length_append,ih,hk,List.length_cons,Nat.succ_mul];omega
theorem flat_at{k:Nat}(hk:∀ x,(enc x).length=k)(L:List α)(i:Nat)(h:i<L.length)(j:Nat)(hj:j<k):(flat enc L)[i*k+j]?=(enc L[i])[j]?:=by
 induction L generalizing i with
 |nil=>simp at h
 |cons x L ih=>
  rw [flat_cons];cases i with
  |zero=>
   rw [Nat.zero_mul,Nat.zero_add,List.getElem?_append_left (by rw [hk];exact hj)]
   simp
  |succ i=>
   have e:(i+1)*k+j=k+(i*k+j):=by rw [Nat.succ_mul];omega
   rw [e,List.getElem?_append_right (by rw [hk];omega),hk,Nat.add_sub_cancel_left,ih i (by simpa using h)]
   simp
def Ats(W:World)(b o:Nat)(x:α):Prop:=∀ (j:Nat) (u:Value),(enc x)[j]?=some u→W.cell? ⟨b,o+j,none⟩=some u
variable {enc}
theorem Ats.on{W W':World}{b o:Nat}{x:α}(h:Ats enc W b o x)(q:Q W W'):Ats enc W' b o x:=fun j u hu=>
 (q.cell (World.block_lt_of_cell? W ⟨b,o+j,none⟩ (h j u hu))).trans (h j u hu)
theorem Ats.blk{W W':World}{b o:Nat}{x:α}(h:Ats enc W b o x)(q:W'.heap[b]?=W.heap[b]?):Ats enc W' b o x:=fun j u hu=>
 (World.cell?_of_block (w:=W) (w':=W') (a:=⟨b,o+j,none⟩) q).trans (h j u hu)
variable (enc)
def Sl(k:Nat)(W:World)(v:Value)(L:List α):Prop:=
 ∃ (ao:Option Addr) (cap:Nat),v=.slice ao L.length cap∧L.length≤cap∧cap≤maxLen∧(0<L.length→∃ b off,ao=some ⟨b,off,none⟩∧∀ i (h:i<L.length),Ats enc W b (off+i*k) L[i])
variable {enc}
variable {k:Nat}
theorem Sl.on{W W':World}{v:Value}{L:List α}(h:Sl enc k W v L)(q:Q W W'):Sl enc k W' v L:=by
 obtain ⟨ao,cap,hv,h1,h2,h⟩:=h;refine ⟨ao,cap,hv,h1,h2,fun hl=>?_⟩
 obtain ⟨b,off,ha,hc⟩:=h hl;exact ⟨b,off,ha,fun i hi=>(hc i hi).on q⟩
theorem Sl.len{W:World}{v:Value}{L:List α}(h:Sl enc k W v L):∃ (ao:Option Addr) (cap:Nat),v=.slice ao L.length cap∧L.length≤cap∧cap≤maxLen:=by
 obtain ⟨ao,cap,hv,h1,h2,_⟩:=h;exact ⟨ao,cap,hv,h1,h2⟩
theorem sl_nil(W:World):Sl enc k W (.slice none 0 0) []:=⟨none,0,rfl,Nat.le_refl _,Nat.zero_le _,fun h=>absurd h (by simp)⟩
def Own(enc:α→List Value)(e:TypeId)(k B:Nat)(W:World)(v:Value)(L:List α):Prop:=W.ownsRow B e k v L.length (flat enc L)
variable {e:TypeId} {B:Nat}
theorem own_nil(W:World):Own enc e k B W (.slice none 0 0) []:=World.ownsRow_nil _ _ _ _
theorem Own.sl{W:World}{v:Value}{L:List α}(h:Own enc e k B W v L)(hk:∀ x,(enc x).length=k)(hp:0<k):Sl enc k W v L:=by
 have h0:=h;obtain ⟨hl,h⟩:=h
 rcases h with ⟨hv,hn⟩|⟨g,cap,cur,hv,hb,hg,h1,h2,h3,h4⟩
 ·exact ⟨none,0,by rw [hv,hn],by omega,Nat.zero_le _,fun h=>by omega⟩
 ·refine ⟨some ⟨g,0,none⟩,cap,hv,h1,h2,fun _=>⟨g,0,rfl,fun i hi j u hu=>?_⟩⟩
  have hj:j<k:=by rw [←hk L[i]];exact (List.getElem?_eq_some_iff.1 hu).1
  unfold Own at h0
  rw [hv]at h0;have:i*k+j<L.length*k:=Nat.lt_of_lt_of_le (Nat.add_lt_add_left hj _) (by rw [←Nat.succ_mul];exact Nat.mul_le_mul_right _ hi)
  rw [Nat.zero_add,h0.cellAt (i*k+j) this,flat_at enc hk L i hi j hj];exact hu
theorem Own.alloc{W:World}{v:Value}{L:List α}(h:Own enc e k B W v L)(o:Obj):Own enc e k B (W.alloc o) v L:=World.ownsRow.alloc h o
theorem Own.on{W W':World}{v:Value}{L:List α}(h:Own enc e k B W v L)(q:Q W W'):Own enc e k B W' v L:=by
 obtain ⟨hl,h⟩:=h;refine ⟨hl,?_⟩
 rcases h with h|⟨g,cap,cur,hv,hb,hg,h1,h2,h3,h4⟩
 ·exact .inl h
 ·have hlt:g<W.heap.size:=by
   rcases Nat.lt_or_ge g W.heap.size with h'|h'
   ·exact h'
   ·rw [Array.getElem?_eq_none h']at hg;cases hg
  exact .inr ⟨g,cap,cur,hv,hb,by rw [Below.block q g hlt];exact hg,h1,h2,h3,h4⟩
theorem Own.blk{W:World}{v:Value}{L:List α}(h:Own enc e k B W v L):∀ j,v.ownBlock=some j→B≤j:=by
 intro j hj
 obtain ⟨_,h⟩:=h
 rcases h with ⟨hv,_⟩|⟨g,cap,cur,hv,hg,_⟩
 ·rw [hv]at hj;cases hj
 ·rw [hv]at hj
  cases hj
  exact hg
theorem Own.lt{W:World}{v:Value}{L:List α}(h:Own enc e k B W v L):∀ j,v.ownBlock=some j→j<W.heap.size:=by
 intro j hj
 obtain ⟨_,h⟩:=h
 rcases h with ⟨hv,_⟩|⟨g,cap,cur,hv,_,hg,_⟩
 ·rw [hv]at hj;cases hj
 ·rw [hv]at hj
  cases hj
  rcases Nat.lt_or_ge g W.heap.size with h'|h'
  ·exact h'
  ·rw [Array.getElem?_eq_none h']at hg;cases hg
theorem Own.mono{W:World}{v:Value}{L:List α}{B':Nat}(h:Own enc e k B W v L)(hB:B'≤B):Own enc e k B' W v L:=by
 obtain ⟨hl,h⟩:=h;refine ⟨hl,?_⟩
 rcases h with h|⟨g,cap,cur,hv,hb,hr⟩
 ·exact .inl h
 ·exact .inr ⟨g,cap,cur,hv,by omega,hr⟩
theorem Own.grown{W W':World}{row:Option Nat}{v:Value}{L:List α}(h:Own enc e k B W v L)(g:W.grownBy W' row)(hr:v.ownBlock=none∨v.ownBlock≠row):Own enc e k B W' v L:=World.ownsRow.kept h g hr
theorem own_snoc{W:World}{v:Value}{L:List α}{x:α}(h:W.ownsRow B e k v (L.length+1) (flat enc L++enc x)):Own enc e k B W v (L++[x]):=by
 unfold Own
 rw [flat_snoc,List.length_append];exact h
theorem own_snoc'{W:World}{v:Value}{L:List α}{x:α}{n:Nat}(h:W.ownsRow B e k v n (flat enc L++enc x))(hn:n=L.length+1):Own enc e k B W v (L++[x]):=own_snoc (hn ▸ h)
theorem news_new(W:World)(cs:List Value)(t:TypeId):∀ j u,cs[j]?=some u→(W.alloc (.cells cs.toArray t)).cell? ((⟨W.heap.size,0,none⟩:Addr).add j)=some u:=by
 intro j u hu
 have hj:j<cs.length:=(List.getElem?_eq_some_iff.1 hu).1
 have e:((⟨W.heap.size,0,none⟩:Addr).add j)=⟨W.heap.size,j,none⟩:=by
  unfold Addr.add
  by_cases h:j=0
  ·subst h;simp
  ·simp [h]
 rw [e];rw [World.cell?_alloc_new]
 simpa using hu
theorem news_at(W:World)(cs:List Value)(t:TypeId)(b:Nat)(hb:b=W.heap.size):∀ j u,cs[j]?=some u→(W.alloc (.cells cs.toArray t)).cell? ((⟨b,0,none⟩:Addr).add j)=some u:=by
 subst hb;exact news_new W cs t
theorem Own.shape{W:World}{v:Value}{L:List α}(h:Own enc e k B W v L)(hl:0<L.length):∃ g cap,v=.slice (some ⟨g,0,none⟩) L.length cap∧B≤g∧g<W.heap.size∧L.length≤cap∧cap≤maxLen:=by
 have hlt:=h.lt;obtain ⟨_,h⟩:=h
 rcases h with ⟨hv,hn⟩|⟨g,cap,cur,hv,hb,hg,h1,h2,_⟩
 ·omega
 ·exact ⟨g,cap,hv,hb,hlt g (by rw [hv];rfl),h1,h2⟩
theorem Own.cell{W:World}{g cap i:Nat}{L:List α}(h:Own enc e k B W (.slice (some ⟨g,0,none⟩) L.length cap) L)(hk:∀ x,(enc x).length=k)(hi:i<L.length):Ats enc W g (i*k) L[i]:=by
 intro j u hu
 have hj:j<k:=by rw [←hk L[i]];exact (List.getElem?_eq_some_iff.1 hu).1
 have:i*k+j<L.length*k:=Nat.lt_of_lt_of_le (Nat.add_lt_add_left hj _) (by rw [←Nat.succ_mul];exact Nat.mul_le_mul_right _ hi)
 rw [World.ownsRow.cellAt h (i*k+j) this,flat_at enc hk L i hi j hj];exact hu
theorem flat_set{L:List α}(hk:∀ x,(enc x).length=k)(i:Nat)(hi:i<L.length)(j:Nat)(hj:j<k)(u:Value)(x':α)(hx:enc x'=(enc L[i]).set j u):(flat enc L).set (i*k+j) u=flat enc (L.set i x'):=by
 induction L generalizing i with
 |nil=>simp at hi
 |cons x L ih=>
  rw [flat_cons];cases i with
  |zero=>
   simp only [List.set_cons_zero,List.getElem_cons_zero]at *
   rw [flat_cons,hx,Nat.zero_mul,Nat.zero_add,List.set_append_left _ _ (by rw [hk];exact hj)]
  |succ i=>
   simp only [List.set_cons_succ,List.getElem_cons_succ]at *
   have e:(i+1)*k+j=k+(i*k+j):=by rw [Nat.succ_mul];omega
   rw [flat_cons,e,List.set_append_right _ _ (by rw [hk];omega),hk,Nat.add_sub_cancel_left,ih i (by simpa using hi) hx]
theorem Own.set{W:World}{g cap i:Nat}{L:List α}(h:Own enc e k B W (.slice (some ⟨g,0,none⟩) L.length cap) L)(hk:∀ x,(enc x).length=k)(hi:i<L.length)(j:Nat)(hj:j<k)(u:Value)(x':α)(hx:enc x'=(enc L[i]).set j u) :
  Own enc e k B (W.setCell ⟨g,i*k+j,none⟩ u) (.slice (some ⟨g,0,none⟩) L.length cap) (L.set i x'):=by
 have h1:=(World.ownsRow.stored h (i*k+j) u).1;rw [flat_set hk i hi j hj u x' hx]at h1;unfold Own
 rw [List.length_set];exact h1
end
def Inf(e:TypeId)(z:Value)(k by':Nat)(i:TypeInfo):Prop:=Tryz.prog.info? e=some i∧i.zero=some z∧i.size=k∧i.bytes=by'
theorem inf_of{e:TypeId}{z:Value}{k b:Nat}(h:(Tryz.prog.info? e).map (fun i=>(i.zero,i.size,i.bytes))=some (some z,k,b)):∃ i,Inf e z k b i:=by
 obtain ⟨i,hi,hz⟩:=Option.map_eq_some_iff.1 h;simp only [Prod.mk.injEq]at hz
 exact ⟨i,hi,hz.1,hz.2.1,hz.2.2⟩
end Go.Proofs.YtoikodohcieipaaGreatDoor
namespace Go.Proofs.YtoikodohcieipaaGreatDoor
open Go.RowKit
def rf(x:Rf):List Value:=[.string ⟨x.1.toArray⟩,.int .i64 x.2.1,.int .i64 x.2.2.1,.bool x.2.2.2.1,.bool x.2.2.2.2]
theorem rf_len(x:Rf):(rf x).length=5:=rfl
def Pl(W:World)(b:Nat):Prop:=∃ c t,W.heap[b]?=some (.cells c t (0,0))
theorem Pl.lt{W:World}{b:Nat}(h:Pl W b):b<W.heap.size:=by
 obtain ⟨c,t,h⟩:=h
 rcases Nat.lt_or_ge b W.heap.size with h'|h'
 ·exact h'
 ·rw [Array.getElem?_eq_none h']at h;cases h
theorem Pl.on{W W':World}{b:Nat}(h:Pl W b)(q:Q W W'):Pl W' b:=by
 have hb:=h.lt;obtain ⟨c,t,h⟩:=h;exact ⟨c,t,(Q.block q hb).trans h⟩
theorem pl_new(W:World)(c:Array Value)(t:TypeId):Pl (W.alloc (.cells c t)) W.heap.size:=⟨c,t,by show (W.heap.push _)[W.heap.size]?=_;simp⟩
def Rd(W:World):Ex→Value→Prop
 |.mk k n t b e rs ks,v=>∃ rv kv,v=.agg #[.int .i64 k,.int .i64 n,.string ⟨t.toArray⟩,.bool b,.int .i64 e,rv,kv]∧Sl rf 5 W rv rs ∧
   ∃ (ao:Option Addr) (cap:Nat),kv=.slice ao ks.length cap∧ks.length≤cap∧cap≤maxLen∧(ks≠[]→∃ b' off,ao=some ⟨b',off,none⟩∧Pl W b'∧RdL W ks b' off)
 where
 RdL (W:World):List Ex→Nat→Nat→Prop
 |[],_,_=>True
 |x::xs,b,off=>(∃ c0 c1 c2 c3 c4 c5 c6,W.cell? ⟨b,off,none⟩=some c0∧W.cell? ⟨b,off+1,none⟩=some c1∧W.cell? ⟨b,off+2,none⟩=some c2∧W.cell? ⟨b,off+3,none⟩=some c3∧W.cell? ⟨b,off+4,none⟩=some c4∧W.cell? ⟨b,off+5,none⟩=some c5∧W.cell? ⟨b,off+6,none⟩=some c6∧Rd W x (.agg #[c0,c1,c2,c3,c4,c5,c6]))∧RdL W xs b (off+7)
theorem Rd.on{W W':World}(q:Q W W'):∀ (x:Ex) (v:Value),Rd W x v→Rd W' x v
 |.mk k n t b e rs ks,v,h=>by
  unfold Rd at h ⊢
  obtain ⟨rv,kv,hv,hr,ao,cap,hk,h1,h2,h3⟩:=h;refine ⟨rv,kv,hv,hr.on q,ao,cap,hk,h1,h2,fun hn=>?_⟩
  obtain ⟨b',off,ha,hp,hl⟩:=h3 hn;exact ⟨b',off,ha,hp.on q,go q ks b' off hl⟩
 where
 go {W W':World} (q:Q W W'):∀ (l:List Ex) (b off:Nat),Rd.RdL W l b off→Rd.RdL W' l b off
 |[],_,_,_=>by unfold Rd.RdL;trivial
 |x::xs,b,off,h=>by
  unfold Rd.RdL at h ⊢
  obtain ⟨⟨c0,c1,c2,c3,c4,c5,c6,g0,g1,g2,g3,g4,g5,g6,hx⟩,hr⟩:=h;have ce:∀ {o:Nat} {c:Value},W.cell? ⟨b,o,none⟩=some c→W'.cell? ⟨b,o,none⟩=some c:=fun h=>(q.cell (World.block_lt_of_cell? W ⟨b,_,none⟩ h)).trans h
  exact ⟨⟨c0,c1,c2,c3,c4,c5,c6,ce g0,ce g1,ce g2,ce g3,ce g4,ce g5,ce g6,Rd.on q x _ hx⟩,go q xs b (off+7) hr⟩
theorem Rd.RdL.on{W W':World}(q:Q W W'):∀ (l:List Ex) (b off:Nat),Rd.RdL W l b off→Rd.RdL W' l b off:=Rd.on.go q
structure Kid (W:World) (x:Ex) (b off:Nat) (c0 c1 c2 c3 c4 c5 c6:Value):Prop where
 g0:W.cell? ⟨b,off,none⟩=some c0
 g1:W.cell? ⟨b,off+1,none⟩=some c1
 g2:W.cell? ⟨b,off+2,none⟩=some c2
 g3:W.cell? ⟨b,off+3,none⟩=some c3
 g4:W.cell? ⟨b,off+4,none⟩=some c4
 g5:W.cell? ⟨b,off+5,none⟩=some c5
 g6:W.cell? ⟨b,off+6,none⟩=some c6
 rd:Rd W x (.agg #[c0,c1,c2,c3,c4,c5,c6])
theorem Rd.RdL.kid{W:World}:∀ {ks:List Ex} {b off:Nat},Rd.RdL W ks b off→∀ i (h:i<ks.length),∃ c0 c1 c2 c3 c4 c5 c6,Kid W ks[i] b (off+i*7) c0 c1 c2 c3 c4 c5 c6
 |[],_,_,_,i,h=>absurd h (by simp)
 |x::xs,b,off,hr,i,h=>by
  unfold Rd.RdL at hr
  obtain ⟨⟨c0,c1,c2,c3,c4,c5,c6,g0,g1,g2,g3,g4,g5,g6,hx⟩,hr⟩:=hr;cases i with
  |zero=>exact ⟨c0,c1,c2,c3,c4,c5,c6,by simpa using g0,by simpa using g1,by simpa using g2,by simpa using g3,by simpa using g4,by simpa using g5,by simpa using g6,hx⟩
  |succ i=>
   obtain ⟨c0,c1,c2,c3,c4,c5,c6,hk⟩:=Rd.RdL.kid hr i (by simpa using h)
   rw [show off+7+i*7=off+(i+1)*7 by omega]at hk
   exact ⟨c0,c1,c2,c3,c4,c5,c6,hk⟩
structure Prt (W:World) (x:Ex) (k n:Int) (t:ByteArray) (b:Bool) (e:Int) (rs:List Rf) (ks:List Ex) (rv kv:Value) (ao:Option Addr) (cap:Nat):Prop where
 ex:x=.mk k n t.data.toList b e rs ks
 rl:Sl rf 5 W rv rs
 kl:kv=.slice ao ks.length cap
 le:ks.length≤cap
 mx:cap≤maxLen
 kd:ks≠[]→∃ b' off,ao=some ⟨b',off,none⟩∧Rd.RdL W ks b' off
theorem Rd.prt{W:World}{x:Ex}{v:Value}(h:Rd W x v):∃ k n t b e rs ks rv kv ao cap,v=.agg #[.int .i64 k,.int .i64 n,.string t,.bool b,.int .i64 e,rv,kv]∧Prt W x k n t b e rs ks rv kv ao cap:=by
 cases x with
 |mk k n t b e rs ks=>
  unfold Rd at h
  obtain ⟨rv,kv,hv,hr,ao,cap,hk,h1,h2,h3⟩:=h;exact ⟨k,n,⟨t.toArray⟩,b,e,rs,ks,rv,kv,ao,cap,hv,rfl,hr,hk,h1,h2,fun hn=>by
   obtain ⟨b',off,ha,_,hl⟩:=h3 hn;exact ⟨b',off,ha,hl⟩⟩
theorem Prt.on{W W':World}{x:Ex}{k n:Int}{t:ByteArray}{b:Bool}{e:Int}{rs:List Rf}{ks:List Ex}{rv kv:Value}{ao:Option Addr}{cap:Nat}(h:Prt W x k n t b e rs ks rv kv ao cap)(q:Q W W'):Prt W' x k n t b e rs ks rv kv ao cap:=
 ⟨h.ex,h.rl.on q,h.kl,h.le,h.mx,fun hn=>by
  obtain ⟨b',off,ha,hl⟩:=h.kd hn;exact ⟨b',off,ha,Rd.RdL.on q _ _ _ hl⟩⟩
structure Bx (w W:World) (c0 c1 c2 c3 c4 c5 c6:Value):Prop where
 q:Q w W
 lt:w.heap.size<W.heap.size
 g0:W.cell? ⟨w.heap.size,0,none⟩=some c0
 g1:W.cell? ⟨w.heap.size,1,none⟩=some c1
 g2:W.cell? ⟨w.heap.size,2,none⟩=some c2
 g3:W.cell? ⟨w.heap.size,3,none⟩=some c3
 g4:W.cell? ⟨w.heap.size,4,none⟩=some c4
 g5:W.cell? ⟨w.heap.size,5,none⟩=some c5
 g6:W.cell? ⟨w.heap.size,6,none⟩=some c6
theorem Bx.start(w:World)(c0 c1 c2 c3 c4 c5 c6:Value)(t:TypeId):Bx w (w.alloc (.cells #[c0,c1,c2,c3,c4,c5,c6] t)) c0 c1 c2 c3 c4 c5 c6:=by
 refine ⟨(Q.refl _).alloc _,by simp,?_,?_,?_,?_,?_,?_,?_⟩
 all_goals simp [World.cell?_alloc_new]
theorem Bx.on{w W W':World}{c0 c1 c2 c3 c4 c5 c6:Value}(h:Bx w W c0 c1 c2 c3 c4 c5 c6)(q:Q W W'):Bx w W' c0 c1 c2 c3 c4 c5 c6:=
 ⟨h.q.trans q,q.lt h.lt,(q.cell h.lt).trans h.g0,(q.cell h.lt).trans h.g1,(q.cell h.lt).trans h.g2,(q.cell h.lt).trans h.g3,(q.cell h.lt).trans h.g4,(q.cell h.lt).trans h.g5,(q.cell h.lt).trans h.g6⟩
def mxN(l:List Nat):Nat:=l.foldl max 0
def dp:Nat→Ex→Nat
 |0,_=>1
 |m+1,.mk _ _ _ _ _ _ ks=>mxN (ks.map (dp m))+1
theorem mxN_snoc(l:List Nat)(d:Nat):mxN (l++[d])=max (mxN l) d:=by unfold mxN;rw [List.foldl_append];rfl
theorem mxN_le{l:List Nat}{m:Nat}(h:∀ x∈l,x≤m):mxN l≤m:=by
 unfold mxN
 suffices ∀ (a:Nat),a≤m→l.foldl max a≤m by exact this 0 (Nat.zero_le _)
 induction l with
 |nil=>intro a ha;exact ha
 |cons x l ih=>
  intro a ha
  rw [List.foldl_cons];exact ih (fun y hy=>h y (by simp [hy])) _ (Nat.max_le.2 ⟨ha,h x (by simp)⟩)
theorem dp_le:∀ (m:Nat) (x:Ex),dp m x≤m+1
 |0,x=>by unfold dp;exact Nat.le_refl _
 |m+1,.mk _ _ _ _ _ _ ks=>by
  unfold dp
  have:mxN (ks.map (dp m))≤m+1:=mxN_le (fun y hy=>by
   obtain ⟨z,_,rfl⟩:=List.mem_map.1 hy;exact dp_le m z)
  omega
theorem take_map_snoc{α β:Type}(f:α→β)(l:List α)(i:Nat)(h:i<l.length):(l.take (i+1)).map f=(l.take i).map f++[f l[i]]:=by
 rw [List.take_succ_eq_append_getElem h,List.map_append]
 rfl
theorem depth_any:∀ (m:Nat) (x:Ex) (v:Value) (W:World) (M:Int),M=(m:Int)→m≤100→Rd W x v→Calls Tryz.prog 42 #[v,.int .i64 M] W fun e W'=>e=.returned (.int .i64 (dp m x:Int))∧Q W W':=by
 intro m
 induction m with
 |zero=>
  intro x v W M hM hm hr
  obtain ⟨k,n,t,b,e,rs,ks,rv,kv,ao,cap,rfl,hp⟩:=hr.prt;have hM0:M≤0:=by omega
  clear hM;have HD:Hid (dp 0 x=1):=hid (by unfold dp;rfl)
  generalize dp 0 x=d at HD ⊢;clear hp hr;go_enter Tryz.func42,Tryz.ntmps42
  go_wp2
  go_ret
  exact ⟨ret_int (by rw [HD.out];rfl),(Q.refl _).alloc _⟩
 |succ m ih=>
  intro x v W M hM hm hr
  obtain ⟨k,n,t,b,e,rs,ks,rv,kv,ao,cap,rfl,hp⟩:=hr.prt;have HD:Hid (dp (m+1) x=mxN (ks.map (dp m))+1):=hid (by rw [hp.ex];rfl)
  generalize dp (m+1) x=d at HD ⊢;have IH:=hid (fun x v W h=>ih x v W (M-1) (by omega) (by omega) h)
  have hM0:0<M:=by omega
  have hM1:M≤200:=by omega
  clear hM;have HX:=hid (Bx.start W (.int .i64 k) (.int .i64 n) (.string t) (.bool b) (.int .i64 e) rv kv 26);have HP:=hid hp;obtain rfl:=hp.kl;have hroom:ks.length≤9223372036854775807:=by have h1:=hp.le;have h2:=hp.mx;unfold maxLen at h2;omega
  clear hp hr ih;go_enter Tryz.func42,Tryz.ntmps42
  go_wp2
  go_loopw [5,6] (fun y z W'=>∃ (i a:Nat),i≤ks.length∧y=.int .i64 (a:Int)∧z=.int .i64 (i:Int)∧a≤1000∧Bx W W' (.int .i64 k) (.int .i64 n) (.string t) (.bool b) (.int .i64 e) rv (.slice ao ks.length cap)∧Hid (a=mxN ((ks.take i).map (dp m)))) (fun _ z _=>ks.length-(intOf z).toNat)
  case atStart=>exact ⟨0,0,Nat.zero_le _,rfl,rfl,by omega,HX.out,rfl⟩
  case round=>
   obtain ⟨i,a,hi,rfl,rfl,ha,hX,hA⟩:=hrel;have c6:=hX.g6;have HX2:=hid hX;by_cases hlt:i<ks.length
   ·have hne:ks≠[]:=by intro h;rw [h]at hlt;simp at hlt
    obtain ⟨b',off,rfl,hl⟩:=(HP.out.on hX.q).kd hne;obtain ⟨e0,e1,e2,e3,e4,e5,e6,hK⟩:=hl.kid i hlt;obtain ⟨h0,h1,h2,h3,h4,h5,h6,hrd⟩:=hK;have HI:=hid (IH.out _ _ _ hrd);have hdl:=dp_le m ks[i];have HA2:Hid (max a (dp m ks[i])=mxN ((ks.take (i+1)).map (dp m))):=by
     show _=_
     rw [take_map_snoc _ _ _ hlt,mxN_snoc,←hA.out]
    generalize dp m ks[i]=dd at HI hdl HA2;clear hX hl hrd hA;by_cases hgt:a<dd
    ·rw [Nat.max_eq_right (by omega)]at HA2
     go_wp2_with (go_at_call 42;refine HI.out.mono ?_;rintro e9 w9 ⟨rfl,q9⟩;have HX3:=hid (HX2.out.on q9);clear q9)
     go_roundw
     case rel=>exact ⟨i+1,dd,by omega,rfl,by go_num,by omega,HX3.out,HA2⟩
     case measure=>simp [intOf];omega
    ·rw [Nat.max_eq_left (by omega)]at HA2
     go_wp2_with (go_at_call 42;refine HI.out.mono ?_;rintro e9 w9 ⟨rfl,q9⟩;have HX3:=hid (HX2.out.on q9);clear q9)
     go_roundw
     case rel=>exact ⟨i+1,a,by omega,rfl,by go_num,by omega,HX3.out,HA2⟩
     case measure=>simp [intOf];omega
   ·have HA2:Hid ((d:Int)=(a:Int)+1):=by
     show _=_
     rw [HD.out,hA.out,List.take_of_length_le (by omega)]
     rfl
    clear hX hA;go_wp2_with fail
    go_ret
    exact ⟨ret_int HA2.out.symm,HX2.out.q⟩
def cnt:Ex→Nat→Nat
 |.mk _ _ _ _ _ _ ks,n=>cntL ks (n+1)
 where
 cntL:List Ex→Nat→Nat
 |[],n=>n
 |x::xs,n=>if n≤200 then cntL xs (cnt x n) else n
theorem cntL_stop{ks:List Ex}{n:Nat}(h:¬ n≤200):cnt.cntL ks n=n:=by
 cases ks with
 |nil=>rw [cnt.cntL]
 |cons x xs=>rw [cnt.cntL,if_neg h]
theorem cnt_le:∀ (x:Ex) (n:Nat),n≤200→cnt x n≤201
 |.mk _ _ _ _ _ _ ks,n,h=>by
  rw [cnt];exact go ks (n+1) (by omega)
 where
 go:∀ (ks:List Ex) (n:Nat),n≤201→cnt.cntL ks n≤201
 |[],n,h=>by rw [cnt.cntL];exact h
 |x::xs,n,h=>by
  rw [cnt.cntL]
  split
  ·rename_i h'
   exact go xs _ (cnt_le x n h')
  ·exact h
theorem kid_size{k n:Int}{t:List UInt8}{b:Bool}{e:Int}{rs:List Rf}{ks:List Ex}(i:Nat)(h:i<ks.length):SizeOf.sizeOf ks[i]<SizeOf.sizeOf (Ex.mk k n t b e rs ks):=by
 have:=List.sizeOf_lt_of_mem (List.getElem_mem h)
 simp
 omega
theorem count_any:∀ (s:Nat) (x:Ex) (v:Value) (W:World) (N D:Int) (n0:Nat),SizeOf.sizeOf x≤s→N=(n0:Int)→n0≤200→Rd W x v→Calls Tryz.prog 54 #[v,.int .i64 N,.int .i64 D] W fun e W'=>e=.returned (.int .i64 (cnt x n0:Int))∧Q W W':=by
 intro s
 induction s with
 |zero=>
  intro x v W N D n0 hs hN hn hr
  cases x with
  |mk k n t b e rs ks=>simp at hs
 |succ s ih=>
  intro x v W N D n0 hs hN hn hr
  obtain ⟨k,n,t,b,e,rs,ks,rv,kv,ao,cap,rfl,hp⟩:=hr.prt;have HD:Hid (cnt x n0=cnt.cntL ks (n0+1)):=hid (by rw [hp.ex,cnt])
  have IH:=hid (fun (i:Nat) (h:i<ks.length) v W N D n0=>ih ks[i] v W N D n0 (by have:=kid_size (k:=k) (n:=n) (t:=t.data.toList) (b:=b) (e:=e) (rs:=rs) i h;rw [←hp.ex]at this;omega))
  generalize cnt x n0=d at HD ⊢;have HX:=hid (Bx.start W (.int .i64 k) (.int .i64 n) (.string t) (.bool b) (.int .i64 e) rv kv 26);have HP:=hid hp;obtain rfl:=hp.kl;have hroom:ks.length≤9223372036854775807:=by have h1:=hp.le;have h2:=hp.mx;unfold maxLen at h2;omega
  have hN0:0≤N:=by omega
  have hN1:N≤200:=by omega
  have HNN:=hid hN;clear hp hr ih hs hN;go_enter Tryz.func54,Tryz.ntmps54
  go_wp2
  go_loopw [1,7] (fun y z W'=>∃ (i a:Nat),i≤ks.length∧y=.int .i64 (a:Int)∧z=.int .i64 (i:Int)∧a≤201∧Bx W W' (.int .i64 k) (.int .i64 n) (.string t) (.bool b) (.int .i64 e) rv (.slice ao ks.length cap)∧Hid (d=cnt.cntL (ks.drop i) a)) (fun _ z _=>ks.length-(intOf z).toNat)
  case atStart=>exact ⟨0,n0+1,Nat.zero_le _,by rw [HNN.out];rfl,rfl,by omega,HX.out,HD⟩
  case round=>
   obtain ⟨i,a,hi,rfl,rfl,ha,hX,hA⟩:=hrel;have c6:=hX.g6;have HX2:=hid hX;by_cases hlt:i<ks.length
   ·by_cases h200:a≤200
    ·have hne:ks≠[]:=by intro h;rw [h]at hlt;simp at hlt
     obtain ⟨b',off,rfl,hl⟩:=(HP.out.on hX.q).kd hne;obtain ⟨e0,e1,e2,e3,e4,e5,e6,hK⟩:=hl.kid i hlt;obtain ⟨h0,h1,h2,h3,h4,h5,h6,hrd⟩:=hK;have HI:=hid (fun D=>IH.out i hlt _ _ (a:Int) D a rfl h200 hrd)
     have hdl:=cnt_le ks[i] a h200;have HA2:Hid (d=cnt.cntL (ks.drop (i+1)) (cnt ks[i] a)):=by
      show _=_
      rw [hA.out,List.drop_eq_getElem_cons hlt,cnt.cntL,if_pos h200]
     generalize cnt ks[i] a=dd at HI hdl HA2;clear hX hl hrd hA;go_wp2_with (go_at_call 54;refine (HI.out _).mono ?_;rintro e9 w9 ⟨rfl,q9⟩;have HX3:=hid (HX2.out.on q9);clear q9)
     go_roundw
     case rel=>exact ⟨i+1,dd,by omega,rfl,by go_num,by omega,HX3.out,HA2⟩
     case measure=>simp [intOf];omega
    ·have HA2:Hid ((d:Int)=(a:Int)):=by show _=_;rw [hA.out,cntL_stop h200]
     clear hX hA;go_wp2_with fail
     go_ret
     exact ⟨ret_int HA2.out.symm,HX2.out.q⟩
   ·have HA2:Hid ((d:Int)=(a:Int)):=by
     show _=_
     rw [hA.out,List.drop_of_length_le (by omega),cnt.cntL]
    clear hX hA;go_wp2_with fail
    go_ret
    exact ⟨ret_int HA2.out.symm,HX2.out.q⟩
theorem val_lt(l:List UInt8)(h:allD l=true):val l+1≤10 ^ l.length:=by
 revert h
 refine rev_ind (P:=fun l=>allD l=true→val l+1≤10 ^ l.length) (fun _=>by simp [val]) ?_ l
 ·intro l c ih h
  rw [allD_app,Bool.and_eq_true]at h;have h1:=ih h.1;have h2:=allD_mem h.2 (c:=c) (by simp)
  rw [val_snoc,List.length_append,List.length_singleton,Nat.pow_succ];omega
theorem val_fifteen(l:List UInt8)(h:allD l=true)(h9:l.length≤15):val l≤999999999999999:=by
 have h1:=val_lt l h;have h2:10 ^ l.length≤10 ^ 15:=Nat.pow_le_pow_right (by omega) h9
 omega
theorem num_any(s:ByteArray)(m:Nat)(M:Int)(w:World)(hM:Hid (M=(m:Int)))(M0:0≤M)(M1:M≤2199023255552)(hs:s.size≤9223372036854775807) :
  Calls Tryz.prog 96 #[.string s,.int .i64 M] w fun e w'=>e=.returned (.int .i64 (numR s.data.toList m))∧w'=w:=by
 have HF:∀ b:Bool,numF s.data.toList m=b→Hid (numR s.data.toList m=if b then (val s.data.toList:Int) else -1):=by
  intro b e
  show _=_
  unfold numR
  rw [e]
 have et:=hid (Lib.toList_data s);by_cases h0:s.size=0
 ·have e0:s.toList=[]:=by rw [Lib.toList_data];exact List.eq_nil_of_length_eq_zero (by rw [len_data];exact h0)
  have hF:=HF false (by rw [←et.out,e0];rfl)
  have h1:(s.size:Int)<1:=by omega
  clear h0;go_enter Tryz.func96,Tryz.ntmps96
  go_wp2
  go_ret
  exact ⟨ret_int (by rw [hF.out];rfl),rfl⟩
 ·have hp:0<s.size:=by omega
  by_cases hg:15<s.size
  ·have hF:=HF false (numF_long _ _ (by rw [len_data];exact hg) (by have:=hM.out;omega))
   have h1:¬ (s.size:Int)<1:=by omega
   clear h0;go_enter Tryz.func96,Tryz.ntmps96
   go_wp2
   go_ret
   exact ⟨ret_int (by rw [hF.out];rfl),rfl⟩
  have hh:=hid (headD_get s hp);by_cases hz:s[0]=48∧1<s.size
  ·have hF:=HF false (numF_zero (by rw [hh.out];exact hz.1) (by rw [len_data];exact hz.2))
   have hc:(s[0].toNat:Int)=48:=by rw [hz.1];rfl
   have h1:=hz.2;clear hz h0;go_enter Tryz.func96,Tryz.ntmps96
   go_wp2
   go_ret
   exact ⟨ret_int (by rw [hF.out];rfl),rfl⟩
  ·have HZ:Hid (¬ (s.data.toList.headD 0=48∧1<s.data.toList.length)):=by
    show ¬ _
    rw [hh.out,len_data];exact hz
   have hc:((s[0].toNat:Int) == 48)=false∨((s[0].toNat:Int)=48∧¬ 1<(s.size:Int)):=by
    by_cases h:s[0]=48
    ·exact .inr ⟨by rw [h];rfl,fun g=>hz ⟨h,by omega⟩⟩
    ·exact .inl (byte_ne (n:=48) (by omega) h)
   clear hz h0
   rcases hc with hc|⟨hc,h1⟩
   ·go_enter Tryz.func96,Tryz.ntmps96
    go_wp2
    go_loop [5,6] (fun a i=>∃ (k:Nat) (n:Int),k≤s.size∧i=.int .i64 k∧a=.int .i64 n∧0≤n∧n≤999999999999999∧Hid (allD (s.data.toList.take k)=true∧n=(val (s.data.toList.take k):Int))) (fun _ i=>s.size-(intOf i).toNat)
    case atStart=>exact ⟨0,0,Nat.zero_le _,rfl,rfl,by omega,by omega,rfl,rfl⟩
    case round=>
     obtain ⟨k,n,hk,rfl,rfl,n0,n1,hn⟩:=hrel;by_cases hlt:k<s.size
     ·by_cases hd:dig s[k]=true
      ·have b0:48≤(s[k].toNat:Int):=by unfold dig at hd;simp at hd;omega
       have b1:(s[k].toNat:Int)≤57:=by unfold dig at hd;simp at hd;omega
       have hv:Hid (allD (s.data.toList.take (k+1))=true∧(val (s.data.toList.take (k+1)):Int)=n*10+((s[k].toNat:Int)-48)):=by
        have:=hn.out
        refine ⟨?_,?_⟩
        ·rw [take_snoc s k hlt,allD_app,this.1]
         unfold allD
         simp [hd]
        ·rw [take_snoc s k hlt,val_snoc,this.2]
         omega
       have hb:=val_fifteen _ hv.out.1 (by rw [List.length_take];omega)
       have hb':n*10+((s[k].toNat:Int)-48)≤999999999999999:=by have:=hv.out.2;omega
       clear hd hb;go_wp2
       go_round
       case rel=>exact ⟨k+1,n*10+((s[k].toNat:Int)-48),by omega,by go_num,by go_num,by omega,by omega,hv.out.1,hv.out.2.symm⟩
       case measure=>simp [intOf];omega
      ·have hF:=HF false (numF_nodig (allD_no s k hlt (by simpa using hd)))
       by_cases b0:(s[k].toNat:Int)<48
       ·clear hd
        go_wp2
        go_ret
        exact ⟨ret_int (by rw [hF.out];rfl),rfl⟩
       ·have b1:57<(s[k].toNat:Int):=by unfold dig at hd;simp at hd;omega
        clear hd;go_wp2
        go_ret
        exact ⟨ret_int (by rw [hF.out];rfl),rfl⟩
     ·have hN:Hid (allD s.data.toList=true∧n=(val s.data.toList:Int)):=by have:=hn.out;rw [take_all s k (by omega)]at this;exact this
      by_cases hb:M<n
      ·have hF:=HF false (numF_great (by have:=hN.out.2;have:=hM.out;omega))
       go_wp2
       go_ret
       exact ⟨ret_int (by rw [hF.out];rfl),rfl⟩
      ·have hF:=HF true (numF_yes (ne_of_pos hp) HZ.out hN.out.1 (by have:=hN.out.2;have:=hM.out;omega))
       go_wp2
       go_ret
       exact ⟨ret_int (by rw [hF.out,hN.out.2];rfl),rfl⟩
   ·go_enter Tryz.func96,Tryz.ntmps96
    go_wp2
    go_loop [5,6] (fun a i=>∃ (k:Nat) (n:Int),k≤s.size∧i=.int .i64 k∧a=.int .i64 n∧0≤n∧n≤999999999999999∧Hid (allD (s.data.toList.take k)=true∧n=(val (s.data.toList.take k):Int))) (fun _ i=>s.size-(intOf i).toNat)
    case atStart=>exact ⟨0,0,Nat.zero_le _,rfl,rfl,by omega,by omega,rfl,rfl⟩
    case round=>
     obtain ⟨k,n,hk,rfl,rfl,n0,n1,hn⟩:=hrel;by_cases hlt:k<s.size
     ·by_cases hd:dig s[k]=true
      ·have b0:48≤(s[k].toNat:Int):=by unfold dig at hd;simp at hd;omega
       have b1:(s[k].toNat:Int)≤57:=by unfold dig at hd;simp at hd;omega
       have hv:Hid (allD (s.data.toList.take (k+1))=true∧(val (s.data.toList.take (k+1)):Int)=n*10+((s[k].toNat:Int)-48)):=by
        have:=hn.out
        refine ⟨?_,?_⟩
        ·rw [take_snoc s k hlt,allD_app,this.1]
         unfold allD
         simp [hd]
        ·rw [take_snoc s k hlt,val_snoc,this.2]
         omega
       have hb:=val_fifteen _ hv.out.1 (by rw [List.length_take];omega)
       have hb':n*10+((s[k].toNat:Int)-48)≤999999999999999:=by have:=hv.out.2;omega
       clear hd hb;go_wp2
       go_round
       case rel=>exact ⟨k+1,n*10+((s[k].toNat:Int)-48),by omega,by go_num,by go_num,by omega,by omega,hv.out.1,hv.out.2.symm⟩
       case measure=>simp [intOf];omega
      ·have hF:=HF false (numF_nodig (allD_no s k hlt (by simpa using hd)))
       by_cases b0:(s[k].toNat:Int)<48
       ·clear hd
        go_wp2
        go_ret
        exact ⟨ret_int (by rw [hF.out];rfl),rfl⟩
       ·have b1:57<(s[k].toNat:Int):=by unfold dig at hd;simp at hd;omega
        clear hd;go_wp2
        go_ret
        exact ⟨ret_int (by rw [hF.out];rfl),rfl⟩
     ·have hN:Hid (allD s.data.toList=true∧n=(val s.data.toList:Int)):=by have:=hn.out;rw [take_all s k (by omega)]at this;exact this
      by_cases hb:M<n
      ·have hF:=HF false (numF_great (by have:=hN.out.2;have:=hM.out;omega))
       go_wp2
       go_ret
       exact ⟨ret_int (by rw [hF.out];rfl),rfl⟩
      ·have hF:=HF true (numF_yes (ne_of_pos hp) HZ.out hN.out.1 (by have:=hN.out.2;have:=hM.out;omega))
       go_wp2
       go_ret
       exact ⟨ret_int (by rw [hF.out,hN.out.2];rfl),rfl⟩
theorem own_none0{s:ByteArray}(h:s.size=0∨∃ h:0<s.size,s[0]≠99):ownK s.data.toList=-1:=by
 unfold ownK
 rw [if_neg];unfold Lib.hasPrefix
 rcases h with h|⟨h,h0⟩
 ·rw [show s.data.toList=[] from List.eq_nil_of_length_eq_zero (by rw [len_data];exact h)]
  simp
 ·have e:=drop_cons s 0 h
  rw [List.drop_zero]at e;rw [e];simp [Ne.symm h0]
theorem own_c{s:ByteArray}(h:0<s.size)(h0:s[0]=99):ownK s.data.toList=ownP (Lib.cut (s.data.toList.drop 1) [110]):=by
 have e:=drop_cons s 0 h;rw [List.drop_zero,h0]at e;have hp:Lib.hasPrefix s.data.toList [99]=true:=by rw [e];unfold Lib.hasPrefix;simp
 unfold ownK
 rw [if_pos hp];unfold Lib.trimPrefix
 rw [if_pos hp]
 rfl
theorem ownP_R(a b:List UInt8):ownP (a,b,true)=if numR b 999999<0 then -1 else numR a 15:=by
 unfold ownP numR
 cases numF a 15 <;> cases numF b 999999 <;> simp <;> omega
theorem rowner_any(s:ByteArray)(w:World)(hs:s.size<4294967281) :
  Calls Tryz.prog 78 #[.string s] w fun e w'=>e=.returned (.int .i64 (ownK s.data.toList))∧w'=w:=by
 by_cases hz:s.size=0∨∃ h:0<s.size,s[0]≠99
 ·have HO:=hid (own_none0 hz)
  have hz':∀ h:0<s.size,((s[0].toNat:Int) == 99)=false:=fun h=>by
   rcases hz with g|⟨_,g⟩
   ·omega
   ·exact byte_ne (n:=99) (by omega) g
  clear hz;go_enter Tryz.func78,Tryz.ntmps78
  go_wp2
  go_loop [3] (fun i=>∃ k:Nat,1≤k∧k≤s.size+1∧i=.int .i64 k) (fun i=>s.size+1-(intOf i).toNat)
  case atStart=>exact ⟨1,by omega,by omega,rfl⟩
  case round=>
   obtain ⟨k,k1,hk,rfl⟩:=hrel;by_cases hlt:k<s.size
   ·have h0:=hz' (by omega)
    by_cases hn:s[k]=110
    ·have hn':(s[k].toNat:Int)=110:=by rw [hn];rfl
     clear hn;go_wp2
     go_round
     case rel=>exact ⟨k+1,by omega,by omega,by go_num⟩
     case measure=>simp [intOf];omega
    ·have hn':((s[k].toNat:Int) == 110)=false:=byte_ne (n:=110) (by omega) hn
     clear hn;go_wp2
     go_round
     case rel=>exact ⟨k+1,by omega,by omega,by go_num⟩
     case measure=>simp [intOf];omega
   ·go_wp2
    go_ret
    exact ⟨ret_int HO.out.symm,rfl⟩
 ·have hp:0<s.size:=by
   rcases Nat.eq_zero_or_pos s.size with h|h
   ·exact absurd (.inl h) hz
   ·exact h
  have hc:s[0]=99:=by
   by_cases h:s[0]=99
   ·exact h
   ·exact absurd (.inr ⟨hp,h⟩) hz
  have HO:=hid (own_c hp hc);have hc':(s[0].toNat:Int)=99:=by rw [hc];rfl
  clear hz hc;go_enter Tryz.func78,Tryz.ntmps78
  go_wp2
  go_loop [3] (fun i=>∃ k:Nat,1≤k∧k≤s.size∧i=.int .i64 k∧Hid ((110:UInt8) ∉ (s.data.toList.take k).drop 1)) (fun i=>s.size+1-(intOf i).toNat)
  case atStart=>exact ⟨1,by omega,by omega,rfl,by show _ ∉ _;rw [List.drop_take];simp⟩
  case round=>
   obtain ⟨k,k1,hk,rfl,ha⟩:=hrel;by_cases hlt:k<s.size
   ·by_cases hn:s[k]=110
    ·have hn':(s[k].toNat:Int)=110:=by rw [hn];rfl
     have eL:s.data.toList.drop 1=(s.data.toList.take k).drop 1++110::s.data.toList.drop (k+1):=by
      have e1:s.data.toList=s.data.toList.take k++s.data.toList.drop k:=(List.take_append_drop _ _).symm
      rw [drop_cons s k hlt,hn]at e1;have e2:=congrArg (List.drop 1) e1;rw [List.drop_append_of_le_length (by rw [List.length_take,len_data];omega)]at e2
      exact e2
     have HR:Hid (ownK s.data.toList=if numR (s.data.toList.drop (k+1)) 999999<0 then -1 else numR ((s.data.toList.take k).drop 1) 15):=by
      show _=_
      rw [HO.out,eL,cut_at 110 _ _ ha.out,ownP_R]
     have eA:(s.extract 1 k).data.toList=(s.data.toList.take k).drop 1:=by
      rw [Lib.extract_data,List.drop_take]
     have eB:(s.extract (k+1) s.size).data.toList=s.data.toList.drop (k+1):=by
      rw [Lib.extract_data];exact List.take_of_length_le (by rw [List.length_drop,len_data];omega)
     have HA:=hid (fun W=>num_any (s.extract 1 k) 15 15 W rfl (by omega) (by omega) (by simp only [ByteArray.size_extract];omega))
     have HB:=hid (fun W=>num_any (s.extract (k+1) s.size) 999999 999999 W rfl (by omega) (by omega) (by simp only [ByteArray.size_extract];omega))
     rw [eA]at HA;rw [eB]at HB;obtain ⟨A,qA⟩:∃ A,s.extract 1 k=A:=⟨_,rfl⟩;obtain ⟨B,qB⟩:∃ B,s.extract (k+1) s.size=B:=⟨_,rfl⟩;rw [qA]at HA;rw [qB]at HB;generalize numR ((s.data.toList.take k).drop 1) 15=X at *;generalize numR (s.data.toList.drop (k+1)) 999999=Y at *;clear hn eL eA eB HO;by_cases hY:Y<0
     ·go_wp2_with (first|(go_at_call_of 96 A;refine (HA.out _).mono ?_;rintro e w1 ⟨rfl,rfl⟩)|(go_at_call_of 96 B;refine (HB.out _).mono ?_;rintro e w2 ⟨rfl,rfl⟩))
      go_ret
      exact ⟨ret_int (by rw [HR.out,if_pos hY]),rfl⟩
     ·go_wp2_with (first|(go_at_call_of 96 A;refine (HA.out _).mono ?_;rintro e w1 ⟨rfl,rfl⟩)|(go_at_call_of 96 B;refine (HB.out _).mono ?_;rintro e w2 ⟨rfl,rfl⟩))
      go_ret
      exact ⟨ret_int (by rw [HR.out,if_neg (by omega)]),rfl⟩
    ·have hn':((s[k].toNat:Int) == 110)=false:=byte_ne (n:=110) (by omega) hn
     have ha':Hid ((110:UInt8) ∉ (s.data.toList.take (k+1)).drop 1):=by
      show _ ∉ _
      rw [take_snoc s k hlt,List.drop_append_of_le_length (by rw [List.length_take,len_data];omega),List.mem_append]
      intro h
      rcases h with h|h
      ·exact ha.out h
      ·simp at h
       exact hn h.symm
     clear hn;go_wp2
     go_round
     case rel=>exact ⟨k+1,by omega,by omega,by go_num,ha'⟩
     case measure=>simp [intOf];omega
   ·have HF:Hid (ownK s.data.toList=-1):=by
     show _=_
     have h1:=ha.out;rw [take_all s k (by omega)]at h1
     rw [HO.out,cut_free 110 _ h1]
     rfl
    go_wp2
    go_ret
    exact ⟨ret_int HF.out.symm,rfl⟩
theorem rid_any(s:ByteArray)(w:World)(hs:s.size<4294967281) :
  Calls Tryz.prog 60 #[.string s] w fun e w'=>e=.returned (.bool (idB s.data.toList))∧w'=w:=by
 have HO:=hid (fun W=>rowner_any s W hs)
 have HI:Hid (idB s.data.toList=decide (0≤ownK s.data.toList)):=rfl
 generalize ownK s.data.toList=K at *;clear hs;go_enter Tryz.func60,Tryz.ntmps60
 go_wp2_with (go_at_call 78;refine (HO.out _).mono ?_;rintro e w1 ⟨rfl,rfl⟩)
 go_ret
 exact ⟨ret_bool HI.out.symm,rfl⟩
abbrev rv (sh:ByteArray) (row col:Int) (ra ca:Bool):Value:=.agg #[.string sh,.int .i64 row,.int .i64 col,.bool ra,.bool ca]
def mayR(sh:List UInt8)(row col:Int):Bool:=(sh.isEmpty || idB sh)&&(decide (0≤row∧row<2199023255552)&&decide (0≤col∧col<2199023255552))
theorem rmay_any(sh:ByteArray)(row col:Int)(ra ca:Bool)(w:World)(hs:sh.size≤4000000000) :
  Calls Tryz.prog 32 #[rv sh row col ra ca] w fun e w'=>e=.returned (.bool (mayR sh.data.toList row col))∧Q w w':=by
 have HI:=hid (fun W=>rid_any sh W (by omega))
 have HV:Hid (mayR sh.data.toList row col=((sh.data.toList.isEmpty || idB sh.data.toList)&&(decide (0≤row∧row<2199023255552)&&decide (0≤col∧col<2199023255552)))):=rfl
 have et:=hid (Lib.toList_data sh);have main:∀ X:Bool,(sh.data.toList.isEmpty || idB sh.data.toList)=X→Hid (mayR sh.data.toList row col=(X&&(decide (0≤row∧row<2199023255552)&&decide (0≤col∧col<2199023255552)))):=fun X e=>by show _=_;rw [HV.out,e]
 by_cases he:sh.toList=[]
 ·have HX:=main true (by rw [←et.out,he];rfl)
  have he':(sh.toList == [])=true:=by rw [he];rfl
  clear main HV;by_cases a:0≤row
  ·by_cases b:row<2199023255552
   ·by_cases c:0≤col
    ·by_cases d:col<2199023255552
     ·go_enter Tryz.func32,Tryz.ntmps32
      go_wp2
      go_ret
      exact ⟨ret_bool (by rw [HX.out,Bool.eq_iff_iff];simp;omega),(Q.refl _).alloc _⟩
     ·go_enter Tryz.func32,Tryz.ntmps32
      go_wp2
      go_ret
      exact ⟨ret_bool (by rw [HX.out,Bool.eq_iff_iff];simp;omega),(Q.refl _).alloc _⟩
    ·go_enter Tryz.func32,Tryz.ntmps32
     go_wp2
     go_ret
     exact ⟨ret_bool (by rw [HX.out,Bool.eq_iff_iff];simp;omega),(Q.refl _).alloc _⟩
   ·go_enter Tryz.func32,Tryz.ntmps32
    go_wp2
    go_ret
    exact ⟨ret_bool (by rw [HX.out,Bool.eq_iff_iff];simp;omega),(Q.refl _).alloc _⟩
  ·go_enter Tryz.func32,Tryz.ntmps32
   go_wp2
   go_ret
   exact ⟨ret_bool (by rw [HX.out,Bool.eq_iff_iff];simp;omega),(Q.refl _).alloc _⟩
 ·have he':(sh.toList == [])=false:=by simpa using he
  have hei:sh.data.toList.isEmpty=false:=by
   rw [←et.out];cases hh:sh.toList
   ·exact absurd hh he
   ·rfl
  cases hB:idB sh.data.toList
  ·have HX:=main false (by rw [hei,hB];rfl)
   rw [hB]at HI;clear main HV he hei;go_enter Tryz.func32,Tryz.ntmps32
   go_wp2_with (go_at_call 60;refine (HI.out _).mono ?_;rintro e w1 ⟨rfl,rfl⟩)
   go_ret
   exact ⟨ret_bool (by rw [HX.out];rfl),(Q.refl _).alloc _⟩
  ·have HX:=main true (by rw [hei,hB];rfl)
   rw [hB]at HI;clear main HV he hei;by_cases a:0≤row
   ·by_cases b:row<2199023255552
    ·by_cases c:0≤col
     ·by_cases d:col<2199023255552
      ·go_enter Tryz.func32,Tryz.ntmps32
       go_wp2_with (go_at_call 60;refine (HI.out _).mono ?_;rintro e w1 ⟨rfl,rfl⟩)
       go_ret
       exact ⟨ret_bool (by rw [HX.out,Bool.eq_iff_iff];simp;omega),(Q.refl _).alloc _⟩
      ·go_enter Tryz.func32,Tryz.ntmps32
       go_wp2_with (go_at_call 60;refine (HI.out _).mono ?_;rintro e w1 ⟨rfl,rfl⟩)
       go_ret
       exact ⟨ret_bool (by rw [HX.out,Bool.eq_iff_iff];simp;omega),(Q.refl _).alloc _⟩
     ·go_enter Tryz.func32,Tryz.ntmps32
      go_wp2_with (go_at_call 60;refine (HI.out _).mono ?_;rintro e w1 ⟨rfl,rfl⟩)
      go_ret
      exact ⟨ret_bool (by rw [HX.out,Bool.eq_iff_iff];simp;omega),(Q.refl _).alloc _⟩
    ·go_enter Tryz.func32,Tryz.ntmps32
     go_wp2_with (go_at_call 60;refine (HI.out _).mono ?_;rintro e w1 ⟨rfl,rfl⟩)
     go_ret
     exact ⟨ret_bool (by rw [HX.out,Bool.eq_iff_iff];simp;omega),(Q.refl _).alloc _⟩
   ·go_enter Tryz.func32,Tryz.ntmps32
    go_wp2_with (go_at_call 60;refine (HI.out _).mono ?_;rintro e w1 ⟨rfl,rfl⟩)
    go_ret
    exact ⟨ret_bool (by rw [HX.out,Bool.eq_iff_iff];simp;omega),(Q.refl _).alloc _⟩
end Go.Proofs.YtoikodohcieipaaGreatDoor
namespace Go.Proofs.YtoikodohcieipaaGreatDoor
open Go.RowKit Go.Sort
theorem dec_small{m:Nat}(h:m<10):Lib.decDigits m=[UInt8.ofNat (48+m % 10)]:=by
 rw [Lib.decDigits_one h,Nat.mod_eq_of_lt h]
theorem nDigits_le(N:Nat)(h:N<18446744073709551616):Lib.nDigits N≤20:=by
 rcases Nat.eq_zero_or_pos N with h0|h0
 ·subst h0
  have h1:=congrArg List.length (dec_small (m:=0) (by omega))
  rw [Lib.decDigits_length]at h1;have h2:([UInt8.ofNat (48+0 % 10)]:List UInt8).length=1:=rfl
  omega
 ·have:=Lib.numDigits_eq N h0 h
  split at this <;> omega
theorem Q.grow(w:World)(k:Nat)(os:Array Obj):Q w (grow (w.drewN k) os):=by
 refine Q.trans ((Q.refl w).drewN k) ?_
 refine ⟨rfl,rfl,rfl,by simp [Go.Sort.grow],fun i hi=>?_⟩
 show ((w.drewN k).heap++os)[i]?=(w.drewN k).heap[i]?
 rw [Array.getElem?_append_left hi]
def shX(sh:List UInt8):List UInt8:=if sh.isEmpty then [] else sh++[33]
def prL(sh:List UInt8)(row col:Int)(ra ca:Bool):List UInt8:=(((shX sh++sgS ca)++cnL col)++sgS ra)++Lib.decDigits (row+1).toNat
def prR(sh:List UInt8)(row col:Int)(ra ca:Bool):List UInt8:=if mayR sh row col then prL sh row col ra ca else []
theorem sg_len(b:Bool):(sgS b).length≤1:=by cases b <;> decide
theorem cn_len(n:Int):(cnL n).length≤9:=by
 unfold cnL
 split
 ·exact nm_nine _ (by omega)
 ·simp
theorem shX_len(l:List UInt8):(shX l).length≤l.length+1:=by
 unfold shX
 split
 ·simp
 ·simp
theorem dec_len(u:Nat)(h:u≤2199023255552):(Lib.decDigits u).length≤20:=by
 rw [Lib.decDigits_length];exact nDigits_le u (by omega)
structure Cat (SH SA NM SB DC X1 X2 X3 X4:ByteArray):Prop where
 e1:SH++SA=X1
 e2:X1++NM=X2
 e3:X2++SB=X3
 e4:X3++DC=X4
 z0:SH.size≤100000
 z1:X1.size≤100000
 z2:X2.size≤100000
 z3:X3.size≤100000
 z4:X4.size≤100000
 y1:SA.size≤100000
 y2:NM.size≤100000
 y3:SB.size≤100000
 y4:DC.size≤100000
theorem cat_of(sh:List UInt8)(row col:Int)(ra ca:Bool)(hs:sh.length≤1000)(r0:0≤row)(r1:row<2199023255552) :
  ∃ X1 X2 X3,Cat ⟨(shX sh).toArray⟩ ⟨(sgS ca).toArray⟩ ⟨(cnL col).toArray⟩ ⟨(sgS ra).toArray⟩ ⟨(Lib.decDigits (row+1).toNat).toArray⟩ X1 X2 X3 ⟨(prL sh row col ra ca).toArray⟩:=by
 have h1:=shX_len sh;have h2:=sg_len ca;have h3:=sg_len ra;have h4:=cn_len col;have h5:=dec_len (row+1).toNat (by omega)
 refine ⟨⟨(shX sh++sgS ca).toArray⟩,⟨((shX sh++sgS ca)++cnL col).toArray⟩,⟨(((shX sh++sgS ca)++cnL col)++sgS ra).toArray⟩,bytes_cat _ _,bytes_cat _ _,bytes_cat _ _,bytes_cat _ _,?_,?_,?_,?_,?_,?_,?_,?_,?_⟩
 all_goals
  rw [size_mk]
  try unfold prL
  try simp only [List.length_append]
  omega
theorem fmt_any(n:Int)(w:World)(hw:Lib.TabIs Tryz.prog w "internal/strconv.uint64pow10" .u64 Lib.pow10Tab)(n0:0≤n)(n1:n≤2199023255552) :
  Calls Tryz.prog 112 #[.int .i64 n,.int .i64 10] w fun e w'=>e=.returned (.string ⟨(Lib.decDigits n.toNat).toArray⟩)∧Q w w':=by
 refine (Tryz.strconv_FormatInt_10 n (by omega) (by omega) w hw).mono ?_
 rintro e w' ⟨rfl,k,os,rfl⟩
 refine ⟨ret_str ?_,Q.grow w k os⟩
 obtain ⟨m,rfl⟩:=Int.eq_ofNat_of_zero_le n0
 rfl
structure PB (w W:World) (sh:ByteArray) (row col:Int) (ra ca:Bool):Prop where
 q:Q w W
 c0:W.cell? ⟨w.heap.size,0,none⟩=some (.string sh)
 c1:W.cell? ⟨w.heap.size,1,none⟩=some (.int .i64 row)
 c2:W.cell? ⟨w.heap.size,2,none⟩=some (.int .i64 col)
 c3:W.cell? ⟨w.heap.size,3,none⟩=some (.bool ra)
 c4:W.cell? ⟨w.heap.size,4,none⟩=some (.bool ca)
theorem PB.start(w:World)(sh:ByteArray)(row col:Int)(ra ca:Bool):PB w (w.alloc (.cells #[.string sh,.int .i64 row,.int .i64 col,.bool ra,.bool ca] 40)) sh row col ra ca:=by
 refine ⟨(Q.refl _).alloc _,?_,?_,?_,?_,?_⟩ <;> (rw [World.cell?_alloc_new];rfl)
theorem PB.on{w W W':World}{sh:ByteArray}{row col:Int}{ra ca:Bool}(h:PB w W sh row col ra ca)(q:Q W W'):PB w W' sh row col ra ca:=by
 have hb:w.heap.size<W.heap.size:=World.block_lt_of_cell? W ⟨w.heap.size,0,none⟩ h.c0
 exact ⟨h.q.trans q,by rw [q.cell hb];exact h.c0,by rw [q.cell hb];exact h.c1,by rw [q.cell hb];exact h.c2,by rw [q.cell hb];exact h.c3,by rw [q.cell hb];exact h.c4⟩
end Go.Proofs.YtoikodohcieipaaGreatDoor
namespace Go.Proofs.YtoikodohcieipaaGreatDoor
open Go.RowKit
theorem join_cases{c:UInt8}{a:Bool}(h:joinB c=a):a=(decide (65≤(c.toNat:Int)∧(c.toNat:Int)≤90) || (decide (97≤(c.toNat:Int)∧(c.toNat:Int)≤122) || (decide (48≤(c.toNat:Int)∧(c.toNat:Int)≤57) || (decide ((c.toNat:Int)=36) || (decide ((c.toNat:Int)=33) || decide ((c.toNat:Int)=46)))))):=by
 have e:∀ n:Nat,n<256→(c == UInt8.ofNat n)=decide ((c.toNat:Int)=(n:Int)):=by
  intro n hn
  rw [Bool.eq_iff_iff,beq_iff_eq,decide_eq_true_eq]
  constructor
  ·intro h;subst h;simp;omega
  ·intro h
   apply UInt8.toNat_inj.1
   simp
   omega
 have e36:=e 36 (by omega)
 have e33:=e 33 (by omega)
 have e46:=e 46 (by omega)
 subst h;unfold joinB
 show _=_
 rw [show (c == 36)=decide ((c.toNat:Int)=36) from e36,show (c == 33)=decide ((c.toNat:Int)=33) from e33,show (c == 46)=decide ((c.toNat:Int)=46) from e46]
 congr 1
 ·rw [Bool.eq_iff_iff,decide_eq_true_eq,decide_eq_true_eq];omega
 congr 1
 ·rw [Bool.eq_iff_iff,decide_eq_true_eq,decide_eq_true_eq];omega
 congr 1
 ·rw [Bool.eq_iff_iff,decide_eq_true_eq,decide_eq_true_eq];omega
theorem solid_any(c:UInt8)(w:World):Calls Tryz.prog 81 #[.int .u8 c.toNat] w fun e w'=>e=.returned (.bool (joinB c))∧w'=w:=by
 have H:=join_cases (c:=c) rfl;generalize joinB c=a at H ⊢;have h0:0≤(c.toNat:Int):=by omega
 generalize (c.toNat:Int)=x at H h0 ⊢;have HH:=hid H;clear H;go_enter Tryz.func81,Tryz.ntmps81
 go_wp2
 all_goals go_ret
 all_goals exact ⟨ret_bool (by rw [HH.out,Bool.eq_iff_iff];simp_all <;> omega),rfl⟩
theorem eq_byte{c:UInt8}{n:Nat}(hn:n<256)(h:c=UInt8.ofNat n):((c.toNat:Int) == (n:Int))=true:=by
 subst h;simp;omega
theorem letters_any(s:ByteArray)(w:World)(hp:0<s.size)(hs:s.size≤4000000000) :
  Calls Tryz.prog 57 #[.string s] w fun e w'=>e=.returned (.bool (allL s.data.toList))∧w'=w:=by
 have e0:=toList_ne hp;go_enter Tryz.func57,Tryz.ntmps57
 go_wp2
 go_loop [3] (fun i=>∃ k:Nat,k≤s.size∧i=.int .i64 k∧Hid (allL (s.data.toList.take k)=true)) (fun i=>s.size-(intOf i).toNat)
 case atStart=>exact ⟨0,Nat.zero_le _,rfl,rfl⟩
 case round=>
  obtain ⟨k,hk,rfl,ha⟩:=hrel;by_cases hlt:k<s.size
  ·by_cases hd:let1 s[k]=true
   ·have ha':Hid (allL (s.data.toList.take (k+1))=true):=by
     show _=_
     have:=ha.out
     rw [take_snoc s k hlt,allL_app,this];unfold allL
     simp [hd]
    have b0:65≤(s[k].toNat:Int):=by unfold let1 at hd;simp at hd;omega
    have b1:(s[k].toNat:Int)≤90:=by unfold let1 at hd;simp at hd;omega
    clear hd;go_wp2
    go_round
    case rel=>exact ⟨k+1,by omega,by go_num,ha'⟩
    case measure=>simp [intOf];omega
   ·have hN:=hid (allL_no s k hlt (by simpa using hd))
    by_cases b0:(s[k].toNat:Int)<65
    ·clear hd
     go_wp2
     go_ret
     exact ⟨ret_bool hN.out.symm,rfl⟩
    ·have b1:90<(s[k].toNat:Int):=by unfold let1 at hd;simp at hd;omega
     clear hd;go_wp2
     go_ret
     exact ⟨ret_bool hN.out.symm,rfl⟩
  ·have hN:Hid (allL s.data.toList=true):=by
    show _=_
    have:=ha.out
    rw [take_all s k (by omega)]at this
    exact this
   go_wp2
   go_ret
   exact ⟨ret_bool hN.out.symm,rfl⟩
theorem kind_num{t:List UInt8}{c:Bool}(h:V.pf (V.parseO t)=true):kindJ t c=1:=by unfold kindJ;rw [if_pos h]
theorem kind_ref{t:List UInt8}{c:Bool}(h:V.pf (V.parseO t)=false)(h':refF t=true):kindJ t c=3:=by unfold kindJ;rw [if_neg (by simp [h]),if_pos h']
theorem kind_rest{t:List UInt8}{c:Bool}(h:V.pf (V.parseO t)=false)(h':refF t=false):kindJ t c=if t=tru∨t=fls∨(c=true∧allL t=true) then 4 else 0:=by unfold kindJ;rw [if_neg (by simp [h]),if_neg (by simp [h'])]
theorem tw_len(l:List UInt8)(p:UInt8→Bool):(l.takeWhile p).length≤l.length:=(List.takeWhile_prefix _).length_le
theorem tw_take(l:List UInt8)(p:UInt8→Bool):l.take (l.takeWhile p).length=l.takeWhile p:=by
 induction l with
 |nil=>rfl
 |cons c r ih=>
  rw [List.takeWhile_cons]
  split
  ·simp [ih]
  ·rfl
theorem tw_drop(l:List UInt8)(p:UInt8→Bool):l.drop (l.takeWhile p).length=l.dropWhile p:=by
 induction l with
 |nil=>rfl
 |cons c r ih=>
  rw [List.takeWhile_cons,List.dropWhile_cons]
  split
  ·simp [ih]
  ·rfl
theorem tw_in(l:List UInt8)(p:UInt8→Bool)(k:Nat)(h:k<(l.takeWhile p).length)(hk:k<l.length):p l[k]=true:=by
 induction l generalizing k with
 |nil=>simp at hk
 |cons c r ih=>
  rw [List.takeWhile_cons]at h
  split at h
  ·rename_i hc
   cases k with
   |zero=>exact hc
   |succ k=>exact ih k (by simpa using h) (by simpa using hk)
  ·simp at h
theorem tw_out(l:List UInt8)(p:UInt8→Bool)(h:(l.takeWhile p).length<l.length):p (l[(l.takeWhile p).length])=false:=by
 induction l with
 |nil=>simp at h
 |cons c r ih=>
  by_cases hc:p c=true
  ·have e:(List.takeWhile p (c::r)).length=(List.takeWhile p r).length+1:=by rw [List.takeWhile_cons,if_pos hc];rfl
   have h':(List.takeWhile p r).length<r.length:=by rw [e]at h;simpa using h
   have:=ih h'
   simp only [e,List.getElem_cons_succ]
   exact this
  ·have e:(List.takeWhile p (c::r)).length=0:=by rw [List.takeWhile_cons,if_neg hc];rfl
   simp only [e,List.getElem_cons_zero]
   simpa using hc
end Go.Proofs.YtoikodohcieipaaGreatDoor
namespace Go.Proofs.YtoikodohcieipaaGreatDoor.V
open Go.RowKit
theorem or_nat(a b:Nat)(ha:a<4294967296)(hb:b<4294967296):bits BinOp.or IntKind.u64 (a:Int) (b:Int)=((a ||| b:Nat):Int)∧a ||| b<4294967296:=by
 refine ⟨bits_or_u64_nat a b (by omega) (by omega),?_⟩
 exact Nat.or_lt_two_pow (n:=32) ha hb
theorem or_four(a b c d:Int)(a0:0≤a)(a1:a<4294967296)(b0:0≤b)(b1:b<4294967296)(c0:0≤c)(c1:c<4294967296)(d0:0≤d)(d1:d<4294967296)(h:0<a∨0<b∨0<c∨0<d) :
  (bits BinOp.or IntKind.u64 (bits BinOp.or IntKind.u64 (bits BinOp.or IntKind.u64 a b) c) d != 0)=true:=by
 obtain ⟨a,rfl⟩:=Int.eq_ofNat_of_zero_le a0;obtain ⟨b,rfl⟩:=Int.eq_ofNat_of_zero_le b0;obtain ⟨c,rfl⟩:=Int.eq_ofNat_of_zero_le c0;obtain ⟨d,rfl⟩:=Int.eq_ofNat_of_zero_le d0;obtain ⟨e1,l1⟩:=or_nat a b (by omega) (by omega)
 obtain ⟨e2,l2⟩:=or_nat (a ||| b) c l1 (by omega)
 obtain ⟨e3,_⟩:=or_nat (a ||| b ||| c) d l2 (by omega)
 rw [e1,e2,e3,bne_iff_ne];intro hz
 have hz':a ||| b ||| c ||| d=0:=by omega
 rw [Nat.or_eq_zero_iff,Nat.or_eq_zero_iff,Nat.or_eq_zero_iff]at hz';omega
theorem fix_big(a0 a1 a2 a3 a4 a5 a:Int)(neg:Bool)(w:World)(ha:Dg a0 a1 a2 a3 a4 a5 a)(h:18446744073709551616≤a) :
  Calls Tryz.prog 100 #[.agg #[.int .u64 a0,.int .u64 a1,.int .u64 a2,.int .u64 a3,.int .u64 a4,.int .u64 a5],.bool neg] w fun e w'=>e=.returned (.tuple #[.int .i64 (keep (sgn a neg)),.bool (fitB (sgn a neg))])∧Q w w':=by
 have hf:fitB (sgn a neg)=false:=by
  apply fitB_no
  cases neg
  ·show a<_∨_<a;omega
  ·show -a<_∨_ < -a;omega
 rw [hf,keep_no hf];obtain ⟨x0,y0,x1,y1,x2,y2,x3,y3,x4,y4,x5,y5,ea⟩:=ha;have hb:=or_four a2 a3 a4 a5 x2 y2 x3 y3 x4 y4 x5 y5 (by omega)
 clear ea h hf;go_enter Tryz.func100,Tryz.ntmps100
 go_wp2
 go_ret2
 exact ⟨rfl,(by repeat (first|exact Q.refl _|refine Q.drew ?_|refine Q.alloc ?_ _))⟩
theorem fix_facts(a0 a1 a2 a3 a4 a5 a:Int)(ha:Dg a0 a1 a2 a3 a4 a5 a)(h:a<18446744073709551616):a2=0∧a3=0∧a4=0∧a5=0∧0≤a∧a0+a1*4294967296=a:=by
 obtain ⟨x0,y0,x1,y1,x2,y2,x3,y3,x4,y4,x5,y5,ea⟩:=ha;omega
theorem fix_small(a0 a1 a:Int)(neg:Bool)(w:World)(x0:0≤a0)(y0:a0<4294967296)(x1:0≤a1)(y1:a1<4294967296)(e:Hid (a0+a1*4294967296=a)) :
  Calls Tryz.prog 100 #[.agg #[.int .u64 a0,.int .u64 a1,.int .u64 0,.int .u64 0,.int .u64 0,.int .u64 0],.bool neg] w fun e w'=>e=.returned (.tuple #[.int .i64 (keep (sgn a neg)),.bool (fitB (sgn a neg))])∧Q w w':=by
 cases neg
 ·have es:sgn a false=a:=rfl
  rw [es];clear es;by_cases h:a<9223372036854775808
  ·have hf:fitB a=true:=fitB_yes (by have:=e.out;omega) (by omega)
   rw [hf,keep_yes hf];have h1:a0+a1*4294967296<9223372036854775808:=by have:=e.out;omega
   clear hf h;go_enter Tryz.func100,Tryz.ntmps100
   go_wp2
   go_ret2
   exact ⟨ret_pair e.out,(by repeat (first|exact Q.refl _|refine Q.drew ?_|refine Q.alloc ?_ _))⟩
  ·have hf:fitB a=false:=fitB_no (by omega)
   rw [hf,keep_no hf];have h1:9223372036854775808≤a0+a1*4294967296:=by have:=e.out;omega
   clear hf h;go_enter Tryz.func100,Tryz.ntmps100
   go_wp2
   go_ret2
   exact ⟨rfl,(by repeat (first|exact Q.refl _|refine Q.drew ?_|refine Q.alloc ?_ _))⟩
 ·have es:sgn a true=-a:=rfl
  rw [es];clear es;by_cases h:9223372036854775808<a
  ·have hf:fitB (-a)=false:=fitB_no (by omega)
   rw [hf,keep_no hf];have h1:9223372036854775808<a0+a1*4294967296:=by have:=e.out;omega
   clear hf h;go_enter Tryz.func100,Tryz.ntmps100
   go_wp2
   go_ret2
   exact ⟨rfl,(by repeat (first|exact Q.refl _|refine Q.drew ?_|refine Q.alloc ?_ _))⟩
  ·have hf:fitB (-a)=true:=fitB_yes (by omega) (by have:=e.out;omega)
   rw [hf,keep_yes hf];have h1:a0+a1*4294967296≤9223372036854775808:=by have:=e.out;omega
   by_cases hz:a=0
   ·have z0:a0=0:=by have:=e.out;omega
    have z1:a1=0:=by have:=e.out;omega
    subst hz z0 z1;clear hf h h1;go_enter Tryz.func100,Tryz.ntmps100
    go_wp2
    go_ret2
    exact ⟨rfl,(by repeat (first|exact Q.refl _|refine Q.drew ?_|refine Q.alloc ?_ _))⟩
   ·have h2:0<a0+a1*4294967296:=by have:=e.out;omega
    clear hf h hz;go_enter Tryz.func100,Tryz.ntmps100
    go_wp2
    go_ret2
    exact ⟨ret_pair (by have:=e.out;omega),(by repeat (first|exact Q.refl _|refine Q.drew ?_|refine Q.alloc ?_ _))⟩
theorem fix_any(a0 a1 a2 a3 a4 a5 a:Int)(neg:Bool)(w:World)(ha:Dg a0 a1 a2 a3 a4 a5 a) :
  Calls Tryz.prog 100 #[.agg #[.int .u64 a0,.int .u64 a1,.int .u64 a2,.int .u64 a3,.int .u64 a4,.int .u64 a5],.bool neg] w fun e w'=>e=.returned (.tuple #[.int .i64 (keep (sgn a neg)),.bool (fitB (sgn a neg))])∧Q w w':=by
 by_cases h:a<18446744073709551616
 ·obtain ⟨rfl,rfl,rfl,rfl,_,e⟩:=fix_facts a0 a1 a2 a3 a4 a5 a ha h
  exact fix_small a0 a1 a neg w ha.l0 ha.h0 ha.l1 ha.h1 e
 ·exact fix_big a0 a1 a2 a3 a4 a5 a neg w ha (by omega)
theorem one_exact(n:Int)(w:World)(h0:0≤n)(h1:n<18446744073709551616) :
  Calls Tryz.prog 99 #[.int .u64 n] w fun e w'=>e=.returned (.agg #[.int .u64 (n % 4294967296),.int .u64 (n / 4294967296),.int .u64 0,.int .u64 0,.int .u64 0,.int .u64 0])∧∃ o1 o2:Obj,w'=(w.alloc o1).alloc o2:=by
 go_enter Tryz.func99,Tryz.ntmps99
 go_wp2
 exact bodyPost_ret (v:=.agg #[.int .u64 (n % 4294967296),.int .u64 (n / 4294967296),.int .u64 0,.int .u64 0,.int .u64 0,.int .u64 0]) (by simp [results,Tryz.results99,go_sem]) rfl ⟨rfl,_,_,rfl⟩
theorem prod_bound(a b:Int)(a0:0≤a)(a1:a<4294967296)(b0:0≤b)(b1:b<4294967296):0≤a*b∧a*b≤18446744065119617025:=by
 refine ⟨Int.mul_nonneg a0 b0,?_⟩
 have h:=Int.mul_le_mul (show a≤4294967295 by omega) (show b≤4294967295 by omega) b0 (by omega)
 omega
theorem prod_split(a b0 b1 n:Int)(hn:n=b0+b1*4294967296):a*n=a*b0+a*b1*4294967296:=by
 rw [hn,Int.mul_add,←Int.mul_assoc]
theorem prod_all(a0 a1 a2 a3 a4 a5 a n:Int)(ea:a=a0+a1*4294967296+a2*18446744073709551616+a3*79228162514264337593543950336+a4*340282366920938463463374607431768211456+a5*1461501637330902918203684832716283019655932542976) :
  a*n=a0*n+a1*n*4294967296+a2*n*18446744073709551616+a3*n*79228162514264337593543950336+a4*n*340282366920938463463374607431768211456+a5*n*1461501637330902918203684832716283019655932542976:=by
 rw [ea,Int.add_mul,Int.add_mul,Int.add_mul,Int.add_mul,Int.add_mul,Int.mul_right_comm a1,Int.mul_right_comm a2,Int.mul_right_comm a3,Int.mul_right_comm a4,Int.mul_right_comm a5]
structure Row (W:World) (b:Nat) (r0 r1 r2 r3 r4 r5:Int):Prop where
 c0:W.cell? ⟨b,0,none⟩=some (.int .u64 r0)
 c1:W.cell? ⟨b,1,none⟩=some (.int .u64 r1)
 c2:W.cell? ⟨b,2,none⟩=some (.int .u64 r2)
 c3:W.cell? ⟨b,3,none⟩=some (.int .u64 r3)
 c4:W.cell? ⟨b,4,none⟩=some (.int .u64 r4)
 c5:W.cell? ⟨b,5,none⟩=some (.int .u64 r5)
 f0:W.frozen? ⟨b,0,none⟩=false
 f1:W.frozen? ⟨b,1,none⟩=false
 f2:W.frozen? ⟨b,2,none⟩=false
 f3:W.frozen? ⟨b,3,none⟩=false
 f4:W.frozen? ⟨b,4,none⟩=false
 f5:W.frozen? ⟨b,5,none⟩=false
 big:b<W.heap.size
theorem Row.drew{W:World}{b:Nat}{r0 r1 r2 r3 r4 r5:Int}(h:Row W b r0 r1 r2 r3 r4 r5):Row W.drew b r0 r1 r2 r3 r4 r5:=
 ⟨h.c0,h.c1,h.c2,h.c3,h.c4,h.c5,h.f0,h.f1,h.f2,h.f3,h.f4,h.f5,h.big⟩
theorem Row.far{W:World}{b b' k:Nat}{v:Value}{r0 r1 r2 r3 r4 r5:Int}(h:Row W b r0 r1 r2 r3 r4 r5)(hb:b'≠b):Row (W.setCell ⟨b',k,none⟩ v) b r0 r1 r2 r3 r4 r5:=by
 constructor
 all_goals first
  |(rw [World.cell?_setCell_far _ _ _ _ hb];first|exact h.c0|exact h.c1|exact h.c2|exact h.c3|exact h.c4|exact h.c5)
  |(rw [World.frozen?_setCell];first|exact h.f0|exact h.f1|exact h.f2|exact h.f3|exact h.f4|exact h.f5)
  |(rw [World.size_setCell];exact h.big)
theorem Row.set0{W:World}{b:Nat}{v r0 r1 r2 r3 r4 r5:Int}(h:Row W b r0 r1 r2 r3 r4 r5):Row (W.setCell ⟨b,0,none⟩ (.int .u64 v)) b v r1 r2 r3 r4 r5:=by
 constructor
 ·exact World.cell?_setCell_same _ _ _ h.c0
 ·rw [World.cell?_setCell_other _ _ _ _ (by simp)];exact h.c1
 ·rw [World.cell?_setCell_other _ _ _ _ (by simp)];exact h.c2
 ·rw [World.cell?_setCell_other _ _ _ _ (by simp)];exact h.c3
 ·rw [World.cell?_setCell_other _ _ _ _ (by simp)];exact h.c4
 ·rw [World.cell?_setCell_other _ _ _ _ (by simp)];exact h.c5
 ·rw [World.frozen?_setCell];exact h.f0
 ·rw [World.frozen?_setCell];exact h.f1
 ·rw [World.frozen?_setCell];exact h.f2
 ·rw [World.frozen?_setCell];exact h.f3
 ·rw [World.frozen?_setCell];exact h.f4
 ·rw [World.frozen?_setCell];exact h.f5
 ·rw [World.size_setCell];exact h.big
theorem Row.set1{W:World}{b:Nat}{v r0 r1 r2 r3 r4 r5:Int}(h:Row W b r0 r1 r2 r3 r4 r5):Row (W.setCell ⟨b,1,none⟩ (.int .u64 v)) b r0 v r2 r3 r4 r5:=by
 constructor
 ·rw [World.cell?_setCell_other _ _ _ _ (by simp)];exact h.c0
 ·exact World.cell?_setCell_same _ _ _ h.c1
 ·rw [World.cell?_setCell_other _ _ _ _ (by simp)];exact h.c2
 ·rw [World.cell?_setCell_other _ _ _ _ (by simp)];exact h.c3
 ·rw [World.cell?_setCell_other _ _ _ _ (by simp)];exact h.c4
 ·rw [World.cell?_setCell_other _ _ _ _ (by simp)];exact h.c5
 ·rw [World.frozen?_setCell];exact h.f0
 ·rw [World.frozen?_setCell];exact h.f1
 ·rw [World.frozen?_setCell];exact h.f2
 ·rw [World.frozen?_setCell];exact h.f3
 ·rw [World.frozen?_setCell];exact h.f4
 ·rw [World.frozen?_setCell];exact h.f5
 ·rw [World.size_setCell];exact h.big
theorem Row.set2{W:World}{b:Nat}{v r0 r1 r2 r3 r4 r5:Int}(h:Row W b r0 r1 r2 r3 r4 r5):Row (W.setCell ⟨b,2,none⟩ (.int .u64 v)) b r0 r1 v r3 r4 r5:=by
 constructor
 ·rw [World.cell?_setCell_other _ _ _ _ (by simp)];exact h.c0
 ·rw [World.cell?_setCell_other _ _ _ _ (by simp)];exact h.c1
 ·exact World.cell?_setCell_same _ _ _ h.c2
 ·rw [World.cell?_setCell_other _ _ _ _ (by simp)];exact h.c3
 ·rw [World.cell?_setCell_other _ _ _ _ (by simp)];exact h.c4
 ·rw [World.cell?_setCell_other _ _ _ _ (by simp)];exact h.c5
 ·rw [World.frozen?_setCell];exact h.f0
 ·rw [World.frozen?_setCell];exact h.f1
 ·rw [World.frozen?_setCell];exact h.f2
 ·rw [World.frozen?_setCell];exact h.f3
 ·rw [World.frozen?_setCell];exact h.f4
 ·rw [World.frozen?_setCell];exact h.f5
 ·rw [World.size_setCell];exact h.big
theorem Row.set3{W:World}{b:Nat}{v r0 r1 r2 r3 r4 r5:Int}(h:Row W b r0 r1 r2 r3 r4 r5):Row (W.setCell ⟨b,3,none⟩ (.int .u64 v)) b r0 r1 r2 v r4 r5:=by
 constructor
 ·rw [World.cell?_setCell_other _ _ _ _ (by simp)];exact h.c0
 ·rw [World.cell?_setCell_other _ _ _ _ (by simp)];exact h.c1
 ·rw [World.cell?_setCell_other _ _ _ _ (by simp)];exact h.c2
 ·exact World.cell?_setCell_same _ _ _ h.c3
 ·rw [World.cell?_setCell_other _ _ _ _ (by simp)];exact h.c4
 ·rw [World.cell?_setCell_other _ _ _ _ (by simp)];exact h.c5
 ·rw [World.frozen?_setCell];exact h.f0
 ·rw [World.frozen?_setCell];exact h.f1
 ·rw [World.frozen?_setCell];exact h.f2
 ·rw [World.frozen?_setCell];exact h.f3
 ·rw [World.frozen?_setCell];exact h.f4
 ·rw [World.frozen?_setCell];exact h.f5
 ·rw [World.size_setCell];exact h.big
theorem Row.set4{W:World}{b:Nat}{v r0 r1 r2 r3 r4 r5:Int}(h:Row W b r0 r1 r2 r3 r4 r5):Row (W.setCell ⟨b,4,none⟩ (.int .u64 v)) b r0 r1 r2 r3 v r5:=by
 constructor
 ·rw [World.cell?_setCell_other _ _ _ _ (by simp)];exact h.c0
 ·rw [World.cell?_setCell_other _ _ _ _ (by simp)];exact h.c1
 ·rw [World.cell?_setCell_other _ _ _ _ (by simp)];exact h.c2
 ·rw [World.cell?_setCell_other _ _ _ _ (by simp)];exact h.c3
 ·exact World.cell?_setCell_same _ _ _ h.c4
 ·rw [World.cell?_setCell_other _ _ _ _ (by simp)];exact h.c5
 ·rw [World.frozen?_setCell];exact h.f0
 ·rw [World.frozen?_setCell];exact h.f1
 ·rw [World.frozen?_setCell];exact h.f2
 ·rw [World.frozen?_setCell];exact h.f3
 ·rw [World.frozen?_setCell];exact h.f4
 ·rw [World.frozen?_setCell];exact h.f5
 ·rw [World.size_setCell];exact h.big
theorem Row.set5{W:World}{b:Nat}{v r0 r1 r2 r3 r4 r5:Int}(h:Row W b r0 r1 r2 r3 r4 r5):Row (W.setCell ⟨b,5,none⟩ (.int .u64 v)) b r0 r1 r2 r3 r4 v:=by
 constructor
 ·rw [World.cell?_setCell_other _ _ _ _ (by simp)];exact h.c0
 ·rw [World.cell?_setCell_other _ _ _ _ (by simp)];exact h.c1
 ·rw [World.cell?_setCell_other _ _ _ _ (by simp)];exact h.c2
 ·rw [World.cell?_setCell_other _ _ _ _ (by simp)];exact h.c3
 ·rw [World.cell?_setCell_other _ _ _ _ (by simp)];exact h.c4
 ·exact World.cell?_setCell_same _ _ _ h.c5
 ·rw [World.frozen?_setCell];exact h.f0
 ·rw [World.frozen?_setCell];exact h.f1
 ·rw [World.frozen?_setCell];exact h.f2
 ·rw [World.frozen?_setCell];exact h.f3
 ·rw [World.frozen?_setCell];exact h.f4
 ·rw [World.frozen?_setCell];exact h.f5
 ·rw [World.size_setCell];exact h.big
theorem Row.on{W W':World}{b:Nat}{r0 r1 r2 r3 r4 r5:Int}(h:Row W b r0 r1 r2 r3 r4 r5)(q:Q W W'):Row W' b r0 r1 r2 r3 r4 r5:=by
 have hb:=h.big
 constructor
 ·rw [q.cell hb];exact h.c0
 ·rw [q.cell hb];exact h.c1
 ·rw [q.cell hb];exact h.c2
 ·rw [q.cell hb];exact h.c3
 ·rw [q.cell hb];exact h.c4
 ·rw [q.cell hb];exact h.c5
 ·rw [Below.frozen q (p:=⟨b,0,none⟩) hb];exact h.f0
 ·rw [Below.frozen q (p:=⟨b,1,none⟩) hb];exact h.f1
 ·rw [Below.frozen q (p:=⟨b,2,none⟩) hb];exact h.f2
 ·rw [Below.frozen q (p:=⟨b,3,none⟩) hb];exact h.f3
 ·rw [Below.frozen q (p:=⟨b,4,none⟩) hb];exact h.f4
 ·rw [Below.frozen q (p:=⟨b,5,none⟩) hb];exact h.f5
 ·exact q.lt hb
theorem Q.setCell{a w:World}(h:Q a w){b k:Nat}(hb:a.heap.size≤b)(v:Value):Q a (w.setCell ⟨b,k,none⟩ v):=Below.setCell h hb v
def tsum(k:Nat)(N0 N1 N2 N3 N4 N5:Int):Int:=
 match k with
 |0=>0
 |1=>0+N0*1
 |2=>0+N0*1+N1*4294967296
 |3=>0+N0*1+N1*4294967296+N2*18446744073709551616
 |4=>0+N0*1+N1*4294967296+N2*18446744073709551616+N3*79228162514264337593543950336
 |5=>0+N0*1+N1*4294967296+N2*18446744073709551616+N3*79228162514264337593543950336+N4*340282366920938463463374607431768211456
 |_=>0+N0*1+N1*4294967296+N2*18446744073709551616+N3*79228162514264337593543950336+N4*340282366920938463463374607431768211456+N5*1461501637330902918203684832716283019655932542976
structure TI (k:Nat) (N0 N1 N2 N3 N4 N5 r0 r1 r2 r3 r4 r5:Int):Prop where
 l0:0≤r0
 u0:r0<4294967296
 l1:0≤r1
 u1:r1<4294967296
 l2:0≤r2
 u2:r2<4294967296
 l3:0≤r3
 u3:r3<4294967296
 l4:0≤r4
 u4:r4<4294967296
 l5:0≤r5
 u5:r5<4294967296
 z0:k=0→r0=0
 z1:k+2≤1→r1=0
 z2:k+2≤2→r2=0
 z3:k+2≤3→r3=0
 z4:k+2≤4→r4=0
 z5:k+2≤5→r5=0
 e:r0+r1*4294967296+r2*18446744073709551616+r3*79228162514264337593543950336+r4*340282366920938463463374607431768211456+r5*1461501637330902918203684832716283019655932542976=tsum k N0 N1 N2 N3 N4 N5
theorem step_of(x:Int)(h:0≤x∧x<18446744073709551616):∃ r c:Int,x % 4294967296=r∧x / 4294967296=c∧0≤r∧r<4294967296∧0≤c∧c<4294967296∧x=r+c*4294967296:=
 ⟨_,_,rfl,rfl,by omega,by omega,by omega,by omega,by omega⟩
theorem room2{r p:Int}(h:0≤p∧p≤18446744065119617025)(r0:0≤r)(r1:r<4294967296):0≤r+p∧r+p<18446744073709551616:=by omega
theorem room3{c r p:Int}(h:0≤p∧p≤18446744065119617025)(r0:0≤r)(r1:r<4294967296)(c0:0≤c)(c1:c<4294967296):0≤c+(r+p)∧c+(r+p)<18446744073709551616:=by omega
theorem wrap_in{p:Int}(h:0≤p∧p≤18446744065119617025):IntKind.u64.wrap p=p:=by rw [IntKind.wrap_u64];omega
theorem ti_next0(N0 N1 N2 N3 N4 N5 r0 r1 r2 r3 r4 r5 x p q c y d T:Int)(h:TI 0 N0 N1 N2 N3 N4 N5 r0 r1 r2 r3 r4 r5)(e0:r0+p=x+c*4294967296)(lx:0≤x)(ux:x<4294967296)(lc:0≤c)(e1:c+(r1+q)=y+d*4294967296)(ly:0≤y)(uy:y<4294967296)(ld:0≤d)(ud:d<4294967296)(hN:N0=p+q*4294967296)(lq:0≤q)
  (hT:T=tsum 6 N0 N1 N2 N3 N4 N5) (hlt:T<6277101735386680763835789423207666416102355444464034512896) (n0:0≤N0) (n1:0≤N1) (n2:0≤N2) (n3:0≤N3) (n4:0≤N4) (n5:0≤N5):TI 1 N0 N1 N2 N3 N4 N5 x y (r2+d) r3 r4 r5:=by
 obtain ⟨l0,u0,l1,u1,l2,u2,l3,u3,l4,u4,l5,u5,z0,z1,z2,z3,z4,z5,e⟩:=h;simp only [tsum]at e hT
 have zz:=z2 (by omega)
 constructor
 all_goals first|omega|(intro hk;omega)|(simp only [tsum];omega)
theorem ti_next1(N0 N1 N2 N3 N4 N5 r0 r1 r2 r3 r4 r5 x p q c y d T:Int)(h:TI 1 N0 N1 N2 N3 N4 N5 r0 r1 r2 r3 r4 r5)(e0:r1+p=x+c*4294967296)(lx:0≤x)(ux:x<4294967296)(lc:0≤c)(e1:c+(r2+q)=y+d*4294967296)(ly:0≤y)(uy:y<4294967296)(ld:0≤d)(ud:d<4294967296)(hN:N1=p+q*4294967296)(lq:0≤q)
  (hT:T=tsum 6 N0 N1 N2 N3 N4 N5) (hlt:T<6277101735386680763835789423207666416102355444464034512896) (n0:0≤N0) (n1:0≤N1) (n2:0≤N2) (n3:0≤N3) (n4:0≤N4) (n5:0≤N5):TI 2 N0 N1 N2 N3 N4 N5 r0 x y (r3+d) r4 r5:=by
 obtain ⟨l0,u0,l1,u1,l2,u2,l3,u3,l4,u4,l5,u5,z0,z1,z2,z3,z4,z5,e⟩:=h;simp only [tsum]at e hT
 have zz:=z3 (by omega)
 constructor
 all_goals first|omega|(intro hk;omega)|(simp only [tsum];omega)
theorem ti_next2(N0 N1 N2 N3 N4 N5 r0 r1 r2 r3 r4 r5 x p q c y d T:Int)(h:TI 2 N0 N1 N2 N3 N4 N5 r0 r1 r2 r3 r4 r5)(e0:r2+p=x+c*4294967296)(lx:0≤x)(ux:x<4294967296)(lc:0≤c)(e1:c+(r3+q)=y+d*4294967296)(ly:0≤y)(uy:y<4294967296)(ld:0≤d)(ud:d<4294967296)(hN:N2=p+q*4294967296)(lq:0≤q)
  (hT:T=tsum 6 N0 N1 N2 N3 N4 N5) (hlt:T<6277101735386680763835789423207666416102355444464034512896) (n0:0≤N0) (n1:0≤N1) (n2:0≤N2) (n3:0≤N3) (n4:0≤N4) (n5:0≤N5):TI 3 N0 N1 N2 N3 N4 N5 r0 r1 x y (r4+d) r5:=by
 obtain ⟨l0,u0,l1,u1,l2,u2,l3,u3,l4,u4,l5,u5,z0,z1,z2,z3,z4,z5,e⟩:=h;simp only [tsum]at e hT
 have zz:=z4 (by omega)
 constructor
 all_goals first|omega|(intro hk;omega)|(simp only [tsum];omega)
theorem ti_next3(N0 N1 N2 N3 N4 N5 r0 r1 r2 r3 r4 r5 x p q c y d T:Int)(h:TI 3 N0 N1 N2 N3 N4 N5 r0 r1 r2 r3 r4 r5)(e0:r3+p=x+c*4294967296)(lx:0≤x)(ux:x<4294967296)(lc:0≤c)(e1:c+(r4+q)=y+d*4294967296)(ly:0≤y)(uy:y<4294967296)(ld:0≤d)(ud:d<4294967296)(hN:N3=p+q*4294967296)(lq:0≤q)
  (hT:T=tsum 6 N0 N1 N2 N3 N4 N5) (hlt:T<6277101735386680763835789423207666416102355444464034512896) (n0:0≤N0) (n1:0≤N1) (n2:0≤N2) (n3:0≤N3) (n4:0≤N4) (n5:0≤N5):TI 4 N0 N1 N2 N3 N4 N5 r0 r1 r2 x y (r5+d):=by
 obtain ⟨l0,u0,l1,u1,l2,u2,l3,u3,l4,u4,l5,u5,z0,z1,z2,z3,z4,z5,e⟩:=h;simp only [tsum]at e hT
 have zz:=z5 (by omega)
 constructor
 all_goals first|omega|(intro hk;omega)|(simp only [tsum];omega)
theorem ti_next4(N0 N1 N2 N3 N4 N5 r0 r1 r2 r3 r4 r5 x p q c y d T:Int)(h:TI 4 N0 N1 N2 N3 N4 N5 r0 r1 r2 r3 r4 r5)(e0:r4+p=x+c*4294967296)(lx:0≤x)(ux:x<4294967296)(lc:0≤c)(e1:c+(r5+q)=y+d*4294967296)(ly:0≤y)(uy:y<4294967296)(ld:0≤d)(ud:d<4294967296)(hN:N4=p+q*4294967296)(lq:0≤q)
  (hT:T=tsum 6 N0 N1 N2 N3 N4 N5) (hlt:T<6277101735386680763835789423207666416102355444464034512896) (n0:0≤N0) (n1:0≤N1) (n2:0≤N2) (n3:0≤N3) (n4:0≤N4) (n5:0≤N5):TI 5 N0 N1 N2 N3 N4 N5 r0 r1 r2 r3 x y:=by
 obtain ⟨l0,u0,l1,u1,l2,u2,l3,u3,l4,u4,l5,u5,z0,z1,z2,z3,z4,z5,e⟩:=h;simp only [tsum]at e hT
 constructor
 all_goals first|omega|(intro hk;omega)|(simp only [tsum];omega)
theorem ti_next5(N0 N1 N2 N3 N4 N5 r0 r1 r2 r3 r4 r5 x p q c T:Int)(h:TI 5 N0 N1 N2 N3 N4 N5 r0 r1 r2 r3 r4 r5)(e0:r5+p=x+c*4294967296)(lx:0≤x)(ux:x<4294967296)(lc:0≤c)(hN:N5=p+q*4294967296)(lq:0≤q)
  (hT:T=tsum 6 N0 N1 N2 N3 N4 N5) (hlt:T<6277101735386680763835789423207666416102355444464034512896) (n0:0≤N0) (n1:0≤N1) (n2:0≤N2) (n3:0≤N3) (n4:0≤N4) (n5:0≤N5):TI 6 N0 N1 N2 N3 N4 N5 r0 r1 r2 r3 r4 x:=by
 obtain ⟨l0,u0,l1,u1,l2,u2,l3,u3,l4,u4,l5,u5,z0,z1,z2,z3,z4,z5,e⟩:=h;simp only [tsum]at e hT
 constructor
 all_goals first|omega|(intro hk;omega)|(simp only [tsum];omega)
end Go.Proofs.YtoikodohcieipaaGreatDoor.V
namespace Go.Proofs.YtoikodohcieipaaGreatDoor
open Go.RowKit
def rfR(sh:ByteArray)(cf:Bool)(n col:Int)(ra ca:Bool):Value:=
 if cf=true∧1≤n then .tuple #[.agg #[.string sh,.int .i64 (n-1),.int .i64 col,.bool ra,.bool ca],.bool true] else .tuple #[.agg #[.string ⟨#[]⟩,.int .i64 0,.int .i64 0,.bool false,.bool false],.bool false]
abbrev Z25:Obj:=.cells #[.string ⟨#[]⟩,.int .i64 0,.int .i64 0,.bool false,.bool false] 40
abbrev R25 (sh:ByteArray) (ra ca:Bool):Obj:=.cells #[.string sh,.int .i64 0,.int .i64 0,.bool ra,.bool ca] 40
def Dl(C T:ByteArray)(b:Bool):Prop:=(b=true∧∃ h:0<C.size,C[0]=36∧C.extract 1 C.size=T)∨(b=false∧(∀ h:0<C.size,C[0]≠36)∧C=T)
theorem rref_free(C T E R G:ByteArray)(k:Nat)(ca ra cf:Bool)(col n:Int)(w:World)(hs:C.size≤4000000000)(h33:Hid ((33:UInt8) ∉ C.data.toList))
  (hd1:Dl C T ca) (hd2:Dl R G ra) (hk:Hid (k=lead T.data.toList)) (hkT:k≤T.size) (hT:T.size≤4000000000) (eE:T.extract 0 k=E) (eR:T.extract k T.size=R)
  (HK:Hid (∀ W,Calls Tryz.prog 101 #[.string E] W fun e w'=>e=.returned (.tuple #[.int .i64 col,.bool cf])∧w'=W))
  (n0:-1≤n) (n1:n≤2199023255552)
  (HN:Hid (∀ W,Calls Tryz.prog 96 #[.string G,.int .i64 2199023255552] W fun e w'=>e=.returned (.int .i64 n)∧w'=W)) :
  Calls Tryz.prog 83 #[.string C] w fun e w'=>e=.returned (rfR ⟨#[]⟩ cf n col ra ca)∧Q w w':=by
 go_enter Tryz.func83,Tryz.ntmps83
 go_upto_block 0 with fail
 go_cut [0,3,5] from 10 to 32 (fun x o i W=>x=.string C∧o=.bool false∧W=((w.alloc Z25).alloc (R25 ⟨#[]⟩ false false)))
 case first=>
  go_wp2_with fail
  go_loop [0,3,5] (fun x o i=>∃ j:Nat,x=.string C∧o=.bool false∧j≤C.size∧i=.int .i64 j) (fun _ _ i=>C.size-(intOf i).toNat)
  case atStart=>exact ⟨0,rfl,rfl,Nat.zero_le _,rfl⟩
  case round=>
   obtain ⟨j,rfl,rfl,hj,rfl⟩:=hrel;by_cases hlt:j<C.size
   ·have hn':((C[j].toNat:Int) == 33)=false:=byte_ne (n:=33) (by omega) (fun e=>h33.out (by have h:=get_mem C j hlt;rw [e]at h;exact h))
    go_wp2_with fail
    go_round
    case rel=>exact ⟨j+1,rfl,rfl,by omega,by go_num⟩
    case measure=>simp [intOf];omega
   ·go_wp2_with fail
    go_meet
    exact ⟨rfl,rfl,rfl⟩
 case rest=>
  obtain ⟨rfl,rfl,rfl⟩:=hcut;go_upto_region 10 with fail
  go_cut [40] from 33 to 39 (fun x W=>x=.bool ca∧W=((w.alloc Z25).alloc (R25 ⟨#[]⟩ false false)))
  case first=>
   rcases hd1 with ⟨rfl,h,h36,eT⟩|⟨rfl,hne,rfl⟩
   ·have h36':(C[0].toNat:Int)=36:=by rw [h36];rfl
    clear h36;go_wp2_with fail
    go_meet
    exact ⟨rfl,rfl⟩
   ·by_cases hz:0<C.size
    ·have h36':((C[0].toNat:Int) == 36)=false:=byte_ne (n:=36) (by omega) (hne hz)
     clear hne;go_wp2_with fail
     go_meet
     exact ⟨rfl,rfl⟩
    ·clear hne
     go_wp2_with fail
     go_meet
     exact ⟨rfl,rfl⟩
  case rest=>
   obtain ⟨rfl,rfl⟩:=hcut;go_upto_if 40 with fail
   go_cut [0] from 33 to 43 (fun x W=>x=.string T∧W=((w.alloc Z25).alloc (R25 ⟨#[]⟩ false ca)))
   case first=>
    rcases hd1 with ⟨rfl,h,h36,eT⟩|⟨rfl,hne,rfl⟩
    ·go_wp2_with fail
     go_meet
     exact ⟨rfl,rfl⟩
    ·go_wp2_with fail
     go_meet
     exact ⟨rfl,rfl⟩
   case rest=>
    obtain ⟨rfl,rfl⟩:=hcut;go_upto_block 2 with fail
    go_cut [6] from 44 to 61 (fun x W=>x=.int .i64 (k:Int)∧W=((w.alloc Z25).alloc (R25 ⟨#[]⟩ false ca)))
    case first=>
     go_wp2_with fail
     go_loop [6] (fun i=>∃ j:Nat,j≤T.size∧i=.int .i64 j∧Hid (allL (T.data.toList.take j)=true)) (fun i=>T.size-(intOf i).toNat)
     case atStart=>exact ⟨0,Nat.zero_le _,rfl,rfl⟩
     case round=>
      obtain ⟨j,hj,rfl,ha⟩:=hrel;by_cases hlt:j<T.size
      ·by_cases hd:let1 T[j]=true
       ·have ha':Hid (allL (T.data.toList.take (j+1))=true):=by
         show _=_
         have:=ha.out
         rw [take_snoc T j hlt,allL_app,this];unfold allL
         simp [hd]
        have b0:65≤(T[j].toNat:Int):=by unfold let1 at hd;simp at hd;omega
        have b1:(T[j].toNat:Int)≤90:=by unfold let1 at hd;simp at hd;omega
        clear hd;go_wp2_with fail
        go_round
        case rel=>exact ⟨j+1,by omega,by go_num,ha'⟩
        case measure=>simp [intOf];omega
       ·have hN:Hid (j=k):=by
         show _=_
         have h1:=lead_at (T.data.toList.take j) (T.data.toList.drop (j+1)) T[j] ha.out (by simpa using hd)
         rw [←drop_cons T j hlt,List.take_append_drop,List.length_take,len_data]at h1;have:=hk.out
         omega
        by_cases b0:(T[j].toNat:Int)<65
        ·have b0':¬ 65≤(T[j].toNat:Int):=by omega
         clear hd b0;go_wp2_with fail
         go_meet
         exact ⟨by rw [hN.out],rfl⟩
        ·have b1:¬ (T[j].toNat:Int)≤90:=by unfold let1 at hd;simp at hd;omega
         have b0':65≤(T[j].toNat:Int):=by omega
         clear hd b0;go_wp2_with fail
         go_meet
         exact ⟨by rw [hN.out],rfl⟩
      ·have hN:Hid (j=k):=by
        show _=_
        have:=ha.out
        rw [take_all T j (by omega)]at this
        rw [hk.out,lead_all _ this,len_data];omega
       go_wp2_with fail
       go_meet
       exact ⟨by rw [hN.out],rfl⟩
    case rest=>
     obtain ⟨rfl,rfl⟩:=hcut;go_upto_region 18 with (go_at_call 101;refine (HK.out _).mono ?_;rintro e w1 ⟨rfl,rfl⟩)
     go_upto_region 18 with fail
     go_cut [79] from 72 to 78 (fun x W=>x=.bool ra∧W=((w.alloc Z25).alloc (R25 ⟨#[]⟩ false ca)))
     case first=>
      rcases hd2 with ⟨rfl,h,h36,eT⟩|⟨rfl,hne,rfl⟩
      ·have h36':(R[0].toNat:Int)=36:=by rw [h36];rfl
       clear h36;go_wp2_with fail
       go_meet
       exact ⟨rfl,rfl⟩
      ·by_cases hz:0<R.size
       ·have h36':((R[0].toNat:Int) == 36)=false:=byte_ne (n:=36) (by omega) (hne hz)
        clear hne;go_wp2_with fail
        go_meet
        exact ⟨rfl,rfl⟩
       ·clear hne
        go_wp2_with fail
        go_meet
        exact ⟨rfl,rfl⟩
     case rest=>
      obtain ⟨rfl,rfl⟩:=hcut;go_upto_if 79 with fail
      go_cut [0] from 72 to 82 (fun x W=>x=.string G∧W=((w.alloc Z25).alloc (R25 ⟨#[]⟩ ra ca)))
      case first=>
       rcases hd2 with ⟨rfl,h,h36,eT⟩|⟨rfl,hne,rfl⟩
       ·go_wp2_with fail
        go_meet
        exact ⟨rfl,rfl⟩
       ·go_wp2_with fail
        go_meet
        exact ⟨rfl,rfl⟩
      case rest=>
       obtain ⟨rfl,rfl⟩:=hcut;have HV:Hid (rfR ⟨#[]⟩ cf n col ra ca=if cf=true∧1≤n then .tuple #[.agg #[.string ⟨#[]⟩,.int .i64 (n-1),.int .i64 col,.bool ra,.bool ca],.bool true] else .tuple #[.agg #[.string ⟨#[]⟩,.int .i64 0,.int .i64 0,.bool false,.bool false],.bool false]):=rfl
       cases cf
       ·go_wp2_with (go_at_call 96;refine (HN.out _).mono ?_;rintro e w1 ⟨rfl,rfl⟩)
        refine bodyPost_ret (v:=.tuple #[.agg #[.string ⟨#[]⟩,.int .i64 0,.int .i64 0,.bool false,.bool false],.bool false]) (by simp [results,Tryz.results83,go_sem]) rfl ⟨by rw [HV.out];rfl,?_⟩
        repeat' (first|with_reducible exact Q.refl _|with_reducible refine Q.alloc ?_ _|with_reducible refine Q.setCell ?_ (by omega) _)
       by_cases hn:n<1
       ·go_wp2_with (go_at_call 96;refine (HN.out _).mono ?_;rintro e w1 ⟨rfl,rfl⟩)
        refine bodyPost_ret (v:=.tuple #[.agg #[.string ⟨#[]⟩,.int .i64 0,.int .i64 0,.bool false,.bool false],.bool false]) (by simp [results,Tryz.results83,go_sem]) rfl ⟨by rw [HV.out,if_neg (by omega)],?_⟩
        repeat' (first|with_reducible exact Q.refl _|with_reducible refine Q.alloc ?_ _|with_reducible refine Q.setCell ?_ (by omega) _)
       ·go_wp2_with (go_at_call 96;refine (HN.out _).mono ?_;rintro e w1 ⟨rfl,rfl⟩)
        refine bodyPost_ret (v:=.tuple #[.agg #[.string ⟨#[]⟩,.int .i64 (n-1),.int .i64 col,.bool ra,.bool ca],.bool true]) (by simp [results,Tryz.results83,go_sem]) rfl ⟨by rw [HV.out,if_pos (by first|exact ⟨rfl,by omega⟩|exact ⟨trivial,by omega⟩)],?_⟩
        repeat' (first|with_reducible exact Q.refl _|with_reducible refine Q.alloc ?_ _|with_reducible refine Q.setCell ?_ (by omega) _)
theorem quoF_le:∀ (l acc:List UInt8) (n:Nat) (t:List UInt8) (m:Nat),quoF l acc n=some (t,m)→n<m∧m≤n+l.length
 |[],_,_,_,_,h=>by simp [quoF]at h
 |[c],acc,n,t,m,h=>by
  unfold quoF at h
  split at h
  ·simp only [Option.some.injEq,Prod.mk.injEq]at h
   simp
   omega
  ·cases h
 |c::d::r,acc,n,t,m,h=>by
  unfold quoF at h
  split at h
  ·split at h
   ·have:=quoF_le r _ _ _ _ h
    simp
    omega
   ·simp only [Option.some.injEq,Prod.mk.injEq]at h
    simp
    omega
  ·have:=quoF_le (d::r) _ _ _ _ h
   simp at this ⊢
   omega
theorem prefix_len{l p:List UInt8}(h:Lib.hasPrefix l p=true):p.length≤l.length:=by
 unfold Lib.hasPrefix at h
 rw [List.isPrefixOf_iff_prefix]at h;exact h.length_le
theorem len_tw(l:List UInt8)(p:UInt8→Bool):(l.takeWhile p).length≤l.length:=(List.takeWhile_prefix _).length_le
theorem word_len(l:List UInt8):(wordF l).2.2≤l.length:=by
 unfold wordF
 split
 ·rename_i h
  have hl:0<l.length:=by
   cases l with
   |nil=>exact absurd h (by decide)
   |cons c r=>simp
  unfold quoW
  cases hq:quoF (l.drop 1) [] 1 with
  |none=>simp [quoP,bad]
  |some p=>
   obtain ⟨t,m⟩:=p;have:=quoF_le _ _ _ _ _ hq
   simp only [quoP]
   split
   ·rw [List.length_drop]at this
    simp only
    omega
   ·simp [bad]
 ·split
  ·unfold errW
   cases he:errF l with
   |none=>simp [errP,bad]
   |some e=>
    unfold errF at he
    have h2:=List.find?_some he;exact prefix_len h2
  ·split
   ·unfold joinW
    split
    ·simp [bad]
    ·exact len_tw _ _
   ·unfold sigW
    cases he:sigF l with
    |none=>simp [sigP,bad]
    |some e=>
     unfold sigF at he
     have h2:=List.find?_some he;exact prefix_len h2
end Go.Proofs.YtoikodohcieipaaGreatDoor
