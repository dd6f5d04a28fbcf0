/- Package value and its referenc. -/
import Derived.Test.YtoikodohcieipaaGreatDoorKl00
import Derived.Laws.AppendOwn
import Derived.Laws.AppendOwnNone
import Derived.Laws.OwnMore
import Derived.OneCell
import Derived.BigQuiet
import Derived.Deep.RegionHeld3
set_option linter.unusedVariables false
set_option linter.unusedSimpArgs false
set_option maxRecDepth 100000
set_option maxHeartbeats 8000000
namespace Go.Proofs.YtoikodohcieipaaGreatDoor.V
open Go.RowKit
theorem vret_str{a b:List UInt8}(h:a=b):Ending.returned (.string ⟨a.toArray⟩)=.returned (.string ⟨b.toArray⟩):=by rw [h]
theorem enL_no{e:Int}(h:e<1∨7<e):[]=enL e:=by
 unfold enL
 rw [if_neg (by omega),if_neg (by omega),if_neg (by omega),if_neg (by omega),if_neg (by omega),if_neg (by omega),if_neg (by omega)]
theorem name_any(e:Int)(w:World)(h:Nam w):Calls Tryz.prog 89 #[.int .i64 e] w fun x w'=>x=.returned (.string ⟨(enL e).toArray⟩)∧w'=w:=by
 by_cases h0:e<0
 ·have H:=hid (enL_no (e:=e) (by omega))
  go_enter Tryz.func89,Tryz.ntmps89
  go_wp2
  go_ret
  exact ⟨vret_str H.out,rfl⟩
 ·by_cases h8:8≤e
  ·have H:=hid (enL_no (e:=e) (by omega))
   go_enter Tryz.func89,Tryz.ntmps89
   go_wp2
   go_ret
   exact ⟨vret_str H.out,rfl⟩
  ·have c0:=h.2 0 (by omega)
   have c1:=h.2 1 (by omega)
   have c2:=h.2 2 (by omega)
   have c3:=h.2 3 (by omega)
   have c4:=h.2 4 (by omega)
   have c5:=h.2 5 (by omega)
   have c6:=h.2 6 (by omega)
   have c7:=h.2 7 (by omega)
   clear h
   rcases (by omega:e=0∨e=1∨e=2∨e=3∨e=4∨e=5∨e=6∨e=7) with rfl|rfl|rfl|rfl|rfl|rfl|rfl|rfl
   all_goals
    clear h0 h8;go_enter Tryz.func89,Tryz.ntmps89
    go_wp2
    go_ret
    exact ⟨rfl,rfl⟩
theorem rname_any(e:Int)(w:World):Calls Tryz.prog 84 #[.int .i64 e] w fun x w'=>x=.returned (.string ⟨(enL e).toArray⟩)∧Q w w':=by
 by_cases h0:e<1
 ·have H:=hid (enL_no (e:=e) (by omega))
  go_enter Tryz.func84,Tryz.ntmps84
  go_wp2
  go_ret
  exact ⟨vret_str H.out,(Q.refl _).alloc _⟩
 ·by_cases h8:7<e
  ·have H:=hid (enL_no (e:=e) (by omega))
   go_enter Tryz.func84,Tryz.ntmps84
   go_wp2
   go_ret
   exact ⟨vret_str H.out,(Q.refl _).alloc _⟩
  ·rcases (by omega:e=1∨e=2∨e=3∨e=4∨e=5∨e=6∨e=7) with rfl|rfl|rfl|rfl|rfl|rfl|rfl
   all_goals
    clear h0 h8;go_enter Tryz.func84,Tryz.ntmps84
    go_wp2
    go_ret
    exact ⟨rfl,(Q.refl _).alloc _⟩
def mtB(l:List UInt8):Bool:=decide (l.length≤200)&&Lib.validD l
theorem mayText_any(s:ByteArray)(w:World)(h:Std w)(hs:(s.size:Int)≤9223372036854775000):Calls Tryz.prog 104 #[.string s] w fun x w'=>x=.returned (.bool (mtB s.data.toList))∧Q w w':=by
 have hl:s.data.toList.length=s.size:=by simp
 by_cases h1:(s.size:Int)≤200
 ·have H:Hid (Lib.validD s.data.toList=mtB s.data.toList):=by show _=_;unfold mtB;rw [hl];simp;omega
  have HC:=hid (Tryz.utf8_ValidString s w (by omega) h.utf)
  clear hl;go_enter Tryz.func104,Tryz.ntmps104
  go_wp2_with (go_at_call 107;refine HC.out.mono ?_;rintro e w1 ⟨rfl,q1⟩)
  go_ret
  exact ⟨vret_bool H.out,q1⟩
 ·have H:Hid (false=mtB s.data.toList):=by show _=_;unfold mtB;rw [hl];simp;intro;omega
  clear hl;go_enter Tryz.func104,Tryz.ntmps104
  go_wp2
  go_ret
  exact ⟨vret_bool H.out,Q.refl _⟩
end Go.Proofs.YtoikodohcieipaaGreatDoor.V
namespace Go.Proofs.YtoikodohcieipaaGreatDoor
open Go.RowKit
def joinB(c:UInt8):Bool:=
 decide (65≤c.toNat∧c.toNat≤90) || (decide (97≤c.toNat∧c.toNat≤122) || (decide (48≤c.toNat∧c.toNat≤57) || (c == 36 || (c == 33 || c == 46))))
def tru:List UInt8:=[84,82,85,69]
def fls:List UInt8:=[70,65,76,83,69]
def kindJ(t:List UInt8)(called:Bool):Nat:=
 if V.pf (V.parseO t) then 1 else if refF t then 3 else if t=tru∨t=fls∨(called=true∧allL t=true) then 4 else 0
def bad:Nat × List UInt8 × Nat:=(0,[],0)
def joinW(l:List UInt8):Nat × List UInt8 × Nat:=
 if kindJ (l.takeWhile joinB) (Lib.hasPrefix (l.dropWhile joinB) [40])=0 then bad
 else (kindJ (l.takeWhile joinB) (Lib.hasPrefix (l.dropWhile joinB) [40]),l.takeWhile joinB,(l.takeWhile joinB).length)
def quoF:List UInt8→List UInt8→Nat→Option (List UInt8 × Nat)
 |[],_,_=>none
 |[c],acc,n=>if c=34 then some (acc,n+1) else none
 |c::d::r,acc,n=>if c=34 then (if d=34 then quoF r (acc++[34]) (n+2) else some (acc,n+1)) else quoF (d::r) (acc++[c]) (n+1)
def quoP:Option (List UInt8 × Nat)→Nat × List UInt8 × Nat
 |none=>bad
 |some (t,n)=>if V.mtB t then (2,t,n) else bad
def quoW(l:List UInt8):Nat × List UInt8 × Nat:=quoP (quoF (l.drop 1) [] 1)
def errP:Option Int→Nat × List UInt8 × Nat
 |none=>bad
 |some e=>(5,enL e,(enL e).length)
def errF(l:List UInt8):Option Int:=[1,2,3,4,5,6,7].find? (fun e=>Lib.hasPrefix l (enL e))
def errW(l:List UInt8):Nat × List UInt8 × Nat:=errP (errF l)
def sigP:Option (List UInt8)→Nat × List UInt8 × Nat
 |none=>bad
 |some t=>(6,t,t.length)
def sigF(l:List UInt8):Option (List UInt8):=sgL.find? (fun t=>Lib.hasPrefix l t)
def sigW(l:List UInt8):Nat × List UInt8 × Nat:=sigP (sigF l)
def wordF(l:List UInt8):Nat × List UInt8 × Nat:=
 if l.headD 0=34 then quoW l else if l.headD 0=35 then errW l else if joinB (l.headD 0) then joinW l else sigW l
def scanG:Nat→List UInt8→Nat→List Wd→Option (List Wd) × Nat
 |0,_,_,acc=>(some acc,0)
 |_+1,[],_,acc=>(some acc,0)
 |f+1,c::r,at',acc=>
  if c=32 then scanG f r (at'+1) acc
  else if (wordF (c::r)).2.2=0 then (none,at')
  else scanG f ((c::r).drop (wordF (c::r)).2.2) (at'+(wordF (c::r)).2.2) (acc++[⟨(wordF (c::r)).1,(wordF (c::r)).2.1,at'⟩])
theorem scanG_fuel:∀ (f g:Nat) (l:List UInt8) (a:Nat) (acc:List Wd),l.length≤f→l.length≤g→scanG f l a acc=scanG g l a acc:=by
 intro f
 induction f with
 |zero=>
  intro g l a acc h _
  have e:l=[]:=List.eq_nil_of_length_eq_zero (by omega)
  subst e;cases g <;> rfl
 |succ f ih=>
  intro g l a acc h h'
  cases l with
  |nil=>cases g <;> rfl
  |cons c r=>
   cases g with
   |zero=>simp at h'
   |succ g=>
    simp only [List.length_cons]at h h'
    unfold scanG
    split
    ·exact ih g r _ _ (by omega) (by omega)
    ·split
     ·rfl
     ·rename_i hn
      exact ih g _ _ _ (by rw [List.length_drop,List.length_cons];omega) (by rw [List.length_drop,List.length_cons];omega)
def scanF(l:List UInt8)(a:Nat)(acc:List Wd):Option (List Wd) × Nat:=scanG l.length l a acc
theorem scanF_nil(a:Nat)(acc:List Wd):scanF [] a acc=(some acc,0):=rfl
theorem scanF_blank(r:List UInt8)(a:Nat)(acc:List Wd):scanF (32::r) a acc=scanF r (a+1) acc:=by
 unfold scanF
 rw [List.length_cons,scanG];exact if_pos rfl
theorem scanF_bad{l:List UInt8}(a:Nat)(acc:List Wd)(h0:l≠[])(h1:l.headD 0≠32)(h:(wordF l).2.2=0):scanF l a acc=(none,a):=by
 unfold scanF
 cases l with
 |nil=>exact absurd rfl h0
 |cons c r=>
  simp only [List.headD_cons]at h1
  rw [List.length_cons,scanG,if_neg h1,if_pos h]
theorem scanF_word{l:List UInt8}(a:Nat)(acc:List Wd)(h0:l≠[])(h1:l.headD 0≠32)(h:(wordF l).2.2≠0):scanF l a acc=scanF (l.drop (wordF l).2.2) (a+(wordF l).2.2) (acc++[⟨(wordF l).1,(wordF l).2.1,a⟩]):=by
 unfold scanF
 cases l with
 |nil=>exact absurd rfl h0
 |cons c r=>
  simp only [List.headD_cons]at h1
  rw [List.length_cons,scanG,if_neg h1,if_neg h];refine scanG_fuel _ _ _ _ _ ?_ (Nat.le_refl _)
  rw [List.length_drop,List.length_cons];omega
theorem quoF_not{c:UInt8}{r acc:List UInt8}{n:Nat}(h:c≠34):quoF (c::r) acc n=quoF r (acc++[c]) (n+1):=by
 cases r with
 |nil=>simp [quoF,h]
 |cons d r=>simp [quoF,h]
theorem quoF_two{r acc:List UInt8}{n:Nat}:quoF (34::34::r) acc n=quoF r (acc++[34]) (n+2):=by simp [quoF]
theorem quoF_end{r acc:List UInt8}{n:Nat}(h:Lib.hasPrefix r [34]=false):quoF (34::r) acc n=some (acc,n+1):=by
 cases r with
 |nil=>simp [quoF]
 |cons d r=>
  have hd:d≠34:=fun e=>by subst e;simp [Lib.hasPrefix]at h
  simp [quoF,hd]
end Go.Proofs.YtoikodohcieipaaGreatDoor
namespace Go.Proofs.YtoikodohcieipaaGreatDoor
open Go.RowKit
set_option linter.unusedVariables false
set_option linter.unusedSimpArgs false
theorem Q.block{a w:World}(h:Q a w){b:Nat}(hb:b<a.heap.size):w.heap[b]?=a.heap[b]?:=Below.block h b hb
def wd(x:Wd):List Value:=[.int .i64 (x.k:Int),.string ⟨x.t.toArray⟩,.int .i64 (x.p:Int)]
theorem wd_len(x:Wd):(wd x).length=3:=rfl
theorem wd_one(x:Wd):∀ u∈wd x,u.oneCell'=true:=by
 intro u hu
 simp [wd]at hu
 rcases hu with rfl|rfl|rfl <;> rfl
section
variable {α:Type} (enc:α→List Value)
def flat(L:List α):List Value:=L.flatMap enc
theorem flat_cons(x:α)(L:List α):flat enc (x::L)=enc x++flat enc L:=by unfold flat;simp
theorem flat_snoc(L:List α)(x:α):flat enc (L++[x])=flat enc L++enc x:=by unfold flat;simp
theorem flat_len{k:Nat}(hk:∀ x,(enc x).length=k)(L:List α):(flat enc L).length=L.length*k:=by
 induction L with
 |nil=>simp [flat]
 |cons x L ih=>rw [flat_cons,List.length_append,ih,hk,List.length_cons,Nat.succ_mul];omega
theorem flat_at{k:Nat}(hk:∀ x,(enc x).length=k)(L:List α)(i:Nat)(h:i<L.length)(j:Nat)(hj:j<k):(flat enc L)[i*k+j]?=(enc L[i])[j]?:=by
 induction L generalizing i with
 |nil=>simp at h
 |cons x L ih=>
  rw [flat_cons];cases i with
  |zero=>
   rw [Nat.zero_mul,Nat.zero_add,List.getElem?_append_left (by rw [hk];exact hj)]
   simp
  |succ i=>
   have e:(i+1)*k+j=k+(i*k+j):=by rw [Nat.succ_mul];omega
   rw [e,List.getElem?_append_right (by rw [hk];omega),hk,Nat.add_sub_cancel_left,ih i (by simpa using h)]
   simp
def Ats(W:World)(b o:Nat)(x:α):Prop:=∀ (j:Nat) (u:Value),(enc x)[j]?=some u→W.cell? ⟨b,o+j,none⟩=some u
variable {enc}
theorem Ats.on{W W':World}{b o:Nat}{x:α}(h:Ats enc W b o x)(q:Q W W'):Ats enc W' b o x:=fun j u hu=>
 (q.cell (World.block_lt_of_cell? W ⟨b,o+j,none⟩ (h j u hu))).trans (h j u hu)
theorem Ats.blk{W W':World}{b o:Nat}{x:α}(h:Ats enc W b o x)(q:W'.heap[b]?=W.heap[b]?):Ats enc W' b o x:=fun j u hu=>
 (World.cell?_of_block (w:=W) (w':=W') (a:=⟨b,o+j,none⟩) q).trans (h j u hu)
variable (enc)
def Sl(k:Nat)(W:World)(v:Value)(L:List α):Prop:=
 ∃ (ao:Option Addr) (cap:Nat),v=.slice ao L.length cap∧L.length≤cap∧cap≤maxLen∧(0<L.length→∃ b off,ao=some ⟨b,off,none⟩∧∀ i (h:i<L.length),Ats enc W b (off+i*k) L[i])
variable {enc}
variable {k:Nat}
theorem Sl.on{W W':World}{v:Value}{L:List α}(h:Sl enc k W v L)(q:Q W W'):Sl enc k W' v L:=by
 obtain ⟨ao,cap,hv,h1,h2,h⟩:=h;refine ⟨ao,cap,hv,h1,h2,fun hl=>?_⟩
 obtain ⟨b,off,ha,hc⟩:=h hl;exact ⟨b,off,ha,fun i hi=>(hc i hi).on q⟩
theorem Sl.len{W:World}{v:Value}{L:List α}(h:Sl enc k W v L):∃ (ao:Option Addr) (cap:Nat),v=.slice ao L.length cap∧L.length≤cap∧cap≤maxLen:=by
 obtain ⟨ao,cap,hv,h1,h2,_⟩:=h;exact ⟨ao,cap,hv,h1,h2⟩
theorem sl_nil(W:World):Sl enc k W (.slice none 0 0) []:=⟨none,0,rfl,Nat.le_refl _,Nat.zero_le _,fun h=>absurd h (by simp)⟩
def Own(enc:α→List Value)(e:TypeId)(k B:Nat)(W:World)(v:Value)(L:List α):Prop:=W.ownsRow B e k v L.length (flat enc L)
variable {e:TypeId} {B:Nat}
theorem own_nil(W:World):Own enc e k B W (.slice none 0 0) []:=World.ownsRow_nil _ _ _ _
theorem Own.sl{W:World}{v:Value}{L:List α}(h:Own enc e k B W v L)(hk:∀ x,(enc x).length=k)(hp:0<k):Sl enc k W v L:=by
 have h0:=h;obtain ⟨hl,h⟩:=h
 rcases h with ⟨hv,hn⟩|⟨g,cap,cur,hv,hb,hg,h1,h2,h3,h4⟩
 ·exact ⟨none,0,by rw [hv,hn],by omega,Nat.zero_le _,fun h=>by omega⟩
 ·refine ⟨some ⟨g,0,none⟩,cap,hv,h1,h2,fun _=>⟨g,0,rfl,fun i hi j u hu=>?_⟩⟩
  have hj:j<k:=by rw [←hk L[i]];exact (List.getElem?_eq_some_iff.1 hu).1
  unfold Own at h0
  rw [hv]at h0;have:i*k+j<L.length*k:=Nat.lt_of_lt_of_le (Nat.add_lt_add_left hj _) (by rw [←Nat.succ_mul];exact Nat.mul_le_mul_right _ hi)
  rw [Nat.zero_add,h0.cellAt (i*k+j) this,flat_at enc hk L i hi j hj];exact hu
theorem Own.alloc{W:World}{v:Value}{L:List α}(h:Own enc e k B W v L)(o:Obj):Own enc e k B (W.alloc o) v L:=World.ownsRow.alloc h o
theorem Own.on{W W':World}{v:Value}{L:List α}(h:Own enc e k B W v L)(q:Q W W'):Own enc e k B W' v L:=by
 obtain ⟨hl,h⟩:=h;refine ⟨hl,?_⟩
 rcases h with h|⟨g,cap,cur,hv,hb,hg,h1,h2,h3,h4⟩
 ·exact .inl h
 ·have hlt:g<W.heap.size:=by
   rcases Nat.lt_or_ge g W.heap.size with h'|h'
   ·exact h'
   ·rw [Array.getElem?_eq_none h']at hg;cases hg
  exact .inr ⟨g,cap,cur,hv,hb,by rw [Below.block q g hlt];exact hg,h1,h2,h3,h4⟩
theorem Own.blk{W:World}{v:Value}{L:List α}(h:Own enc e k B W v L):∀ j,v.ownBlock=some j→B≤j:=by
 intro j hj
 obtain ⟨_,h⟩:=h
 rcases h with ⟨hv,_⟩|⟨g,cap,cur,hv,hg,_⟩
 ·rw [hv]at hj;cases hj
 ·rw [hv]at hj
  cases hj
  exact hg
theorem Own.lt{W:World}{v:Value}{L:List α}(h:Own enc e k B W v L):∀ j,v.ownBlock=some j→j<W.heap.size:=by
 intro j hj
 obtain ⟨_,h⟩:=h
 rcases h with ⟨hv,_⟩|⟨g,cap,cur,hv,_,hg,_⟩
 ·rw [hv]at hj;cases hj
 ·rw [hv]at hj
  cases hj
  rcases Nat.lt_or_ge g W.heap.size with h'|h'
  ·exact h'
  ·rw [Array.getElem?_eq_none h']at hg;cases hg
theorem Own.mono{W:World}{v:Value}{L:List α}{B':Nat}(h:Own enc e k B W v L)(hB:B'≤B):Own enc e k B' W v L:=by
 obtain ⟨hl,h⟩:=h;refine ⟨hl,?_⟩
 rcases h with h|⟨g,cap,cur,hv,hb,hr⟩
 ·exact .inl h
 ·exact .inr ⟨g,cap,cur,hv,by omega,hr⟩
theorem Own.grown{W W':World}{row:Option Nat}{v:Value}{L:List α}(h:Own enc e k B W v L)(g:W.grownBy W' row)(hr:v.ownBlock=none∨v.ownBlock≠row):Own enc e k B W' v L:=World.ownsRow.kept h g hr
theorem own_snoc{W:World}{v:Value}{L:List α}{x:α}(h:W.ownsRow B e k v (L.length+1) (flat enc L++enc x)):Own enc e k B W v (L++[x]):=by
 unfold Own
 rw [flat_snoc,List.length_append];exact h
theorem own_snoc'{W:World}{v:Value}{L:List α}{x:α}{n:Nat}(h:W.ownsRow B e k v n (flat enc L++enc x))(hn:n=L.length+1):Own enc e k B W v (L++[x]):=own_snoc (hn ▸ h)
theorem news_new(W:World)(cs:List Value)(t:TypeId):∀ j u,cs[j]?=some u→(W.alloc (.cells cs.toArray t)).cell? ((⟨W.heap.size,0,none⟩:Addr).add j)=some u:=by
 intro j u hu
 have hj:j<cs.length:=(List.getElem?_eq_some_iff.1 hu).1
 have e:((⟨W.heap.size,0,none⟩:Addr).add j)=⟨W.heap.size,j,none⟩:=by
  unfold Addr.add
  by_cases h:j=0
  ·subst h;simp
  ·simp [h]
 rw [e];rw [World.cell?_alloc_new]
 simpa using hu
theorem news_at(W:World)(cs:List Value)(t:TypeId)(b:Nat)(hb:b=W.heap.size):∀ j u,cs[j]?=some u→(W.alloc (.cells cs.toArray t)).cell? ((⟨b,0,none⟩:Addr).add j)=some u:=by
 subst hb;exact news_new W cs t
theorem Own.shape{W:World}{v:Value}{L:List α}(h:Own enc e k B W v L)(hl:0<L.length):∃ g cap,v=.slice (some ⟨g,0,none⟩) L.length cap∧B≤g∧g<W.heap.size∧L.length≤cap∧cap≤maxLen:=by
 have hlt:=h.lt;obtain ⟨_,h⟩:=h
 rcases h with ⟨hv,hn⟩|⟨g,cap,cur,hv,hb,hg,h1,h2,_⟩
 ·omega
 ·exact ⟨g,cap,hv,hb,hlt g (by rw [hv];rfl),h1,h2⟩
theorem Own.cell{W:World}{g cap i:Nat}{L:List α}(h:Own enc e k B W (.slice (some ⟨g,0,none⟩) L.length cap) L)(hk:∀ x,(enc x).length=k)(hi:i<L.length):Ats enc W g (i*k) L[i]:=by
 intro j u hu
 have hj:j<k:=by rw [←hk L[i]];exact (List.getElem?_eq_some_iff.1 hu).1
 have:i*k+j<L.length*k:=Nat.lt_of_lt_of_le (Nat.add_lt_add_left hj _) (by rw [←Nat.succ_mul];exact Nat.mul_le_mul_right _ hi)
 rw [World.ownsRow.cellAt h (i*k+j) this,flat_at enc hk L i hi j hj];exact hu
theorem flat_set{L:List α}(hk:∀ x,(enc x).length=k)(i:Nat)(hi:i<L.length)(j:Nat)(hj:j<k)(u:Value)(x':α)(hx:enc x'=(enc L[i]).set j u):(flat enc L).set (i*k+j) u=flat enc (L.set i x'):=by
 induction L generalizing i with
 |nil=>simp at hi
 |cons x L ih=>
  rw [flat_cons];cases i with
  |zero=>
   simp only [List.set_cons_zero,List.getElem_cons_zero]at *
   rw [flat_cons,hx,Nat.zero_mul,Nat.zero_add,List.set_append_left _ _ (by rw [hk];exact hj)]
  |succ i=>
   simp only [List.set_cons_succ,List.getElem_cons_succ]at *
   have e:(i+1)*k+j=k+(i*k+j):=by rw [Nat.succ_mul];omega
   rw [flat_cons,e,List.set_append_right _ _ (by rw [hk];omega),hk,Nat.add_sub_cancel_left,ih i (by simpa using hi) hx]
theorem Own.set{W:World}{g cap i:Nat}{L:List α}(h:Own enc e k B W (.slice (some ⟨g,0,none⟩) L.length cap) L)(hk:∀ x,(enc x).length=k)(hi:i<L.length)(j:Nat)(hj:j<k)(u:Value)(x':α)(hx:enc x'=(enc L[i]).set j u) :
  Own enc e k B (W.setCell ⟨g,i*k+j,none⟩ u) (.slice (some ⟨g,0,none⟩) L.length cap) (L.set i x'):=by
 have h1:=(World.ownsRow.stored h (i*k+j) u).1;rw [flat_set hk i hi j hj u x' hx]at h1;unfold Own
 rw [List.length_set];exact h1
end
def Inf(e:TypeId)(z:Value)(k by':Nat)(i:TypeInfo):Prop:=Tryz.prog.info? e=some i∧i.zero=some z∧i.size=k∧i.bytes=by'
theorem inf_of{e:TypeId}{z:Value}{k b:Nat}(h:(Tryz.prog.info? e).map (fun i=>(i.zero,i.size,i.bytes))=some (some z,k,b)):∃ i,Inf e z k b i:=by
 obtain ⟨i,hi,hz⟩:=Option.map_eq_some_iff.1 h;simp only [Prod.mk.injEq]at hz
 exact ⟨i,hi,hz.1,hz.2.1,hz.2.2⟩
end Go.Proofs.YtoikodohcieipaaGreatDoor
namespace Go.Proofs.YtoikodohcieipaaGreatDoor
open Go.RowKit
def rf(x:Rf):List Value:=[.string ⟨x.1.toArray⟩,.int .i64 x.2.1,.int .i64 x.2.2.1,.bool x.2.2.2.1,.bool x.2.2.2.2]
theorem rf_len(x:Rf):(rf x).length=5:=rfl
def Pl(W:World)(b:Nat):Prop:=∃ c t,W.heap[b]?=some (.cells c t (0,0))
theorem Pl.lt{W:World}{b:Nat}(h:Pl W b):b<W.heap.size:=by
 obtain ⟨c,t,h⟩:=h
 rcases Nat.lt_or_ge b W.heap.size with h'|h'
 ·exact h'
 ·rw [Array.getElem?_eq_none h']at h;cases h
theorem Pl.on{W W':World}{b:Nat}(h:Pl W b)(q:Q W W'):Pl W' b:=by
 have hb:=h.lt;obtain ⟨c,t,h⟩:=h;exact ⟨c,t,(Q.block q hb).trans h⟩
theorem pl_new(W:World)(c:Array Value)(t:TypeId):Pl (W.alloc (.cells c t)) W.heap.size:=⟨c,t,by show (W.heap.push _)[W.heap.size]?=_;simp⟩
def Rd(W:World):Ex→Value→Prop
 |.mk k n t b e rs ks,v=>∃ rv kv,v=.agg #[.int .i64 k,.int .i64 n,.string ⟨t.toArray⟩,.bool b,.int .i64 e,rv,kv]∧Sl rf 5 W rv rs ∧
   ∃ (ao:Option Addr) (cap:Nat),kv=.slice ao ks.length cap∧ks.length≤cap∧cap≤maxLen∧(ks≠[]→∃ b' off,ao=some ⟨b',off,none⟩∧Pl W b'∧RdL W ks b' off)
 where
 RdL (W:World):List Ex→Nat→Nat→Prop
 |[],_,_=>True
 |x::xs,b,off=>(∃ c0 c1 c2 c3 c4 c5 c6,W.cell? ⟨b,off,none⟩=some c0∧W.cell? ⟨b,off+1,none⟩=some c1∧W.cell? ⟨b,off+2,none⟩=some c2∧W.cell? ⟨b,off+3,none⟩=some c3∧W.cell? ⟨b,off+4,none⟩=some c4∧W.cell? ⟨b,off+5,none⟩=some c5∧W.cell? ⟨b,off+6,none⟩=some c6∧Rd W x (.agg #[c0,c1,c2,c3,c4,c5,c6]))∧RdL W xs b (off+7)
theorem Rd.on{W W':World}(q:Q W W'):∀ (x:Ex) (v:Value),Rd W x v→Rd W' x v
 |.mk k n t b e rs ks,v,h=>by
  unfold Rd at h ⊢
  obtain ⟨rv,kv,hv,hr,ao,cap,hk,h1,h2,h3⟩:=h;refine ⟨rv,kv,hv,hr.on q,ao,cap,hk,h1,h2,fun hn=>?_⟩
  obtain ⟨b',off,ha,hp,hl⟩:=h3 hn;exact ⟨b',off,ha,hp.on q,go q ks b' off hl⟩
 where
 go {W W':World} (q:Q W W'):∀ (l:List Ex) (b off:Nat),Rd.RdL W l b off→Rd.RdL W' l b off
 |[],_,_,_=>by unfold Rd.RdL;trivial
 |x::xs,b,off,h=>by
  unfold Rd.RdL at h ⊢
  obtain ⟨⟨c0,c1,c2,c3,c4,c5,c6,g0,g1,g2,g3,g4,g5,g6,hx⟩,hr⟩:=h;have ce:∀ {o:Nat} {c:Value},W.cell? ⟨b,o,none⟩=some c→W'.cell? ⟨b,o,none⟩=some c:=fun h=>(q.cell (World.block_lt_of_cell? W ⟨b,_,none⟩ h)).trans h
  exact ⟨⟨c0,c1,c2,c3,c4,c5,c6,ce g0,ce g1,ce g2,ce g3,ce g4,ce g5,ce g6,Rd.on q x _ hx⟩,go q xs b (off+7) hr⟩
theorem Rd.RdL.on{W W':World}(q:Q W W'):∀ (l:List Ex) (b off:Nat),Rd.RdL W l b off→Rd.RdL W' l b off:=Rd.on.go q
structure Kid (W:World) (x:Ex) (b off:Nat) (c0 c1 c2 c3 c4 c5 c6:Value):Prop where
 g0:W.cell? ⟨b,off,none⟩=some c0
 g1:W.cell? ⟨b,off+1,none⟩=some c1
 g2:W.cell? ⟨b,off+2,none⟩=some c2
 g3:W.cell? ⟨b,off+3,none⟩=some c3
 g4:W.cell? ⟨b,off+4,none⟩=some c4
 g5:W.cell? ⟨b,off+5,none⟩=some c5
 g6:W.cell? ⟨b,off+6,none⟩=some c6
 rd:Rd W x (.agg #[c0,c1,c2,c3,c4,c5,c6])
theorem Rd.RdL.kid{W:World}:∀ {ks:List Ex} {b off:Nat},Rd.RdL W ks b off→∀ i (h:i<ks.length),∃ c0 c1 c2 c3 c4 c5 c6,Kid W ks[i] b (off+i*7) c0 c1 c2 c3 c4 c5 c6
 |[],_,_,_,i,h=>absurd h (by simp)
 |x::xs,b,off,hr,i,h=>by
  unfold Rd.RdL at hr
  obtain ⟨⟨c0,c1,c2,c3,c4,c5,c6,g0,g1,g2,g3,g4,g5,g6,hx⟩,hr⟩:=hr;cases i with
  |zero=>exact ⟨c0,c1,c2,c3,c4,c5,c6,by simpa using g0,by simpa using g1,by simpa using g2,by simpa using g3,by simpa using g4,by simpa using g5,by simpa using g6,hx⟩
  |succ i=>
   obtain ⟨c0,c1,c2,c3,c4,c5,c6,hk⟩:=Rd.RdL.kid hr i (by simpa using h)
   rw [show off+7+i*7=off+(i+1)*7 by omega]at hk
   exact ⟨c0,c1,c2,c3,c4,c5,c6,hk⟩
structure Prt (W:World) (x:Ex) (k n:Int) (t:ByteArray) (b:Bool) (e:Int) (rs:List Rf) (ks:List Ex) (rv kv:Value) (ao:Option Addr) (cap:Nat):Prop where
 ex:x=.mk k n t.data.toList b e rs ks
 rl:Sl rf 5 W rv rs
 kl:kv=.slice ao ks.length cap
 le:ks.length≤cap
 mx:cap≤maxLen
 kd:ks≠[]→∃ b' off,ao=some ⟨b',off,none⟩∧Rd.RdL W ks b' off
theorem Rd.prt{W:World}{x:Ex}{v:Value}(h:Rd W x v):∃ k n t b e rs ks rv kv ao cap,v=.agg #[.int .i64 k,.int .i64 n,.string t,.bool b,.int .i64 e,rv,kv]∧Prt W x k n t b e rs ks rv kv ao cap:=by
 cases x with
 |mk k n t b e rs ks=>
  unfold Rd at h
  obtain ⟨rv,kv,hv,hr,ao,cap,hk,h1,h2,h3⟩:=h;exact ⟨k,n,⟨t.toArray⟩,b,e,rs,ks,rv,kv,ao,cap,hv,rfl,hr,hk,h1,h2,fun hn=>by
   obtain ⟨b',off,ha,_,hl⟩:=h3 hn;exact ⟨b',off,ha,hl⟩⟩
theorem Prt.on{W W':World}{x:Ex}{k n:Int}{t:ByteArray}{b:Bool}{e:Int}{rs:List Rf}{ks:List Ex}{rv kv:Value}{ao:Option Addr}{cap:Nat}(h:Prt W x k n t b e rs ks rv kv ao cap)(q:Q W W'):Prt W' x k n t b e rs ks rv kv ao cap:=
 ⟨h.ex,h.rl.on q,h.kl,h.le,h.mx,fun hn=>by
  obtain ⟨b',off,ha,hl⟩:=h.kd hn;exact ⟨b',off,ha,Rd.RdL.on q _ _ _ hl⟩⟩
structure Bx (w W:World) (c0 c1 c2 c3 c4 c5 c6:Value):Prop where
 q:Q w W
 lt:w.heap.size<W.heap.size
 g0:W.cell? ⟨w.heap.size,0,none⟩=some c0
 g1:W.cell? ⟨w.heap.size,1,none⟩=some c1
 g2:W.cell? ⟨w.heap.size,2,none⟩=some c2
 g3:W.cell? ⟨w.heap.size,3,none⟩=some c3
 g4:W.cell? ⟨w.heap.size,4,none⟩=some c4
 g5:W.cell? ⟨w.heap.size,5,none⟩=some c5
 g6:W.cell? ⟨w.heap.size,6,none⟩=some c6
theorem Bx.start(w:World)(c0 c1 c2 c3 c4 c5 c6:Value)(t:TypeId):Bx w (w.alloc (.cells #[c0,c1,c2,c3,c4,c5,c6] t)) c0 c1 c2 c3 c4 c5 c6:=by
 refine ⟨(Q.refl _).alloc _,by simp,?_,?_,?_,?_,?_,?_,?_⟩
 all_goals simp [World.cell?_alloc_new]
theorem Bx.on{w W W':World}{c0 c1 c2 c3 c4 c5 c6:Value}(h:Bx w W c0 c1 c2 c3 c4 c5 c6)(q:Q W W'):Bx w W' c0 c1 c2 c3 c4 c5 c6:=
 ⟨h.q.trans q,q.lt h.lt,(q.cell h.lt).trans h.g0,(q.cell h.lt).trans h.g1,(q.cell h.lt).trans h.g2,(q.cell h.lt).trans h.g3,(q.cell h.lt).trans h.g4,(q.cell h.lt).trans h.g5,(q.cell h.lt).trans h.g6⟩
def mxN(l:List Nat):Nat:=l.foldl max 0
def dp:Nat→Ex→Nat
 |0,_=>1
 |m+1,.mk _ _ _ _ _ _ ks=>mxN (ks.map (dp m))+1
theorem mxN_snoc(l:List Nat)(d:Nat):mxN (l++[d])=max (mxN l) d:=by unfold mxN;rw [List.foldl_append];rfl
theorem mxN_le{l:List Nat}{m:Nat}(h:∀ x∈l,x≤m):mxN l≤m:=by
 unfold mxN
 suffices ∀ (a:Nat),a≤m→l.foldl max a≤m by exact this 0 (Nat.zero_le _)
 induction l with
 |nil=>intro a ha;exact ha
 |cons x l ih=>
  intro a ha
  rw [List.foldl_cons];exact ih (fun y hy=>h y (by simp [hy])) _ (Nat.max_le.2 ⟨ha,h x (by simp)⟩)
theorem dp_le:∀ (m:Nat) (x:Ex),dp m x≤m+1
 |0,x=>by unfold dp;exact Nat.le_refl _
 |m+1,.mk _ _ _ _ _ _ ks=>by
  unfold dp
  have:mxN (ks.map (dp m))≤m+1:=mxN_le (fun y hy=>by
   obtain ⟨z,_,rfl⟩:=List.mem_map.1 hy;exact dp_le m z)
  omega
theorem take_map_snoc{α β:Type}(f:α→β)(l:List α)(i:Nat)(h:i<l.length):(l.take (i+1)).map f=(l.take i).map f++[f l[i]]:=by
 rw [List.take_succ_eq_append_getElem h,List.map_append]
 rfl
theorem depth_any:∀ (m:Nat) (x:Ex) (v:Value) (W:World) (M:Int),M=(m:Int)→m≤100→Rd W x v→Calls Tryz.prog 42 #[v,.int .i64 M] W fun e W'=>e=.returned (.int .i64 (dp m x:Int))∧Q W W':=by
 intro m
 induction m with
 |zero=>
  intro x v W M hM hm hr
  obtain ⟨k,n,t,b,e,rs,ks,rv,kv,ao,cap,rfl,hp⟩:=hr.prt;have hM0:M≤0:=by omega
  clear hM;have HD:Hid (dp 0 x=1):=hid (by unfold dp;rfl)
  generalize dp 0 x=d at HD ⊢;clear hp hr;go_enter Tryz.func42,Tryz.ntmps42
  go_wp2
  go_ret
  exact ⟨ret_int (by rw [HD.out];rfl),(Q.refl _).alloc _⟩
 |succ m ih=>
  intro x v W M hM hm hr
  obtain ⟨k,n,t,b,e,rs,ks,rv,kv,ao,cap,rfl,hp⟩:=hr.prt;have HD:Hid (dp (m+1) x=mxN (ks.map (dp m))+1):=hid (by rw [hp.ex];rfl)
  generalize dp (m+1) x=d at HD ⊢;have IH:=hid (fun x v W h=>ih x v W (M-1) (by omega) (by omega) h)
  have hM0:0<M:=by omega
  have hM1:M≤200:=by omega
  clear hM;have HX:=hid (Bx.start W (.int .i64 k) (.int .i64 n) (.string t) (.bool b) (.int .i64 e) rv kv 26);have HP:=hid hp;obtain rfl:=hp.kl;have hroom:ks.length≤9223372036854775807:=by have h1:=hp.le;have h2:=hp.mx;unfold maxLen at h2;omega
  clear hp hr ih;go_enter Tryz.func42,Tryz.ntmps42
  go_wp2
  go_loopw [5,6] (fun y z W'=>∃ (i a:Nat),i≤ks.length∧y=.int .i64 (a:Int)∧z=.int .i64 (i:Int)∧a≤1000∧Bx W W' (.int .i64 k) (.int .i64 n) (.string t) (.bool b) (.int .i64 e) rv (.slice ao ks.length cap)∧Hid (a=mxN ((ks.take i).map (dp m)))) (fun _ z _=>ks.length-(intOf z).toNat)
  case atStart=>exact ⟨0,0,Nat.zero_le _,rfl,rfl,by omega,HX.out,rfl⟩
  case round=>
   obtain ⟨i,a,hi,rfl,rfl,ha,hX,hA⟩:=hrel;have c6:=hX.g6;have HX2:=hid hX;by_cases hlt:i<ks.length
   ·have hne:ks≠[]:=by intro h;rw [h]at hlt;simp at hlt
    obtain ⟨b',off,rfl,hl⟩:=(HP.out.on hX.q).kd hne;obtain ⟨e0,e1,e2,e3,e4,e5,e6,hK⟩:=hl.kid i hlt;obtain ⟨h0,h1,h2,h3,h4,h5,h6,hrd⟩:=hK;have HI:=hid (IH.out _ _ _ hrd);have hdl:=dp_le m ks[i];have HA2:Hid (max a (dp m ks[i])=mxN ((ks.take (i+1)).map (dp m))):=by
     show _=_
     rw [take_map_snoc _ _ _ hlt,mxN_snoc,←hA.out]
    generalize dp m ks[i]=dd at HI hdl HA2;clear hX hl hrd hA;by_cases hgt:a<dd
    ·rw [Nat.max_eq_right (by omega)]at HA2
     go_wp2_with (go_at_call 42;refine HI.out.mono ?_;rintro e9 w9 ⟨rfl,q9⟩;have HX3:=hid (HX2.out.on q9);clear q9)
     go_roundw
     case rel=>exact ⟨i+1,dd,by omega,rfl,by go_num,by omega,HX3.out,HA2⟩
     case measure=>simp [intOf];omega
    ·rw [Nat.max_eq_left (by omega)]at HA2
     go_wp2_with (go_at_call 42;refine HI.out.mono ?_;rintro e9 w9 ⟨rfl,q9⟩;have HX3:=hid (HX2.out.on q9);clear q9)
     go_roundw
     case rel=>exact ⟨i+1,a,by omega,rfl,by go_num,by omega,HX3.out,HA2⟩
     case measure=>simp [intOf];omega
   ·have HA2:Hid ((d:Int)=(a:Int)+1):=by
     show _=_
     rw [HD.out,hA.out,List.take_of_length_le (by omega)]
     rfl
    clear hX hA;go_wp2_with fail
    go_ret
    exact ⟨ret_int HA2.out.symm,HX2.out.q⟩
def cnt:Ex→Nat→Nat
 |.mk _ _ _ _ _ _ ks,n=>cntL ks (n+1)
 where
 cntL:List Ex→Nat→Nat
 |[],n=>n
 |x::xs,n=>if n≤200 then cntL xs (cnt x n) else n
theorem cntL_stop{ks:List Ex}{n:Nat}(h:¬ n≤200):cnt.cntL ks n=n:=by
 cases ks with
 |nil=>rw [cnt.cntL]
 |cons x xs=>rw [cnt.cntL,if_neg h]
theorem cnt_le:∀ (x:Ex) (n:Nat),n≤200→cnt x n≤201
 |.mk _ _ _ _ _ _ ks,n,h=>by
  rw [cnt];exact go ks (n+1) (by omega)
 where
 go:∀ (ks:List Ex) (n:Nat),n≤201→cnt.cntL ks n≤201
 |[],n,h=>by rw [cnt.cntL];exact h
 |x::xs,n,h=>by
  rw [cnt.cntL]
  split
  ·rename_i h'
   exact go xs _ (cnt_le x n h')
  ·exact h
theorem kid_size{k n:Int}{t:List UInt8}{b:Bool}{e:Int}{rs:List Rf}{ks:List Ex}(i:Nat)(h:i<ks.length):SizeOf.sizeOf ks[i]<SizeOf.sizeOf (Ex.mk k n t b e rs ks):=by
 have:=List.sizeOf_lt_of_mem (List.getElem_mem h)
 simp
 omega
theorem count_any:∀ (s:Nat) (x:Ex) (v:Value) (W:World) (N D:Int) (n0:Nat),SizeOf.sizeOf x≤s→N=(n0:Int)→n0≤200→Rd W x v→Calls Tryz.prog 54 #[v,.int .i64 N,.int .i64 D] W fun e W'=>e=.returned (.int .i64 (cnt x n0:Int))∧Q W W':=by
 intro s
 induction s with
 |zero=>
  intro x v W N D n0 hs hN hn hr
  cases x with
  |mk k n t b e rs ks=>simp at hs
 |succ s ih=>
  intro x v W N D n0 hs hN hn hr
  obtain ⟨k,n,t,b,e,rs,ks,rv,kv,ao,cap,rfl,hp⟩:=hr.prt;have HD:Hid (cnt x n0=cnt.cntL ks (n0+1)):=hid (by rw [hp.ex,cnt])
  have IH:=hid (fun (i:Nat) (h:i<ks.length) v W N D n0=>ih ks[i] v W N D n0 (by have:=kid_size (k:=k) (n:=n) (t:=t.data.toList) (b:=b) (e:=e) (rs:=rs) i h;rw [←hp.ex]at this;omega))
  generalize cnt x n0=d at HD ⊢;have HX:=hid (Bx.start W (.int .i64 k) (.int .i64 n) (.string t) (.bool b) (.int .i64 e) rv kv 26);have HP:=hid hp;obtain rfl:=hp.kl;have hroom:ks.length≤9223372036854775807:=by have h1:=hp.le;have h2:=hp.mx;unfold maxLen at h2;omega
  have hN0:0≤N:=by omega
  have hN1:N≤200:=by omega
  have HNN:=hid hN;clear hp hr ih hs hN;go_enter Tryz.func54,Tryz.ntmps54
  go_wp2
  go_loopw [1,7] (fun y z W'=>∃ (i a:Nat),i≤ks.length∧y=.int .i64 (a:Int)∧z=.int .i64 (i:Int)∧a≤201∧Bx W W' (.int .i64 k) (.int .i64 n) (.string t) (.bool b) (.int .i64 e) rv (.slice ao ks.length cap)∧Hid (d=cnt.cntL (ks.drop i) a)) (fun _ z _=>ks.length-(intOf z).toNat)
  case atStart=>exact ⟨0,n0+1,Nat.zero_le _,by rw [HNN.out];rfl,rfl,by omega,HX.out,HD⟩
  case round=>
   obtain ⟨i,a,hi,rfl,rfl,ha,hX,hA⟩:=hrel;have c6:=hX.g6;have HX2:=hid hX;by_cases hlt:i<ks.length
   ·by_cases h200:a≤200
    ·have hne:ks≠[]:=by intro h;rw [h]at hlt;simp at hlt
     obtain ⟨b',off,rfl,hl⟩:=(HP.out.on hX.q).kd hne;obtain ⟨e0,e1,e2,e3,e4,e5,e6,hK⟩:=hl.kid i hlt;obtain ⟨h0,h1,h2,h3,h4,h5,h6,hrd⟩:=hK;have HI:=hid (fun D=>IH.out i hlt _ _ (a:Int) D a rfl h200 hrd)
     have hdl:=cnt_le ks[i] a h200;have HA2:Hid (d=cnt.cntL (ks.drop (i+1)) (cnt ks[i] a)):=by
      show _=_
      rw [hA.out,List.drop_eq_getElem_cons hlt,cnt.cntL,if_pos h200]
     generalize cnt ks[i] a=dd at HI hdl HA2;clear hX hl hrd hA;go_wp2_with (go_at_call 54;refine (HI.out _).mono ?_;rintro e9 w9 ⟨rfl,q9⟩;have HX3:=hid (HX2.out.on q9);clear q9)
     go_roundw
     case rel=>exact ⟨i+1,dd,by omega,rfl,by go_num,by omega,HX3.out,HA2⟩
     case measure=>simp [intOf];omega
    ·have HA2:Hid ((d:Int)=(a:Int)):=by show _=_;rw [hA.out,cntL_stop h200]
     clear hX hA;go_wp2_with fail
     go_ret
     exact ⟨ret_int HA2.out.symm,HX2.out.q⟩
   ·have HA2:Hid ((d:Int)=(a:Int)):=by
     show _=_
     rw [hA.out,List.drop_of_length_le (by omega),cnt.cntL]
    clear hX hA;go_wp2_with fail
    go_ret
    exact ⟨ret_int HA2.out.symm,HX2.out.q⟩
theorem join_cases{c:UInt8}{a:Bool}(h:joinB c=a):a=(decide (65≤(c.toNat:Int)∧(c.toNat:Int)≤90) || (decide (97≤(c.toNat:Int)∧(c.toNat:Int)≤122) || (decide (48≤(c.toNat:Int)∧(c.toNat:Int)≤57) || (decide ((c.toNat:Int)=36) || (decide ((c.toNat:Int)=33) || decide ((c.toNat:Int)=46)))))):=by
 have e:∀ n:Nat,n<256→(c == UInt8.ofNat n)=decide ((c.toNat:Int)=(n:Int)):=by
  intro n hn
  rw [Bool.eq_iff_iff,beq_iff_eq,decide_eq_true_eq]
  constructor
  ·intro h;subst h;simp;omega
  ·intro h
   apply UInt8.toNat_inj.1
   simp
   omega
 have e36:=e 36 (by omega)
 have e33:=e 33 (by omega)
 have e46:=e 46 (by omega)
 subst h;unfold joinB
 show _=_
 rw [show (c == 36)=decide ((c.toNat:Int)=36) from e36,show (c == 33)=decide ((c.toNat:Int)=33) from e33,show (c == 46)=decide ((c.toNat:Int)=46) from e46]
 congr 1
 ·rw [Bool.eq_iff_iff,decide_eq_true_eq,decide_eq_true_eq];omega
 congr 1
 ·rw [Bool.eq_iff_iff,decide_eq_true_eq,decide_eq_true_eq];omega
 congr 1
 ·rw [Bool.eq_iff_iff,decide_eq_true_eq,decide_eq_true_eq];omega
theorem solid_any(c:UInt8)(w:World):Calls Tryz.prog 81 #[.int .u8 c.toNat] w fun e w'=>e=.returned (.bool (joinB c))∧w'=w:=by
 have H:=join_cases (c:=c) rfl;generalize joinB c=a at H ⊢;have h0:0≤(c.toNat:Int):=by omega
 generalize (c.toNat:Int)=x at H h0 ⊢;have HH:=hid H;clear H;go_enter Tryz.func81,Tryz.ntmps81
 go_wp2
 all_goals go_ret
 all_goals exact ⟨ret_bool (by rw [HH.out,Bool.eq_iff_iff];simp_all <;> omega),rfl⟩
theorem eq_byte{c:UInt8}{n:Nat}(hn:n<256)(h:c=UInt8.ofNat n):((c.toNat:Int) == (n:Int))=true:=by
 subst h;simp;omega
theorem letters_any(s:ByteArray)(w:World)(hp:0<s.size)(hs:s.size≤4000000000) :
  Calls Tryz.prog 57 #[.string s] w fun e w'=>e=.returned (.bool (allL s.data.toList))∧w'=w:=by
 have e0:=toList_ne hp;go_enter Tryz.func57,Tryz.ntmps57
 go_wp2
 go_loop [3] (fun i=>∃ k:Nat,k≤s.size∧i=.int .i64 k∧Hid (allL (s.data.toList.take k)=true)) (fun i=>s.size-(intOf i).toNat)
 case atStart=>exact ⟨0,Nat.zero_le _,rfl,rfl⟩
 case round=>
  obtain ⟨k,hk,rfl,ha⟩:=hrel;by_cases hlt:k<s.size
  ·by_cases hd:let1 s[k]=true
   ·have ha':Hid (allL (s.data.toList.take (k+1))=true):=by
     show _=_
     have:=ha.out
     rw [take_snoc s k hlt,allL_app,this];unfold allL
     simp [hd]
    have b0:65≤(s[k].toNat:Int):=by unfold let1 at hd;simp at hd;omega
    have b1:(s[k].toNat:Int)≤90:=by unfold let1 at hd;simp at hd;omega
    clear hd;go_wp2
    go_round
    case rel=>exact ⟨k+1,by omega,by go_num,ha'⟩
    case measure=>simp [intOf];omega
   ·have hN:=hid (allL_no s k hlt (by simpa using hd))
    by_cases b0:(s[k].toNat:Int)<65
    ·clear hd
     go_wp2
     go_ret
     exact ⟨ret_bool hN.out.symm,rfl⟩
    ·have b1:90<(s[k].toNat:Int):=by unfold let1 at hd;simp at hd;omega
     clear hd;go_wp2
     go_ret
     exact ⟨ret_bool hN.out.symm,rfl⟩
  ·have hN:Hid (allL s.data.toList=true):=by
    show _=_
    have:=ha.out
    rw [take_all s k (by omega)]at this
    exact this
   go_wp2
   go_ret
   exact ⟨ret_bool hN.out.symm,rfl⟩
theorem kind_num{t:List UInt8}{c:Bool}(h:V.pf (V.parseO t)=true):kindJ t c=1:=by unfold kindJ;rw [if_pos h]
theorem kind_ref{t:List UInt8}{c:Bool}(h:V.pf (V.parseO t)=false)(h':refF t=true):kindJ t c=3:=by unfold kindJ;rw [if_neg (by simp [h]),if_pos h']
theorem kind_rest{t:List UInt8}{c:Bool}(h:V.pf (V.parseO t)=false)(h':refF t=false):kindJ t c=if t=tru∨t=fls∨(c=true∧allL t=true) then 4 else 0:=by unfold kindJ;rw [if_neg (by simp [h]),if_neg (by simp [h'])]
theorem tw_len(l:List UInt8)(p:UInt8→Bool):(l.takeWhile p).length≤l.length:=(List.takeWhile_prefix _).length_le
theorem tw_take(l:List UInt8)(p:UInt8→Bool):l.take (l.takeWhile p).length=l.takeWhile p:=by
 induction l with
 |nil=>rfl
 |cons c r ih=>
  rw [List.takeWhile_cons]
  split
  ·simp [ih]
  ·rfl
theorem tw_drop(l:List UInt8)(p:UInt8→Bool):l.drop (l.takeWhile p).length=l.dropWhile p:=by
 induction l with
 |nil=>rfl
 |cons c r ih=>
  rw [List.takeWhile_cons,List.dropWhile_cons]
  split
  ·simp [ih]
  ·rfl
theorem tw_in(l:List UInt8)(p:UInt8→Bool)(k:Nat)(h:k<(l.takeWhile p).length)(hk:k<l.length):p l[k]=true:=by
 induction l generalizing k with
 |nil=>simp at hk
 |cons c r ih=>
  rw [List.takeWhile_cons]at h
  split at h
  ·rename_i hc
   cases k with
   |zero=>exact hc
   |succ k=>exact ih k (by simpa using h) (by simpa using hk)
  ·simp at h
theorem tw_out(l:List UInt8)(p:UInt8→Bool)(h:(l.takeWhile p).length<l.length):p (l[(l.takeWhile p).length])=false:=by
 induction l with
 |nil=>simp at h
 |cons c r ih=>
  by_cases hc:p c=true
  ·have e:(List.takeWhile p (c::r)).length=(List.takeWhile p r).length+1:=by rw [List.takeWhile_cons,if_pos hc];rfl
   have h':(List.takeWhile p r).length<r.length:=by rw [e]at h;simpa using h
   have:=ih h'
   simp only [e,List.getElem_cons_succ]
   exact this
  ·have e:(List.takeWhile p (c::r)).length=0:=by rw [List.takeWhile_cons,if_neg hc];rfl
   simp only [e,List.getElem_cons_zero]
   simpa using hc
end Go.Proofs.YtoikodohcieipaaGreatDoor
namespace Go.Proofs.YtoikodohcieipaaGreatDoor.V
open Go.RowKit
def mayB(k n:Int)(t:List UInt8)(b:Bool)(e:Int):Bool:=
 if k=0 then decide (n=0)&&(decide (t=[])&&(!b&&decide (e=0)))
 else if k=1 then decide (t=[])&&(!b&&decide (e=0))
 else if k=2 then decide (n=0)&&(!b&&(decide (e=0)&&mtB t))
 else if k=3 then decide (n=0)&&(decide (t=[])&&decide (e=0))
 else if k=4 then decide (n=0)&&(decide (t=[])&&(!b&&(decide (1≤e)&&decide (e≤7))))
 else false
theorem mtB_nil:mtB []=true:=by rfl
theorem enL_ne{e:Int}(h1:1≤e)(h7:e≤7):enL e≠[]:=by
 rcases (by omega:e=1∨e=2∨e=3∨e=4∨e=5∨e=6∨e=7) with rfl|rfl|rfl|rfl|rfl|rfl|rfl <;> decide
theorem mayB_other{k n:Int}{t:List UInt8}{b:Bool}{e:Int}(h0:k≠0)(h1:k≠1)(h2:k≠2)(h3:k≠3)(h4:k≠4):false=mayB k n t b e:=by
 unfold mayB
 rw [if_neg h0,if_neg h1,if_neg h2,if_neg h3,if_neg h4]
theorem may_other(k n:Int)(t:ByteArray)(b:Bool)(e:Int)(w:World)(h0:k≠0)(h1:k≠1)(h2:k≠2)(h3:k≠3)(h4:k≠4) :
  Calls Tryz.prog 88 #[vv k n t b e] w fun x w'=>x=.returned (.bool (mayB k n t.toList b e))∧Q w w':=by
 have H:=hid (mayB_other (n:=n) (t:=t.toList) (b:=b) (e:=e) h0 h1 h2 h3 h4);unfold vv
 go_enter Tryz.func88,Tryz.ntmps88
 go_wp2
 go_ret
 exact ⟨vret_bool H.out,((Q.refl _).alloc _).alloc _⟩
theorem box5{w w1:World}{v0 v1 v2 v3 v4:Value}{o:Obj}(q:Q ((w.alloc (.cells #[v0,v1,v2,v3,v4] 133)).alloc o) w1) :
  w1.cell? ⟨w.heap.size,0,none⟩=some v0∧w1.cell? ⟨w.heap.size,4,none⟩=some v4:=by
 have h1:w.heap.size<(w.alloc (.cells #[v0,v1,v2,v3,v4] 133)).heap.size:=by rw [World.size_alloc];omega
 have hlt:w.heap.size<((w.alloc (.cells #[v0,v1,v2,v3,v4] 133)).alloc o).heap.size:=by rw [World.size_alloc];omega
 have e1:=fun j=>Q.cell (o:=j) ((Q.refl (w.alloc (.cells #[v0,v1,v2,v3,v4] 133))).alloc o) h1
 refine ⟨?_,?_⟩
 ·rw [q.cell hlt,e1,World.cell?_alloc_new];rfl
 ·rw [q.cell hlt,e1,World.cell?_alloc_new];rfl
theorem q2{w w1:World}{o o':Obj}(q:Q ((w.alloc o).alloc o') w1):Q w w1:=(((Q.refl _).alloc _).alloc _).trans q
theorem may_0(n:Int)(t:ByteArray)(b:Bool)(e:Int)(w:World)(hw:Std w)(hs:(t.size:Int)≤9223372036854775000) :
  Calls Tryz.prog 88 #[vv 0 n t b e] w fun x w'=>x=.returned (.bool (mayB 0 n t.toList b e))∧Q w w':=by
 have HW:=hid hw;have HM:mtB t.data.toList=mtB t.toList:=by rw [Lib.toList_data]
 clear hw;unfold vv
 go_enter Tryz.func88,Tryz.ntmps88
 go_wp2_with (go_at_call 104;refine (mayText_any t _ (HW.out.on (((Q.refl _).alloc _).alloc _)) hs).mono ?_;rintro x w1 ⟨rfl,q1⟩;obtain ⟨g0,g4⟩:=box5 q1)
 all_goals go_ret
 all_goals first
  |exact ⟨vret_bool (by simp [mayB,mtB_nil, *]),((Q.refl _).alloc _).alloc _⟩
  |exact ⟨vret_bool (by simp_all [mayB,mtB_nil]),q2 q1⟩
theorem may_1(n:Int)(t:ByteArray)(b:Bool)(e:Int)(w:World)(hw:Std w)(hs:(t.size:Int)≤9223372036854775000) :
  Calls Tryz.prog 88 #[vv 1 n t b e] w fun x w'=>x=.returned (.bool (mayB 1 n t.toList b e))∧Q w w':=by
 have HW:=hid hw;have HM:mtB t.data.toList=mtB t.toList:=by rw [Lib.toList_data]
 clear hw;unfold vv
 go_enter Tryz.func88,Tryz.ntmps88
 go_wp2_with (go_at_call 104;refine (mayText_any t _ (HW.out.on (((Q.refl _).alloc _).alloc _)) hs).mono ?_;rintro x w1 ⟨rfl,q1⟩;obtain ⟨g0,g4⟩:=box5 q1)
 all_goals go_ret
 all_goals first
  |exact ⟨vret_bool (by simp [mayB,mtB_nil, *]),((Q.refl _).alloc _).alloc _⟩
  |exact ⟨vret_bool (by simp_all [mayB,mtB_nil]),q2 q1⟩
theorem may_2(n:Int)(t:ByteArray)(b:Bool)(e:Int)(w:World)(hw:Std w)(hs:(t.size:Int)≤9223372036854775000) :
  Calls Tryz.prog 88 #[vv 2 n t b e] w fun x w'=>x=.returned (.bool (mayB 2 n t.toList b e))∧Q w w':=by
 have HW:=hid hw;have HM:mtB t.data.toList=mtB t.toList:=by rw [Lib.toList_data]
 clear hw;unfold vv
 go_enter Tryz.func88,Tryz.ntmps88
 go_wp2_with (go_at_call 104;refine (mayText_any t _ (HW.out.on (((Q.refl _).alloc _).alloc _)) hs).mono ?_;rintro x w1 ⟨rfl,q1⟩;obtain ⟨g0,g4⟩:=box5 q1)
 all_goals go_ret
 all_goals first
  |exact ⟨vret_bool (by simp [mayB,mtB_nil, *]),((Q.refl _).alloc _).alloc _⟩
  |exact ⟨vret_bool (by simp_all [mayB,mtB_nil]),q2 q1⟩
theorem may_3(n:Int)(t:ByteArray)(b:Bool)(e:Int)(w:World)(hw:Std w)(hs:(t.size:Int)≤9223372036854775000) :
  Calls Tryz.prog 88 #[vv 3 n t b e] w fun x w'=>x=.returned (.bool (mayB 3 n t.toList b e))∧Q w w':=by
 have HW:=hid hw;have HM:mtB t.data.toList=mtB t.toList:=by rw [Lib.toList_data]
 clear hw;unfold vv
 go_enter Tryz.func88,Tryz.ntmps88
 go_wp2_with (go_at_call 104;refine (mayText_any t _ (HW.out.on (((Q.refl _).alloc _).alloc _)) hs).mono ?_;rintro x w1 ⟨rfl,q1⟩;obtain ⟨g0,g4⟩:=box5 q1)
 all_goals go_ret
 all_goals first
  |exact ⟨vret_bool (by simp [mayB,mtB_nil, *]),((Q.refl _).alloc _).alloc _⟩
  |exact ⟨vret_bool (by simp_all [mayB,mtB_nil]),q2 q1⟩
theorem may_4(n:Int)(t:ByteArray)(b:Bool)(e:Int)(w:World)(hw:Std w)(hs:(t.size:Int)≤9223372036854775000) :
  Calls Tryz.prog 88 #[vv 4 n t b e] w fun x w'=>x=.returned (.bool (mayB 4 n t.toList b e))∧Q w w':=by
 have HW:=hid hw;have HM:mtB t.data.toList=mtB t.toList:=by rw [Lib.toList_data]
 obtain ⟨X,eX⟩:∃ X:ByteArray,X=⟨(enL e).toArray⟩:=⟨_,rfl⟩;have hX:X.toList=enL e:=by rw [Lib.toList_data,eX]
 have HN:=hid (fun w h=>name_any e w h)
 rw [←eX]at HN;clear hw eX;by_cases he:1≤e∧e≤7
 ·have hx:(X.toList == [])=false:=by rw [hX];have:=enL_ne he.1 he.2;cases h:enL e;exact absurd h this;rfl
  have h1:=he.1;have h7:=he.2;have d1:decide (1≤e)=true:=by simpa using h1
  have d7:decide (e≤7)=true:=by simpa using h7
  clear he hX;unfold vv
  go_enter Tryz.func88,Tryz.ntmps88
  go_wp2_with (first|(go_at_call 104;refine (mayText_any t _ (HW.out.on (((Q.refl _).alloc _).alloc _)) hs).mono ?_;rintro x w1 ⟨rfl,q1⟩;obtain ⟨g0,g4⟩:=box5 q1)|(go_at_call 89;refine (HN.out _ (HW.out.on (q2 q1)).nam).mono ?_;rintro x w1 ⟨rfl,rfl⟩))
  all_goals go_ret
  all_goals first
   |exact ⟨vret_bool (by simp [mayB,mtB_nil, *]),((Q.refl _).alloc _).alloc _⟩
   |exact ⟨vret_bool (by simp_all [mayB,mtB_nil]),q2 q1⟩
 ·have hx:(X.toList == [])=true:=by rw [hX,←enL_no (by omega)];rfl
  have d1:(decide (1≤e)&&decide (e≤7))=false:=by simp;omega
  clear he hX;unfold vv
  go_enter Tryz.func88,Tryz.ntmps88
  go_wp2_with (first|(go_at_call 104;refine (mayText_any t _ (HW.out.on (((Q.refl _).alloc _).alloc _)) hs).mono ?_;rintro x w1 ⟨rfl,q1⟩;obtain ⟨g0,g4⟩:=box5 q1)|(go_at_call 89;refine (HN.out _ (HW.out.on (q2 q1)).nam).mono ?_;rintro x w1 ⟨rfl,rfl⟩))
  all_goals go_ret
  all_goals first
   |exact ⟨vret_bool (by unfold mayB;rw [d1];simp),((Q.refl _).alloc _).alloc _⟩
   |exact ⟨vret_bool (by unfold mayB;rw [d1];simp),q2 q1⟩
theorem may_any(k n:Int)(t:ByteArray)(b:Bool)(e:Int)(w:World)(hw:Std w)(hs:(t.size:Int)≤9223372036854775000) :
  Calls Tryz.prog 88 #[vv k n t b e] w fun x w'=>x=.returned (.bool (mayB k n t.toList b e))∧Q w w':=by
 by_cases h0:k=0
 ·subst h0;exact may_0 n t b e w hw hs
 by_cases h1:k=1
 ·subst h1;exact may_1 n t b e w hw hs
 by_cases h2:k=2
 ·subst h2;exact may_2 n t b e w hw hs
 by_cases h3:k=3
 ·subst h3;exact may_3 n t b e w hw hs
 by_cases h4:k=4
 ·subst h4;exact may_4 n t b e w hw hs
 exact may_other k n t b e w h0 h1 h2 h3 h4
end Go.Proofs.YtoikodohcieipaaGreatDoor.V
namespace Go.Proofs.YtoikodohcieipaaGreatDoor
open Go.RowKit
theorem quoF_le:∀ (l acc:List UInt8) (n:Nat) (t:List UInt8) (m:Nat),quoF l acc n=some (t,m)→n<m∧m≤n+l.length
 |[],_,_,_,_,h=>by simp [quoF]at h
 |[c],acc,n,t,m,h=>by
  unfold quoF at h
  split at h
  ·simp only [Option.some.injEq,Prod.mk.injEq]at h
   simp
   omega
  ·cases h
 |c::d::r,acc,n,t,m,h=>by
  unfold quoF at h
  split at h
  ·split at h
   ·have:=quoF_le r _ _ _ _ h
    simp
    omega
   ·simp only [Option.some.injEq,Prod.mk.injEq]at h
    simp
    omega
  ·have:=quoF_le (d::r) _ _ _ _ h
   simp at this ⊢
   omega
theorem prefix_len{l p:List UInt8}(h:Lib.hasPrefix l p=true):p.length≤l.length:=by
 unfold Lib.hasPrefix at h
 rw [List.isPrefixOf_iff_prefix]at h;exact h.length_le
theorem len_tw(l:List UInt8)(p:UInt8→Bool):(l.takeWhile p).length≤l.length:=(List.takeWhile_prefix _).length_le
theorem word_len(l:List UInt8):(wordF l).2.2≤l.length:=by
 unfold wordF
 split
 ·rename_i h
  have hl:0<l.length:=by
   cases l with
   |nil=>exact absurd h (by decide)
   |cons c r=>simp
  unfold quoW
  cases hq:quoF (l.drop 1) [] 1 with
  |none=>simp [quoP,bad]
  |some p=>
   obtain ⟨t,m⟩:=p;have:=quoF_le _ _ _ _ _ hq
   simp only [quoP]
   split
   ·rw [List.length_drop]at this
    simp only
    omega
   ·simp [bad]
 ·split
  ·unfold errW
   cases he:errF l with
   |none=>simp [errP,bad]
   |some e=>
    unfold errF at he
    have h2:=List.find?_some he;exact prefix_len h2
  ·split
   ·unfold joinW
    split
    ·simp [bad]
    ·exact len_tw _ _
   ·unfold sigW
    cases he:sigF l with
    |none=>simp [sigP,bad]
    |some e=>
     unfold sigF at he
     have h2:=List.find?_some he;exact prefix_len h2
theorem Rd.shape{W:World}{x:Ex}{v:Value}(h:Rd W x v):∃ k n t b e a1 l1 c1 a2 l2 c2,v=.agg #[.int .i64 k,.int .i64 n,.string t,.bool b,.int .i64 e,.slice a1 l1 c1,.slice a2 l2 c2]:=by
 obtain ⟨k,n,t,b,e,rs,ks,rv,kv,ao,cap,rfl,hp⟩:=h.prt;obtain ⟨ar,cr,hr,_⟩:=hp.rl;obtain rfl:=hp.kl;subst hr
 exact ⟨_,_,_,_,_,_,_,_,_,_,_,rfl⟩
theorem nodesL_take(ks:List Ex)(i:Nat)(h:i<ks.length):nodes.nodesL (ks.take (i+1))=nodes.nodesL (ks.take i)+nodes ks[i]:=by
 rw [List.take_succ_eq_append_getElem h,nodesL_snoc]
theorem nodesL_take_le(ks:List Ex)(i:Nat):nodes.nodesL (ks.take i)≤nodes.nodesL ks:=by
 induction ks generalizing i with
 |nil=>simp
 |cons x xs ih=>
  cases i with
  |zero=>simp [nodes.nodesL]
  |succ i=>rw [List.take_succ_cons,nodes.nodesL,nodes.nodesL];have:=ih i;omega
def shl:Nat→Ex→Bool
 |0,_=>false
 |m+1,.mk _ _ _ _ _ _ ks=>ks.all (shl m)
theorem pcount_any:∀ (s:Nat) (x:Ex) (v:Value) (W:World) (M:Int) (m:Nat),SizeOf.sizeOf x≤s→M=(m:Int)→1≤m→m≤201→Rd W x v→Calls Tryz.prog 87 #[v,.int .i64 M] W fun e W'=>e=.returned (.int .i64 (min (nodes x) m:Nat))∧Q W W':=by
 intro s
 induction s with
 |zero=>
  intro x v W M m hs
  cases x with
  |mk k n t b e rs ks=>simp at hs
 |succ s ih=>
  intro x v W M m hs hM h1 h201 hr
  obtain ⟨k,n,t,b,e,rs,ks,rv,kv,ao,cap,rfl,hp⟩:=hr.prt;obtain ⟨ar,cr,hrv,_⟩:=hp.rl;have HD:Hid (nodes x=1+nodes.nodesL ks):=hid (by rw [hp.ex,nodes])
  have IH:=hid (fun (i:Nat) (h:i<ks.length) v W M m=>ih ks[i] v W M m (by have:=kid_size (k:=k) (n:=n) (t:=t.data.toList) (b:=b) (e:=e) (rs:=rs) i h;rw [←hp.ex]at this;omega))
  generalize nodes x=d at HD ⊢;have HP:=hid hp;obtain rfl:=hp.kl;subst hrv;have hroom:ks.length≤9223372036854775807:=by have h1:=hp.le;have h2:=hp.mx;unfold maxLen at h2;omega
  clear hp hr ih hs;subst hM;go_enter Tryz.func87,Tryz.ntmps87
  go_wp2
  go_loopw [5,11,7] (fun y z _ W'=>∃ (i a:Nat),i≤ks.length∧y=.int .i64 (a:Int)∧z=.int .i64 (i:Int)∧a≤m∧Hid (Q W W')∧Hid (a=min (1+nodes.nodesL (ks.take i)) m)) (fun _ z _ _=>ks.length-(intOf z).toNat)
  case atStart=>exact ⟨0,1,Nat.zero_le _,rfl,rfl,h1,hid ((Q.refl _).alloc _),by show _=_;simp [nodes.nodesL];omega⟩
  case round=>
   obtain ⟨i,a,hi,rfl,rfl,ha,hQ,hA⟩:=hrel;by_cases hlt:i<ks.length
   ·have hne:ks≠[]:=by intro h;rw [h]at hlt;simp at hlt
    obtain ⟨b',off,rfl,hl⟩:=(HP.out.on hQ.out).kd hne;obtain ⟨e0,e1,e2,e3,e4,e5,e6,hK⟩:=hl.kid i hlt;obtain ⟨k',n',t',b1',e',a1',l1',c1',a2',l2',c2',hsh⟩:=hK.rd.shape;simp only [Value.agg.injEq,Array.mk.injEq,List.cons.injEq,and_true]at hsh
    obtain ⟨rfl,rfl,rfl,rfl,rfl,rfl,rfl⟩:=hsh;obtain ⟨h0,g1,h2,h3,h4,h5,h6,hrd⟩:=hK;by_cases ham:a=m
    ·have HA2:Hid ((min d m:Nat)=m):=by
      show _=_
      have:=hA.out
      have:=nodesL_take_le ks i
      have:=HD.out
      omega
     have eam:((a:Int) == (m:Int))=true:=by rw [ham];exact beq_self_eq_true _
     have HAM:=hid ham;clear hl hrd hA ham;go_wp2_with fail
     go_ret
     exact ⟨ret_int (by rw [HA2.out,HAM.out]),hQ.out.trans (by repeat (first|with_reducible exact Q.refl _|with_reducible refine Q.alloc ?_ _))⟩
    ·have eam:((a:Int) == (m:Int))=false:=by rw [beq_eq_false_iff_ne];omega
     have HRD:=hid hrd;have HI:=hid (fun W1 (q:Q wr W1)=>IH.out i hlt _ W1 ((m:Int)-(a:Int)) (m-a) (by omega) (by omega) (by omega) (Rd.on q _ _ HRD.out))
     have HA2:Hid (a+min (nodes ks[i]) (m-a)=min (1+nodes.nodesL (ks.take (i+1))) m):=by
      show _=_
      have:=hA.out
      rw [nodesL_take ks i hlt];omega
     have hdl:min (nodes ks[i]) (m-a)≤m-a:=Nat.min_le_right _ _
     generalize min (nodes ks[i]) (m-a)=dd at HI HA2 hdl;clear hl hrd hA ham;go_wp2_with (go_at_call 87;refine (HI.out _ (by repeat (first|with_reducible exact Q.refl _|with_reducible refine Q.alloc ?_ _))).mono ?_;rintro e9 w9 ⟨rfl,q9⟩;have Q9:Hid (Q wr w9):=hid (Q.trans (by repeat (first|with_reducible exact Q.refl _|with_reducible refine Q.alloc ?_ _)) q9);clear q9)
     go_roundw
     case rel=>exact ⟨i+1,a+dd,by omega,by go_num,by go_num,by omega,hid (hQ.out.trans Q9.out),HA2⟩
     case measure=>simp [intOf];omega
   ·have HA2:Hid ((min d m:Nat)=a):=by
     show _=_
     have:=hA.out
     rw [List.take_of_length_le (by omega)]at this
     rw [HD.out,this]
    clear hA;go_wp2_with fail
    go_ret
    exact ⟨ret_int (by rw [HA2.out]),hQ.out⟩
theorem shallow_any:∀ (m:Nat) (x:Ex) (v:Value) (W:World) (M:Int),M=(m:Int)→m≤100→Rd W x v→Calls Tryz.prog 72 #[v,.int .i64 M] W fun e W'=>e=.returned (.bool (shl m x))∧Q W W':=by
 intro m
 induction m with
 |zero=>
  intro x v W M hM hm hr
  obtain ⟨k,n,t,b,e,a1,l1,c1,a2,l2,c2,rfl⟩:=hr.shape;have HD:Hid (shl 0 x=false):=hid (by unfold shl;rfl)
  generalize shl 0 x=d at HD ⊢;have e0:(M == 0)=true:=by rw [hM];rfl
  clear hr hM;go_enter Tryz.func72,Tryz.ntmps72
  go_wp2_with fail
  go_ret
  exact ⟨ret_bool HD.out.symm,(Q.refl _).alloc _⟩
 |succ m ih=>
  intro x v W M hM hm hr
  obtain ⟨k,n,t,b,e,rs,ks,rv,kv,ao,cap,rfl,hp⟩:=hr.prt;obtain ⟨ar,cr,hrv,_⟩:=hp.rl;have HD:Hid (shl (m+1) x=ks.all (shl m)):=hid (by rw [hp.ex];rfl)
  generalize shl (m+1) x=d at HD ⊢;have IH:=hid (fun x v W h=>ih x v W (M-1) (by omega) (by omega) h)
  have e0:(M == 0)=false:=by rw [beq_eq_false_iff_ne];omega
  have hM0:0<M:=by omega
  have hM1:M≤200:=by omega
  have HP:=hid hp;obtain rfl:=hp.kl;subst hrv;have hroom:ks.length≤9223372036854775807:=by have h1:=hp.le;have h2:=hp.mx;unfold maxLen at h2;omega
  clear hp hr ih hM;go_enter Tryz.func72,Tryz.ntmps72
  go_wp2_with fail
  go_loopw [12,6] (fun z _ W'=>∃ (i:Nat),i≤ks.length∧z=.int .i64 (i:Int)∧Hid (Q W W')∧Hid ((ks.take i).all (shl m)=true)) (fun z _ _=>ks.length-(intOf z).toNat)
  case atStart=>exact ⟨0,Nat.zero_le _,rfl,hid ((Q.refl _).alloc _),rfl⟩
  case round=>
   obtain ⟨i,hi,rfl,hQ,hA⟩:=hrel;by_cases hlt:i<ks.length
   ·have hne:ks≠[]:=by intro h;rw [h]at hlt;simp at hlt
    obtain ⟨b',off,rfl,hl⟩:=(HP.out.on hQ.out).kd hne;obtain ⟨e0',e1,e2,e3,e4,e5,e6,hK⟩:=hl.kid i hlt;obtain ⟨k',n',t',b1',e',a1',l1',c1',a2',l2',c2',hsh⟩:=hK.rd.shape;simp only [Value.agg.injEq,Array.mk.injEq,List.cons.injEq,and_true]at hsh
    obtain ⟨rfl,rfl,rfl,rfl,rfl,rfl,rfl⟩:=hsh;obtain ⟨h0,g1,h2,h3,h4,h5,h6,hrd⟩:=hK;have HRD:=hid hrd;have HI:=hid (fun W1 (q:Q wr W1)=>IH.out ks[i] _ W1 (Rd.on q _ _ HRD.out))
    cases hb:shl m ks[i]
    ·rw [hb]at HI
     have HA2:Hid (d=false):=by
      show _=_
      rw [HD.out,Bool.eq_false_iff];intro e
      rw [List.all_eq_true]at e;have:=e ks[i] (List.getElem_mem hlt)
      rw [hb]at this;cases this
     clear hl hrd hA;go_wp2_with (go_at_call 72;refine (HI.out _ (by repeat (first|with_reducible exact Q.refl _|with_reducible refine Q.alloc ?_ _))).mono ?_;rintro e9 w9 ⟨rfl,q9⟩;have Q9:Hid (Q wr w9):=hid (Q.trans (by repeat (first|with_reducible exact Q.refl _|with_reducible refine Q.alloc ?_ _)) q9);clear q9)
     go_ret
     exact ⟨ret_bool HA2.out.symm,hQ.out.trans Q9.out⟩
    ·rw [hb]at HI
     have HA2:Hid ((ks.take (i+1)).all (shl m)=true):=by
      show _=_
      rw [List.take_succ_eq_append_getElem hlt,List.all_append,hA.out];simp [hb]
     clear hl hrd hA;go_wp2_with (go_at_call 72;refine (HI.out _ (by repeat (first|with_reducible exact Q.refl _|with_reducible refine Q.alloc ?_ _))).mono ?_;rintro e9 w9 ⟨rfl,q9⟩;have Q9:Hid (Q wr w9):=hid (Q.trans (by repeat (first|with_reducible exact Q.refl _|with_reducible refine Q.alloc ?_ _)) q9);clear q9)
     go_roundw
     case rel=>exact ⟨i+1,by omega,by go_num,hid (hQ.out.trans Q9.out),HA2⟩
     case measure=>simp [intOf];omega
   ·have HA2:Hid (d=true):=by
     show _=_
     have:=hA.out
     rw [List.take_of_length_le (by omega)]at this
     rw [HD.out,this]
    clear hA;go_wp2_with fail
    go_ret
    exact ⟨ret_bool HA2.out.symm,hQ.out⟩
end Go.Proofs.YtoikodohcieipaaGreatDoor
