/- What is printed of a tree that. -/
import Derived.Test.YtgheopdadfnilaaGreatDoorKf20
import Derived.Lib.Replace
import Derived.Shelf.Strings.Builder1
import Derived.Shelf.Strings.Builder2
import Derived.Shelf.Strings.Trim
import Derived.Shelf.Small.Utf8
import Derived.Shelf.Small.Strs
import Derived.Shelf.Small.Wraps
import Derived.Shelf.Strconv.Itoa0
import Derived.Shelf.Strconv.Itoa1
import Derived.Shelf.LaysM
import Derived.Shelf.Strconv.Itoa2
import Derived.Shelf.Strconv.Itoa3
import Derived.Shelf.Strconv.Itoa4
import Derived.Shelf.Strconv.Clone
import Derived.Shelf.Strings.Search1
import Derived.Shelf.Strings.Search2
import Derived.Shelf.Strings.Search3
import Derived.Shelf.Strings.Cut
import Derived.Shelf.Strings.Count
import Derived.Shelf.Strings.Shaped
import Derived.Shelf.Strings.Prefix
import Derived.Shelf.Strings.Split
import Derived.Shelf.Strings.Replace
import Derived.Shelf.Strings.Runes
import Derived.Shelf.Strings.AsciiSet
import Derived.Shelf.Unicode.DecodeSlow
import Derived.Shelf.Unicode.DecodeAny
import Derived.Test.YtgheopdadfnilaaGreatDoorProg
import Derived.Test.YtgheopdadfnilaaGreatDoorKf00
import Derived.Test.YtgheopdadfnilaaGreatDoorKf05
import Derived.Test.YtgheopdadfnilaaGreatDoorKf18
import Derived.Lib.Walk
import Derived.Lib.ItoaMem
import Derived.BigCall
import Derived.BigGuard
import Derived.Test.YtgheopdadfnilaaGreatDoorKf14
import Derived.Test.YtgheopdadfnilaaGreatDoorKf16
set_option linter.unusedVariables false
set_option linter.unusedSimpArgs false
set_option maxRecDepth 100000
set_option maxHeartbeats 8000000
namespace Go.Proofs.YtgheopdadfnilaaGreatDoor
open Go.RowKit
def zRf:Rf:=([],0,0,false,false)
def nodeT(k n:Int)(t:List UInt8)(b:Bool)(e:Int)(rs:List Rf)(ks:List Ex)(ts:List (List UInt8)):List UInt8:=
 if k=1 then V.printL n
 else if k=2 then 34::(dbl t++[34])
 else if k=3 then (if b then truW else flsW)
 else if k=4 then enL e
 else if k=5 then prf (rs.getD 0 zRf)
 else if k=6 then prf (rs.getD 0 zRf)++58::prf (rs.getD 1 zRf)
 else if k=7 then 45::brk (decide ((ks.getD 0 zeroE).k=8)) (ts.getD 0 [])
 else if k=8 then brk (decide (sgE (ks.getD 0 zeroE).k (ks.getD 0 zeroE).t<sgE 8 t)) (ts.getD 0 [])++t++brk (decide (sgE (ks.getD 1 zeroE).k (ks.getD 1 zeroE).t≤sgE 8 t)) (ts.getD 1 [])
 else t++40::(joinT ts++[41])
def fmE:Ex→List UInt8
 |.mk k n t b e rs ks=>nodeT k n t b e rs ks (fmL ks)
 where
 fmL:List Ex→List (List UInt8)
 |[]=>[]
 |x::xs=>fmE x::fmL xs
theorem fmL_map(ks:List Ex):fmE.fmL ks=ks.map fmE:=by
 induction ks with
 |nil=>simp [fmE.fmL]
 |cons x xs ih=>rw [fmE.fmL,ih,List.map_cons]
theorem fm_num(n:Int):fmE (numE n)=V.printL n:=by simp [numE,fmE,nodeT]
theorem fm_text(t:List UInt8):fmE (textE t)=34::(dbl t++[34]):=by simp [textE,fmE,nodeT]
theorem fm_bool(b:Bool):fmE (boolE b)=if b then truW else flsW:=by simp [boolE,fmE,nodeT]
theorem fm_err(e:Nat):fmE (errE e)=enL e:=by simp [errE,fmE,nodeT]
theorem fm_ref(r:Rf):fmE (refE r)=prf r:=by simp [refE,fmE,nodeT]
theorem fm_range(r q:Rf):fmE (rangeE r q)=prf r++58::prf q:=by simp [rangeE,fmE,nodeT]
theorem fm_neg(x:Ex):fmE (negE x)=45::brk (decide (x.k=8)) (fmE x):=by simp [negE,fmE,nodeT,fmL_map]
theorem fm_bin(o:List UInt8)(x y:Ex):fmE (binE o x y)=brk (decide (sgE x.k x.t<sgE 8 o)) (fmE x)++o++brk (decide (sgE y.k y.t≤sgE 8 o)) (fmE y):=by simp [binE,fmE,nodeT,fmL_map]
theorem fm_call(t:List UInt8)(ks:List Ex):fmE (callE t ks)=t++40::(joinT (ks.map fmE)++[41]):=by simp [callE,fmE,nodeT,fmL_map]
def Rn:Ex→Prop
 |.mk _ n _ _ _ _ ks=>n≤9223372036854775807∧RnL ks
 where
 RnL:List Ex→Prop
 |[]=>True
 |x::xs=>Rn x∧RnL xs
theorem rn_kid:∀ {ks:List Ex},Rn.RnL ks→∀ y∈ks,Rn y
 |[],_,y,hy=>absurd hy (by simp)
 |x::xs,h,y,hy=>by
  rw [Rn.RnL]at h;simp at hy
  rcases hy with rfl|hy
  ·exact h.1
  ·exact rn_kid h.2 y hy
theorem rnL_of:∀ {ks:List Ex},(∀ y∈ks,Rn y)→Rn.RnL ks
 |[],_=>by rw [Rn.RnL];trivial
 |x::xs,h=>by rw [Rn.RnL];exact ⟨h x (by simp),rnL_of fun y hy=>h y (List.mem_cons_of_mem _ hy)⟩
theorem may_cases(x:Ex)(h:mayN x=true):(∃ n,x=numE n∧0≤n)∨(∃ t,x=textE t∧V.mtB t=true)∨(∃ b,x=boolE b)∨(∃ e:Nat,x=errE e∧enL e≠[]∧errN (enL e)=e)∨(∃ r:Rf,x=refE r∧mayR r.1 r.2.1 r.2.2.1=true) ∨
  (∃ r q:Rf,x=rangeE r q∧mayR r.1 r.2.1 r.2.2.1=true∧mayR q.1 q.2.1 q.2.2.1=true∧q.1=[])∨(∃ y,x=negE y)∨(∃ o y z,x=binE o y z∧1≤lvl o)∨(∃ t ks,x=callE t ks∧namF t=true∧ks.length≤30):=by
 obtain ⟨k,n,t,b,e,rs,ks⟩:=x;rw [mayN]at h;by_cases h1:k=1
 ·subst h1
  rw [if_pos rfl]at h;simp only [Bool.and_eq_true,bareB,decide_eq_true_eq]at h
  obtain ⟨h0,-,rfl,rfl,rfl,hr,hk⟩:=h;rw [List.eq_nil_of_length_eq_zero hr,List.eq_nil_of_length_eq_zero hk];exact .inl ⟨n,rfl,h0⟩
 rw [if_neg h1]at h;by_cases h2:k=2
 ·subst h2
  rw [if_pos rfl]at h;simp only [Bool.and_eq_true,bareB,decide_eq_true_eq]at h
  obtain ⟨h0,rfl,-,rfl,rfl,hr,hk⟩:=h;rw [List.eq_nil_of_length_eq_zero hr,List.eq_nil_of_length_eq_zero hk];refine .inr (.inl ⟨t,rfl,?_⟩)
  simpa [V.mayB] using h0
 rw [if_neg h2]at h;by_cases h3:k=3
 ·subst h3
  rw [if_pos rfl]at h;simp only [Bool.and_eq_true,bareB,decide_eq_true_eq]at h
  obtain ⟨-,rfl,rfl,-,rfl,hr,hk⟩:=h;rw [List.eq_nil_of_length_eq_zero hr,List.eq_nil_of_length_eq_zero hk];exact .inr (.inr (.inl ⟨b,rfl⟩))
 rw [if_neg h3]at h;by_cases h4:k=4
 ·subst h4
  rw [if_pos rfl]at h;simp only [Bool.and_eq_true,bareB,decide_eq_true_eq]at h
  obtain ⟨h0,rfl,rfl,rfl,-,hr,hk⟩:=h;rw [List.eq_nil_of_length_eq_zero hr,List.eq_nil_of_length_eq_zero hk];have hs:=(sc_err h0).2;refine .inr (.inr (.inr (.inl ⟨errN (enL e),?_,?_,?_⟩)))
  ·unfold errE
   rw [hs]
  ·rw [hs];exact h0
  ·rw [hs]
 rw [if_neg h4]at h;by_cases h5:k=5
 ·subst h5
  rw [if_pos rfl]at h;simp only [Bool.and_eq_true,bareB,decide_eq_true_eq]at h
  obtain ⟨h0,rfl,rfl,rfl,rfl,-,hk⟩:=h;rw [List.eq_nil_of_length_eq_zero hk]
  match rs,h0 with
  |[r],h0=>exact .inr (.inr (.inr (.inr (.inl ⟨r,rfl,h0⟩))))
  |[],h0=>cases h0
  |_::_::_,h0=>cases h0
 rw [if_neg h5]at h;by_cases h6:k=6
 ·subst h6
  rw [if_pos rfl]at h;simp only [Bool.and_eq_true,bareB,decide_eq_true_eq]at h
  obtain ⟨h0,rfl,rfl,rfl,rfl,-,hk⟩:=h;rw [List.eq_nil_of_length_eq_zero hk]
  match rs,h0 with
  |[r,q],h0=>
   unfold rngB at h0
   simp only [Bool.and_eq_true,decide_eq_true_eq]at h0
   exact .inr (.inr (.inr (.inr (.inr (.inl ⟨r,q,rfl,h0.1,h0.2.1,h0.2.2⟩)))))
  |[],h0=>cases h0
  |[_],h0=>cases h0
  |_::_::_::_,h0=>cases h0
 rw [if_neg h6]at h;by_cases h7:k=7
 ·subst h7
  rw [if_pos rfl]at h;simp only [Bool.and_eq_true,bareB,decide_eq_true_eq]at h
  obtain ⟨h0,rfl,rfl,rfl,rfl,hr,-⟩:=h;rw [List.eq_nil_of_length_eq_zero hr]
  match ks,h0 with
  |[y],h0=>exact .inr (.inr (.inr (.inr (.inr (.inr (.inl ⟨y,rfl⟩))))))
  |[],h0=>simp at h0
  |_::_::_,h0=>simp at h0
 rw [if_neg h7]at h;by_cases h8:k=8
 ·subst h8
  rw [if_pos rfl]at h;simp only [Bool.and_eq_true,bareB,decide_eq_true_eq]at h
  obtain ⟨⟨ho,h0⟩,rfl,-,rfl,rfl,hr,-⟩:=h;rw [List.eq_nil_of_length_eq_zero hr]
  match ks,h0 with
  |[y,z],h0=>exact .inr (.inr (.inr (.inr (.inr (.inr (.inr (.inl ⟨t,y,z,rfl,ho⟩)))))))
  |[],h0=>simp at h0
  |[_],h0=>simp at h0
  |_::_::_::_,h0=>simp at h0
 rw [if_neg h8]at h;by_cases h9:k=9
 ·subst h9
  rw [if_pos rfl]at h;simp only [Bool.and_eq_true,bareB,decide_eq_true_eq]at h
  obtain ⟨⟨ho,h0⟩,rfl,-,rfl,rfl,hr,-⟩:=h;rw [List.eq_nil_of_length_eq_zero hr];exact .inr (.inr (.inr (.inr (.inr (.inr (.inr (.inr ⟨t,ks,rfl,ho,h0⟩)))))))
 rw [if_neg h9]at h;cases h
theorem sg_bin{o:List UInt8}(h:1≤lvl o):sgE 8 o=lvl o:=by
 rcases lvl_cases h with rfl|rfl|rfl|rfl|rfl|rfl|rfl|rfl|rfl|rfl|rfl <;> decide
theorem sg_not{x:Ex}(h:x.k≠8):sgE x.k x.t=5:=by unfold sgE;rw [if_pos h]
def Told(x:Ex):Prop:=∃ ws,Sc (fmE x) ws∧(x.k=8→1≤lvl x.t∧RdTo EE x ws (lvl x.t))∧(x.k≠8→Reads EE x ws)
theorem Told.leaf{x:Ex}{ws:Ws}(h:x.k≠8)(hs:Sc (fmE x) ws)(hr:Reads EE x ws):Told x:=⟨ws,hs,fun e=>absurd e h,fun _=>hr⟩
theorem Told.any{x:Ex}(h:Told x):∃ ws n,1≤n∧Sc (fmE x) ws∧RdTo EE x ws n:=by
 obtain ⟨ws,h1,h2,h3⟩:=h;by_cases e:x.k=8
 ·exact ⟨ws,_,(h2 e).1,h1,(h2 e).2⟩
 ·exact ⟨ws,5,by omega,h1,(h3 e).to⟩
theorem Told.side{x:Ex}(h:Told x){n:Nat}(hn:n≤5):∃ ws m,n≤m∧Sc (brk (decide (sgE x.k x.t<n)) (fmE x)) ws∧RdTo EE x ws m:=by
 obtain ⟨ws,h1,h2,h3⟩:=h;by_cases e:x.k=8
 ·obtain ⟨g1,g2⟩:=h2 e
  have es:sgE x.k x.t=lvl x.t:=by rw [e];exact sg_bin g1
  rw [es];by_cases hb:lvl x.t<n
  ·rw [decide_eq_true hb]
   exact ⟨_,5,hn,sc_brk h1,(reads_brk g2 g1).to⟩
  ·rw [decide_eq_false hb]
   exact ⟨ws,_,by omega,h1,g2⟩
 ·rw [sg_not e,decide_eq_false (by omega)]
  exact ⟨ws,5,hn,h1,(h3 e).to⟩
theorem Told.neg{x:Ex}(h:Told x):∃ ws,Sc (brk (decide (x.k=8)) (fmE x)) ws∧Reads EE x ws:=by
 obtain ⟨ws,h1,h2,h3⟩:=h;by_cases e:x.k=8
 ·obtain ⟨g1,g2⟩:=h2 e
  rw [decide_eq_true e]
  exact ⟨_,sc_brk h1,reads_brk g2 g1⟩
 ·rw [decide_eq_false e]
  exact ⟨ws,h1,h3 e⟩
theorem told_args:∀ (ks:List Ex),(∀ y∈ks,Told y)→∃ ps:List (Ex × Ws),ps.map (·.1)=ks∧(∀ p∈ps,∃ n,1≤n∧RdTo EE p.1 p.2 n)∧(∀ p∈ps,Sc (fmE p.1) p.2)
 |[],_=>⟨[],rfl,by simp,by simp⟩
 |x::ks,h=>by
  obtain ⟨ps,e,h1,h2⟩:=told_args ks (fun y hy=>h y (List.mem_cons_of_mem _ hy))
  obtain ⟨ws,n,hn,g1,g2⟩:=(h x (by simp)).any
  refine ⟨(x,ws)::ps,by simp [e],?_,?_⟩
  ·intro p hp
   rcases List.mem_cons.1 hp with rfl|hp
   ·exact ⟨n,hn,g2⟩
   ·exact h1 p hp
  ·intro p hp
   rcases List.mem_cons.1 hp with rfl|hp
   ·exact g1
   ·exact h2 p hp
theorem told_call{t:List UInt8}{ks:List Ex}(hn:namF t=true)(hl:ks.length≤30)(h:∀ y∈ks,Told y):Told (callE t ks):=by
 have hf:=nam_facts hn;cases ks with
 |nil=>
  refine Told.leaf (x:=callE t []) (by simp [callE]) ?_ (reads_call0 hf.2.2 hn)
  rw [fm_call];exact sc_call0 hn
 |cons y ks=>
  obtain ⟨ps,e,h1,h2⟩:=told_args (y::ks) h;have h0:ps≠[]:=by rintro rfl;cases e
  have hsc:=sc_args (ps.map fun p=>(fmE p.1,p.2)) (by simpa using h0) (by
   intro q hq
   obtain ⟨p,hp,rfl⟩:=List.mem_map.1 hq;exact h2 p hp)
  simp only [List.map_map]at hsc
  have e1:(ps.map ((fun x:List UInt8 × Ws=>x.1) ∘ fun p:Ex × Ws=>(fmE p.1,p.2)))=(y::ks).map fmE:=by
   rw [←e,List.map_map]
   rfl
  have e2:(ps.map ((fun x:List UInt8 × Ws=>x.2) ∘ fun p:Ex × Ws=>(fmE p.1,p.2)))=ps.map (·.2):=rfl
  rw [e1,e2]at hsc;have hr:=reads_call hf.2.2 hn ps h0 (by have:=congrArg List.length e;simp at this hl;omega) hsc.hw h1
  rw [e]at hr;refine Told.leaf (by simp [callE]) ?_ hr
  rw [fm_call];exact sc_call hn hsc
theorem mall_kids{k n:Int}{t:List UInt8}{b:Bool}{e:Int}{rs:List Rf}{ks:List Ex}(h:mall mayN (.mk k n t b e rs ks)=true):mayN (.mk k n t b e rs ks)=true∧∀ y∈ks,mall mayN y=true:=by
 rw [mall,mallL_all]at h;simp only [Bool.and_eq_true,List.all_eq_true]at h
 exact h
theorem nodes_lt{ks:List Ex}{y:Ex}(h:y∈ks):nodes y≤nodes.nodesL ks:=by
 induction ks with
 |nil=>cases h
 |cons x xs ih=>
  rw [nodes.nodesL]
  rcases List.mem_cons.1 h with rfl|h
  ·omega
  ·have:=ih h
   omega
theorem told_all:∀ (m:Nat) (x:Ex),nodes x≤m→mall mayN x=true→Rn x→Told x:=by
 intro m
 induction m with
 |zero=>
  intro x h
  obtain ⟨k,n,t,b,e,rs,ks⟩:=x;rw [nodes]at h;omega
 |succ m ih=>
  intro x hm hx hr
  obtain ⟨hn,hk⟩:mayN x=true∧∀ y∈x.ks,mall mayN y=true:=by
   obtain ⟨k,n,t,b,e,rs,ks⟩:=x;exact mall_kids hx
  have hkr:∀ y∈x.ks,Rn y:=by
   obtain ⟨k,n,t,b,e,rs,ks⟩:=x;rw [Rn]at hr;exact rn_kid hr.2
  have hkm:∀ y∈x.ks,nodes y≤m:=by
   obtain ⟨k,n,t,b,e,rs,ks⟩:=x;rw [nodes]at hm;intro y hy
   have:=nodes_lt (show y∈ks from hy)
   omega
  have IH:∀ y∈x.ks,Told y:=fun y hy=>ih y (hkm y hy) (hk y hy) (hkr y hy)
  rcases may_cases x hn with ⟨n,rfl,h0⟩|⟨t,rfl,h0⟩|⟨b,rfl⟩|⟨e,rfl,h0,h1⟩|⟨r,rfl,h0⟩|⟨r,q,rfl,h0,h1,h2⟩|⟨y,rfl⟩|⟨o,y,z,rfl,h0⟩|⟨t,ks,rfl,h0,h1⟩
  ·have hn':n≤9223372036854775807:=by unfold numE at hr;rw [Rn]at hr;exact hr.1
   have hs:=sc_num h0 hn';refine Told.leaf (by simp [numE]) (by rw [fm_num];exact hs.1) ?_
   have:=reads_num (E:=EE) hs.2.1
   rw [hs.2.2]at this;exact this
  ·exact Told.leaf (by simp [textE]) (by rw [fm_text];exact sc_text h0) (reads_text t)
  ·refine Told.leaf (by simp [boolE]) (by rw [fm_bool];exact sc_bool b) ?_
   have:=reads_bool (E:=EE) (t:=if b then truW else flsW) (by cases b <;> simp)
   have e:decide ((if b then truW else flsW)=truW)=b:=by cases b <;> decide
   rw [e]at this;exact this
  ·refine Told.leaf (by simp [errE]) (by rw [fm_err];exact (sc_err h0).1) ?_
   have:=reads_err (E:=EE) (enL e)
   rw [show EE.err (enL e)=e from h1]at this
   exact this
  ·have hs:=sc_ref h0
   refine Told.leaf (by simp [refE]) (by rw [fm_ref];exact hs.1) ?_
   have:=reads_ref (E:=EE) hs.2.1
   rw [hs.2.2.1]at this;exact this
  ·have hs:=sc_ref h0
   have hs':=sc_ref h1;refine Told.leaf (by simp [rangeE]) (by rw [fm_range];exact sc_range h0 h1) ?_
   have:=reads_range (E:=EE) hs.2.1 hs'.2.1 (by rw [hs'.2.2.1];exact h2)
   rw [hs.2.2.1,hs'.2.2.1]at this;exact this
  ·obtain ⟨ws,g1,g2⟩:=(IH y (by simp [negE])).neg
   exact Told.leaf (by simp [negE]) (by rw [fm_neg];exact sc_neg g1) (reads_neg g2)
  ·have hl:=lvl_le o
   obtain ⟨wy,my,g1,g2,g3⟩:=(IH y (by simp [binE])).side (n:=lvl o) (by omega)
   obtain ⟨wz,mz,k1,k2,k3⟩:=(IH z (by simp [binE])).side (n:=lvl o+1) (by omega)
   refine ⟨_,?_,fun _=>⟨h0,rdto_bin h0 g3 g1 k3 k1⟩,fun e=>absurd rfl e⟩
   rw [fm_bin,sg_bin h0];have e:decide (sgE z.k z.t≤lvl o)=decide (sgE z.k z.t<lvl o+1):=decide_eq_decide.2 (by omega)
   rw [e];exact sc_bin h0 g2 k2
  ·exact told_call h0 h1 (fun y hy=>IH y hy)
theorem fm_read{x:Ex}(hm:mall mayN x=true)(hr:Rn x)(hl:(fmE x).length≤1000):∃ L f j,scanL (fmE x)=(some L,0)∧ptF EE L f 1 0=some (some (x,j))∧kAt L j=7:=by
 obtain ⟨ws,n,hn,h1,f,h2⟩:=(told_all (nodes x) x (Nat.le_refl _) hm hr).any;have h3:=h1.sc [] [] nx_nil scan_nil;rw [List.append_nil,List.append_nil]at h3;obtain ⟨L,h4,h5⟩:=scan_l h3 hl;have h6:Wds L 0 (L.map fun w=>(w.k,w.t)):=wds_map (L:=L) L [] rfl
 rw [h5]at h6;obtain ⟨h6,h7,-⟩:=h6.app;have s:stg L (0+ws.length)=0:=by unfold stg;rw [if_neg (by rw [h7.2.1];simp)]
 have q:=h2 L 0 1 (Nat.le_refl _) hn h6 (by rw [isW_of h7];simp) (by omega) 1 _ (rd_stop (E:=EE) (x:=x) (show stg L (0+ws.length)<1 by omega))
 exact ⟨L,f+1,_,h4,q,h7.2.1⟩
end Go.Proofs.YtgheopdadfnilaaGreatDoor
namespace Go.Proofs.YtgheopdadfnilaaGreatDoor
theorem ix_nil:Lib.index [] [34]=-1:=by decide
theorem ix_hit(r:List UInt8):Lib.index (34::r) [34]=((0:Nat):Int):=by rw [Lib.index];simp
theorem ix_past{c:UInt8}(r:List UInt8)(h:c≠34):Lib.index (c::r) [34]=if Lib.index r [34]=-1 then -1 else Lib.index r [34]+1:=by
 rw [Lib.index];have e:List.isPrefixOf [34] (c::r)=false:=by
  show ((34:UInt8) == c&&List.isPrefixOf [] r)=false
  rw [beq_eq_false_iff_ne.2 (Ne.symm h)]
  rfl
 simp [e]
theorem rk_none{t:List UInt8}(h:Lib.index t [34]=-1)(k:Nat):Lib.replaceK [34] [34,34] k t=t:=by
 cases k with
 |zero=>rfl
 |succ k=>rw [Lib.replaceK,h];rfl
theorem rk_dbl:∀ (t:List UInt8) (k:Nat),Lib.count t [34]≤k→Lib.replaceK [34] [34,34] k t=dbl t
 |[],k,_=>by rw [rk_none ix_nil];rfl
 |c::r,k,hk=>by
  rw [dbl];by_cases h:c=34
  ·subst h
   rw [if_pos rfl];have hc:=Lib.count_hit (s:=34::r) (sub:=[34]) (by simp) (ix_hit r)
   rw [show (34::r).drop (0+[(34:UInt8)].length)=r from rfl]at hc
   obtain ⟨k',rfl⟩:∃ k',k=k'+1:=⟨k-1,by omega⟩
   rw [Lib.replaceK_hit [34] [34,34] k' (34::r) 0 (ix_hit r)];have:=rk_dbl r k' (by omega)
   simp only [List.take_zero,List.nil_append,List.length_cons,List.length_nil,Nat.zero_add,List.drop_succ_cons,List.drop_zero,this]
   rfl
  ·rw [if_neg h]
   have hi:=ix_past r h
   rcases Lib.index_spec r [34] with ⟨e,-⟩|⟨i,e,-,-,-⟩
   ·rw [if_pos e]at hi
    rw [rk_none hi,←rk_dbl r _ (Nat.le_refl _),rk_none e]
   ·rw [if_neg (by omega),e]at hi
    have hi':Lib.index (c::r) [34]=((i+1:Nat):Int):=by omega
    have c1:=Lib.count_hit (s:=c::r) (sub:=[34]) (by simp) hi'
    have c2:=Lib.count_hit (s:=r) (sub:=[34]) (by simp) e
    rw [show (c::r).drop (i+1+[(34:UInt8)].length)=r.drop (i+[(34:UInt8)].length) from rfl]at c1
    obtain ⟨k',rfl⟩:∃ k',k=k'+1:=⟨k-1,by omega⟩
    have ih:=rk_dbl r (k'+1) (by omega)
    rw [Lib.replaceK_hit [34] [34,34] k' r i e]at ih;rw [Lib.replaceK_hit [34] [34,34] k' (c::r) (i+1) hi'];rw [show (c::r).drop (i+1+[(34:UInt8)].length)=r.drop (i+[(34:UInt8)].length) from rfl,List.take_succ_cons,←ih]
    rfl
theorem replace_dbl(t:List UInt8):Lib.replaceAll t [34] [34,34]=dbl t:=by
 unfold Lib.replaceAll Lib.replace Lib.replaceNum
 rw [if_neg (by decide),if_pos (.inl (by omega))]
 exact rk_dbl t _ (Nat.le_refl _)
theorem dbl_len(t:List UInt8):(dbl t).length≤2*t.length:=by
 induction t with
 |nil=>simp [dbl]
 |cons c t ih=>
  rw [dbl]
  split
  ·simp only [List.length_cons];omega
  ·simp only [List.length_cons];omega
end Go.Proofs.YtgheopdadfnilaaGreatDoor
namespace Go.Proofs
open Go.Shelf
def Tryz.lays162_ren:Go.Shelf.Ren:=⟨fun|162=>169|232=>188|227=>189|234=>190|236=>191|228=>199|271=>200|151=>201|120=>204|197=>132|152=>205|260=>155|137=>206|119=>207|224=>173|225=>172|217=>171|266=>192|n=>n,fun|9=>9|4=>4|3=>3|5=>5|117=>201|116=>200|0=>0|124=>204|21=>21|105=>158|46=>151|119=>171|139=>174|138=>173|n=>n,fun|3=>1|4=>2|n=>n⟩
theorem Tryz.lays162:Go.Proofs.Lays.n162 Tryz.prog Tryz.lays162_ren:={
 mixed:=by kernel_rfl
 f119:=Tryz.func207.trans (congrArg some (by kernel_rfl))
 f120:=Tryz.func204.trans (congrArg some (by kernel_rfl))
 f137:=Tryz.func206.trans (congrArg some (by kernel_rfl))
 f151:=Tryz.func201.trans (congrArg some (by kernel_rfl))
 f152:=Tryz.func205.trans (congrArg some (by kernel_rfl))
 f162:=Tryz.func169.trans (congrArg some (by kernel_rfl))
 f197:=Tryz.func132.trans (congrArg some (by kernel_rfl))
 f217:=Tryz.func171.trans (congrArg some (by kernel_rfl))
 f224:=Tryz.func173.trans (congrArg some (by kernel_rfl))
 f225:=Tryz.func172.trans (congrArg some (by kernel_rfl))
 f227:=Tryz.func189.trans (congrArg some (by kernel_rfl))
 f228:=Tryz.func199.trans (congrArg some (by kernel_rfl))
 f232:=Tryz.func188.trans (congrArg some (by kernel_rfl))
 f234:=Tryz.func190.trans (congrArg some (by kernel_rfl))
 f236:=Tryz.func191.trans (congrArg some (by kernel_rfl))
 f260:=Tryz.func155.trans (congrArg some (by kernel_rfl))
 f266:=Tryz.func192.trans (congrArg some (by kernel_rfl))
 f271:=Tryz.func200.trans (congrArg some (by kernel_rfl))
 t0:=Tryz.underlying0
 a0:=Tryz.isAgg0
 z0:=Tryz.sizeOf0
 v0:=Tryz.zeroValue0
 t3:=Tryz.underlying3
 a3:=Tryz.isAgg3
 z3:=Tryz.sizeOf3
 v3:=Tryz.zeroValue3
 t4:=Tryz.underlying4
 a4:=Tryz.isAgg4
 z4:=Tryz.sizeOf4
 v4:=Tryz.zeroValue4
 t5:=Tryz.underlying5
 a5:=Tryz.isAgg5
 z5:=Tryz.sizeOf5
 v5:=Tryz.zeroValue5
 t9:=Tryz.underlying9
 a9:=Tryz.isAgg9
 z9:=Tryz.sizeOf9
 v9:=Tryz.zeroValue9
 t21:=Tryz.underlying21
 a21:=Tryz.isAgg21
 z21:=Tryz.sizeOf21
 v21:=Tryz.zeroValue21
 t46:=Tryz.underlying151
 a46:=Tryz.isAgg151
 z46:=Tryz.sizeOf151
 v46:=Tryz.zeroValue151
 t105:=Tryz.underlying158
 a105:=Tryz.isAgg158
 z105:=Tryz.sizeOf158
 v105:=Tryz.zeroValue158
 t116:=Tryz.underlying200
 a116:=Tryz.isAgg200
 z116:=Tryz.sizeOf200
 t117:=Tryz.underlying201
 a117:=Tryz.isAgg201
 z117:=Tryz.sizeOf201
 v117:=Tryz.zeroValue201
 t119:=Tryz.underlying171
 a119:=Tryz.isAgg171
 z119:=Tryz.sizeOf171
 t124:=Tryz.underlying204
 a124:=Tryz.isAgg204
 z124:=Tryz.sizeOf204
 v124:=Tryz.zeroValue204
 t138:=Tryz.underlying173
 a138:=Tryz.isAgg173
 z138:=Tryz.sizeOf173
 v138:=Tryz.zeroValue173
 t139:=Tryz.underlying174
 a139:=Tryz.isAgg174
 z139:=Tryz.sizeOf174
 v139:=Tryz.zeroValue174
 g3:=by kernel_rfl
 g4:=by kernel_rfl }
open Go.RowKit in
theorem Tryz.strings_TrimRight_one(s:ByteArray)(c:UInt8)(hc:c.toNat<128)(w:World)(hs:s.size≤9223372036854775807) :
  Calls Tryz.prog 169 #[.string s,.string ⟨#[c]⟩] w fun e w'=>e=.returned (.string ⟨(Lib.trimRightB s.data.toList c).toArray⟩)∧w'=w:=Any.strings_TrimRight_one Tryz.lays162 s c hc w hs
def Tryz.lays285_ren:Go.Shelf.Ren:=⟨fun|285=>159|n=>n,fun|37=>52|53=>98|3=>3|4=>4|51=>189|9=>9|5=>5|0=>0|n=>n,fun|n=>n⟩
theorem Tryz.lays285:Go.Proofs.Lays.n285 Tryz.prog Tryz.lays285_ren:={
 mixed:=by kernel_rfl
 f285:=Tryz.func159.trans (congrArg some (by kernel_rfl))
 t0:=Tryz.underlying0
 a0:=Tryz.isAgg0
 z0:=Tryz.sizeOf0
 v0:=Tryz.zeroValue0
 t3:=Tryz.underlying3
 a3:=Tryz.isAgg3
 z3:=Tryz.sizeOf3
 v3:=Tryz.zeroValue3
 t4:=Tryz.underlying4
 a4:=Tryz.isAgg4
 z4:=Tryz.sizeOf4
 v4:=Tryz.zeroValue4
 t5:=Tryz.underlying5
 a5:=Tryz.isAgg5
 z5:=Tryz.sizeOf5
 v5:=Tryz.zeroValue5
 t9:=Tryz.underlying9
 a9:=Tryz.isAgg9
 z9:=Tryz.sizeOf9
 v9:=Tryz.zeroValue9
 t37:=Tryz.underlying52
 a37:=Tryz.isAgg52
 z37:=Tryz.sizeOf52
 v37:=Tryz.zeroValue52
 t51:=Tryz.underlying189
 a51:=Tryz.isAgg189
 z51:=Tryz.sizeOf189
 v51:=Tryz.zeroValue189
 t53:=Tryz.underlying98
 a53:=Tryz.isAgg98
 z53:=Tryz.sizeOf98
 v53:=Tryz.zeroValue98 }
open Go.RowKit Go.Sort Go.Lib in
theorem Tryz.internal_strconv_formatBase10(blk off cap:Nat)(u:Nat)(d:Array UInt8)(w:World)(hH:Holds (fun (b:UInt8)=>Value.int .u8 (b.toNat:Int)) w blk off d)(hu:u<10 ^ d.size)(hu64:u<18446744073709551616)(hsz:d.size<4611686018427387904) :
  Calls Tryz.prog 159 #[.slice (some ⟨blk,off,none⟩) d.size cap,.int .u64 u] w fun e w'=>
   e=.returned (.tuple #[])∧∃ (n v':Nat) (dk:Array UInt8),w'=(putRow (fun (b:UInt8)=>Value.int .u8 (b.toNat:Int)) w blk off dk).drewN n∧FmtInv d.size u 0 v' dk:=Any.internal_strconv_formatBase10 Tryz.lays285 blk off cap u d w hH hu hu64 hsz
def Tryz.lays155_ren:Go.Shelf.Ren:=⟨fun|155=>59|154=>95|138=>129|165=>130|143=>131|166=>58|197=>132|169=>29|195=>151|218=>152|240=>94|241=>153|219=>154|260=>155|276=>128|277=>170|217=>171|225=>172|224=>173|267=>174|266=>192|314=>193|n=>n,fun|9=>9|3=>3|4=>4|72=>54|0=>0|76=>90|105=>158|21=>21|5=>5|70=>51|20=>20|37=>52|75=>89|127=>95|164=>154|46=>151|119=>171|139=>174|138=>173|146=>205|51=>189|80=>56|n=>n,fun|1=>3|3=>1|4=>2|n=>n⟩
theorem Tryz.lays155:Go.Proofs.Lays.n155 Tryz.prog Tryz.lays155_ren:={
 mixed:=by kernel_rfl
 f138:=Tryz.func129.trans (congrArg some (by kernel_rfl))
 f143:=Tryz.func131.trans (congrArg some (by kernel_rfl))
 f154:=Tryz.func95.trans (congrArg some (by kernel_rfl))
 f155:=Tryz.func59.trans (congrArg some (by kernel_rfl))
 f165:=Tryz.func130.trans (congrArg some (by kernel_rfl))
 f166:=Tryz.func58.trans (congrArg some (by kernel_rfl))
 f169:=Tryz.func29.trans (congrArg some (by kernel_rfl))
 f195:=Tryz.func151.trans (congrArg some (by kernel_rfl))
 f197:=Tryz.func132.trans (congrArg some (by kernel_rfl))
 f217:=Tryz.func171.trans (congrArg some (by kernel_rfl))
 f218:=Tryz.func152.trans (congrArg some (by kernel_rfl))
 f219:=Tryz.func154.trans (congrArg some (by kernel_rfl))
 f224:=Tryz.func173.trans (congrArg some (by kernel_rfl))
 f225:=Tryz.func172.trans (congrArg some (by kernel_rfl))
 f240:=Tryz.func94.trans (congrArg some (by kernel_rfl))
 f241:=Tryz.func153.trans (congrArg some (by kernel_rfl))
 f260:=Tryz.func155.trans (congrArg some (by kernel_rfl))
 f266:=Tryz.func192.trans (congrArg some (by kernel_rfl))
 f267:=Tryz.func174.trans (congrArg some (by kernel_rfl))
 f276:=Tryz.func128.trans (congrArg some (by kernel_rfl))
 f277:=Tryz.func170.trans (congrArg some (by kernel_rfl))
 f314:=Tryz.func193.trans (congrArg some (by kernel_rfl))
 t0:=Tryz.underlying0
 a0:=Tryz.isAgg0
 z0:=Tryz.sizeOf0
 v0:=Tryz.zeroValue0
 t3:=Tryz.underlying3
 a3:=Tryz.isAgg3
 z3:=Tryz.sizeOf3
 v3:=Tryz.zeroValue3
 t4:=Tryz.underlying4
 a4:=Tryz.isAgg4
 z4:=Tryz.sizeOf4
 v4:=Tryz.zeroValue4
 t5:=Tryz.underlying5
 a5:=Tryz.isAgg5
 z5:=Tryz.sizeOf5
 v5:=Tryz.zeroValue5
 t9:=Tryz.underlying9
 a9:=Tryz.isAgg9
 z9:=Tryz.sizeOf9
 v9:=Tryz.zeroValue9
 t20:=Tryz.underlying20
 a20:=Tryz.isAgg20
 z20:=Tryz.sizeOf20
 v20:=Tryz.zeroValue20
 t21:=Tryz.underlying21
 a21:=Tryz.isAgg21
 z21:=Tryz.sizeOf21
 v21:=Tryz.zeroValue21
 t37:=Tryz.underlying52
 a37:=Tryz.isAgg52
 z37:=Tryz.sizeOf52
 v37:=Tryz.zeroValue52
 t46:=Tryz.underlying151
 a46:=Tryz.isAgg151
 z46:=Tryz.sizeOf151
 v46:=Tryz.zeroValue151
 t51:=Tryz.underlying189
 a51:=Tryz.isAgg189
 z51:=Tryz.sizeOf189
 v51:=Tryz.zeroValue189
 t70:=Tryz.underlying51
 a70:=Tryz.isAgg51
 z70:=Tryz.sizeOf51
 v70:=Tryz.zeroValue51
 t72:=Tryz.underlying54
 a72:=Tryz.isAgg54
 z72:=Tryz.sizeOf54
 v72:=Tryz.zeroValue54
 t75:=Tryz.underlying89
 a75:=Tryz.isAgg89
 z75:=Tryz.sizeOf89
 v75:=Tryz.zeroValue89
 t76:=Tryz.underlying90
 a76:=Tryz.isAgg90
 z76:=Tryz.sizeOf90
 v76:=Tryz.zeroValue90
 t105:=Tryz.underlying158
 a105:=Tryz.isAgg158
 z105:=Tryz.sizeOf158
 v105:=Tryz.zeroValue158
 t119:=Tryz.underlying171
 a119:=Tryz.isAgg171
 z119:=Tryz.sizeOf171
 t127:=Tryz.underlying95
 a127:=Tryz.isAgg95
 z127:=Tryz.sizeOf95
 v127:=Tryz.zeroValue95
 t138:=Tryz.underlying173
 a138:=Tryz.isAgg173
 z138:=Tryz.sizeOf173
 v138:=Tryz.zeroValue173
 t139:=Tryz.underlying174
 a139:=Tryz.isAgg174
 z139:=Tryz.sizeOf174
 v139:=Tryz.zeroValue174
 t146:=Tryz.underlying205
 a146:=Tryz.isAgg205
 z146:=Tryz.sizeOf205
 v146:=Tryz.zeroValue205
 t164:=Tryz.underlying154
 a164:=Tryz.isAgg154
 z164:=Tryz.sizeOf154
 v164:=Tryz.zeroValue154
 g1:=by kernel_rfl
 g3:=by kernel_rfl
 g4:=by kernel_rfl }
theorem Tryz.Builder_Extra_155:Builder.Extra Tryz.prog Tryz.lays155_ren:={
 sizeBuilder:=by kernel_rfl
 liesBuilder:=by kernel_rfl
 t5:=Tryz.underlying5
 a5:=Tryz.isAgg5
 z5:=Tryz.sizeOf5
 v5:=Tryz.zeroValue5
 infoByte:=by kernel_rfl
 cellsByte:=by kernel_rfl
 sizeByte:=by kernel_rfl
 neB5:=by decide }
open Go.RowKit Go.Lib in
theorem Tryz.strings_ReplaceAll(s old new:ByteArray)(m:Int)(w:World)(hs:s.size<4294967281)(hm:w.cell? ⟨3,0,none⟩=some (.int .i64 m))(h1:1≤old.size)(hlen:s.size+Lib.countB s old*new.size≤140737488355328) :
  Calls Tryz.prog 59 #[.string s,.string old,.string new] w fun e w'=>
   e=.returned (.string ⟨(Lib.replaceAll s.data.toList old.data.toList new.data.toList).toArray⟩)∧Below w.heap.size w w':=Any.strings_ReplaceAll Tryz.lays155 Tryz.Builder_Extra_155 s old new m w hs hm h1 hlen
end Go.Proofs
namespace Go.Proofs.YtgheopdadfnilaaGreatDoor
open Go.RowKit Go.Sort
theorem size_any(a:Int)(w:World)(h:V.fitB a=true) :
  Calls Tryz.prog 147 #[.int .i64 a] w fun e w'=>e=.returned (.int .u64 (a.natAbs:Int))∧w'=w:=by
 obtain ⟨h0,h1⟩:=of_decide_eq_true h;clear h;by_cases hn:a<0
 ·have H:Hid (-(a+1)+1=(a.natAbs:Int)):=by show -(a+1)+1=(a.natAbs:Int);omega
  go_enter Tryz.func147,Tryz.ntmps147
  go_wp2
  go_ret
  exact ⟨ret_int H.out,rfl⟩
 ·have H:Hid (a=(a.natAbs:Int)):=by show a=(a.natAbs:Int);omega
  go_enter Tryz.func147,Tryz.ntmps147
  go_wp2
  go_ret
  exact ⟨ret_int H.out,rfl⟩
theorem holds_zero0(w:World)(nd:Nat)(hs:nd≤24):Holds (fun (b:UInt8)=>Value.int .u8 (b.toNat:Int)) (w.alloc (.cells Lib.zeros24 179)) w.heap.size 0 (Array.replicate nd (0:UInt8)):=fun j hj=>by
 have hj':j<nd:=by simpa using hj
 refine ⟨?_,World.frozen?_alloc_new _ _ _ _⟩
 rw [World.cell?_alloc_new,Lib.zeros24_at _ (by omega),getElem!_pos _ j hj]
 simp
theorem q_putRow(w:World)(o:Obj)(dk:Array UInt8)(k:Nat):Q w ((putRow (fun (b:UInt8)=>Value.int .u8 (b.toNat:Int)) (w.alloc o) w.heap.size 0 dk).drewN k):=by
 rw [alloc_eq_grow];obtain ⟨os',_,e⟩:=putRow_grow_new (fun (b:UInt8)=>Value.int .u8 (b.toNat:Int)) w #[o] w.heap.size 0 dk (Nat.le_refl _)
 rw [e];refine Q.drewN ?_ k
 refine ⟨rfl,rfl,rfl,by simp [grow],fun i hi=>?_⟩
 show (w.heap++os')[i]?=w.heap[i]?
 rw [Array.getElem?_append_left hi]
theorem ffmt_small(u:Nat)(w:World)(hu:u<100) :
  Calls Tryz.prog 168 #[.int .u64 (u:Int),.int .i64 10] w fun e w'=>e=.returned (.string ⟨(Lib.decDigits u).toArray⟩)∧Q w w':=by
 go_enter Tryz.func168,Tryz.ntmps168
 go_wp2_with (go_at_call 157;refine (Tryz.internal_strconv_small u hu _).mono ?_;rintro e w' ⟨rfl,rfl⟩)
 go_ret
 exact ⟨rfl,Q.refl _⟩
theorem ffmt_big(u:Nat)(w:World)(hs:Gd w)(hu:100≤u)(hu64:u<18446744073709551616) :
  Calls Tryz.prog 168 #[.int .u64 (u:Int),.int .i64 10] w fun e w'=>e=.returned (.string ⟨(Lib.decDigits u).toArray⟩)∧Q w w':=by
 have hu1:1≤u:=by omega
 have hnd20:Lib.nDigits u≤20:=by have:=Lib.numDigits_eq u hu1 hu64;split at this <;> omega
 have hal:Tryz.prog.arrayLen 179=24:=by kernel_rfl
 have hsl1:∀ W,(Instr.sliceAt 179 (.pointer (some ⟨w.heap.size,0,none⟩)) none (some (.int .i64 (Lib.nDigits u:Int))) none).run Tryz.prog W=.ok (.slice (some ⟨w.heap.size,0,none⟩) (Lib.nDigits u) 24) W:=fun W=>by
  rw [run_sliceAt_array_h W 179 ⟨w.heap.size,0,none⟩ (by kernel_rfl) .i64 (Lib.nDigits u:Int) (by omega) (by rw [hal];omega)]
  go_simp
 have hH0:=holds_zero0 w (Lib.nDigits u) (by omega)
 have hfmt:=Tryz.internal_strconv_formatBase10 w.heap.size 0 24 u (Array.replicate (Lib.nDigits u) 0) (w.alloc (.cells Lib.zeros24 179)) hH0 (by rw [Array.size_replicate];exact Lib.lt_pow_nDigits u) hu64 (by rw [Array.size_replicate];omega)
 rw [Array.size_replicate]at hfmt;have HH0:=hid hH0;have HT:=hid (hs.2 w (Q.refl w));have HF:=hid hfmt;clear hH0 hal hs hfmt;go_enter Tryz.func168,Tryz.ntmps168
 go_wp2_with (first|(go_at_call 158;refine (Tryz.internal_strconv_numDigits u hu1 hu64 _ (Lib.tabIs_alloc HT.out _)).mono ?_;rintro e w' ⟨rfl,rfl⟩))
 refine HF.out.mono ?_
 rintro e w' ⟨rfl,k,v',dk,rfl,hF⟩
 have hcv:(convert 52 9 (.slice (some ⟨w.heap.size,0,none⟩) (Lib.nDigits u) 24)).run Tryz.prog ((putRow (fun (b:UInt8)=>Value.int .u8 (b.toNat:Int)) (w.alloc (.cells Lib.zeros24 179)) w.heap.size 0 dk).drewN k)=.ok (.string ⟨(Lib.decDigits u).toArray⟩) ((putRow (fun (b:UInt8)=>Value.int .u8 (b.toNat:Int)) (w.alloc (.cells Lib.zeros24 179)) w.heap.size 0 dk).drewN k):=by
  have h:=run_convert_bytes_back (P:=Tryz.prog) ((putRow (fun (b:UInt8)=>Value.int .u8 (b.toNat:Int)) (w.alloc (.cells Lib.zeros24 179)) w.heap.size 0 dk).drewN k) 52 9 5 ⟨w.heap.size,0,none⟩ 24 (Lib.decDigits u) Tryz.underlying52 Tryz.underlying5 Tryz.underlying9 (fun j hj=>by
   rw [Lib.row_is_numeral hF j hj,Lib.add_plain,World.cell?_drewN];exact cell?_putRow (fun (b:UInt8)=>Value.int .u8 (b.toNat:Int)) _ w.heap.size 0 _ dk HH0.out (by rw [hF.size,Array.size_replicate]) j (by rw [hF.size];rw [Lib.decDigits_length]at hj;exact hj))
  rw [Lib.decDigits_length]at h;exact h
 go_wp2
 go_ret
 exact ⟨rfl,q_putRow w _ dk k⟩
theorem ffmt_any(u:Nat)(w:World)(hs:Gd w)(hu64:u<18446744073709551616) :
  Calls Tryz.prog 168 #[.int .u64 (u:Int),.int .i64 10] w fun e w'=>e=.returned (.string ⟨(Lib.decDigits u).toArray⟩)∧Q w w':=by
 by_cases h:u<100
 ·exact ffmt_small u w h
 ·exact ffmt_big u w hs (by omega) hu64
theorem ffmtUint_any(u:Nat)(w:World)(hs:Gd w)(hu64:u<18446744073709551616) :
  Calls Tryz.prog 148 #[.int .u64 (u:Int),.int .i64 10] w fun e w'=>e=.returned (.string ⟨(Lib.decDigits u).toArray⟩)∧Q w w':=by
 go_enter Tryz.func148,Tryz.ntmps148
 go_wp2_with (go_at_call 168;refine (ffmt_any u _ hs hu64).mono ?_;rintro e w' ⟨rfl,hq⟩)
 go_ret
 exact ⟨rfl,hq⟩
theorem trim_le(l:List UInt8)(c:UInt8):(Lib.trimRightB l c).length≤l.length:=by
 unfold Lib.trimRightB
 rw [List.length_reverse];have:=(List.dropWhile_sublist (l:=l.reverse) (fun x=>x == c)).length_le
 rw [List.length_reverse]at this;exact this
theorem fpart_zero(w:World) :
  Calls Tryz.prog 149 #[.int .u64 0] w fun e w'=>e=.returned (.string ⟨(V.partL 0).toArray⟩)∧Q w w':=by
 go_enter Tryz.func149,Tryz.ntmps149
 go_wp2
 go_ret
 exact ⟨rfl,Q.refl _⟩
theorem fpart_some(r:Nat)(w:World)(hs:Gd w)(h0:0<r)(h1:r<10000) :
  Calls Tryz.prog 149 #[.int .u64 (r:Int)] w fun e w'=>e=.returned (.string ⟨(V.partL r).toArray⟩)∧Q w w':=by
 have hz:((r:Int) == 0)=false:=beq_eq_false_iff_ne.2 (by omega)
 have HP:Hid (V.partL r=46::Lib.trimRightB ((Lib.decDigits (10000+r)).drop 1) 48):=by show _=_;unfold V.partL;rw [if_neg (by omega)]
 have hlen:(Lib.decDigits (10000+r)).length=5:=by rw [Lib.decDigits_length];exact Lib.nDigits_unique 4 _ (by omega) (by omega)
 have hc:=hid (ffmtUint_any (10000+r) w hs (by omega))
 rw [show ((10000+r:Nat):Int)=10000+(r:Int) by omega]at hc
 generalize Lib.decDigits (10000+r)=ds at *;obtain ⟨t,ht⟩:∃ t,t=ds.drop 1:=⟨_,rfl⟩;have htl:t.length=4:=by rw [ht,List.length_drop,hlen]
 have eX:ByteArray.extract ⟨ds.toArray⟩ 1 5=⟨t.toArray⟩:=by
  apply ByteArray.ext
  apply Array.ext'
  rw [Lib.extract_data];show (ds.drop 1).take (5-1)=t
  rw [←ht,List.take_of_length_le (by omega)]
 have hsz:(⟨t.toArray⟩:ByteArray).size≤9223372036854775807:=by
  have:(⟨t.toArray⟩:ByteArray).size=t.length:=by simp [ByteArray.size]
  omega
 rw [←ht]at HP;clear ht;have htb:(Lib.trimRightB t 48).length≤4:=by have:=trim_le t 48;omega
 go_enter Tryz.func149,Tryz.ntmps149
 go_wp2_with (first|(go_at_call 148;refine hc.out.mono ?_;rintro e w1 ⟨rfl,hq1⟩)|(go_at_call 169;refine (Tryz.strings_TrimRight_one ⟨t.toArray⟩ 48 (by decide) _ hsz).mono ?_;rintro e w2 ⟨rfl,rfl⟩))
 go_ret
 exact ⟨ret_str (by rw [HP.out];exact bytes_cat [46] _),hq1⟩
theorem fpart_any(r:Nat)(w:World)(hs:Gd w)(h1:r<10000) :
  Calls Tryz.prog 149 #[.int .u64 (r:Int)] w fun e w'=>e=.returned (.string ⟨(V.partL r).toArray⟩)∧Q w w':=by
 rcases Nat.eq_zero_or_pos r with rfl|h0
 ·exact fpart_zero w
 ·exact fpart_some r w hs h0 h1
theorem part_le(r:Nat)(h1:r<10000):(V.partL r).length≤5:=by
 unfold V.partL
 split
 ·simp
 ·have hlen:(Lib.decDigits (10000+r)).length=5:=by rw [Lib.decDigits_length];exact Lib.nDigits_unique 4 _ (by omega) (by omega)
  have:=trim_le ((Lib.decDigits (10000+r)).drop 1) 48
  rw [List.length_drop,hlen]at this;rw [List.length_cons];omega
theorem fprint_any(a:Int)(w:World)(hs:Gd w)(ha:V.fitB a=true)(haU:a.natAbs<18446744073709551616) :
  Calls Tryz.prog 120 #[.int .i64 a] w fun e w'=>e=.returned (.string ⟨(V.printL a).toArray⟩)∧Q w w':=by
 obtain ⟨m,hm⟩:∃ m,m=a.natAbs:=⟨_,rfl⟩;have hsz:=hid (size_any a w ha);rw [←hm]at hsz haU;have hf:=hid (fun w1 hs1=>ffmtUint_any (m / 10000) w1 hs1 (by omega))
 have hp:=hid (fun w1 hs1=>fpart_any (m % 10000) w1 hs1 (by omega))
 have hL:Hid (V.magL m=Lib.decDigits (m / 10000)++V.partL (m % 10000)):=rfl
 have l1:(Lib.decDigits (m / 10000)).length≤20:=by rw [Lib.decDigits_length];exact nDigits_le _ (by omega)
 have l2:=part_le (m % 10000) (by omega)
 have hP:Hid (V.printL a=if a<0 then 45::V.magL m else V.magL m):=by show _=_;unfold V.printL;rw [hm]
 clear hm;rw [show ((m / 10000:Nat):Int)=(m:Int) / 10000 by omega]at hf
 rw [show ((m % 10000:Nat):Int)=(m:Int) % 10000 by omega]at hp
 generalize Lib.decDigits (m / 10000)=dl at *;generalize V.partL (m % 10000)=pl at *;by_cases hn:a<0
 ·go_enter Tryz.func120,Tryz.ntmps120
  go_wp2_with (first|(go_at_call 147;refine hsz.out.mono ?_;rintro e w1 ⟨rfl,rfl⟩)|(go_at_call 148;refine (hf.out _ hs).mono ?_;rintro e w2 ⟨rfl,hq2⟩)|(go_at_call 149;refine (hp.out _ (hs.on hq2)).mono ?_;rintro e w3 ⟨rfl,hq3⟩))
  go_ret
  exact ⟨ret_str (by rw [hP.out,if_pos hn,hL.out,bytes_cat];exact bytes_cat [45] _),hq2.trans hq3⟩
 ·go_enter Tryz.func120,Tryz.ntmps120
  go_wp2_with (first|(go_at_call 147;refine hsz.out.mono ?_;rintro e w1 ⟨rfl,rfl⟩)|(go_at_call 148;refine (hf.out _ hs).mono ?_;rintro e w2 ⟨rfl,hq2⟩)|(go_at_call 149;refine (hp.out _ (hs.on hq2)).mono ?_;rintro e w3 ⟨rfl,hq3⟩))
  go_ret
  exact ⟨ret_str (by rw [hP.out,if_neg (by omega),hL.out,bytes_cat]),hq2.trans hq3⟩
end Go.Proofs.YtgheopdadfnilaaGreatDoor
namespace Go.Proofs.YtgheopdadfnilaaGreatDoor
open Go.RowKit
theorem num_len{l:List UInt8}{m:Nat}(h:numF l m=true)(hm:m<1000000000000000):l.length≤15:=by
 rcases Nat.lt_or_ge 15 l.length with h'|h'
 ·rw [numF_long l m h' hm]at h
  cases h
 ·exact h'
theorem id_len{l:List UInt8}(h:idB l=true):l.length≤32:=by
 unfold idB at h
 have h':=of_decide_eq_true h;unfold ownK at h'
 split at h'
 ·rename_i hp
  have e1:l=99::Lib.trimPrefix l [99]:=by
   match l,hp with
   |[],hp=>unfold Lib.hasPrefix at hp;simp at hp
   |c::l,hp=>
    have hc:c=99:=by
     have h2:=hp;unfold Lib.hasPrefix at h2
     simp at h2
     exact h2.symm
    unfold Lib.trimPrefix
    rw [if_pos hp,hc]
    rfl
  generalize Lib.trimPrefix l [99]=t at *
  rcases cut_any 110 t with ⟨a,b,rfl,hn⟩|hn
  ·rw [cut_at 110 a b hn]at h'
   unfold ownP at h'
   cases ha:numF a 15 with
   |false=>rw [ha]at h';simp at h'
   |true=>
    cases hb:numF b 999999 with
    |false=>rw [ha,hb]at h';simp at h'
    |true=>
     have la:=num_len ha (by omega)
     have lb:=num_len hb (by omega)
     rw [e1];simp only [List.length_cons,List.length_append]
     omega
  ·rw [cut_free 110 t hn]at h'
   unfold ownP at h'
   simp at h'
 ·omega
theorem sheet_len{sh:List UInt8}{row col:Int}(h:mayR sh row col=true):sh.length≤32:=by
 unfold mayR at h
 simp only [Bool.and_eq_true]at h
 rcases Bool.or_eq_true_iff.1 h.1 with h'|h'
 ·cases sh with
  |nil=>simp
  |cons c l=>cases h'
 ·exact id_len h'
theorem prf_len{r:Rf}(h:mayR r.1 r.2.1 r.2.2.1=true):(prf r).length≤64:=by
 have hs:=sheet_len h;obtain ⟨sh,row,col,ra,ca⟩:=r;simp only [prf]at h hs ⊢
 have h':=h;unfold mayR at h'
 simp only [Bool.and_eq_true,decide_eq_true_eq]at h'
 obtain ⟨-,⟨r0,r1⟩,-⟩:=h';unfold prR prL
 rw [h];simp only [if_true,List.length_append]
 have h1:=shX_len sh;have h2:=sg_len ca;have h3:=sg_len ra;have h4:=cn_len col;have h5:=dec_len (row+1).toNat (by omega)
 omega
theorem print_len(a:Int)(ha:V.fitB a=true):(V.printL a).length≤30:=by
 obtain ⟨h0,h1⟩:=of_decide_eq_true ha;have hm:(V.magL a.natAbs).length≤29:=by
  unfold V.magL
  rw [List.length_append,Lib.decDigits_length];have l1:=nDigits_le (a.natAbs / 10000) (by omega)
  have l2:=part_le (a.natAbs % 10000) (by omega)
  omega
 unfold V.printL
 split
 ·rw [List.length_cons];omega
 ·omega
theorem brk_le(br:Bool)(T:List UInt8):(brk br T).length≤T.length+2:=by
 cases br
 ·exact Nat.le_add_right _ _
 ·unfold brk;simp
theorem lvl_len{o:List UInt8}(h:1≤lvl o):o.length≤2:=by
 rcases lvl_cases h with rfl|rfl|rfl|rfl|rfl|rfl|rfl|rfl|rfl|rfl|rfl <;> decide
theorem joinT_len:∀ (ks:List Ex),(∀ y∈ks,(fmE y).length+3≤410*nodes y)→(joinT (ks.map fmE)).length≤410*nodes.nodesL ks
 |[],_=>by simp [joinT]
 |[x],h=>by
  have:=h x (by simp)
  simp only [List.map_cons,List.map_nil,joinT]
  rw [nodes.nodesL,nodes.nodesL];omega
 |x::y::ks,h=>by
  have h1:=h x (by simp)
  have h2:=joinT_len (y::ks) (fun z hz=>h z (List.mem_cons_of_mem _ hz))
  simp only [List.map_cons,joinT,List.length_append,List.length_cons]at h2 ⊢
  rw [nodes.nodesL];omega
theorem fm_len:∀ (m:Nat) (x:Ex),nodes x≤m→mall mayN x=true→Rn x→(fmE x).length+3≤410*nodes x:=by
 intro m
 induction m with
 |zero=>
  intro x h
  obtain ⟨k,n,t,b,e,rs,ks⟩:=x;rw [nodes]at h;omega
 |succ m ih=>
  intro x hm hx hr
  obtain ⟨hn,hk⟩:mayN x=true∧∀ y∈x.ks,mall mayN y=true:=by
   obtain ⟨k,n,t,b,e,rs,ks⟩:=x;exact mall_kids hx
  have hkr:∀ y∈x.ks,Rn y:=by
   obtain ⟨k,n,t,b,e,rs,ks⟩:=x;rw [Rn]at hr;exact rn_kid hr.2
  have hkm:∀ y∈x.ks,nodes y≤m:=by
   obtain ⟨k,n,t,b,e,rs,ks⟩:=x;rw [nodes]at hm;intro y hy
   have:=nodes_lt (show y∈ks from hy)
   omega
  have IH:∀ y∈x.ks,(fmE y).length+3≤410*nodes y:=fun y hy=>ih y (hkm y hy) (hk y hy) (hkr y hy)
  rcases may_cases x hn with ⟨n,rfl,h0⟩|⟨t,rfl,h0⟩|⟨b,rfl⟩|⟨e,rfl,h0,h1⟩|⟨r,rfl,h0⟩|⟨r,q,rfl,h0,h1,h2⟩|⟨y,rfl⟩|⟨o,y,z,rfl,h0⟩|⟨t,ks,rfl,h0,h1⟩
  ·have hn':n≤9223372036854775807:=by unfold numE at hr;rw [Rn]at hr;exact hr.1
   have:=print_len n (decide_eq_true ⟨by omega,hn'⟩)
   rw [fm_num,numE,nodes_leaf];omega
  ·unfold V.mtB at h0
   simp only [Bool.and_eq_true,decide_eq_true_eq]at h0
   have:=dbl_len t
   rw [fm_text,textE,nodes_leaf];simp only [List.length_cons,List.length_append,List.length_nil]
   omega
  ·rw [fm_bool,boolE,nodes_leaf]
   cases b <;> decide
  ·rw [fm_err,errE,nodes_leaf]
   rcases en_cases h0 with h|h|h|h|h|h|h <;> rw [h] <;> decide
  ·have:=prf_len h0
   rw [fm_ref,refE,nodes_leaf];omega
  ·have h3:=prf_len h0
   have h4:=prf_len h1;rw [fm_range,rangeE,nodes_leaf];simp only [List.length_append,List.length_cons]
   omega
  ·have h1:=IH y (by simp [negE])
   have h2:=brk_le (decide (y.k=8)) (fmE y);rw [fm_neg,nodes_neg,List.length_cons];omega
  ·have h1:=IH y (by simp [binE])
   have h2:=IH z (by simp [binE])
   have h3:=brk_le (decide (sgE y.k y.t<sgE 8 o)) (fmE y);have h4:=brk_le (decide (sgE z.k z.t≤sgE 8 o)) (fmE z);have h5:=lvl_len h0;rw [fm_bin,nodes_bin,List.length_append,List.length_append];omega
  ·have h2:=joinT_len ks (fun y hy=>IH y hy)
   have h3:t.length≤20:=by
    unfold namF at h0
    simp only [Bool.and_eq_true,decide_eq_true_eq]at h0
    exact h0.2.1
   rw [fm_call,nodes_call];simp only [List.length_append,List.length_cons,List.length_nil]
   omega
structure R5 (W:World) (q o:Nat) (S:ByteArray) (row col:Int) (ra ca:Bool):Prop where
 g0:W.cell? ⟨q,o,none⟩=some (.string S)
 g1:W.cell? ⟨q,o+1,none⟩=some (.int .i64 row)
 g2:W.cell? ⟨q,o+2,none⟩=some (.int .i64 col)
 g3:W.cell? ⟨q,o+3,none⟩=some (.bool ra)
 g4:W.cell? ⟨q,o+4,none⟩=some (.bool ca)
theorem R5.on{p:Nat}{W W':World}{q o:Nat}{S:ByteArray}{row col:Int}{ra ca:Bool}(h:R5 W q o S row col ra ca)(x:Qx p W W')(hq:q≠p):R5 W' q o S row col ra ca:=by
 have hl:q<W.heap.size:=World.block_lt_of_cell? W ⟨q,o,none⟩ h.g0
 exact ⟨(x.cell hl hq).trans h.g0,(x.cell hl hq).trans h.g1,(x.cell hl hq).trans h.g2,(x.cell hl hq).trans h.g3,(x.cell hl hq).trans h.g4⟩
theorem r5_new(W:World)(S:ByteArray)(row col:Int)(ra ca:Bool)(t:TypeId):R5 (W.alloc (.cells #[.string S,.int .i64 row,.int .i64 col,.bool ra,.bool ca] t)) W.heap.size 0 S row col ra ca:=by
 refine ⟨?_,?_,?_,?_,?_⟩
 all_goals simp [World.cell?_alloc_new]
theorem r5_two(W:World)(S:ByteArray)(row col:Int)(ra ca:Bool)(S':ByteArray)(row' col':Int)(ra' ca':Bool)(t:TypeId):R5 (W.alloc (.cells #[.string S,.int .i64 row,.int .i64 col,.bool ra,.bool ca,.string S',.int .i64 row',.int .i64 col',.bool ra',.bool ca'] t)) W.heap.size 0 S row col ra ca∧R5 (W.alloc (.cells #[.string S,.int .i64 row,.int .i64 col,.bool ra,.bool ca,.string S',.int .i64 row',.int .i64 col',.bool ra',.bool ca'] t)) W.heap.size 5 S' row' col' ra' ca':=by
 refine ⟨⟨?_,?_,?_,?_,?_⟩,?_,?_,?_,?_,?_⟩
 all_goals simp [World.cell?_alloc_new]
theorem R5.ats{W:World}{q o:Nat}{S:ByteArray}{row col:Int}{ra ca:Bool}(h:R5 W q o S row col ra ca):Ats rf W q o (S.data.toList,row,col,ra,ca):=by
 intro j u hu
 unfold rf at hu
 rcases j with _|_|_|_|_|j
 ·simp at hu;subst hu;exact h.g0
 ·simp at hu;subst hu;exact h.g1
 ·simp at hu;subst hu;exact h.g2
 ·simp at hu;subst hu;exact h.g3
 ·simp at hu;subst hu;exact h.g4
 ·simp at hu
theorem rdg_ref{g:Nat→Prop}{W:World}{q:Nat}{S:ByteArray}{row col:Int}{ra ca:Bool}(hq:g q)(h:R5 W q 0 S row col ra ca):Rdg g W (refE (S.data.toList,row,col,ra,ca)) (.agg #[.int .i64 5,.int .i64 0,.string ⟨#[]⟩,.bool false,.int .i64 0,.slice (some ⟨q,0,none⟩) 1 1,.slice none 0 0]):=by
 unfold refE Rdg
 refine ⟨_,_,rfl,⟨some ⟨q,0,none⟩,1,rfl,by simp,by unfold maxLen;omega,fun _=>⟨q,0,rfl,hq,fun i hi=>?_⟩⟩,none,0,rfl,Nat.le_refl _,Nat.zero_le _,fun h=>absurd rfl h⟩
 have:i=0:=by simpa using hi
 subst this;exact h.ats
theorem rdg_range{g:Nat→Prop}{W:World}{q:Nat}{S:ByteArray}{row col:Int}{ra ca:Bool}{S':ByteArray}{row' col':Int}{ra' ca':Bool}(hq:g q)(h:R5 W q 0 S row col ra ca)(h':R5 W q 5 S' row' col' ra' ca'):Rdg g W (rangeE (S.data.toList,row,col,ra,ca) (S'.data.toList,row',col',ra',ca')) (.agg #[.int .i64 6,.int .i64 0,.string ⟨#[]⟩,.bool false,.int .i64 0,.slice (some ⟨q,0,none⟩) 2 2,.slice none 0 0]):=by
 unfold rangeE Rdg
 refine ⟨_,_,rfl,⟨some ⟨q,0,none⟩,2,rfl,by simp,by unfold maxLen;omega,fun _=>⟨q,0,rfl,hq,fun i hi=>?_⟩⟩,none,0,rfl,Nat.le_refl _,Nat.zero_le _,fun h=>absurd rfl h⟩
 have:i=0∨i=1:=by simp at hi;omega
 rcases this with rfl|rfl
 ·exact h.ats
 ·exact h'.ats
theorem ref_parts(l:List UInt8):∃ (S:ByteArray) (row col:Int) (ra ca:Bool),refT l=(S.data.toList,row,col,ra,ca)∧refA (refT l)=.agg #[.string S,.int .i64 row,.int .i64 col,.bool ra,.bool ca]:=by
 obtain ⟨a,b,c,d,e⟩:=refT l;exact ⟨⟨a.toArray⟩,b,c,d,e,rfl,rfl⟩
theorem first_ref(L:List Wd)(p b off cap:Nat)(s:St)(W:World)(h:PS W p L b off cap s.i s.bd s.n)(hi:s.i<L.length)(hr:L.length≤50000)(hn:s.n≤s.i)(hE:Ends L)(hw:isW L s.i [40]=false)(hk:kAt L s.i=3)(hz:∀ i,(tAt L i).length≤1000)(hw5:isW L (s.i+1) [58]=false) :
  Calls Tryz.prog 105 #[.pointer (some ⟨p,0,none⟩)] W fun e W'=>Rep p L b off cap W (refE (EE.ref (tAt L s.i)),s.on.node) e W':=by
 have hlt:=h.lt;have hbW:=h.blk hi;obtain ⟨T,q,hT,kw⟩:=h.kw hi;have HTT:=hid hT;have HK:=hid kw;rw [hk]at HK;obtain ⟨S,row,col,ra,ca,hS,hA⟩:=ref_parts T.data.toList;have HRf:=hid (fun W1=>rref_any T W1 (by have:=hz s.i;rw [←hT]at this;simp at this;omega))
 rw [hA]at HRf;generalize refF T.data.toList=rok at HRf;have HS:=hid hS;clear hA hS;have hi1:s.i+1<L.length:=hE _ hi (by omega)
 have hc5:=hid (fun W1 (g:PS W1 p L b off cap (s.i+1) s.bd s.n)=>take_any W1 p L b off cap (s.i+1) s.bd s.n ⟨#[58]⟩ g hi1)
 rw [show (⟨#[58]⟩:ByteArray).data.toList=[58] from rfl,hw5]at hc5
 have hpW:p≠W.heap.size:=by omega
 have HP:=hid h;have hroom:(s.i:Int)+1≤9223372036854775807:=by omega
 have HZ:=hid ((tb_new W (.int .i64 0) (.int .i64 0) (.string ⟨#[]⟩) (.bool false) (.int .i64 0) (.slice none 0 0) (.slice none 0 0) 26).on (((Qx.refl p _).alloc (.cells #[.int .i64 3,.string T,.int .i64 q] 74)).drew) (by omega))
 have HB:=hid ((wb_new (W.alloc (.cells #[.int .i64 0,.int .i64 0,.string ⟨#[]⟩,.bool false,.int .i64 0,.slice none 0 0,.slice none 0 0] 26)) (.int .i64 3) (.string T) (.int .i64 q) 74).on ((Qx.refl p _).drew) (by simp;omega))
 rw [show (W.alloc (.cells #[.int .i64 0,.int .i64 0,.string ⟨#[]⟩,.bool false,.int .i64 0,.slice none 0 0,.slice none 0 0] 26)).heap.size=W.heap.size+1 by simp]at HB
 have hc:=hid (fun W1 (g:PS W1 p L b off cap s.i s.bd s.n)=>take_any W1 p L b off cap s.i s.bd s.n ⟨#[40]⟩ g hi)
 rw [show (⟨#[40]⟩:ByteArray).data.toList=[40] from rfl,hw]at hc
 clear h kw hT;go_enter Tryz.func105,Tryz.ntmps105
 go_wp2_with fail
 go_region_held3 (fun V=>V.cell? ⟨p,0,none⟩=some (.slice (some ⟨b,off,none⟩) L.length cap)∧V.cell? ⟨p,1,none⟩=some (.int .i64 (s.i:Int))∧V.cell? ⟨b,off+s.i*3,none⟩=some (.int .i64 3)∧V.cell? ⟨b,off+s.i*3+1,none⟩=some (.string T)∧V.cell? ⟨b,off+s.i*3+2,none⟩=some (.int .i64 q)) (exact HK.out.on (by repeat (first|exact Q.refl _|refine Q.drewN ?_ _|refine Q.drew ?_|refine Q.alloc ?_ _|refine Q.setCell ?_ (by simp) _))) (fail)
 go_wp2_with (first|(go_at_call 74;refine (node_any _ p L b off cap _ _ _ (P4.out.on (by repeat (first|exact Q.refl _|refine Q.drewN ?_ _|refine Q.drew ?_|refine Q.alloc ?_ _|refine Q.setCell ?_ (by simp) _))) (by omega) 5 0 ⟨#[]⟩ false 0 (some ⟨w4.heap.size,0,none⟩) 1 1 none 0 0).mono ?_;rintro e w6 ⟨rfl,q6,p6⟩;have Q6:=hid q6;have P6:=hid p6;have Z6:=hid ((Z4.out.on (by repeat (first|with_reducible exact Qx.refl _ _|with_reducible refine Qx.drewN ?_ _|with_reducible refine Qx.drew ?_|with_reducible refine Qx.alloc ?_ _|with_reducible refine Qx.own ?_ _ _|with_reducible refine Qx.new ?_ (by simp) _ _)) (show _≠p by omega)).on q6 (by omega));clear q6 p6;have d0:=Z6.out.g0;have d1:=Z6.out.g1;have d2:=Z6.out.g2;have d3:=Z6.out.g3;have d4:=Z6.out.g4;have d5:=Z6.out.g5;have d6:=Z6.out.g6;have y0:=Z6.out.f 0;have y1:=Z6.out.f 1;have y2:=Z6.out.f 2;have y3:=Z6.out.f 3;have y4:=Z6.out.f 4;have y5:=Z6.out.f 5;have y6:=Z6.out.f 6)|(go_at_call 104;refine (hc5.out _ P2.out).mono ?_;rintro e w4 ⟨rfl,q4,p4⟩;have Q4:=hid q4;have P4:=hid p4;have hs4:w2.heap.size+1≤w4.heap.size:=(by simpa using q4.size);have A4:=hid ((r5_new w2 S row col ra ca 63).on q4 (by omega));have Z4:=hid (((Z1.out.on Q2.out (by omega)).on ((Qx.refl p _).alloc _) (by omega)).on q4 (by omega));clear q4 p4;have m0:=A4.out.g0;have m1:=A4.out.g1;have m2:=A4.out.g2;have m3:=A4.out.g3;have m4:=A4.out.g4;simp only [Nat.zero_add]at m1 m2 m3 m4)|(go_at_call 103;refine (HRf.out _).mono ?_;rintro e w2 ⟨rfl,q2⟩;have hs2:w1.heap.size≤w2.heap.size:=(by simpa [World.setCell] using q2.size);have Q2:Hid (Qx p w1 w2):=hid (Qx.trans (by repeat (first|with_reducible exact Qx.refl _ _|with_reducible refine Qx.drewN ?_ _|with_reducible refine Qx.drew ?_|with_reducible refine Qx.alloc ?_ _|with_reducible refine Qx.own ?_ _ _|with_reducible refine Qx.new ?_ (by simp) _ _)) (Qx.of q2));have P2:=hid (((P1.out.set1 (s.i+1) _ (by go_num)).on q2).on ((Q.refl _).alloc (.cells #[.string S,.int .i64 row,.int .i64 col,.bool ra,.bool ca] 63)));clear q2)|(go_at_call 104;refine (hc.out _ (HP.out.on (by repeat (first|exact Q.refl _|refine Q.drewN ?_ _|refine Q.drew ?_|refine Q.alloc ?_ _|refine Q.setCell ?_ (by simp) _)))).mono ?_;rintro e w1 ⟨rfl,q1,p1⟩;have Q1:Hid (Qx p W w1):=hid (Qx.trans (by repeat (first|with_reducible exact Qx.refl _ _|with_reducible refine Qx.drewN ?_ _|with_reducible refine Qx.drew ?_|with_reducible refine Qx.alloc ?_ _|with_reducible refine Qx.own ?_ _ _|with_reducible refine Qx.new ?_ (by simp) _ _)) q1);have P1:=hid p1;have Z1:=hid (HZ.out.on q1 (by omega));have B1:=hid (HB.out.on q1 (by omega));have hsw:W.heap.size+1<w1.heap.size:=World.block_lt_of_cell? w1 ⟨W.heap.size+1,0,none⟩ B1.out.g0;clear q1 p1;have x1:=P1.out.c1;have z1:=P1.out.f1;have b0:=B1.out.g0;have b1:=B1.out.g1;have b2:=B1.out.g2))
 refine bodyPost_ret (v:=.agg #[.int .i64 5,.int .i64 0,.string ⟨#[]⟩,.bool false,.int .i64 0,.slice (some ⟨w4.heap.size,0,none⟩) 1 1,.slice none 0 0]) (by simp [results,Tryz.results105,go_sem,d0,d1,d2,d3,d4,d5,d6]) rfl ?_
 rw [show refE (EE.ref (tAt L s.i))=refE (S.data.toList,row,col,ra,ca) by show refE (refT (tAt L s.i))=_;rw [←HTT.out,HS.out]]
 exact fin7 (s':=s.on.node) 5 0 ⟨#[]⟩ false 0 (some ⟨w4.heap.size,0,none⟩) 1 1 none 0 0 hlt hbW ((((Q1.out.trans Q2.out).alloc _).trans Q4.out).trans ((Qx.alloc (Qx.refl p _) _).trans Q6.out)) (rdg_ref (show _≤_ by omega) ((r5_new w4 S row col ra ca 63).on Q6.out (by omega))) P6.out
theorem pref_one(L:List Wd)(p b off cap i:Nat)(W:World)(T:ByteArray)(t:List UInt8)(hT:T.data.toList=t)(h:PT W p L b off cap i)(hi:i<L.length)(hr:L.length≤50000)(hs:Std W)(h5:6≤p)(hz:t.length≤1000)(hok:refF t=true)(hw:isW L i [58]=false) :
  Calls Tryz.prog 186 #[.pointer (some ⟨p,0,none⟩),.string T] W fun e W'=>RepP p L b off cap W (some (refE (refT t),i)) e W':=by
 have hlt:=h.lt;have hbW:=h.blk i hi;have HP:=hid h;have HZ:=hid (tb_new W (.int .i64 0) (.int .i64 0) (.string ⟨#[]⟩) (.bool false) (.int .i64 0) (.slice none 0 0) (.slice none 0 0) 26);obtain ⟨S,row,col,ra,ca,hS,hA⟩:=ref_parts T.data.toList;have HRf:=hid (fun W1 (g:Std W1)=>parse_any T W1 g (by rw [←hT]at hz;simp at hz;omega))
 rw [hA,hT,hok]at HRf;have HS:=hid hS;have HTT:=hid hT;have HSt:=hid hs;clear hA hS hs hok;have hc:=hid (fun W1 (g:PT W1 p L b off cap i)=>ptake_any W1 p L b off cap i ⟨#[58]⟩ g hi hr (by simp))
 rw [show (⟨#[58]⟩:ByteArray).data.toList=[58] from rfl,hw]at hc
 clear h hT hz;go_enter Tryz.func186,Tryz.ntmps186
 go_wp2_with (first|(go_at_call 196;refine (HRf.out _ (HSt.out.on (by repeat (first|with_reducible exact Q.refl _|with_reducible refine Q.drewN ?_ _|with_reducible refine Q.drew ?_|with_reducible refine Q.alloc ?_ _|with_reducible refine Q.setCell ?_ (by simp) _)))).mono ?_;rintro e w1 ⟨rfl,q1⟩;have Q1:Hid (Q W w1):=hid (Q.trans (by repeat (first|with_reducible exact Q.refl _|with_reducible refine Q.drewN ?_ _|with_reducible refine Q.drew ?_|with_reducible refine Q.alloc ?_ _|with_reducible refine Q.setCell ?_ (by simp) _)) q1);have hs1:W.heap.size<w1.heap.size:=(by have:=q1.size;simp at this;omega);have P1:=hid ((HP.out.on Q1.out).on ((Q.refl _).alloc (.cells #[.string S,.int .i64 row,.int .i64 col,.bool ra,.bool ca] 63)));have Z1:=hid (HZ.out.on (Qx.of (p:=p) q1) (by omega));clear q1)|(go_at_call 166;refine (hc.out _ P1.out).mono ?_;rintro e w2 ⟨rfl,q2,p2⟩;have Q2:=hid q2;have P2:=hid p2;have A2:=hid ((r5_new w1 S row col ra ca 63).on q2 (by omega));have hs2:w1.heap.size+1≤w2.heap.size:=(by simpa using q2.size);have Z2:=hid ((Z1.out.on ((Qx.refl p _).alloc _) (by omega)).on q2 (by omega));clear q2 p2;have Z3:=hid (Z2.out.on ((Qx.refl p _).alloc (.cells #[.string S,.int .i64 row,.int .i64 col,.bool ra,.bool ca] 63)) (by omega));have d0:=Z3.out.g0;have d1:=Z3.out.g1;have d2:=Z3.out.g2;have d3:=Z3.out.g3;have d4:=Z3.out.g4;have d5:=Z3.out.g5;have d6:=Z3.out.g6;have y0:=Z3.out.f 0;have y1:=Z3.out.f 1;have y2:=Z3.out.f 2;have y3:=Z3.out.f 3;have y4:=Z3.out.f 4;have y5:=Z3.out.f 5;have y6:=Z3.out.f 6;have m0:=A2.out.g0;have m1:=A2.out.g1;have m2:=A2.out.g2;have m3:=A2.out.g3;have m4:=A2.out.g4;simp only [Nat.zero_add]at m1 m2 m3 m4))
 refine bodyPost_ret (v:=.tuple #[.agg #[.int .i64 5,.int .i64 0,.string ⟨#[]⟩,.bool false,.int .i64 0,.slice (some ⟨w2.heap.size,0,none⟩) 1 1,.slice none 0 0],.bool true]) (by simp [results,Tryz.results186,go_sem,d0,d1,d2,d3,d4,d5,d6]) rfl ?_
 have eT:refT t=(S.data.toList,row,col,ra,ca):=by rw [←HTT.out];exact HS.out
 rw [eT];refine finP (some (refE (S.data.toList,row,col,ra,ca),i)) 5 0 ⟨#[]⟩ false 0 (some ⟨w2.heap.size,0,none⟩) 1 1 none 0 0 hlt hbW ((((Qx.of Q1.out).alloc _).trans Q2.out).alloc _) (fun x j e=>?_)
 cases e
 exact ⟨rdg_ref (show _≤_ by omega) (r5_new w2 S row col ra ca 63),P2.out.on ((Q.refl _).alloc _)⟩
end Go.Proofs.YtgheopdadfnilaaGreatDoor
