/- The reference: is a cell in on. -/
import Derived.Test.YtngnakdbhkjbjaaGreatDoorKm16
import Derived.Test.YtngnakdbhkjbjaaGreatDoorKm03
import Derived.Shelf.SlSortCmp.QuietGrown
import Derived.Maps.AppendAt
import Derived.Deep.RegionHeld3
import Derived.Deep.DrawnRows
import Derived.Deep.AppendLies
set_option linter.unusedVariables false
set_option linter.unusedSimpArgs false
set_option maxRecDepth 100000
set_option maxHeartbeats 8000000
namespace Go.Proofs.YtngnakdbhkjbjaaGreatDoor.R
open Go.RowKit Go.Sort
theorem q_grow(w:World)(os:Array Obj):Q w (grow w os):=by
 refine ⟨rfl,rfl,rfl,by simp,fun k hk=>?_⟩
 exact heap_grow_old _ _ hk
theorem q_grown(w:World)(n:Nat)(os:Array Obj):Q w (grow (w.drewN n) os):=((Q.refl w).drewN n).trans (q_grow _ _)
theorem in_grown(v:Value)(L:List Rg.Rc)(row col:Int)(w:World)(h:Sl rc 4 w v L):Calls Tryz.prog 73 #[v,.int .i64 row,.int .i64 col] w fun e w'=>e=.returned (.bool (Rg.has L row col))∧∃ q os,w'=grow (w.drewN q) os:=by
 have HS:=hid h;obtain ⟨ao',cap',rfl,k1,k2⟩:=h.len;clear h;have k3:L.length≤9223372036854775807:=Nat.le_trans k1 (by unfold maxLen at k2;omega)
 go_enter Tryz.func73,Tryz.ntmps73
 go_wp2
 go_loopw [7] (fun s W=>∃ (n:Nat),n≤L.length∧s=.int .i64 n∧Hid (∃ os,W=grow w os)∧Hid (Rg.has (L.take n) row col=false)) (fun s _=>L.length-(intOf s).toNat)
 case atStart=>exact ⟨0,Nat.zero_le _,rfl,⟨#[],(grow_empty _).symm⟩,rfl⟩
 case round=>
  obtain ⟨n,hn,rfl,hq,HZ⟩:=hrel;obtain ⟨os,hw⟩:=hq.out;have HW:=hid hw;have HQ:Hid (Q w wr):=by rw [hw];exact q_grow _ _
  clear hq hw;by_cases hlt:n<L.length
  ·have hlt':(n:Int)<(L.length:Int):=by omega
   obtain ⟨g,off,cap2,e,_,_,hc⟩:=(HS.out.on HQ.out).at hlt;cases e
   have HF:=hid (has_take_succ hlt row col);generalize L[n]=x at *;obtain ⟨xa,xb,xc,xd⟩:=x;have c0:wr.cell? ⟨g,off+n*4,none⟩=some (.int .i64 xa):=hc 0 _ rfl
   have c1:wr.cell? ⟨g,off+n*4+1,none⟩=some (.int .i64 xb):=hc 1 _ rfl
   have c2:wr.cell? ⟨g,off+n*4+2,none⟩=some (.int .i64 xc):=hc 2 _ rfl
   have c3:wr.cell? ⟨g,off+n*4+3,none⟩=some (.int .i64 xd):=hc 3 _ rfl
   clear hc;by_cases a1:xa≤row
   ·by_cases a2:row<xc
    ·by_cases a3:xb≤col
     ·by_cases a4:col<xd
      ·have HR:Hid (true=Rg.has L row col):=by
        show _=_
        rw [has_of_take (n:=n+1) (by rw [HF.out,inR_of a1 a2 a3 a4];simp)]
       clear HF HZ;go_wp2
       go_ret
       exact ⟨ret_bool HR.out,0,_,by rw [HW.out,alloc_eq_grow,grow_grow];rfl⟩
      ·have HZ2:Hid (Rg.has (L.take (n+1)) row col=false):=by
        show _=_
        rw [HF.out,HZ.out,inR_no (by omega)]
        rfl
       clear HF HZ;go_wp2
       go_roundw
       case rel=>exact ⟨n+1,by omega,by go_num,⟨_,by rw [HW.out,alloc_eq_grow,grow_grow]⟩,HZ2⟩
       case measure=>simp [intOf];omega
     ·have HZ2:Hid (Rg.has (L.take (n+1)) row col=false):=by
       show _=_
       rw [HF.out,HZ.out,inR_no (by omega)]
       rfl
      clear HF HZ;go_wp2
      go_roundw
      case rel=>exact ⟨n+1,by omega,by go_num,⟨_,by rw [HW.out,alloc_eq_grow,grow_grow]⟩,HZ2⟩
      case measure=>simp [intOf];omega
    ·have HZ2:Hid (Rg.has (L.take (n+1)) row col=false):=by
      show _=_
      rw [HF.out,HZ.out,inR_no (by omega)]
      rfl
     clear HF HZ;go_wp2
     go_roundw
     case rel=>exact ⟨n+1,by omega,by go_num,⟨_,by rw [HW.out,alloc_eq_grow,grow_grow]⟩,HZ2⟩
     case measure=>simp [intOf];omega
   ·have HZ2:Hid (Rg.has (L.take (n+1)) row col=false):=by
     show _=_
     rw [HF.out,HZ.out,inR_no (by omega)]
     rfl
    clear HF HZ;go_wp2
    go_roundw
    case rel=>exact ⟨n+1,by omega,by go_num,⟨_,by rw [HW.out,alloc_eq_grow,grow_grow]⟩,HZ2⟩
    case measure=>simp [intOf];omega
  ·have hlt':¬ (n:Int)<(L.length:Int):=by omega
   have HR:Hid (false=Rg.has L row col):=by
    show _=_
    rw [←HZ.out,List.take_of_length_le (by omega)]
   clear HZ;go_wp2
   go_ret
   exact ⟨ret_bool HR.out,0,os,HW.out⟩
def SI(f:Int→Bool)(S:List Rg.Sp)(g:Int)(l:List Int)(T:List Rg.Sp):Prop:=(S=[]∧Rg.sc0 f g l=T)∨∃ D c,S=D++[c]∧D++Rg.sc f c g l=T
theorem si_skip{f:Int→Bool}{S T:List Rg.Sp}{g h:Int}{l:List Int}(hs:SI f S g (h::l) T)(hf:f g=false):SI f S h l T:=by
 rcases hs with ⟨h1,h2⟩|⟨D,c,h1,h2⟩
 ·rw [Rg.sc0,hf]at h2;exact .inl ⟨h1,by simpa using h2⟩
 ·rw [Rg.sc,hf]at h2;exact .inr ⟨D,c,h1,by simpa using h2⟩
theorem si_first{f:Int→Bool}{T:List Rg.Sp}{g h:Int}{l:List Int}(hs:Rg.sc0 f g (h::l)=T)(hf:f g=true):SI f ([]++[⟨g,h⟩]) h l T:=by
 rw [Rg.sc0,hf]at hs;exact .inr ⟨[],_,rfl,by simpa using hs⟩
theorem si_on{f:Int→Bool}{D T:List Rg.Sp}{c:Rg.Sp}{g h:Int}{l:List Int}(hs:D++Rg.sc f c g (h::l)=T)(hf:f g=true)(ht:c.t=g):SI f (D++[⟨c.f,h⟩]) h l T:=by
 rw [Rg.sc,hf]at hs;simp only [if_true]at hs
 rw [if_pos ht]at hs;exact .inr ⟨D,_,rfl,hs⟩
theorem si_new{f:Int→Bool}{D T:List Rg.Sp}{c:Rg.Sp}{g h:Int}{l:List Int}(hs:D++Rg.sc f c g (h::l)=T)(hf:f g=true)(ht:¬ c.t=g):SI f ((D++[c])++[⟨g,h⟩]) h l T:=by
 rw [Rg.sc,hf]at hs;simp only [if_true]at hs
 rw [if_neg ht]at hs;exact .inr ⟨D++[c],_,rfl,by simpa using hs⟩
theorem si_end{f:Int→Bool}{S T:List Rg.Sp}{g:Int}(hs:SI f S g [] T):S=T:=by
 rcases hs with ⟨h1,h2⟩|⟨D,c,h1,h2⟩
 ·rw [h1,←h2];rfl
 ·rw [h1,←h2];rfl
theorem rows_append(f t:Int)(S S':List Rg.Sp):Rg.rows ⟨f,t,S++S'⟩=Rg.rows ⟨f,t,S⟩++Rg.rows ⟨f,t,S'⟩:=by unfold Rg.rows;simp
theorem rows_one(f t:Int)(s:Rg.Sp):Rg.rows ⟨f,t,[s]⟩=[⟨f,s.f,t,s.t⟩]:=rfl
end Go.Proofs.YtngnakdbhkjbjaaGreatDoor.R
namespace Go.Proofs.YtngnakdbhkjbjaaGreatDoor.R
open Go.RowKit
def st(t:Int)(x:Rg.Rc):Rg.Rc:=⟨x.a,x.b,t,x.d⟩
def mk(P R:List Rg.Rc)(t:Int)(j:Nat):List Rg.Rc:=P++((R.take j).map (st t)++R.drop j)
theorem mk_zero(P R:List Rg.Rc)(t:Int):mk P R t 0=P++R:=by simp [mk]
theorem mk_all(P R:List Rg.Rc)(t:Int):mk P R t R.length=P++R.map (st t):=by simp [mk]
theorem mk_len(P R:List Rg.Rc)(t:Int)(j:Nat):(mk P R t j).length=P.length+R.length:=by
 unfold mk
 rw [List.length_append,List.length_append,List.length_map,List.length_take,List.length_drop];omega
theorem mk_at{P R:List Rg.Rc}{t:Int}{j:Nat}(h:j<R.length)(h':P.length+j<(mk P R t j).length):(mk P R t j)[P.length+j]=R[j]:=by
 have e:(mk P R t j)[P.length+j]?=some R[j]:=by
  unfold mk
  rw [List.getElem?_append_right (by omega),Nat.add_sub_cancel_left,List.getElem?_append_right (by rw [List.length_map,List.length_take];omega),List.length_map,List.length_take,Nat.min_eq_left (by omega),Nat.sub_self,List.getElem?_drop,Nat.add_zero,List.getElem?_eq_getElem h]
 rw [List.getElem?_eq_getElem h']at e;exact Option.some.inj e
theorem mk_set{P R:List Rg.Rc}{t:Int}{j:Nat}(h:j<R.length):(mk P R t j).set (P.length+j) (st t R[j])=mk P R t (j+1):=by
 unfold mk
 rw [List.set_append_right _ _ (by omega),Nat.add_sub_cancel_left,List.set_append_right _ _ (by rw [List.length_map,List.length_take];omega),List.length_map,List.length_take,Nat.min_eq_left (by omega),Nat.sub_self,List.drop_eq_getElem_cons h,List.set_cons_zero,List.take_succ_eq_append_getElem h,List.map_append,List.append_assoc]
 rfl
theorem own_mk{B g cap n:Nat}{W:World}{P R:List Rg.Rc}{t:Int}{j:Nat}(h:Own rc 49 4 B W (.slice (some ⟨g,0,none⟩) n cap) (mk P R t j))(hn:n=P.length+R.length)(hj:j<R.length) :
  W.cell? ⟨g,(P.length+j)*4+2,none⟩=some (.int .i64 R[j].c)∧W.frozen? ⟨g,(P.length+j)*4+2,none⟩=false∧Own rc 49 4 B (W.setCell ⟨g,(P.length+j)*4+2,none⟩ (.int .i64 t)) (.slice (some ⟨g,0,none⟩) n cap) (mk P R t (j+1)):=by
 obtain rfl:n=(mk P R t j).length:=by rw [mk_len];exact hn
 have hlt:P.length+j<(mk P R t j).length:=by rw [mk_len];omega
 have h1:=h.cell rc_len hlt;rw [mk_at hj hlt]at h1;refine ⟨h1 2 _ rfl,World.ownsRow.frozenAt h _,?_⟩
 have h2:=h.set rc_len hlt 2 (by decide) (.int .i64 t) (st t R[j]) (by rw [mk_at hj hlt];rfl)
 rw [mk_set hj]at h2;exact h2
theorem own_apart{α:Type}{enc:α→List Value}{e k B B' g cap n j:Nat}{W:World}{v u:Value}{L:List α}{P:List Rg.Rc}(h:Own enc e k B W v L)(h':Own rc 49 4 B' W (.slice (some ⟨g,0,none⟩) n cap) P)(hne:v.ownBlock≠some g):Own enc e k B (W.setCell ⟨g,j,none⟩ u) v L:=by
 have hn:n=P.length:=by
  obtain ⟨ao,c,e,_,_⟩:=(h'.sl rc_len (by decide)).len
  injection e
 subst hn;exact h.grown (World.ownsRow.stored h' j u).2 (.inr hne)
theorem rows_st(f t t':Int)(S:List Rg.Sp):(Rg.rows ⟨f,t,S⟩).map (st t')=Rg.rows ⟨f,t',S⟩:=by unfold Rg.rows;simp [st]
theorem rows_len'(f t:Int)(S:List Rg.Sp):(Rg.rows ⟨f,t,S⟩).length=S.length:=Rg.rows_len _
theorem rows_at{f t:Int}{S:List Rg.Sp}{k:Nat}(h:k<(Rg.rows ⟨f,t,S⟩).length)(h':k<S.length):(Rg.rows ⟨f,t,S⟩)[k]=⟨f,S[k].f,t,S[k].t⟩:=List.getElem_map ..
def FI(cs:Int→List Rg.Sp)(G:List Int)(i:Nat)(L Bn T:List Rg.Rc):Prop:=
 ∃ D cur,L=Rg.flatB D++Rg.rows cur∧Bn=Rg.rows cur∧(i<G.length→G[i]?=some cur.t)∧Rg.flatB D++Rg.flatB (Rg.grp false cs cur (G.drop (i+1)))=T
theorem fi_first{cs:Int→List Rg.Sp}{G:List Int}{T:List Rg.Rc}(h:Rg.formR cs G=T):FI cs G 0 [] [] T:=by
 subst h;cases G with
 |nil=>exact ⟨[],⟨0,0,[]⟩,rfl,rfl,fun h=>by simp at h,by simp [Rg.flatB,Rg.grp,Rg.rows,Rg.formR]⟩
 |cons g l=>exact ⟨[],⟨g,g,[]⟩,rfl,rfl,fun _=>rfl,by simp [Rg.formR,Rg.flatB]⟩
theorem fi_end{cs:Int→List Rg.Sp}{G:List Int}{i:Nat}{L Bn T:List Rg.Rc}(h:FI cs G i L Bn T)(hi:¬ i+1<G.length):L=T:=by
 obtain ⟨D,cur,h1,_,_,h4⟩:=h;rw [List.drop_eq_nil_of_le (by omega),Rg.grp,Rg.flatB_cons,Rg.flatB_nil,List.append_nil]at h4
 rw [h1,h4]
theorem fi_same{cs:Int→List Rg.Sp}{G:List Int}{i:Nat}{D:List Rg.Bd}{f top:Int}{S:List Rg.Sp}{T:List Rg.Rc}(hi:i+1<G.length)(h:Rg.flatB D++Rg.flatB (Rg.grp false cs ⟨f,top,S⟩ (G.drop (i+1)))=T)(hs:S=cs top)(h0:0<S.length):FI cs G (i+1) (Rg.flatB D++Rg.rows ⟨f,G[i+1],S⟩) (Rg.rows ⟨f,G[i+1],S⟩) T:=by
 refine ⟨D,⟨f,G[i+1],S⟩,rfl,rfl,fun _=>List.getElem?_eq_getElem hi,?_⟩
 rw [List.drop_eq_getElem_cons hi,Rg.grp,if_pos]at h
 ·exact h
 ·unfold Rg.same
  simp only
  rw [←hs,Rg.eqL_iff.2 rfl];cases S with
  |nil=>simp at h0
  |cons=>rfl
theorem fi_new{cs:Int→List Rg.Sp}{G:List Int}{i:Nat}{D:List Rg.Bd}{f top:Int}{S:List Rg.Sp}{T:List Rg.Rc}(hi:i+1<G.length)(h:Rg.flatB D++Rg.flatB (Rg.grp false cs ⟨f,top,S⟩ (G.drop (i+1)))=T)(hs:¬ (S=cs top∧0<S.length)):FI cs G (i+1) ((Rg.flatB D++Rg.rows ⟨f,top,S⟩)++Rg.rows ⟨top,G[i+1],cs top⟩) (Rg.rows ⟨top,G[i+1],cs top⟩) T:=by
 refine ⟨D++[⟨f,top,S⟩],⟨top,G[i+1],cs top⟩,by rw [Rg.flatB_append,Rg.flatB_cons,Rg.flatB_nil,List.append_nil],rfl,fun _=>List.getElem?_eq_getElem hi,?_⟩
 rw [List.drop_eq_getElem_cons hi,Rg.grp,if_neg]at h
 ·rw [Rg.flatB_append,Rg.flatB_cons,Rg.flatB_nil,List.append_nil,List.append_assoc]
  rw [Rg.flatB_cons]at h;exact h
 ·intro hh
  unfold Rg.same at hh
  simp only [Bool.and_eq_true]at hh
  obtain ⟨h1,h2⟩:=hh;have h3:=Rg.eqL_iff.1 h1;refine hs ⟨h3,?_⟩
  rw [h3]
  revert h2
  cases cs top with
  |nil=>simp
  |cons=>simp
def SJ(f:Int→Bool)(C:List Int)(k:Nat)(S T:List Rg.Sp):Prop:=(C=[]∧S=[]∧T=[])∨∃ h:k<C.length,SI f S C[k] (C.drop (k+1)) T
theorem sj_first{A:List Rg.Rc}{C:List Int}{r:Int}:SJ (Rg.dif A [] r) C 0 [] (Rg.csR A [] C r):=by
 cases C with
 |nil=>exact .inl ⟨rfl,rfl,rfl⟩
 |cons g l=>exact .inr ⟨by simp,.inl ⟨rfl,rfl⟩⟩
theorem sj_end{f:Int→Bool}{C:List Int}{k:Nat}{S T:List Rg.Sp}(h:SJ f C k S T)(hk:¬ k+1<C.length):S=T:=by
 rcases h with ⟨_,h1,h2⟩|⟨h1,h2⟩
 ·rw [h1,h2]
 ·rw [List.drop_eq_nil_of_le (by omega)]at h2
  exact si_end h2
theorem sj_now{f:Int→Bool}{C:List Int}{k:Nat}{S T:List Rg.Sp}(h:SJ f C k S T)(hk:k+1<C.length):SI f S C[k] (C[k+1]::C.drop (k+1+1)) T:=by
 rcases h with ⟨h1,_,_⟩|⟨h1,h2⟩
 ·rw [h1]at hk;simp at hk
 ·rw [List.drop_eq_getElem_cons hk]at h2;exact h2
theorem sj_on{f:Int→Bool}{C:List Int}{k:Nat}{S T:List Rg.Sp}(hk:k+1<C.length)(h:SI f S C[k+1] (C.drop (k+1+1)) T):SJ f C (k+1) S T:=.inr ⟨hk,h⟩
theorem ie_at{W:World}{v:Value}{L:List Int}(h:Sl ie 1 W v L){i:Nat}(hi:i<L.length):∃ b off cap,v=.slice (some ⟨b,off,none⟩) L.length cap∧L.length≤cap∧cap≤maxLen∧∀ W',Q W W'→∀ j (hj:j<L.length),W'.cell? ⟨b,off+j,none⟩=some (.int .i64 L[j]):=by
 obtain ⟨ao,cap,hv,h1,h2,h⟩:=h;obtain ⟨b,off,ha,hc⟩:=h (by omega)
 subst ha;refine ⟨b,off,cap,hv,h1,h2,fun W' q j hj=>?_⟩
 have:=(hc j hj).on q 0 _ rfl
 simpa using this
theorem wpList_append_src_at{w:World}{ops:Array Oper}{rest:List Oper}{o:Oper}{a:Act}{Q:Exit→Act→World→Prop}(hgd:o.guard=none)(s x:Operand)(t:TypeId)
  (ho:o.op=.call { callee:=.builtin .append,args:=#[s,x],argTypes:=#[t,t] })
  (base:Nat) (e:TypeId) (i:TypeInfo) (z:Value) (size bytes:Nat) (ht:Tryz.prog.underlying t=some (.slice e)) (hi:Tryz.prog.info? e=some i) (hz:i.zero=some z)
  (hsize:i.size=size) (hby:i.bytes=bytes) (hzs:z.cells.size=size) (hsz:0<size)
  (v:Value) (n:Nat) (xs:List Value) (hs:a.eval s=v) (hown:w.ownsRow base e size v n xs)
  (u:Value) (hx:a.eval x=u) (m:Nat) (news:List Value) (hu:(u=.slice none 0 0∧m=0∧news=[])∨∃ ad c,u=.slice (some ad) m c∧∀ j u,news[j]?=some u→w.cell? (ad.add j)=some u)
  (hl:news.length=m*size) (h1:∀ u∈news,u.oneCell'=true)
  (h63:n+m≤maxLen) (hbytes:(n+m)*bytes≤140737488355328) (hbase:base≤w.heap.size)
  (h:∀ v' w',w'.ownsRow base e size v' (n+m) (xs++news)→w.grownBy w' v.ownBlock→(v'.ownBlock=v.ownBlock∨v'.ownBlock=some w.heap.size)→wpList Tryz.prog ops Q rest (a.put o.dst v') w'):wpList Tryz.prog ops Q (o::rest) a w:=by
 rcases hu with ⟨rfl,rfl,rfl⟩|⟨ad,c,rfl,hnews⟩
 ·refine wpList_append_own_none hgd s x t ho base e i size ht hi v n xs hs hown hx (h v w (by simpa using hown) ⟨rfl,rfl,rfl,Nat.le_refl _,fun _ _ _=>rfl⟩ (.inl rfl))
 ·exact wpList_append_own_at w hgd s x t ho base e i z size bytes ht hi hz hsize hby hzs hsz v n xs hs hown ad m c news hx hl hnews h1 h63 hbytes hbase fun v' w' h2 h3 _ h5=>h v' w' h2 h3 h5
theorem new_ne1{x l:Value}{B:Nat}(hx:∀ j,x.ownBlock=some j→B≤j)(hl:∀ j,l.ownBlock=some j→j<B):x.ownBlock=none∨x.ownBlock≠l.ownBlock:=by
 cases h:x.ownBlock with
 |none=>exact .inl rfl
 |some j=>
  refine .inr fun e=>?_
  have h1:=hx j h;have h2:=hl j e.symm;omega
theorem new_ne2{x l v:Value}{B n:Nat}(hx:∀ j,x.ownBlock=some j→B≤j)(hlt:∀ j,x.ownBlock=some j→j<n)(hl:∀ j,l.ownBlock=some j→j<B)(hat:v.ownBlock=l.ownBlock∨v.ownBlock=some n):v.ownBlock=none∨v.ownBlock≠x.ownBlock:=by
 cases h:x.ownBlock with
 |none=>
  cases h':v.ownBlock with
  |none=>exact .inl rfl
  |some j=>exact .inr (fun e=>by cases e)
 |some j=>
  refine .inr fun e=>?_
  have h1:=hx j h;have h2:=hlt j h
  rcases hat with h3|h3
  ·have h4:=hl j (by rw [←h3];exact e)
   omega
  ·rw [h3]at e
   have:=Option.some.inj e
   omega
theorem set_last_rc(D:List Rg.Rc)(c c':Rg.Rc):(D++[c]).set D.length c'=D++[c']:=by simp
def SM(S0 S1:List Rg.Sp)(k:Nat)(v:Value):Prop:=∃ sm,v=.bool sm∧(sm=true→S1.length=S0.length∧0<S0.length∧S0.take k=S1.take k)∧(sm=false→¬ (S0=S1∧0<S0.length))
theorem sm_no{S0 S1:List Rg.Sp}{k:Nat}(h:¬ (S0=S1∧0<S0.length)):SM S0 S1 k (.bool false):=⟨false,rfl,(fun h=>by cases h),fun _=>h⟩
theorem sm_yes{S0 S1:List Rg.Sp}{k:Nat}(h1:S1.length=S0.length)(h2:0<S0.length)(h3:S0.take k=S1.take k):SM S0 S1 k (.bool true):=⟨true,rfl,fun _=>⟨h1,h2,h3⟩,fun h=>by cases h⟩
theorem take_on{S0 S1:List Rg.Sp}{k:Nat}(h0:k<S0.length)(h1:k<S1.length)(h:S0.take k=S1.take k)(ef:S1[k].f=S0[k].f)(et:S1[k].t=S0[k].t):S0.take (k+1)=S1.take (k+1):=by
 rw [List.take_succ_eq_append_getElem h0,List.take_succ_eq_append_getElem h1,h]
 congr 2
 revert ef et
 generalize S0[k]=x;generalize S1[k]=y;obtain ⟨a,b⟩:=x;obtain ⟨c,d⟩:=y;intro e1 e2
 simp only at e1 e2
 rw [e1,e2]
theorem at_ne{S0 S1:List Rg.Sp}{k:Nat}(h0:k<S0.length)(h1:k<S1.length)(h:¬ (S1[k].f=S0[k].f∧S1[k].t=S0[k].t)):¬ (S0=S1∧0<S0.length):=by
 rintro ⟨rfl,_⟩
 exact h ⟨rfl,rfl⟩
theorem take_all{S0 S1:List Rg.Sp}{k:Nat}(h:S0.take k=S1.take k)(h0:S0.length≤k)(h1:S1.length≤k):S0=S1:=by
 rw [List.take_of_length_le h0,List.take_of_length_le h1]at h;exact h
end Go.Proofs.YtngnakdbhkjbjaaGreatDoor.R
