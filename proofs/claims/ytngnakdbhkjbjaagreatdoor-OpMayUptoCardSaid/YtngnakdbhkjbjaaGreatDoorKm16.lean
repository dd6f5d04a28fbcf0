/- The cells of some rectangles t. -/
import Derived.Test.YtngnakdbhkjbjaaGreatDoorKm15
import Derived.Test.YtngnakdbhkjbjaaGreatDoorKm11
import Derived.Test.YtngnakdbhkjbjaaGreatDoorKm03
set_option linter.unusedVariables false
set_option linter.unusedSimpArgs false
set_option maxRecDepth 100000
set_option maxHeartbeats 8000000
namespace Go.Proofs.YtngnakdbhkjbjaaGreatDoor.R
open Go.RowKit
def Bx(W:World)(b:Nat)(cs:List Value)(t:TypeId):Prop:=W.heap[b]?=some (.cells cs.toArray t (0,0))
theorem Bx.lt{W:World}{b:Nat}{cs:List Value}{t:TypeId}(h:Bx W b cs t):b<W.heap.size:=(Array.getElem?_eq_some_iff.1 h).1
theorem bx_heap(W:World)(cs:List Value)(t:TypeId):Bx (W.alloc (.cells cs.toArray t)) W.heap.size cs t:=World.alloc_heap_new W _
theorem Bx.on{W W':World}{b:Nat}{cs:List Value}{t:TypeId}(h:Bx W b cs t)(q:Q W W'):Bx W' b cs t:=(q.block h.lt).trans h
theorem Bx.grown{W W':World}{row:Option Nat}{b:Nat}{cs:List Value}{t:TypeId}(h:Bx W b cs t)(g:W.grownBy W' row)(hr:some b≠row):Bx W' b cs t:=(g.block b h.lt hr).trans h
theorem Bx.cell{W:World}{b:Nat}{cs:List Value}{t:TypeId}(h:Bx W b cs t)(j:Nat)(u:Value)(hu:cs[j]?=some u):W.cell? ⟨b,j,none⟩=some u:=by
 unfold Bx at h
 simp [World.cell?,h,hu]
theorem Bx.ne{α:Type}{enc:α→List Value}{e:TypeId}{k B:Nat}{W:World}{v:Value}{L:List α}{b:Nat}{cs:List Value}{t:TypeId}(h:Bx W b cs t)(ho:Own enc e k B W v L)(hne:e≠t):some b≠v.ownBlock:=by
 obtain ⟨_,ho⟩:=ho
 rcases ho with ⟨hv,_⟩|⟨g,cap,cur,hv,hb,hg,_⟩
 ·rw [hv];exact fun e=>by cases e
 ·rw [hv]
  intro e
  simp only [Value.ownBlock,Option.some.injEq]at e
  subst e;unfold Bx at h
  rw [h]at hg;simp only [Option.some.injEq,Obj.cells.injEq]at hg
  exact hne hg.2.1.symm
theorem flatB_succ{D:List Rg.Bd}{i:Nat}(h:i<D.length):Rg.flatB (D.take (i+1))=Rg.flatB (D.take i)++Rg.rows D[i]:=by
 rw [List.take_succ_eq_append_getElem h,Rg.flatB_append,Rg.flatB_cons,Rg.flatB_nil,List.append_nil]
theorem rows_succ{b:Rg.Bd}{j:Nat}(h:j<b.cs.length):(Rg.rows b).take (j+1)=(Rg.rows b).take j++[⟨b.f,b.cs[j].f,b.t,b.cs[j].t⟩]:=by
 unfold Rg.rows
 rw [List.take_succ_eq_append_getElem (by simpa using h)]
 simp
def WPost(A B:List Rg.Rc)(w:World)(v:Value)(w':World):Prop:=
 ∃ l,Own rc 49 4 w.heap.size w' v l∧Q w w'∧Rg.Nf (Rg.dif A B) l∧l.length≤1000000000000∧(A.length≤12→B=[]→l.length≤256)
theorem without_any(va vb:Value)(A B:List Rg.Rc)(w:World)(ha:Sl rc 4 w va A)(hb:Sl rc 4 w vb B)(hA:A.length≤256)(hB:B.length≤256)(oA:Rg.Ok A)(oB:Rg.Ok B) :
  Calls Tryz.prog 67 #[va,vb] w fun e w'=>∃ v,e=.returned v∧WPost A B w v w':=by
 obtain ⟨i0,HI⟩:=inf_of info28;have HI:=hid HI;have HA:=hid ha;have HB:=hid hb;obtain ⟨ao,cap,rfl,_,_⟩:=ha.len;obtain ⟨ao2,cap2,rfl,_,_⟩:=hb.len;clear ha hb;have HF:=hid (fromLeft_any _ A w HA.out (by omega))
 go_enter Tryz.func67,Tryz.ntmps67
 go_wp2_with (first
  |(go_at_call_of 83 A;refine HF.out.mono ?_;rintro e w1 ⟨v1,A',rfl,own1,hp1,hs1,q1⟩;have HSA:=hid (own1.sl rc_len (by decide));have HQ1:=hid q1;have HPA:=hid hp1;have HRA:=hid hs1;have HF2:=hid (fromLeft_any _ B w1 (HB.out.on q1) (by omega));clear own1 q1 hp1 hs1)
  |(go_at_call_of 83 B;refine HF2.out.mono ?_;rintro e w2 ⟨v2,B',rfl,own2,hp2,hs2,q2⟩;have HQ2:=hid (HQ1.out.trans q2);have HPB:=hid hp2;have HRB:=hid hs2;have HBD:=hid (bands_any v1 v2 A' B' w2 (HSA.out.on q2) (own2.sl rc_len (by decide)) (by rw [HPA.out.length_eq];exact hA) (by rw [hp2.length_eq];exact hB));clear own2 q2 hp2 hs2)
  |(go_at_call 82;refine HBD.out.mono ?_;rintro e w3 ⟨v3,rfl,hpost⟩;have HP3:=hid hpost;clear hpost;obtain ⟨O,G,hO1,hO2,hO3,hO4,hO5,hO6,hO7⟩:=HP3.out;have HO:=hid hO1;have HH:=hid hO2;have HQ3:=hid (HQ2.out.trans hO3);have HG1:=hid hO4;have HG2:=hid hO5;have HBL:=hid hO7;clear hO1 hO2 hO3 hO4 hO5 hO7 HP3;obtain ⟨ao3,cap3,rfl,_,_⟩:=(HO.out.sl bv_len (by decide)).len))
 have HNF:Hid (Rg.Nf (Rg.dif A B) (Rg.flatB (Rg.bandsP (Rg.csP A' B') G))∧(A.length≤12→B=[]→(Rg.flatB (Rg.bandsP (Rg.csP A' B') G)).length≤256)):=by
  have oA':Rg.Ok A':=fun x hx=>oA x (HPA.out.mem_iff.1 hx)
  have oB':Rg.Ok B':=fun x hx=>oB x (HPB.out.mem_iff.1 hx)
  obtain ⟨la,lA⟩:=srt_lft HRA.out oA';obtain ⟨lb,lB⟩:=srt_lft HRB.out oB';have hE:∀ e,e∈G↔Rg.EdR (A++B) e:=fun e=>by
   rw [HG2.out];unfold Rg.EdR
   constructor
   ·rintro ⟨x,hx,h⟩
    refine ⟨x,?_,h⟩
    rcases List.mem_append.1 hx with k|k
    ·exact List.mem_append.2 (.inl (HPA.out.mem_iff.1 k))
    ·exact List.mem_append.2 (.inr (HPB.out.mem_iff.1 k))
   ·rintro ⟨x,hx,h⟩
    refine ⟨x,?_,h⟩
    rcases List.mem_append.1 hx with k|k
    ·exact List.mem_append.2 (.inl (HPA.out.mem_iff.2 k))
    ·exact List.mem_append.2 (.inr (HPB.out.mem_iff.2 k))
  refine ⟨Rg.nf_prog (fun x=>HPA.out.mem_iff) (fun x=>HPB.out.mem_iff) oA oB lA lB HG1.out hE,fun h12 hBn=>?_⟩
  subst hBn;have hB':B'=[]:=List.eq_nil_of_length_eq_zero (by have:=HPB.out.length_eq;simpa using this)
  rw [hB'];exact Rg.bandsP_len (A:=A) (by rw [HPA.out.length_eq];exact h12) (fun x=>HPA.out.mem_iff) HG1.out hE
 generalize Rg.bandsP (Rg.csP A' B') G=D at *;have HLD:=hid HH.out.len;clear HF HF2 HBD HG1 HG2 HPA HPB HRA HRB HSA HA HB HQ1 HQ2;go_loopw [5,16] (fun o s W=>∃ (i:Nat),i≤O.length∧s=.int .i64 i∧Own rc 49 4 w3.heap.size W o (Rg.flatB (D.take i))∧(Rg.flatB (D.take i)).length≤i*100000000∧Q w3 W) (fun _ s _=>O.length-(intOf s).toNat)
 case atStart=>exact ⟨0,Nat.zero_le _,rfl,own_eq (own_nil _) (by simp [Rg.flatB]),by simp [Rg.flatB],Q.refl _⟩
 case round=>
  obtain ⟨i,hi,rfl,hown,hR,hq⟩:=hrel;have HOW:=hid hown;have HQ:=hid hq;clear hown hq;by_cases hlt:i<O.length
  ·have hlt':(i:Int)<(O.length:Int):=by omega
   have hiD:i<D.length:=by have:=HLD.out;omega
   obtain ⟨g,off,cap',e,_,_,hc⟩:=((HO.out.sl bv_len (by decide)).on HQ.out).at hlt
   cases e
   obtain ⟨hf,ht,hv⟩:=HH.out.get i hlt hiD;have HF:=hid (flatB_succ (D:=D) (i:=i) hiD);have hbl:=HBL.out D[i] (List.getElem_mem _);generalize O[i]=x at *;generalize D[i]=b at *;obtain ⟨f,t,xv⟩:=x;obtain ⟨f',t',cs⟩:=b;simp only at hf ht hv hbl
   subst hf ht;have HCV:=hid hv;obtain ⟨ao4,cap4,rfl,_,_⟩:=(hv.sl sp_len (by decide)).len
   clear hv;have c0:wr.cell? ⟨g,off+i*3,none⟩=some (.int .i64 f):=hc 0 _ rfl
   have c1:wr.cell? ⟨g,off+i*3+1,none⟩=some (.int .i64 t):=hc 1 _ rfl
   have c2:wr.cell? ⟨g,off+i*3+2,none⟩=some (.slice ao4 cs.length cap4):=hc 2 _ rfl
   clear hc;obtain ⟨w0,rfl⟩:∃ w0,w0=wr:=⟨wr,rfl⟩;have BK:=hid (bx_heap w0 (bv ⟨f,t,.slice ao4 cs.length cap4⟩) 110);have HOW1:=hid (HOW.out.alloc (.cells (bv ⟨f,t,.slice ao4 cs.length cap4⟩).toArray 110));have HQ1:=hid (HQ.out.alloc (.cells (bv ⟨f,t,.slice ao4 cs.length cap4⟩).toArray 110));generalize hP:Rg.flatB (D.take i)=P at *;have HP:=hid hP;clear hP;simp only [bv]at BK HOW1 HQ1
   go_wp2_with fail
   clear c0 c1 c2;generalize w0.alloc (.cells [Value.int .i64 f,.int .i64 t,.slice ao4 cs.length cap4].toArray 110)=W1 at *;generalize w0.heap.size=bx at *;go_loopw [5,23] (fun o s W=>∃ (j:Nat),j≤cs.length∧s=.int .i64 j∧Own rc 49 4 w3.heap.size W o (P++(Rg.rows ⟨f,t,cs⟩).take j)∧Bx W bx [.int .i64 f,.int .i64 t,.slice ao4 cs.length cap4] 110∧Q w3 W) (fun _ s _=>cs.length-(intOf s).toNat)
   case atStart=>exact ⟨0,Nat.zero_le _,rfl,own_eq HOW1.out (by simp),BK.out,HQ1.out⟩
   case round=>
    clear HOW HQ HOW1 HQ1 BK;obtain ⟨j,hj,rfl,hown,hbk,hq⟩:=hrel;have HOW:=hid hown;have HQ:=hid hq;have HBK:=hid hbk;clear hown hq hbk;by_cases hjl:j<cs.length
    ·have hjl':(j:Int)<(cs.length:Int):=by omega
     obtain ⟨g2,off2,cap5,e,_,_,hc⟩:=((HCV.out.sl sp_len (by decide)).on HQ.out).at hjl
     cases e
     have HR2:=hid (rows_succ (b:=⟨f,t,cs⟩) hjl);simp only at HR2
     have hlen:(P++(Rg.rows ⟨f,t,cs⟩).take j).length≤500000000000:=by
      rw [List.length_append,List.length_take,Rg.rows_len];simp only
      omega
     generalize cs[j]=y at *;obtain ⟨yf,yt⟩:=y;have d0:wr.cell? ⟨g2,off2+j*2,none⟩=some (.int .i64 yf):=hc 0 _ rfl
     have d1:wr.cell? ⟨g2,off2+j*2+1,none⟩=some (.int .i64 yt):=hc 1 _ rfl
     clear hc;have b0:wr.cell? ⟨bx,0,none⟩=some (.int .i64 f):=HBK.out.cell 0 _ rfl
     have b1:wr.cell? ⟨bx,1,none⟩=some (.int .i64 t):=HBK.out.cell 1 _ rfl
     have hbx:bx<wr.heap.size:=HBK.out.lt
     generalize hOO:P++(Rg.rows ⟨f,t,cs⟩).take j=OO at *;have HOO:=hid hOO;clear hOO;go_wp2_with (at_builtin;refine wpList_append_own _ rfl _ _ 33 rfl w3.heap.size 49 i0 (.agg #[.int .i64 0,.int .i64 0,.int .i64 0,.int .i64 0]) 4 32 Tryz.underlying33 HI.out.1 HI.out.2.1 HI.out.2.2.1 HI.out.2.2.2 rfl (by decide) _ _ _ rfl ((HOW.out.alloc _).alloc _) _ 1 1 [.int .i64 f,.int .i64 yf,.int .i64 t,.int .i64 yt] rfl rfl (news_at _ [.int .i64 f,.int .i64 yf,.int .i64 t,.int .i64 yt] 49 _ (by simp)) (rc_one ⟨f,yf,t,yt⟩) (by unfold maxLen;omega) (by omega) (by have:=HQ.out.size;simp;omega) ?_)
     intro v5 w5 hown' hgrow _
     have HO5:Hid (Own rc 49 4 w3.heap.size w5 v5 (P++(Rg.rows ⟨f,t,cs⟩).take (j+1))):=by
      have:=own_snoc' (enc:=rc) (x:=⟨f,yf,t,yt⟩) hown' rfl
      rw [←HOO.out,List.append_assoc]at this;exact own_eq this (by rw [HR2.out])
     have HB5:=hid (((HBK.out.on ((Q.refl _).alloc _)).on ((Q.refl _).alloc _)).grown hgrow (HBK.out.ne HOW.out (by decide)))
     have HQ5:Hid (Q w3 w5):=Below.grown ((HQ.out.alloc _).alloc _) hgrow (by have:=HQ.out.size;simp;omega) (HOW.out.blk)
     clear hown' hgrow HOW HQ HBK d0 d1 b0 b1;go_wp2_with fail
     go_roundw
     case rel=>exact ⟨j+1,by omega,by go_num,HO5.out,HB5.out,HQ5.out⟩
     case measure=>simp [intOf];omega
    ·have hjl':¬ (j:Int)<(cs.length:Int):=by omega
     have HO5:Hid (Own rc 49 4 w3.heap.size wr u5 (Rg.flatB (D.take (i+1)))):=own_eq HOW.out (by rw [HF.out,List.take_of_length_le (by rw [Rg.rows_len];simp only;omega)])
     have hR5:(Rg.flatB (D.take (i+1))).length≤(i+1)*100000000:=by
      rw [HF.out,List.length_append,Rg.rows_len];simp only
      omega
     clear HOW;go_wp2_with fail
     go_roundw
     case rel=>exact ⟨i+1,by omega,by go_num,HO5.out,hR5,HQ.out⟩
     case measure=>simp [intOf];omega
  ·have hlt':¬ (i:Int)<(O.length:Int):=by omega
   have hld:=HLD.out;have HE:Hid (Rg.flatB (D.take i)=Rg.flatB D):=by show _=_;rw [List.take_of_length_le (by omega)]
   clear hld;go_wp2_with fail
   go_ret
   exact ⟨_,rfl,_,(own_eq HOW.out HE.out).mono HQ3.out.size,HQ3.out.trans HQ.out,HNF.out.1,by rw [←HE.out];omega,HNF.out.2⟩
theorem WPost.back{A B:List Rg.Rc}{w w1:World}{v:Value}{w':World}(h:WPost A B w1 v w')(q:Q w w1):WPost A B w v w':=by
 obtain ⟨l,h1,h2,h3,h4,h5⟩:=h;exact ⟨l,h1.mono q.size,q.trans h2,h3,h4,h5⟩
theorem norm_any(v:Value)(L:List Rg.Rc)(w:World)(h:Sl rc 4 w v L):Calls Tryz.prog 47 #[v] w fun e w'=>∃ v',e=.returned v'∧WPost (Rg.cnted L) [] w v' w':=by
 have HC:=hid (counted_any v L w h);have hlen:=Rg.cnted_len L;have HM:=hid (Rg.cnted_mays L);generalize Rg.cnted L=C at *;clear h;go_enter Tryz.func47,Tryz.ntmps47
 go_wp2_with (first
  |(go_at_call 68;refine HC.out.mono ?_;rintro e w1 ⟨v1,rfl,own1,q1⟩;have HQ:=hid q1;have HW:=hid (without_any v1 _ C [] w1 (own1.sl rc_len (by decide)) (sl_nil w1) hlen (by simp) HM.out.ok (fun x hx=>by simp at hx));clear own1 q1)
  |(go_at_call 67;refine HW.out.mono ?_;rintro e w2 ⟨v2,rfl,hp⟩;have HP:=hid (hp.back HQ.out);clear hp))
 go_ret
 exact ⟨_,rfl,HP.out⟩
theorem norm_known(v:Value)(L l:List Rg.Rc)(w:World)(h:Sl rc 4 w v L)(hl:Rg.Nf (Rg.dif (Rg.cnted L) []) l):Calls Tryz.prog 47 #[v] w fun e w'=>∃ v',e=.returned v'∧Own rc 49 4 w.heap.size w' v' l∧Q w w':=
 (norm_any v L w h).mono fun e w' ⟨v',he,l',h1,h2,h3,_⟩=>⟨v',he,own_eq h1 (Rg.nf_uniq h3 hl),h2⟩
theorem ar_stop{m n:Int}{x:Rg.Rc}{l:List Rg.Rc}(h:Int.tdiv (m-n) (x.d-x.b)<x.c-x.a):Rg.ar m n (x::l)=m:=by rw [Rg.ar,if_pos h]
theorem ar_go{m n:Int}{x:Rg.Rc}{l:List Rg.Rc}(h:¬ Int.tdiv (m-n) (x.d-x.b)<x.c-x.a):Rg.ar m n (x::l)=Rg.ar m (n+(x.c-x.a)*(x.d-x.b)) l:=by rw [Rg.ar,if_neg h]
theorem area_any(v:Value)(L l:List Rg.Rc)(most mx:Int)(w:World)(h:Sl rc 4 w v L)(hl:Rg.Nf (Rg.dif (Rg.cnted L) []) l)(hll:l.length≤1000000000000)(hm1:most≤9223372036854775807)(hmx:max most 0=mx) :
  Calls Tryz.prog 48 #[v,.int .i64 most] w fun e w'=>e=.returned (.int .i64 (Rg.ar mx 0 l))∧Q w w':=by
 have HN:=hid (norm_known v L l w h hl);have HMA:=hid (Rg.nf_mays hl (Rg.dif_inn (Rg.cnted_mays L)));have hm0:0≤mx:=by omega
 have hm2:mx≤9223372036854775807:=by omega
 clear h hl;generalize hT:Rg.ar mx 0 l=T;have HT:=hid hT;clear hT;go_enter Tryz.func48,Tryz.ntmps48
 go_wp2_with (go_at_call 47;refine HN.out.mono ?_;rintro e w1 ⟨v1,rfl,own1,q1⟩;have HS:=hid (own1.sl rc_len (by decide));have HQ1:=hid q1;clear own1 q1;obtain ⟨ao,cap,rfl,_,_⟩:=HS.out.len)
 clear hmx;go_loopw [5,16] (fun r s W=>∃ (i:Nat) (rm:Int),i≤l.length∧s=.int .i64 i∧r=.int .i64 rm∧0≤rm∧rm≤mx∧Q w1 W∧Hid (Rg.ar mx (mx-rm) (l.drop i)=T)) (fun _ s _=>l.length-(intOf s).toNat)
 case atStart=>exact ⟨0,mx,Nat.zero_le _,rfl,rfl,hm0,Int.le_refl _,Q.refl _,by rw [List.drop_zero,Int.sub_self];exact HT.out⟩
 case round=>
  obtain ⟨i,rm,hi,rfl,rfl,hr0,hr1,hq,HZ⟩:=hrel;have HQ:=hid hq;clear hq;by_cases hlt:i<l.length
  ·have hlt':(i:Int)<(l.length:Int):=by omega
   obtain ⟨g,off,cap',e,_,_,hc⟩:=(HS.out.on HQ.out).at hlt;cases e
   rw [List.drop_eq_getElem_cons hlt]at HZ;have hmay:=HMA.out l[i] (List.getElem_mem _);generalize l[i]=x at *;obtain ⟨xa,xb,xc,xd⟩:=x;obtain ⟨m1,m2,m3,m4,m5,m6⟩:=hmay;simp only at m1 m2 m3 m4 m5 m6
   have c0:wr.cell? ⟨g,off+i*4,none⟩=some (.int .i64 xa):=hc 0 _ rfl
   have c1:wr.cell? ⟨g,off+i*4+1,none⟩=some (.int .i64 xb):=hc 1 _ rfl
   have c2:wr.cell? ⟨g,off+i*4+2,none⟩=some (.int .i64 xc):=hc 2 _ rfl
   have c3:wr.cell? ⟨g,off+i*4+3,none⟩=some (.int .i64 xd):=hc 3 _ rfl
   clear hc;obtain ⟨hh,e1⟩:∃ hh,xc-xa=hh:=⟨_,rfl⟩;obtain ⟨ww,e2⟩:∃ ww,xd-xb=ww:=⟨_,rfl⟩;have p1:0<hh:=by omega
   have p2:hh≤4398046511104:=by omega
   have p3:0<ww:=by omega
   have p4:ww≤4398046511104:=by omega
   have p5:(ww == 0)=false:=by simp;omega
   have HE1:=hid e1;have HE2:=hid e2;have hdv0:0≤Int.tdiv rm ww:=Int.tdiv_nonneg hr0 (by omega)
   have hdv1:Int.tdiv rm ww≤rm:=by rw [Int.tdiv_eq_ediv_of_nonneg hr0];exact Int.ediv_le_self _ hr0
   by_cases hd:Int.tdiv rm ww<hh
   ·have HR:Hid (mx=T):=by
     have:=HZ.out
     rw [ar_stop (by simp only;rw [e1,e2,show mx-(mx-rm)=rm by omega];exact hd)]at this
     exact this
    clear HZ;go_wp2_with fail
    go_quiet (fail)
    go_wp2_with fail
    go_ret
    exact ⟨ret_int HR.out,HQ1.out.trans ((HQ.out.alloc _).drewN _)⟩
   ·have HM:=hid ((Rg.tdiv_lt (h:=hh) hr0 p3))
    have hle:hh*ww≤rm:=by
     have h9:=hd;rw [HM.out]at h9;omega
    have hge:0≤hh*ww:=Int.mul_nonneg (by omega) (by omega)
    have HZ2:Hid (Rg.ar mx (mx-(rm-hh*ww)) (l.drop (i+1))=T):=by
     have:=HZ.out
     rw [ar_go (by simp only;rw [e1,e2,show mx-(mx-rm)=rm by omega];exact hd)]at this
     simp only at this
     rw [e1,e2,show mx-rm+hh*ww=mx-(rm-hh*ww) by omega]at this
     exact this
    clear HZ HM;obtain ⟨pp,e3⟩:∃ pp,hh*ww=pp:=⟨_,rfl⟩;rw [e3]at hle hge HZ2;go_wp2_with fail
    go_quiet (fail)
    go_wp2_with fail
    exact ⟨⟨i+1,rm-pp,by omega,by go_num,rfl,by omega,by omega,(HQ.out.alloc _).drewN _,HZ2⟩,by simp [intOf];omega⟩
  ·have hlt':¬ (i:Int)<(l.length:Int):=by omega
   have HR:Hid (mx-rm=T):=by
    have:=HZ.out
    rw [List.drop_eq_nil_of_le (by omega)]at this
    exact this
   clear HZ;go_wp2_with fail
   go_ret
   exact ⟨ret_int HR.out,HQ1.out.trans HQ.out⟩
end Go.Proofs.YtngnakdbhkjbjaaGreatDoor.R
namespace Go.Proofs.YtngnakdbhkjbjaaGreatDoor.R
open Go.RowKit
set_option linter.unusedVariables false
set_option linter.unusedSimpArgs false
section
variable {α:Type} {enc:α→List Value} {k:Nat}
theorem sl_take{W:World}{ao:Option Addr}{cap:Nat}{L:List α}(h:Sl enc k W (.slice ao L.length cap) L)(n:Nat)(hn:n≤L.length):Sl enc k W (.slice ao n cap) (L.take n):=by
 obtain ⟨ao',cap',hv,h1,h2,h⟩:=h;simp only [Value.slice.injEq,true_and]at hv
 obtain ⟨rfl,rfl⟩:=hv;have e:(L.take n).length=n:=by rw [List.length_take];omega
 refine ⟨ao,cap,by rw [e],by rw [e];omega,h2,fun hl=>?_⟩
 obtain ⟨b,off,ha,hc⟩:=h (by rw [e]at hl;omega)
 refine ⟨b,off,ha,fun i hi=>?_⟩
 have:=hc i (by rw [e]at hi;omega)
 rw [List.getElem_take];exact this
theorem sl_drop{W:World}{b off cap:Nat}{L:List α}(h:Sl enc k W (.slice (some ⟨b,off,none⟩) L.length cap) L)(n:Nat)(hn:n≤L.length):Sl enc k W (.slice (some ⟨b,off+n*k,none⟩) (L.length-n) (cap-n)) (L.drop n):=by
 obtain ⟨ao',cap',hv,h1,h2,h⟩:=h;simp only [Value.slice.injEq,true_and]at hv
 obtain ⟨rfl,rfl⟩:=hv;refine ⟨_,_,by rw [List.length_drop],by rw [List.length_drop];omega,by omega,fun hl=>?_⟩
 rw [List.length_drop]at hl;obtain ⟨b',off',ha,hc⟩:=h (by omega)
 cases ha
 refine ⟨b,off+n*k,rfl,fun i hi=>?_⟩
 rw [List.length_drop]at hi;have:=hc (n+i) (by omega)
 rw [List.getElem_drop];rw [Nat.add_mul]at this;rw [show off+n*k+i*k=off+(n*k+i*k) by omega]
 exact this
theorem sl_news{W:World}{ad:Addr}{n cap:Nat}{L:List α}(h:Sl enc k W (.slice (some ad) n cap) L)(hk:∀ x,(enc x).length=k)(hp:0<k):∀ j u,(flat enc L)[j]?=some u→W.cell? (ad.add j)=some u:=by
 obtain ⟨ao,cap',hv,h⟩:=h.cells hk hp;simp only [Value.slice.injEq]at hv
 rcases h with rfl|⟨ad',rfl,h⟩
 ·intro j u hu;simp [flat]at hu
 ·obtain ⟨e,_,_⟩:=hv
  cases e
  exact h
end
end Go.Proofs.YtngnakdbhkjbjaaGreatDoor.R
namespace Go.Proofs.YtngnakdbhkjbjaaGreatDoor.R
open Go.RowKit
theorem own_first{α:Type}{enc:α→List Value}{e:TypeId}{k B:Nat}{W:World}{v:Value}{L:List α}{n:Nat}(h:W.ownsRow B e k v n ([]++flat enc L))(hn:n=L.length):Own enc e k B W v L:=by
 subst hn;exact h
theorem own_append'{α:Type}{enc:α→List Value}{e:TypeId}{k B:Nat}{W:World}{v:Value}{L L':List α}{n:Nat}(h:W.ownsRow B e k v n (flat enc L++flat enc L'))(hn:n=L.length+L'.length):Own enc e k B W v (L++L'):=by
 subst hn;exact own_append h
theorem wpList_append_src{w:World}{ops:Array Oper}{rest:List Oper}{o:Oper}{a:Act}{Q:Exit→Act→World→Prop}(hgd:o.guard=none)(s x:Operand)(t:TypeId)
  (ho:o.op=.call { callee:=.builtin .append,args:=#[s,x],argTypes:=#[t,t] })
  (base:Nat) (e:TypeId) (i:TypeInfo) (z:Value) (size bytes:Nat) (ht:Tryz.prog.underlying t=some (.slice e)) (hi:Tryz.prog.info? e=some i) (hz:i.zero=some z)
  (hsize:i.size=size) (hby:i.bytes=bytes) (hzs:z.cells.size=size) (hsz:0<size)
  (v:Value) (n:Nat) (xs:List Value) (hs:a.eval s=v) (hown:w.ownsRow base e size v n xs)
  (u:Value) (hx:a.eval x=u) (m:Nat) (news:List Value) (hu:(u=.slice none 0 0∧m=0∧news=[])∨∃ ad c,u=.slice (some ad) m c∧∀ j u,news[j]?=some u→w.cell? (ad.add j)=some u)
  (hl:news.length=m*size) (h1:∀ u∈news,u.oneCell'=true)
  (h63:n+m≤maxLen) (hbytes:(n+m)*bytes≤140737488355328) (hbase:base≤w.heap.size)
  (h:∀ v' w',w'.ownsRow base e size v' (n+m) (xs++news)→w.grownBy w' v.ownBlock→wpList Tryz.prog ops Q rest (a.put o.dst v') w'):wpList Tryz.prog ops Q (o::rest) a w:=by
 rcases hu with ⟨rfl,rfl,rfl⟩|⟨ad,c,rfl,hnews⟩
 ·refine wpList_append_own_none hgd s x t ho base e i size ht hi v n xs hs hown hx (h v w (by simpa using hown) ⟨rfl,rfl,rfl,Nat.le_refl _,fun _ _ _=>rfl⟩)
 ·exact wpList_append_own w hgd s x t ho base e i z size bytes ht hi hz hsize hby hzs hsz v n xs hs hown ad m c news hx hl hnews h1 h63 hbytes hbase fun v' w' h2 h3 _=>h v' w' h2 h3
theorem own_src{α:Type}{enc:α→List Value}{e:TypeId}{k B:Nat}{W:World}{v:Value}{L:List α}(h:Own enc e k B W v L)(hk:∀ x,(enc x).length=k)(hp:0<k):(v=.slice none 0 0∧L.length=0∧flat enc L=[])∨∃ ad c,v=.slice (some ad) L.length c∧∀ j u,(flat enc L)[j]?=some u→W.cell? (ad.add j)=some u:=by
 have hs:=h.sl hk hp;obtain ⟨_,h⟩:=h
 rcases h with ⟨hv,hn⟩|⟨g,cap,cur,hv,_⟩
 ·exact .inl ⟨hv,hn,by rw [List.eq_nil_of_length_eq_zero hn];rfl⟩
 ·rw [hv]at hs
  exact .inr ⟨_,_,hv,sl_news hs hk hp⟩
def insG(n:Int):List Int→List Int
 |[]=>[n]
 |g::l=>if g<n then g::insG n l else if g=n then g::l else n::g::l
theorem insG_len(n:Int):∀ l,(insG n l).length≤l.length+1
 |[]=>by simp [insG]
 |g::l=>by
  have:=insG_len n l
  rw [insG]
  split
  ·simp only [List.length_cons];omega
  ·split <;> simp
theorem insG_mem(n e:Int):∀ l,e∈insG n l↔e=n∨e∈l
 |[]=>by simp [insG]
 |g::l=>by
  rw [insG]
  split
  ·rw [List.mem_cons,insG_mem n e l,List.mem_cons]
   constructor
   ·rintro (h|h|h)
    ·exact .inr (.inl h)
    ·exact .inl h
    ·exact .inr (.inr h)
   ·rintro (h|h|h)
    ·exact .inr (.inl h)
    ·exact .inl h
    ·exact .inr (.inr h)
  ·split
   ·rename_i h
    constructor
    ·intro h2;exact .inr h2
    ·rintro (h2|h2)
     ·subst h2;rw [←h];exact List.mem_cons_self ..
     ·exact h2
   ·rw [List.mem_cons]
theorem insG_asc(n:Int):∀ (l:List Int) (g:Int),g<n→Rg.Asc g l→Rg.Asc g (insG n l)
 |[],g,h,_=>⟨h,trivial⟩
 |x::l,g,h,⟨h1,h2⟩=>by
  rw [insG]
  split
  ·exact ⟨h1,insG_asc n l x (by assumption) h2⟩
  ·split
   ·exact ⟨h1,h2⟩
   ·exact ⟨h,by omega,h2⟩
theorem insG_ascl(n:Int)(l:List Int)(h:Rg.Ascl l):Rg.Ascl (insG n l):=by
 cases l with
 |nil=>trivial
 |cons g l=>
  rw [insG]
  split
  ·exact insG_asc n l g (by assumption) h
  ·split
   ·exact h
   ·exact ⟨by omega,h⟩
theorem insG_on{n:Int}{G:List Int}{k:Nat}(hk:k<G.length)(h:G[k]<n)(e:insG n G=G.take k++insG n (G.drop k)):insG n G=G.take (k+1)++insG n (G.drop (k+1)):=by
 rw [e,List.drop_eq_getElem_cons hk,insG,if_pos h,List.take_succ_eq_append_getElem hk,List.append_assoc]
 rfl
theorem insG_is{n:Int}{G:List Int}{k:Nat}(hk:k<G.length)(h:G[k]=n)(e:insG n G=G.take k++insG n (G.drop k)):insG n G=G:=by
 have h2:insG n (G.drop k)=G.drop k:=by
  rw [List.drop_eq_getElem_cons hk,insG,if_neg (by omega),if_pos h]
 rw [e,h2,List.take_append_drop]
theorem insG_new{n:Int}{G:List Int}{k:Nat}(h:(hk:k<G.length)→¬ G[k]<n∧¬ G[k]=n)(e:insG n G=G.take k++insG n (G.drop k)):insG n G=(G.take k++[n])++G.drop k:=by
 have h2:insG n (G.drop k)=n::G.drop k:=by
  by_cases hk:k<G.length
  ·obtain ⟨h3,h4⟩:=h hk
   rw [List.drop_eq_getElem_cons hk,insG,if_neg h3,if_neg h4]
  ·rw [List.drop_eq_nil_of_le (by omega)]
   rfl
 rw [e,h2,List.append_assoc]
 rfl
theorem sl_src{α:Type}{enc:α→List Value}{k n cap b off:Nat}{W:World}{L:List α}(h:Sl enc k W (.slice (some ⟨b,off,none⟩) n cap) L)(hn:n=L.length)(hk:∀ x,(enc x).length=k)(hp:0<k):(Value.slice (some ⟨b,off,none⟩) n cap=.slice none 0 0∧n=0∧flat enc L=[])∨∃ ad c,Value.slice (some ⟨b,off,none⟩) n cap=.slice (some ad) n c∧∀ j u,(flat enc L)[j]?=some u→W.cell? (ad.add j)=some u:=
 .inr ⟨_,_,rfl,sl_news h hk hp⟩
theorem into_any(v:Value)(G:List Int)(n:Int)(w:World)(B:Nat)(h:Own ie 2 1 B w v G)(hB:B≤w.heap.size)(hl:G.length≤100000):Calls Tryz.prog 72 #[v,.int .i64 n] w fun e w'=>∃ v',e=.returned v'∧Own ie 2 1 B w' v' (insG n G)∧Q w w':=by
 obtain ⟨i0,HI⟩:=inf_of info2;have HI:=hid HI;generalize hT:insG n G=T;have HT:=hid hT;clear hT;have HO:=hid h;obtain ⟨_,h2⟩:=h
 rcases h2 with ⟨hv,hn⟩|⟨g,cap,cur,hv,_,_,hc1,hc2,_,_⟩
 ·have hG:G=[]:=List.eq_nil_of_length_eq_zero hn
  subst hG hv;have HT2:Hid ([n]=T):=HT.out
  clear HT hn;go_enter Tryz.func72,Tryz.ntmps72
  go_wp2_with fail
  go_loopw [5] (fun s W=>s=.int .i64 0∧w=W) (fun _ _=>0)
  case atStart=>exact ⟨rfl,rfl⟩
  case round=>
   obtain ⟨rfl,rfl⟩:=hrel;go_wp2_with (first
    |(at_builtin;refine wpList_append_own_none rfl _ _ 98 rfl w.heap.size 2 i0 1 Tryz.underlying98 HI.out.1 (.slice none 0 0) 0 [] rfl (World.ownsRow_nil _ _ _ _) rfl ?_)
    |(at_builtin;refine wpList_append_own _ rfl _ _ 98 rfl w.heap.size 2 i0 (.int .i64 0) 1 8 Tryz.underlying98 HI.out.1 HI.out.2.1 HI.out.2.2.1 HI.out.2.2.2 rfl (by decide) (.slice none 0 0) 0 [] rfl (World.ownsRow_nil _ _ _ _) _ 1 1 [.int .i64 n] rfl rfl (news_at _ [.int .i64 n] 2 _ (by simp)) (ie_one n) (by decide) (by decide) (by simp) ?_;intro v3 w3 hown' hgrow _;have HO3:Hid (Own ie 2 1 w.heap.size w3 v3 [n]):=(hid (own_first (enc:=ie) (L:=[n]) hown' rfl));have HQ3:Hid (Q w w3):=(hid (Below.grown ((Q.refl w).alloc _) hgrow (by simp) (fun k e=>by cases e)));clear hown' hgrow)
    |(at_builtin;refine wpList_append_own_none rfl _ _ 98 rfl w.heap.size 2 i0 1 Tryz.underlying98 HI.out.1 _ _ _ rfl HO3.out rfl ?_))
   go_ret
   exact ⟨_,rfl,(own_eq HO3.out HT2.out).mono hB,HQ3.out⟩
 ·subst hv
  have hc3:(cap:Int)≤9223372036854775807:=by unfold maxLen at hc2;omega
  have HS:=hid (HO.out.sl ie_len (by decide))
  go_enter Tryz.func72,Tryz.ntmps72
  go_wp2_with fail
  go_loopw [5] (fun s W=>∃ (k:Nat),k≤G.length∧s=.int .i64 k∧w=W∧Hid (insG n G=G.take k++insG n (G.drop k))) (fun s _=>G.length-(intOf s).toNat)
  case atStart=>exact ⟨0,Nat.zero_le _,rfl,rfl,by show _=_;simp⟩
  case round=>
   obtain ⟨k,hk,rfl,rfl,HZ⟩:=hrel;have hkc:(k:Int)≤(cap:Int):=by omega
   have hkl:(k:Int)≤(G.length:Int):=by omega
   by_cases hlt:k<G.length
   ·have hlt':(k:Int)<(G.length:Int):=by omega
    have c0:w.cell? ⟨g,k,none⟩=some (.int .i64 G[k]):=by
     have:=HO.out.cell ie_len hlt 0 _ rfl
     simpa using this
    by_cases h1:G[k]<n
    ·have HZ2:=hid (insG_on hlt h1 HZ.out)
     clear HZ;go_wp2_with fail
     go_roundw
     case rel=>exact ⟨k+1,by omega,by go_num,(by first|rfl|trivial),HZ2⟩
     case measure=>simp [intOf];omega
    ·by_cases h2:G[k]=n
     ·have h2':(G[k] == n)=true:=by simpa using h2
      have HR:Hid (G=T):=by show _=_;rw [←HT.out,insG_is hlt h2 HZ.out]
      clear HZ h2;go_wp2_with fail
      go_ret
      exact ⟨_,rfl,own_eq HO.out HR.out,Q.refl _⟩
     ·have h2':(G[k] == n)=false:=by simpa using h2
      have HR:Hid ((G.take k++[n])++G.drop k=T):=by show _=_;rw [←HT.out,insG_new (fun _=>⟨h1,h2⟩) HZ.out]
      clear HZ h2;by_cases hck:cap=k
      ·have HD:Hid ((Value.slice (some ⟨g,0,none⟩) (G.length-k) (cap-k)=.slice none 0 0∧G.length-k=0∧flat ie (G.drop k)=[])∨∃ ad c,Value.slice (some ⟨g,0,none⟩) (G.length-k) (cap-k)=.slice (some ad) (G.length-k) c∧∀ W,Q w W→∀ j u,(flat ie (G.drop k))[j]?=some u→W.cell? (ad.add j)=some u):=.inr ⟨_,_,rfl,fun W q j u hu=>by
        rw [List.drop_eq_nil_of_le (by omega)]at hu
        simp [flat]at hu⟩
       have hck':(cap=k)=True:=_root_.eq_true hck
       clear hck;go_wp2_with (first
        |(at_builtin;refine wpList_append_src rfl _ _ 98 rfl w.heap.size 2 i0 (.int .i64 0) 1 8 Tryz.underlying98 HI.out.1 HI.out.2.1 HI.out.2.2.1 HI.out.2.2.2 rfl (by decide) (.slice none 0 0) 0 [] rfl (World.ownsRow_nil _ _ _ _) (.slice (some ⟨g,0,none⟩) k cap) rfl k (flat ie (G.take k)) (sl_src (sl_take HS.out k hk) (by rw [List.length_take];omega) ie_len (by decide)) (by rw [flat_len ie ie_len,List.length_take];omega) (flat_one ie ie_one) (by unfold maxLen;omega) (by omega) (Nat.le_refl _) ?_;intro v3 w3 hown' hgrow;have HO3:=hid (own_first (enc:=ie) (L:=G.take k) hown' (by rw [List.length_take];omega));have HQ3:Hid (Q w w3):=(hid (Below.grown (Q.refl w) hgrow (Nat.le_refl _) (fun k e=>by cases e)));clear hown' hgrow)
        |(at_builtin;refine wpList_append_own _ rfl _ _ 98 rfl w.heap.size 2 i0 (.int .i64 0) 1 8 Tryz.underlying98 HI.out.1 HI.out.2.1 HI.out.2.2.1 HI.out.2.2.2 rfl (by decide) v3 _ _ rfl (HO3.out.alloc _) _ 1 1 [.int .i64 n] rfl rfl (news_at _ [.int .i64 n] 2 _ (by simp)) (ie_one n) (by unfold maxLen;rw [List.length_take];omega) (by rw [List.length_take];omega) (by have:=HQ3.out.size;simp;omega) ?_;intro v4 w4 hown' hgrow _;have HO4:=hid (own_snoc' (enc:=ie) (L:=G.take k) (x:=n) hown' rfl);have HQ4:Hid (Q w w4):=(hid (Below.grown (HQ3.out.alloc _) hgrow (by have:=HQ3.out.size;simp;omega) (HO3.out.blk)));clear hown' hgrow)
        |(at_builtin;refine wpList_append_src rfl _ _ 98 rfl w.heap.size 2 i0 (.int .i64 0) 1 8 Tryz.underlying98 HI.out.1 HI.out.2.1 HI.out.2.2.1 HI.out.2.2.2 rfl (by decide) v4 _ _ rfl HO4.out _ rfl (G.length-k) (flat ie (G.drop k)) (HD.out.imp id (fun ⟨ad,c,e,hh⟩=>⟨ad,c,e,hh _ HQ4.out⟩)) (by rw [flat_len ie ie_len,List.length_drop]) (flat_one ie ie_one) (by unfold maxLen;rw [List.length_append,List.length_take];simp only [List.length_cons,List.length_nil];omega) (by rw [List.length_append,List.length_take];simp only [List.length_cons,List.length_nil];omega) (by have:=HQ4.out.size;omega) ?_;intro v5 w5 hown' hgrow;have HO5:=hid (own_append' (enc:=ie) (L:=G.take k++[n]) (L':=G.drop k) hown' (by rw [List.length_drop]));have HQ5:Hid (Q w w5):=(hid (Below.grown HQ4.out hgrow HQ4.out.size (HO4.out.blk)));clear hown' hgrow))
       go_ret
       exact ⟨_,rfl,(own_eq HO5.out HR.out).mono hB,HQ5.out⟩
      ·have HD:Hid ((Value.slice (some ⟨g,k,none⟩) (G.length-k) (cap-k)=.slice none 0 0∧G.length-k=0∧flat ie (G.drop k)=[])∨∃ ad c,Value.slice (some ⟨g,k,none⟩) (G.length-k) (cap-k)=.slice (some ad) (G.length-k) c∧∀ W,Q w W→∀ j u,(flat ie (G.drop k))[j]?=some u→W.cell? (ad.add j)=some u):=.inr ⟨_,_,rfl,fun W q=>by
        have:=sl_drop (HS.out.on q) k hk
        rw [Nat.mul_one,Nat.zero_add]at this;exact sl_news this ie_len (by decide)⟩
       have hck':(cap=k)=False:=_root_.eq_false hck
       clear hck;go_wp2_with (first
        |(at_builtin;refine wpList_append_src rfl _ _ 98 rfl w.heap.size 2 i0 (.int .i64 0) 1 8 Tryz.underlying98 HI.out.1 HI.out.2.1 HI.out.2.2.1 HI.out.2.2.2 rfl (by decide) (.slice none 0 0) 0 [] rfl (World.ownsRow_nil _ _ _ _) (.slice (some ⟨g,0,none⟩) k cap) rfl k (flat ie (G.take k)) (sl_src (sl_take HS.out k hk) (by rw [List.length_take];omega) ie_len (by decide)) (by rw [flat_len ie ie_len,List.length_take];omega) (flat_one ie ie_one) (by unfold maxLen;omega) (by omega) (Nat.le_refl _) ?_;intro v3 w3 hown' hgrow;have HO3:=hid (own_first (enc:=ie) (L:=G.take k) hown' (by rw [List.length_take];omega));have HQ3:Hid (Q w w3):=(hid (Below.grown (Q.refl w) hgrow (Nat.le_refl _) (fun k e=>by cases e)));clear hown' hgrow)
        |(at_builtin;refine wpList_append_own _ rfl _ _ 98 rfl w.heap.size 2 i0 (.int .i64 0) 1 8 Tryz.underlying98 HI.out.1 HI.out.2.1 HI.out.2.2.1 HI.out.2.2.2 rfl (by decide) v3 _ _ rfl (HO3.out.alloc _) _ 1 1 [.int .i64 n] rfl rfl (news_at _ [.int .i64 n] 2 _ (by simp)) (ie_one n) (by unfold maxLen;rw [List.length_take];omega) (by rw [List.length_take];omega) (by have:=HQ3.out.size;simp;omega) ?_;intro v4 w4 hown' hgrow _;have HO4:=hid (own_snoc' (enc:=ie) (L:=G.take k) (x:=n) hown' rfl);have HQ4:Hid (Q w w4):=(hid (Below.grown (HQ3.out.alloc _) hgrow (by have:=HQ3.out.size;simp;omega) (HO3.out.blk)));clear hown' hgrow)
        |(at_builtin;refine wpList_append_src rfl _ _ 98 rfl w.heap.size 2 i0 (.int .i64 0) 1 8 Tryz.underlying98 HI.out.1 HI.out.2.1 HI.out.2.2.1 HI.out.2.2.2 rfl (by decide) v4 _ _ rfl HO4.out _ rfl (G.length-k) (flat ie (G.drop k)) (HD.out.imp id (fun ⟨ad,c,e,hh⟩=>⟨ad,c,e,hh _ HQ4.out⟩)) (by rw [flat_len ie ie_len,List.length_drop]) (flat_one ie ie_one) (by unfold maxLen;rw [List.length_append,List.length_take];simp only [List.length_cons,List.length_nil];omega) (by rw [List.length_append,List.length_take];simp only [List.length_cons,List.length_nil];omega) (by have:=HQ4.out.size;omega) ?_;intro v5 w5 hown' hgrow;have HO5:=hid (own_append' (enc:=ie) (L:=G.take k++[n]) (L':=G.drop k) hown' (by rw [List.length_drop]));have HQ5:Hid (Q w w5):=(hid (Below.grown HQ4.out hgrow HQ4.out.size (HO4.out.blk)));clear hown' hgrow))
       go_ret
       exact ⟨_,rfl,(own_eq HO5.out HR.out).mono hB,HQ5.out⟩
   ·have hlt':¬ (k:Int)<(G.length:Int):=by omega
    have HR:Hid ((G.take k++[n])++G.drop k=T):=by show _=_;rw [←HT.out,insG_new (fun h=>absurd h hlt) HZ.out]
    clear HZ;by_cases hck:cap=k
    ·have HD:Hid ((Value.slice (some ⟨g,0,none⟩) (G.length-k) (cap-k)=.slice none 0 0∧G.length-k=0∧flat ie (G.drop k)=[])∨∃ ad c,Value.slice (some ⟨g,0,none⟩) (G.length-k) (cap-k)=.slice (some ad) (G.length-k) c∧∀ W,Q w W→∀ j u,(flat ie (G.drop k))[j]?=some u→W.cell? (ad.add j)=some u):=.inr ⟨_,_,rfl,fun W q j u hu=>by
      rw [List.drop_eq_nil_of_le (by omega)]at hu
      simp [flat]at hu⟩
     have hck':(cap=k)=True:=_root_.eq_true hck
     clear hck;go_wp2_with (first
      |(at_builtin;refine wpList_append_src rfl _ _ 98 rfl w.heap.size 2 i0 (.int .i64 0) 1 8 Tryz.underlying98 HI.out.1 HI.out.2.1 HI.out.2.2.1 HI.out.2.2.2 rfl (by decide) (.slice none 0 0) 0 [] rfl (World.ownsRow_nil _ _ _ _) (.slice (some ⟨g,0,none⟩) k cap) rfl k (flat ie (G.take k)) (sl_src (sl_take HS.out k hk) (by rw [List.length_take];omega) ie_len (by decide)) (by rw [flat_len ie ie_len,List.length_take];omega) (flat_one ie ie_one) (by unfold maxLen;omega) (by omega) (Nat.le_refl _) ?_;intro v3 w3 hown' hgrow;have HO3:=hid (own_first (enc:=ie) (L:=G.take k) hown' (by rw [List.length_take];omega));have HQ3:Hid (Q w w3):=(hid (Below.grown (Q.refl w) hgrow (Nat.le_refl _) (fun k e=>by cases e)));clear hown' hgrow)
      |(at_builtin;refine wpList_append_own _ rfl _ _ 98 rfl w.heap.size 2 i0 (.int .i64 0) 1 8 Tryz.underlying98 HI.out.1 HI.out.2.1 HI.out.2.2.1 HI.out.2.2.2 rfl (by decide) v3 _ _ rfl (HO3.out.alloc _) _ 1 1 [.int .i64 n] rfl rfl (news_at _ [.int .i64 n] 2 _ (by simp)) (ie_one n) (by unfold maxLen;rw [List.length_take];omega) (by rw [List.length_take];omega) (by have:=HQ3.out.size;simp;omega) ?_;intro v4 w4 hown' hgrow _;have HO4:=hid (own_snoc' (enc:=ie) (L:=G.take k) (x:=n) hown' rfl);have HQ4:Hid (Q w w4):=(hid (Below.grown (HQ3.out.alloc _) hgrow (by have:=HQ3.out.size;simp;omega) (HO3.out.blk)));clear hown' hgrow)
      |(at_builtin;refine wpList_append_src rfl _ _ 98 rfl w.heap.size 2 i0 (.int .i64 0) 1 8 Tryz.underlying98 HI.out.1 HI.out.2.1 HI.out.2.2.1 HI.out.2.2.2 rfl (by decide) v4 _ _ rfl HO4.out _ rfl (G.length-k) (flat ie (G.drop k)) (HD.out.imp id (fun ⟨ad,c,e,hh⟩=>⟨ad,c,e,hh _ HQ4.out⟩)) (by rw [flat_len ie ie_len,List.length_drop]) (flat_one ie ie_one) (by unfold maxLen;rw [List.length_append,List.length_take];simp only [List.length_cons,List.length_nil];omega) (by rw [List.length_append,List.length_take];simp only [List.length_cons,List.length_nil];omega) (by have:=HQ4.out.size;omega) ?_;intro v5 w5 hown' hgrow;have HO5:=hid (own_append' (enc:=ie) (L:=G.take k++[n]) (L':=G.drop k) hown' (by rw [List.length_drop]));have HQ5:Hid (Q w w5):=(hid (Below.grown HQ4.out hgrow HQ4.out.size (HO4.out.blk)));clear hown' hgrow))
     go_ret
     exact ⟨_,rfl,(own_eq HO5.out HR.out).mono hB,HQ5.out⟩
    ·have HD:Hid ((Value.slice (some ⟨g,k,none⟩) (G.length-k) (cap-k)=.slice none 0 0∧G.length-k=0∧flat ie (G.drop k)=[])∨∃ ad c,Value.slice (some ⟨g,k,none⟩) (G.length-k) (cap-k)=.slice (some ad) (G.length-k) c∧∀ W,Q w W→∀ j u,(flat ie (G.drop k))[j]?=some u→W.cell? (ad.add j)=some u):=.inr ⟨_,_,rfl,fun W q=>by
      have:=sl_drop (HS.out.on q) k hk
      rw [Nat.mul_one,Nat.zero_add]at this;exact sl_news this ie_len (by decide)⟩
     have hck':(cap=k)=False:=_root_.eq_false hck
     clear hck;go_wp2_with (first
      |(at_builtin;refine wpList_append_src rfl _ _ 98 rfl w.heap.size 2 i0 (.int .i64 0) 1 8 Tryz.underlying98 HI.out.1 HI.out.2.1 HI.out.2.2.1 HI.out.2.2.2 rfl (by decide) (.slice none 0 0) 0 [] rfl (World.ownsRow_nil _ _ _ _) (.slice (some ⟨g,0,none⟩) k cap) rfl k (flat ie (G.take k)) (sl_src (sl_take HS.out k hk) (by rw [List.length_take];omega) ie_len (by decide)) (by rw [flat_len ie ie_len,List.length_take];omega) (flat_one ie ie_one) (by unfold maxLen;omega) (by omega) (Nat.le_refl _) ?_;intro v3 w3 hown' hgrow;have HO3:=hid (own_first (enc:=ie) (L:=G.take k) hown' (by rw [List.length_take];omega));have HQ3:Hid (Q w w3):=(hid (Below.grown (Q.refl w) hgrow (Nat.le_refl _) (fun k e=>by cases e)));clear hown' hgrow)
      |(at_builtin;refine wpList_append_own _ rfl _ _ 98 rfl w.heap.size 2 i0 (.int .i64 0) 1 8 Tryz.underlying98 HI.out.1 HI.out.2.1 HI.out.2.2.1 HI.out.2.2.2 rfl (by decide) v3 _ _ rfl (HO3.out.alloc _) _ 1 1 [.int .i64 n] rfl rfl (news_at _ [.int .i64 n] 2 _ (by simp)) (ie_one n) (by unfold maxLen;rw [List.length_take];omega) (by rw [List.length_take];omega) (by have:=HQ3.out.size;simp;omega) ?_;intro v4 w4 hown' hgrow _;have HO4:=hid (own_snoc' (enc:=ie) (L:=G.take k) (x:=n) hown' rfl);have HQ4:Hid (Q w w4):=(hid (Below.grown (HQ3.out.alloc _) hgrow (by have:=HQ3.out.size;simp;omega) (HO3.out.blk)));clear hown' hgrow)
      |(at_builtin;refine wpList_append_src rfl _ _ 98 rfl w.heap.size 2 i0 (.int .i64 0) 1 8 Tryz.underlying98 HI.out.1 HI.out.2.1 HI.out.2.2.1 HI.out.2.2.2 rfl (by decide) v4 _ _ rfl HO4.out _ rfl (G.length-k) (flat ie (G.drop k)) (HD.out.imp id (fun ⟨ad,c,e,hh⟩=>⟨ad,c,e,hh _ HQ4.out⟩)) (by rw [flat_len ie ie_len,List.length_drop]) (flat_one ie ie_one) (by unfold maxLen;rw [List.length_append,List.length_take];simp only [List.length_cons,List.length_nil];omega) (by rw [List.length_append,List.length_take];simp only [List.length_cons,List.length_nil];omega) (by have:=HQ4.out.size;omega) ?_;intro v5 w5 hown' hgrow;have HO5:=hid (own_append' (enc:=ie) (L:=G.take k++[n]) (L':=G.drop k) hown' (by rw [List.length_drop]));have HQ5:Hid (Q w w5):=(hid (Below.grown HQ4.out hgrow HQ4.out.size (HO4.out.blk)));clear hown' hgrow))
     go_ret
     exact ⟨_,rfl,(own_eq HO5.out HR.out).mono hB,HQ5.out⟩
end Go.Proofs.YtngnakdbhkjbjaaGreatDoor.R
