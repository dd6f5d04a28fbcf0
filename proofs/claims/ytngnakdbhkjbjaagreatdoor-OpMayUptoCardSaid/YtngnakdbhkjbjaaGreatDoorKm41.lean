/- The reference: the normal form. -/
import Derived.Test.YtngnakdbhkjbjaaGreatDoorKm27
set_option linter.unusedVariables false
set_option linter.unusedSimpArgs false
set_option maxRecDepth 100000
set_option maxHeartbeats 8000000
namespace Go.Proofs.YtngnakdbhkjbjaaGreatDoor.R
open Go.RowKit Go.Sort
set_option linter.unusedVariables false
set_option linter.unusedSimpArgs false
attribute [local go_sem ↓] Go.wp_at_zero Go.wp_at_succ
theorem edR_succ{A:List Rg.Rc}{i:Nat}(h:i<A.length)(e:Int):Rg.EdR (A.take (i+1)) e↔Rg.EdR (A.take i) e∨e=A[i].a∨e=A[i].c:=by
 unfold Rg.EdR
 rw [List.take_succ_eq_append_getElem h]
 constructor
 ·rintro ⟨x,hx,he⟩
  rcases List.mem_append.1 hx with k|k
  ·exact .inl ⟨x,k,he⟩
  ·rw [List.mem_singleton]at k;rw [k]at he;exact .inr he
 ·rintro (⟨x,hx,he⟩|he)
  ·exact ⟨x,List.mem_append.2 (.inl hx),he⟩
  ·exact ⟨A[i],List.mem_append.2 (.inr (List.mem_singleton.2 rfl)),he⟩
theorem edC_succ{A:List Rg.Rc}{i:Nat}(h:i<A.length)(e:Int):Rg.EdC (A.take (i+1)) e↔Rg.EdC (A.take i) e∨e=A[i].b∨e=A[i].d:=by
 unfold Rg.EdC
 rw [List.take_succ_eq_append_getElem h]
 constructor
 ·rintro ⟨x,hx,he⟩
  rcases List.mem_append.1 hx with k|k
  ·exact .inl ⟨x,k,he⟩
  ·rw [List.mem_singleton]at k;rw [k]at he;exact .inr he
 ·rintro (⟨x,hx,he⟩|he)
  ·exact ⟨x,List.mem_append.2 (.inl hx),he⟩
  ·exact ⟨A[i],List.mem_append.2 (.inr (List.mem_singleton.2 rfl)),he⟩
structure Gps (A G C:List _) (i:Nat):Prop where
 gl:G.length≤2*i
 cl:C.length≤2*i
 ga:Rg.Ascl G
 ca:Rg.Ascl C
 gm:∀ e,e∈G↔Rg.EdR (A.take i) e
 cm:∀ e,e∈C↔Rg.EdC (A.take i) e
theorem gps_zero(A:List Rg.Rc):Gps A [] [] 0:=⟨Nat.le_refl _,Nat.le_refl _,trivial,trivial,fun e=>by simp [Rg.EdR],fun e=>by simp [Rg.EdC]⟩
theorem gps_succ{A:List Rg.Rc}{G C:List Int}{i:Nat}(h:Gps A G C i)(hi:i<A.length):Gps A (insG A[i].c (insG A[i].a G)) (insG A[i].d (insG A[i].b C)) (i+1):=by
 refine ⟨?_,?_,insG_ascl _ _ (insG_ascl _ _ h.ga),insG_ascl _ _ (insG_ascl _ _ h.ca),fun e=>?_,fun e=>?_⟩
 ·have h1:=insG_len A[i].a G
  have h2:=insG_len A[i].c (insG A[i].a G);have:=h.gl
  omega
 ·have h1:=insG_len A[i].b C
  have h2:=insG_len A[i].d (insG A[i].b C);have:=h.cl
  omega
 ·rw [insG_mem,insG_mem,h.gm,edR_succ hi]
  constructor
  ·rintro (h|h|h)
   ·exact .inr (.inr h)
   ·exact .inr (.inl h)
   ·exact .inl h
  ·rintro (h|h|h)
   ·exact .inr (.inr h)
   ·exact .inr (.inl h)
   ·exact .inl h
 ·rw [insG_mem,insG_mem,h.cm,edC_succ hi]
  constructor
  ·rintro (h|h|h)
   ·exact .inr (.inr h)
   ·exact .inr (.inl h)
   ·exact .inl h
  ·rintro (h|h|h)
   ·exact .inr (.inr h)
   ·exact .inr (.inl h)
   ·exact .inl h
def FPost(A:List Rg.Rc)(w:World)(v:Value)(w':World):Prop:=
 ∃ G C,Own rc 49 4 w.heap.size w' v (Rg.formR (Rg.csR A [] C) G)∧Q w w'∧Gps A G C A.length
theorem form_any(va:Value)(A:List Rg.Rc)(w:World)(Bw:Nat)(h:Own rc 49 4 Bw w va A)(hA:A.length≤256):Calls Tryz.prog 54 #[va,.slice none 0 0] w fun e w'=>∃ v,e=.returned v∧FPost A w v w':=by
 obtain ⟨i0,HI⟩:=inf_of info28;have HI:=hid HI;have HA:=hid h;have HSA:=hid (h.sl rc_len (by decide))
 clear h;go_enter Tryz.func54,Tryz.ntmps54
 go_upto_block 0 with (first
  |(at_builtin;refine wpList_append_src rfl _ _ 33 rfl w.heap.size 49 i0 (.agg #[.int .i64 0,.int .i64 0,.int .i64 0,.int .i64 0]) 4 32 Tryz.underlying33 HI.out.1 HI.out.2.1 HI.out.2.2.1 HI.out.2.2.2 rfl (by decide) (.slice none 0 0) 0 [] rfl (World.ownsRow_nil _ _ _ _) va rfl A.length (flat rc A) (own_src HA.out rc_len (by decide)) (flat_len rc rc_len A) (flat_one rc rc_one) (by unfold maxLen;omega) (by omega) (Nat.le_refl _) ?_;intro v3 w3 hown' hgrow;have HO3:=hid (own_first (enc:=rc) (L:=A) hown' (by omega));have HQ3:Hid (Q w w3):=(hid (Below.grown (Q.refl w) hgrow (Nat.le_refl _) (fun k e=>by cases e)));clear hown' hgrow)
  |(at_builtin;refine wpList_append_own_none rfl _ _ 33 rfl w.heap.size 49 i0 4 Tryz.underlying33 HI.out.1 _ _ _ rfl HO3.out rfl ?_;have HAL:=hid (HO3.out.sl rc_len (by decide));obtain ⟨aol,capl,rfl,_,_⟩:=HAL.out.len))
 go_cut [5,6,8] from 23 to 54 (fun r c s W=>∃ G C,Own ie 2 1 w3.heap.size W r G∧Own ie 2 1 w3.heap.size W c C∧Q w3 W∧Hid (Gps A G C A.length))
 case first=>
  as_aux_lemma=>
   go_wp2_with fail
   go_loopw [5,6,8] (fun r c s W=>∃ (i:Nat) (G C:List Int),i≤A.length∧s=.int .i64 i∧Own ie 2 1 w3.heap.size W r G∧Own ie 2 1 w3.heap.size W c C∧Q w3 W∧Hid (Gps A G C i)) (fun _ _ s _=>A.length-(intOf s).toNat)
   case atStart=>exact ⟨0,[],[],Nat.zero_le _,rfl,own_nil _,own_nil _,Q.refl _,gps_zero A⟩
   case round=>
    obtain ⟨i,G,C,hi,rfl,hr,hc,hq,HG⟩:=hrel;have HR:=hid hr;have HC:=hid hc;have HQ:=hid hq;clear hr hc hq;by_cases hlt:i<A.length
    ·have hlt':(i:Int)<(A.length:Int):=by omega
     obtain ⟨g,off,cap',e,_,_,hcc⟩:=(HAL.out.on HQ.out).at hlt;cases e
     have HG2:=hid (gps_succ HG.out hlt);have hgl:=HG.out.gl;have hcl:=HG.out.cl;have hsz:=HQ.out.size;generalize A[i]=x at *;obtain ⟨xa,xb,xc,xd⟩:=x;have HX:=hid hcc;clear hcc HG;simp only at HG2
     have HQwr:Hid (Q wr wr):=Q.refl _
     go_upto_region 6 with fail
     have hk0:Hid (wr.drew.cell? ⟨g,off+i*4,none⟩=some (.int .i64 xa)∧wr.drew.cell? ⟨g,off+i*4+2,none⟩=some (.int .i64 xc)):=⟨(HX.out) 0 _ rfl,(HX.out) 2 _ rfl⟩
     go_region_held3 (fun W=>(W.cell? ⟨g,off+i*4,none⟩=some (.int .i64 xa)∧W.cell? ⟨g,off+i*4+2,none⟩=some (.int .i64 xc))) (with_reducible (first|exact hk0.out|exact hk1.out|exact hk2.out))
      (first
       |(go_at_call_of 72 xa;refine (into_any _ G xa _ w3.heap.size (HR.out.on ((Q.refl _).drew)) (by show w3.heap.size≤wr.heap.size;omega) (by omega)).mono ?_;rintro r w4 ⟨v4,rfl,own4,q4⟩;have HRw4:=hid own4;have HQw4:Hid (Q wr w4):=(hid (Q.trans (Q.drew HQwr.out) q4));have hk1:Hid (w4.cell? ⟨g,off+i*4,none⟩=some (.int .i64 xa)∧w4.cell? ⟨g,off+i*4+2,none⟩=some (.int .i64 xc)):=⟨(HX.out.on HQw4.out) 0 _ rfl,(HX.out.on HQw4.out) 2 _ rfl⟩;clear own4 q4)
       |(go_at_call_of 72 xc;refine (into_any v4 (insG xa G) xc _ w3.heap.size HRw4.out (by have:=HQw4.out.size;omega) (by have:=insG_len xa G;omega)).mono ?_;rintro r w5 ⟨v5,rfl,own5,q5⟩;have HRw5:=hid own5;have HQw5:Hid (Q wr w5):=(hid (Q.trans HQw4.out q5));have hk2:Hid (w5.cell? ⟨g,off+i*4,none⟩=some (.int .i64 xa)∧w5.cell? ⟨g,off+i*4+2,none⟩=some (.int .i64 xc)):=⟨(HX.out.on HQw5.out) 0 _ rfl,(HX.out.on HQw5.out) 2 _ rfl⟩;clear own5 q5))
     go_upto_region 7 with fail
     have HC5:=hid (HC.out.on HQw5.out);have hs5:=HQw5.out.size;have hk3:Hid (w5.drew.cell? ⟨g,off+i*4+1,none⟩=some (.int .i64 xb)∧w5.drew.cell? ⟨g,off+i*4+3,none⟩=some (.int .i64 xd)):=⟨(HX.out.on HQw5.out) 1 _ rfl,(HX.out.on HQw5.out) 3 _ rfl⟩
     go_region_held3 (fun W=>(W.cell? ⟨g,off+i*4+1,none⟩=some (.int .i64 xb)∧W.cell? ⟨g,off+i*4+3,none⟩=some (.int .i64 xd))) (with_reducible (first|exact hk3.out|exact hk4.out|exact hk5.out))
      (first
       |(go_at_call_of 72 xb;refine (into_any _ C xb _ w3.heap.size (HC5.out.on ((Q.refl _).drew)) (by show w3.heap.size≤w5.heap.size;omega) (by omega)).mono ?_;rintro r w6 ⟨v6,rfl,own4,q4⟩;have HRw6:=hid own4;have HQw6:Hid (Q wr w6):=(hid (Q.trans (Q.drew HQw5.out) q4));have QA:Hid (Q w5 w6):=(hid (Q.trans ((Q.refl w5).drew) q4));have hk4:Hid (w6.cell? ⟨g,off+i*4+1,none⟩=some (.int .i64 xb)∧w6.cell? ⟨g,off+i*4+3,none⟩=some (.int .i64 xd)):=⟨(HX.out.on HQw6.out) 1 _ rfl,(HX.out.on HQw6.out) 3 _ rfl⟩;clear own4 q4)
       |(go_at_call_of 72 xd;refine (into_any v6 (insG xb C) xd _ w3.heap.size HRw6.out (by have:=HQw6.out.size;omega) (by have:=insG_len xb C;omega)).mono ?_;rintro r w7 ⟨v7,rfl,own5,q5⟩;have HRw7:=hid own5;have HQw7:Hid (Q wr w7):=(hid (Q.trans HQw6.out q5));have QQ:Hid (Q w5 w7):=(hid (Q.trans QA.out q5));have hk5:Hid (w7.cell? ⟨g,off+i*4+1,none⟩=some (.int .i64 xb)∧w7.cell? ⟨g,off+i*4+3,none⟩=some (.int .i64 xd)):=⟨(HX.out.on HQw7.out) 1 _ rfl,(HX.out.on HQw7.out) 3 _ rfl⟩;clear own5 q5))
     go_wp2_with fail
     go_roundw
     case rel=>exact ⟨i+1,_,_,by omega,by go_num,HRw5.out.on QQ.out,HRw7.out,HQ.out.trans HQw7.out,HG2⟩
     case measure=>simp [intOf];omega
    ·have hlt':¬ (i:Int)<(A.length:Int):=by omega
     obtain rfl:i=A.length:=by omega
     go_wp2_with fail
     go_meet
     exact ⟨G,C,HR.out,HC.out,HQ.out,HG⟩
 case rest=>
  obtain ⟨G,C,hg,hc,hq,HG⟩:=hcut;have HR:=hid (hg.sl ie_len (by decide))
  have HC:=hid (hc.sl ie_len (by decide))
  have HQ4:=hid (HQ3.out.trans hq);obtain ⟨aog,capg,rfl,hg1,hg2⟩:=HR.out.len;obtain ⟨aoc,capc,rfl,hc1,hc2⟩:=HC.out.len;have HAW:=hid ((HA.out.on HQ4.out).sl rc_len (by decide))
  obtain ⟨aoa,capa,rfl,_,_⟩:=HAW.out.len;have hgl:G.length≤512:=by have:=HG.out.gl;omega
  have hcl:C.length≤512:=by have:=HG.out.cl;omega
  have mixed:Tryz.prog.follows .mixedOrders=true:=by kernel_rfl
  generalize hT:Rg.formR (Rg.csR A [] C) G=T;have HT:=hid hT;clear hT hg hc hq HA HSA HO3 HQ3 HAL;obtain ⟨wb,rfl⟩:∃ w0,w0=wc:=⟨wc,rfl⟩;go_wp2_with fail
  go_loopw [9,10,11] (fun l b s W=>∃ (i:Nat) (L Bn:List Rg.Rc),s=.int .i64 i∧(i=0∨i<G.length)∧L.length≤i*512∧Own rc 49 4 wb.heap.size W l L∧Own rc 49 4 wb.heap.size W b Bn∧Hid (l.ownBlock=none∨l.ownBlock≠b.ownBlock)∧Q wb W∧Hid (FI (Rg.csR A [] C) G i L Bn T)) (fun _ _ s _=>G.length-(intOf s).toNat)
  case atStart=>exact ⟨0,[],[],rfl,.inl rfl,Nat.zero_le _,own_nil _,own_nil _,.inl rfl,Q.refl _,fi_first HT.out⟩
  case round=>
   obtain ⟨i,L,Bn,rfl,hi,hL,hl,hb,HNE,hq,HF⟩:=hrel;have HL:=hid hl;have HB:=hid hb;have HQ:=hid hq;clear hl hb hq;obtain ⟨aol2,capl2,rfl,hl1,hl2⟩:=(HL.out.sl rc_len (by decide)).len
   obtain ⟨aob,capb,rfl,hb1,hb2⟩:=(HB.out.sl rc_len (by decide)).len
   by_cases hlt:i+1<G.length
   ·have hlt':(i:Int)+1<(G.length:Int):=by omega
    have hlt2:(i:Int)<(G.length:Int):=by omega
    obtain ⟨gg,offg,capg',e,_,_,hcg⟩:=ie_at HR.out (i:=0) (by omega)
    cases e
    have HCG:Hid (∀ W,Q wb W→W.cell? ⟨gg,offg+i,none⟩=some (.int .i64 G[i])∧W.cell? ⟨gg,offg+(i+1),none⟩=some (.int .i64 G[i+1])):=fun W q=>⟨hcg W q i (by omega),hcg W q (i+1) hlt⟩
    clear hcg;obtain ⟨D,cur,hLE,hBE,ht,hFT⟩:=HF.out;obtain ⟨f,t,S0⟩:=cur;have ht2:t=G[i]:=by
     have:=ht (by omega)
     rw [List.getElem?_eq_getElem (by omega)]at this
     exact (Option.some.inj this).symm
    subst ht2;have HSAME:=hid (fi_same (cs:=Rg.csR A [] C) hlt hFT);have HNEW:=hid (fi_new (cs:=Rg.csR A [] C) hlt hFT);have HLE:=hid hLE;have HBE:=hid hBE;have HCS:=hid (sj_first (A:=A) (C:=C) (r:=G[i]));clear hFT ht hLE hBE HF;generalize G[i]=top at *;generalize G[i+1]=en at *;generalize Rg.csR A [] C top=S1 at *;obtain ⟨W0,rfl⟩:∃ w0,w0=wr:=⟨wr,rfl⟩;have hw0:wb.heap.size≤W0.heap.size:=HQ.out.size
    have HLB:=hid HL.out.lt;go_upto_block 4 with fail
    go_cut [12,13,14] from 62 to 140 (fun x _ _ W=>∃ X,Own rc 49 4 W0.heap.size W x X∧Q W0 W∧X.length≤C.length∧Hid (X=Rg.rows ⟨top,en,S1⟩))
    case first=>
     as_aux_lemma=>
      go_wp2_with fail
      go_loopw [12,13,14] (fun x s _ W=>∃ (k:Nat) (S:List Rg.Sp) (X:List Rg.Rc),s=.int .i64 k∧(k=0∨k<C.length)∧X.length≤k∧Own rc 49 4 W0.heap.size W x X∧Q W0 W∧Hid (X=Rg.rows ⟨top,en,S⟩)∧Hid (SJ (Rg.dif A [] top) C k S S1)) (fun _ s _ _=>C.length-(intOf s).toNat)
      case atStart=>exact ⟨0,[],[],rfl,.inl rfl,Nat.le_refl _,own_nil _,Q.refl _,rfl,HCS⟩
      case round=>
       obtain ⟨k,S,X,rfl,hk0,hXl,hx,hq,HXE,HSJ⟩:=hrel;have HX:=hid hx;have HQx:=hid hq;clear hx hq;by_cases hk:k+1<C.length
       ·have hk':(k:Int)+1<(C.length:Int):=by omega
        have hk2:(k:Int)<(C.length:Int):=by omega
        obtain ⟨gc,offc,capc',e,_,_,hcc⟩:=ie_at HC.out (i:=0) (by omega)
        cases e
        have HCC:Hid (∀ W,Q wb W→W.cell? ⟨gc,offc+k,none⟩=some (.int .i64 C[k])∧W.cell? ⟨gc,offc+(k+1),none⟩=some (.int .i64 C[k+1])):=fun W q=>⟨hcc W q k (by omega),hcc W q (k+1) hk⟩
        clear hcc;have HS:=hid (sj_now HSJ.out hk);have HON:Hid (∀ S',SI (Rg.dif A [] top) S' C[k+1] (C.drop (k+1+1)) S1→SJ (Rg.dif A [] top) C (k+1) S' S1):=fun S' h=>sj_on hk h
        clear HSJ;generalize C[k]=ck at *;generalize C[k+1]=cn at *;have HQ5:=hid (HQ.out.trans HQx.out);have HAR:=hid (HAW.out.on HQ5.out);go_upto_region 16 with fail
        cases hh:Rg.has A top ck
        ·have HF:Hid (Rg.dif A [] top ck=false):=by show _=_;rw [Rg.dif_nil];exact hh
         as_aux_lemma=>
          have HIN:Hid (∀ n os,Calls Tryz.prog 73 #[.slice aoa A.length capa,.int .i64 top,.int .i64 ck] (grow (wr.drewN n) os) fun e w'=>e=.returned (.bool false)∧∃ q os',w'=grow ((grow (wr.drewN n) os).drewN q) os'):=fun n os=>by
           have:=in_grown _ A top ck (grow (wr.drewN n) os) (HAR.out.on (q_grown wr n os))
           rw [hh]at this;exact this
          have g0:∀ n os,(grow (wr.drewN n) os).cell? ⟨gg,offg+i,none⟩=some (.int .i64 top):=fun n os=>(HCG.out _ (HQ5.out.trans (q_grown wr n os))).1
          have g1:∀ n os,(grow (wr.drewN n) os).cell? ⟨gc,offc+k,none⟩=some (.int .i64 ck):=fun n os=>(HCC.out _ (HQ5.out.trans (q_grown wr n os))).1
          clear hh;refine wp_region_quiet_grown (by assumption) (by kernel_rfl) ?_
          repeat (go_big_quiet_step (first|(go_at_call_of 73 A;exact Calls.grown_of (HIN.out _ _))))
          refine wpQuiet_nil ?_
          intro _ hw'
          obtain ⟨⟨nq,osq⟩,hw2⟩:=hw';subst hw2;have q2:=hid (q_grown wr nq osq);clear g0 g1 HIN;generalize grow (wr.drewN nq) osq=W2 at *;go_wp2_with fail
          go_roundw
          case rel=>exact ⟨k+1,S,X,by go_num,.inr (by omega),by omega,HX.out.on q2.out,HQx.out.trans q2.out,HXE,HON.out _ (si_skip HS.out HF.out)⟩
          case measure=>simp [intOf];omega
        ·have HF:Hid (Rg.dif A [] top ck=true):=by show _=_;rw [Rg.dif_nil];exact hh
         as_aux_lemma=>
          have HIN:Hid (∀ W,Q wr W→Calls Tryz.prog 73 #[.slice aoa A.length capa,.int .i64 top,.int .i64 ck] W fun e w'=>e=.returned (.bool true)∧Q W w'):=fun W q=>by
           have:=in_any _ A top ck W (HAR.out.on q)
           rw [hh]at this;exact this
          have HIN2:Hid (∀ W,Calls Tryz.prog 73 #[.slice none 0 0,.int .i64 top,.int .i64 ck] W fun e w'=>e=.returned (.bool false)∧Q W w'):=fun W=>in_any _ [] top ck W (sl_nil _)
          have HQR:Hid (Q wr wr.drew):=((Q.refl _).drew)
          have HKP:Hid (∀ W,Q wr W→W.cell? ⟨gg,offg+i,none⟩=some (.int .i64 top)∧W.cell? ⟨gc,offc+k,none⟩=some (.int .i64 ck)):=fun W q=>⟨(HCG.out _ (HQ5.out.trans q)).1,(HCC.out _ (HQ5.out.trans q)).1⟩
          have hk00:=hid (HKP.out _ HQR.out);clear hh;go_region_held3 (fun W=>W.cell? ⟨gg,offg+i,none⟩=some (.int .i64 top)∧W.cell? ⟨gc,offc+k,none⟩=some (.int .i64 ck)) (with_reducible (first|exact hk00.out|exact hk01.out|exact hk02.out))
           (first
            |(go_at_call_of 73 A;refine (HIN.out _ HQR.out).mono ?_;rintro r W1 ⟨rfl,q1⟩;have HQ1:Hid (Q wr W1):=(hid (HQR.out.trans q1));have hk01:=hid (HKP.out _ HQ1.out);clear q1)
            |(go_at_call 73;refine (HIN2.out _).mono ?_;rintro r W2 ⟨rfl,q2⟩;have q2:Hid (Q wr W2):=(hid (HQ1.out.trans q2));have hk02:=hid (HKP.out _ q2.out)))
          have HX2:=hid (HX.out.on q2.out);have HQ2:=hid (HQx.out.trans q2.out);clear HIN HIN2 HX HQx HQ5 HAR HKP hk00 hk01 hk02 HQR HQ1;clear q2
          rcases HS.out with ⟨hS,hT0⟩|⟨D3,c3,hS,hT0⟩
          ·subst hS
           obtain rfl:X=[]:=HXE.out;have HSN:=hid (HON.out _ (si_first hT0 HF.out));clear HS HF HON hT0;obtain ⟨aox,capx,rfl,_,_⟩:=(HX2.out.sl rc_len (by decide)).len
           simp only [List.length_nil]at HX2
           have j1:W2.cell? ⟨gg,offg+i,none⟩=some (.int .i64 top):=(HCG.out _ (HQ.out.trans HQ2.out)).1
           have j3:W2.cell? ⟨gc,offc+k,none⟩=some (.int .i64 ck):=(HCC.out _ (HQ.out.trans HQ2.out)).1
           go_upto_region 18 with fail
           go_quiet (fail)
           have HX3:=hid (HX2.out.on ((Q.refl _).drewN nq));have HQ3:=hid (HQ2.out.drewN nq);clear HX2 HQ2 j1 j3;generalize W2.drewN nq=W3 at *;have HKP:Hid (∀ W,Q W0 W→(W.cell? ⟨gg,offg+i,none⟩=some (.int .i64 top)∧W.cell? ⟨gc,offc+k,none⟩=some (.int .i64 ck)∧W.cell? ⟨gg,offg+(i+1),none⟩=some (.int .i64 en)∧W.cell? ⟨gc,offc+(k+1),none⟩=some (.int .i64 cn))):=fun W q=>⟨(HCG.out _ (HQ.out.trans q)).1,(HCC.out _ (HQ.out.trans q)).1,(HCG.out _ (HQ.out.trans q)).2,(HCC.out _ (HQ.out.trans q)).2⟩
           have hs3:W0.heap.size≤W3.heap.size:=HQ3.out.size
           have hii:IntKind.i64.wrap ((i:Int)+1)=(i:Int)+1:=by rw [IntKind.wrap_i64];omega
           have hkk:IntKind.i64.wrap ((k:Int)+1)=(k:Int)+1:=by rw [IntKind.wrap_i64];omega
           have hi0:(0:Int)≤(i:Int)+1:=by omega
           have hk00:(0:Int)≤(k:Int)+1:=by omega
           go_upto_region 20 with fail
           go_region_held3 (fun W=>(W.cell? ⟨gg,offg+i,none⟩=some (.int .i64 top)∧W.cell? ⟨gc,offc+k,none⟩=some (.int .i64 ck)∧W.cell? ⟨gg,offg+(i+1),none⟩=some (.int .i64 en)∧W.cell? ⟨gc,offc+(k+1),none⟩=some (.int .i64 cn))) (with_reducible (first|exact HKP.out _ HQ3.out|exact HKP.out _ HQ3.out.drew|exact HKP.out _ (HQ3.out.alloc _)|exact HKP.out _ (HQ3.out.alloc _).drew|exact HKP.out _ (HQ3.out.drew.alloc _)|exact HKP.out _ HQ7.out))
            ((refine step_append_lies _ (by rfl) _ _ _ (by rfl) W0.heap.size 49 i0 (.agg #[.int .i64 0,.int .i64 0,.int .i64 0,.int .i64 0]) 4 32 Tryz.underlying33 HI.out.1 HI.out.2.1 HI.out.2.2.1 HI.out.2.2.2 rfl (by decide) (.slice aox 0 capx) 0 (flat rc []) (by rfl) ((HX3.out.alloc _).on ((Q.refl _).drew)) ⟨W3.heap.size,0,none⟩ 1 1 [.int .i64 top,.int .i64 ck,.int .i64 en,.int .i64 cn] (by rfl) (by rfl) (World.news_of_block (cs:=#[.int .i64 top,.int .i64 ck,.int .i64 en,.int .i64 cn]) (t:=49) (fr:=(0,0)) (heap_alloc_new W3 _)) (rc_one ⟨top,ck,en,cn⟩) (by omega) (by unfold maxLen;first|omega|(simp only [List.length_append,List.length_cons,List.length_nil];omega)) (by first|omega|(simp only [List.length_append,List.length_cons,List.length_nil];omega)) (by simp;omega) (W3.heap.size+1) (by simp) ?_;intro g7 cap7 w7 hown7 hgrow hat hlt7;have HO7:=hid (own_snoc' (enc:=rc) (L:=[]) (x:=⟨top,ck,en,cn⟩) hown7 (by simp));have HQ7:Hid (Q W0 w7):=(hid (Below.grown ((HQ3.out.alloc _).drew) hgrow (by simp;omega) (HX3.out.blk)));clear hown7 hgrow hat hlt7))
           go_wp2_with fail
           go_roundw
           case rel=>exact ⟨k+1,([]++[⟨ck,cn⟩]),[]++[⟨top,ck,en,cn⟩],by go_num,.inr (by omega),(by simp <;> omega),HO7.out,HQ7.out,(by show _=_;rfl),HSN⟩
           case measure=>simp [intOf];omega
          ·have hXE:X=Rg.rows ⟨top,en,D3⟩++[⟨top,c3.f,en,c3.t⟩]:=by rw [HXE.out,hS,rows_append,rows_one]
           obtain ⟨cf,ct⟩:=c3;simp only at hXE
           generalize hRR:Rg.rows ⟨top,en,D3⟩=RR at *;have HRR:=hid hRR;clear hRR HXE;subst hS hXE;have hl3:(RR++[Rg.Rc.mk top cf en ct]).length=RR.length+1:=by simp
           obtain ⟨gx,capx,hv,hy1,hy2,hy3,hy4⟩:=HX2.out.shape (by simp)
           have HX3:=HX2.out;rw [hv]at HX3;have HX3:=hid HX3;rw [hl3]at hv hy3 hXl;subst hv;have HXC:=hid (HX3.out.cell rc_len (i:=RR.length) (by simp))
           simp only [List.getElem_concat_length]at HXC
           have j0:W2.cell? ⟨gx,RR.length*4+3,none⟩=some (.int .i64 ct):=HXC.out 3 _ rfl
           have j1:W2.cell? ⟨gc,offc+k,none⟩=some (.int .i64 ck):=(HCC.out _ (HQ.out.trans HQ2.out)).1
           have hcap3:RR.length+1≤9223372036854775807:=by omega
           by_cases hct:ct=ck
           ·have hctb:(ct == ck)=true:=by simpa using hct
            have HSN:=hid (HON.out _ (si_on hT0 HF.out hct));clear HS HF HON hT0 hct;go_upto_region 18 with fail
            go_quiet (fail)
            have HX4:=hid (HX3.out.on ((Q.refl _).drewN nq));have HQ3:=hid (HQ2.out.drewN nq);have f0:(W2.drewN nq).cell? ⟨gx,RR.length*4+3,none⟩=some (.int .i64 ct):=j0
            have f1:(W2.drewN nq).frozen? ⟨gx,RR.length*4+3,none⟩=false:=World.ownsRow.frozenAt HX4.out _
            have f2:(W2.drewN nq).cell? ⟨gc,offc+(k+1),none⟩=some (.int .i64 cn):=(HCC.out _ (HQ.out.trans HQ3.out)).2
            clear HX2 HX3 HQ2 HXC j0 j1;generalize W2.drewN nq=W3 at *;have HX5:Hid (Own rc 49 4 W0.heap.size (W3.setCell ⟨gx,RR.length*4+3,none⟩ (.int .i64 cn)) (.slice (some ⟨gx,0,none⟩) (RR.length+1) capx) (RR++[⟨top,cf,en,cn⟩])):=by
             have h1:=HX4.out;have h2:=h1.set rc_len (i:=RR.length) (by simp) 3 (by decide) (.int .i64 cn) ⟨top,cf,en,cn⟩ (by simp [rc])
             rw [set_last_rc,hl3]at h2;exact h2
            have HQ6:Hid (Q W0 (W3.setCell ⟨gx,RR.length*4+3,none⟩ (.int .i64 cn))):=Below.setCell HQ3.out hy1 _
            clear HX4 HQ3;go_wp2_with fail
            go_roundw
            case rel=>exact ⟨k+1,D3++[⟨cf,cn⟩],RR++[⟨top,cf,en,cn⟩],by go_num,.inr (by omega),(by simp <;> omega),HX5.out,HQ6.out,(by show _=_;rw [rows_append,rows_one,HRR.out]),HSN⟩
            case measure=>simp [intOf];omega
           ·have hctb:(ct == ck)=false:=by simpa using hct
            have HSN:=hid (HON.out _ (si_new hT0 HF.out hct));clear HS HF HON hT0 hct HX3 HXC;go_upto_region 18 with fail
            go_quiet (fail)
            have HX3:=hid (HX2.out.on ((Q.refl _).drewN nq));have HQ3:=hid (HQ2.out.drewN nq);clear HX2 HQ2 j0 j1;generalize W2.drewN nq=W3 at *;have HKP:Hid (∀ W,Q W0 W→(W.cell? ⟨gg,offg+i,none⟩=some (.int .i64 top)∧W.cell? ⟨gc,offc+k,none⟩=some (.int .i64 ck)∧W.cell? ⟨gg,offg+(i+1),none⟩=some (.int .i64 en)∧W.cell? ⟨gc,offc+(k+1),none⟩=some (.int .i64 cn))):=fun W q=>⟨(HCG.out _ (HQ.out.trans q)).1,(HCC.out _ (HQ.out.trans q)).1,(HCG.out _ (HQ.out.trans q)).2,(HCC.out _ (HQ.out.trans q)).2⟩
            have hs3:W0.heap.size≤W3.heap.size:=HQ3.out.size
            have hii:IntKind.i64.wrap ((i:Int)+1)=(i:Int)+1:=by rw [IntKind.wrap_i64];omega
            have hkk:IntKind.i64.wrap ((k:Int)+1)=(k:Int)+1:=by rw [IntKind.wrap_i64];omega
            have hi0:(0:Int)≤(i:Int)+1:=by omega
            have hk00:(0:Int)≤(k:Int)+1:=by omega
            go_upto_region 20 with fail
            go_region_held3 (fun W=>(W.cell? ⟨gg,offg+i,none⟩=some (.int .i64 top)∧W.cell? ⟨gc,offc+k,none⟩=some (.int .i64 ck)∧W.cell? ⟨gg,offg+(i+1),none⟩=some (.int .i64 en)∧W.cell? ⟨gc,offc+(k+1),none⟩=some (.int .i64 cn))) (with_reducible (first|exact HKP.out _ HQ3.out|exact HKP.out _ HQ3.out.drew|exact HKP.out _ (HQ3.out.alloc _)|exact HKP.out _ (HQ3.out.alloc _).drew|exact HKP.out _ (HQ3.out.drew.alloc _)|exact HKP.out _ HQ7.out))
             ((refine step_append_lies _ (by rfl) _ _ _ (by rfl) W0.heap.size 49 i0 (.agg #[.int .i64 0,.int .i64 0,.int .i64 0,.int .i64 0]) 4 32 Tryz.underlying33 HI.out.1 HI.out.2.1 HI.out.2.2.1 HI.out.2.2.2 rfl (by decide) (.slice (some ⟨gx,0,none⟩) (RR.length+1) capx) (RR++[Rg.Rc.mk top cf en ct]).length (flat rc (RR++[Rg.Rc.mk top cf en ct])) (by rfl) ((HX3.out.alloc _).on ((Q.refl _).drew)) ⟨W3.heap.size,0,none⟩ 1 1 [.int .i64 top,.int .i64 ck,.int .i64 en,.int .i64 cn] (by rfl) (by rfl) (World.news_of_block (cs:=#[.int .i64 top,.int .i64 ck,.int .i64 en,.int .i64 cn]) (t:=49) (fr:=(0,0)) (heap_alloc_new W3 _)) (rc_one ⟨top,ck,en,cn⟩) (by omega) (by unfold maxLen;first|omega|(simp only [List.length_append,List.length_cons,List.length_nil];omega)) (by first|omega|(simp only [List.length_append,List.length_cons,List.length_nil];omega)) (by simp;omega) (W3.heap.size+1) (by simp) ?_;intro g7 cap7 w7 hown7 hgrow hat hlt7;have HO7:=hid (own_snoc' (enc:=rc) (L:=(RR++[Rg.Rc.mk top cf en ct])) (x:=⟨top,ck,en,cn⟩) hown7 (by simp));have HQ7:Hid (Q W0 w7):=(hid (Below.grown ((HQ3.out.alloc _).drew) hgrow (by simp;omega) (HX3.out.blk)));clear hown7 hgrow hat hlt7))
            go_wp2_with fail
            go_roundw
            case rel=>exact ⟨k+1,((D3++[⟨cf,ct⟩])++[⟨ck,cn⟩]),(RR++[Rg.Rc.mk top cf en ct])++[⟨top,ck,en,cn⟩],by go_num,.inr (by omega),(by simp <;> omega),(by have:=HO7.out;rw [hl3]at this;exact this),HQ7.out,(by show _=_;rw [rows_append,rows_append,rows_one,rows_one,HRR.out]),HSN⟩
            case measure=>simp [intOf];omega
       ·have hk':¬ (k:Int)+1<(C.length:Int):=by omega
        have HE:=hid (sj_end HSJ.out hk);go_wp2_with fail
        go_meet
        exact ⟨X,HX.out,HQx.out,by omega,by show _=_;rw [HXE.out,HE.out]⟩
    case rest=>
     obtain ⟨X,hx,hq,hXl,HXE⟩:=hcut;have HX:=hid hx;have HQx:=hid hq;have HL1:=hid (HL.out.on hq);have HB1:=hid (HB.out.on hq);have HQ1:=hid (HQ.out.trans hq);have hXS1:X.length≤S1.length:=by rw [HXE.out,rows_len'];exact Nat.le_refl _
     have hXS2:S1.length≤X.length:=by rw [HXE.out,rows_len'];exact Nat.le_refl _
     have hBS1:Bn.length≤S0.length:=by rw [HBE.out,rows_len'];exact Nat.le_refl _
     have hBS2:S0.length≤Bn.length:=by rw [HBE.out,rows_len'];exact Nat.le_refl _
     have HLP:Hid (L.length=(Rg.flatB D).length+Bn.length):=by show _=_;rw [HLE.out,HBE.out,List.length_append]
     clear hx hq HL HB HQ;obtain ⟨W1,rfl⟩:∃ w0,w0=wc:=⟨wc,rfl⟩;obtain ⟨aox,capx,rfl,hx1,hx2⟩:=(HX.out.sl rc_len (by decide)).len
     go_upto_region 21 with fail
     go_cut [15] from 141 to 161 (fun s W=>SM S0 S1 0 s∧Q W1 W)
     case first=>
      by_cases h1:X.length=Bn.length
      ·have h1b:((X.length:Int) == (Bn.length:Int))=true:=by rw [beq_iff_eq];omega
       have h1x:X.length≤Bn.length:=by omega
       have h1y:Bn.length≤X.length:=by omega
       clear h1;by_cases h2:0<X.length
       ·have h2b:decide ((0:Int)<(X.length:Int))=true:=by simpa using h2
        obtain ⟨gb,capb',hv,_,_,_,_⟩:=HB1.out.shape (by omega)
        cases hv
        have HBC:=hid (HB1.out.cell rc_len (i:=0) (by omega))
        have c1:W1.cell? ⟨gb,2,none⟩=some (.int .i64 top):=by
         have hz0:0<S0.length:=by omega
         have h5:Bn[0]?=some ⟨f,S0[0].f,top,S0[0].t⟩:=by
          rw [HBE.out,List.getElem?_eq_getElem (by rw [rows_len'];omega),rows_at _ (by omega)]
         rw [List.getElem?_eq_getElem (by omega)]at h5
         have h6:=HBC.out;rw [Option.some.inj h5]at h6;have:=h6 2 _ rfl
         simpa using this
        have c2:W1.cell? ⟨gg,offg+i,none⟩=some (.int .i64 top):=(HCG.out _ HQ1.out).1
        have HR1:Hid (SM S0 S1 0 (.bool true)):=sm_yes (by omega) (by omega) rfl
        clear HBC;go_quiet (fail)
        go_wp2_with fail
        go_meet
        exact ⟨HR1.out,(Q.refl _).drewN nq⟩
       ·have h2b:decide ((0:Int)<(X.length:Int))=false:=by simpa using h2
        have HR1:Hid (SM S0 S1 0 (.bool false)):=sm_no (by rintro ⟨e,h⟩;rw [e]at h;omega)
        go_quiet (fail)
        go_wp2_with fail
        go_meet
        exact ⟨HR1.out,(Q.refl _).drewN nq⟩
      ·have h1b:((X.length:Int) == (Bn.length:Int))=false:=by rw [beq_eq_false_iff_ne];omega
       have HR1:Hid (SM S0 S1 0 (.bool false)):=sm_no (by rintro ⟨e,h⟩;exact absurd (congrArg List.length e) (by omega))
       go_quiet (fail)
       go_wp2_with fail
       go_meet
       exact ⟨HR1.out,(Q.refl _).drewN nq⟩
     case rest=>
      obtain ⟨hsm,hq⟩:=hcut;have HSM:=hid hsm;have HX2:=hid (HX.out.on hq);have HL2:=hid (HL1.out.on hq);have HB2:=hid (HB1.out.on hq);have HQ2:=hid (HQ1.out.trans hq);have HQx2:=hid (HQx.out.trans hq);clear hsm hq HX HL1 HB1 HQ1 HQx;obtain ⟨W2,rfl⟩:∃ w0,w0=wc:=⟨wc,rfl⟩;go_upto_block 6 with fail
      go_cut [15,16] from 162 to 194 (fun s _ W=>SM S0 S1 (S0.length+S1.length) s∧Q W2 W)
      case first=>
       go_wp2_with fail
       go_loopw [15,16] (fun s c W=>∃ (k:Nat),c=.int .i64 k∧k≤S1.length∧SM S0 S1 k s∧Q W2 W) (fun _ c _=>S1.length-(intOf c).toNat)
       case atStart=>exact ⟨0,rfl,Nat.zero_le _,HSM.out,Q.refl _⟩
       case round=>
        obtain ⟨k,rfl,hk,⟨sm,rfl,hs1,hs2⟩,hq⟩:=hrel;have HQr:=hid hq;clear hq;cases sm
        ·have HNO:Hid (¬ (S0=S1∧0<S0.length)):=hs2 rfl
         clear hs1 hs2;by_cases hkx:(k:Int)<(X.length:Int)
         ·go_wp2_with fail
          go_meet
          exact ⟨sm_no HNO.out,HQr.out⟩
         ·go_wp2_with fail
          go_meet
          exact ⟨sm_no HNO.out,HQr.out⟩
        ·obtain ⟨hy1,hy2,hy3⟩:=hs1 rfl
         have HTK:=hid hy3;have HY1:=hid hy1;have hyx:S1.length≤S0.length:=by omega
         have hyy:S0.length≤S1.length:=by omega
         clear hs1 hs2 hy3 hy1;by_cases hkl:k<X.length
         ·have hkx:(k:Int)<(X.length:Int):=by omega
          have hkb:(k:Int)<(Bn.length:Int):=by omega
          obtain ⟨gx,capx',hv,_,_,_,_⟩:=HX2.out.shape (by omega)
          cases hv
          obtain ⟨gb,capb',hv,_,_,_,_⟩:=HB2.out.shape (by omega)
          cases hv
          have HXC:=hid ((HX2.out.cell rc_len (i:=k) (by omega)).on HQr.out)
          have HBC:=hid ((HB2.out.cell rc_len (i:=k) (by omega)).on HQr.out)
          have hk0:k<S0.length:=by omega
          have hk1:k<S1.length:=by omega
          have ex:X[k]=⟨top,S1[k].f,en,S1[k].t⟩:=by
           have h5:X[k]?=some ⟨top,S1[k].f,en,S1[k].t⟩:=by
            rw [HXE.out,List.getElem?_eq_getElem (by rw [rows_len'];omega),rows_at _ (by omega)]
           rw [List.getElem?_eq_getElem (by omega)]at h5
           exact Option.some.inj h5
          have eb:Bn[k]=⟨f,S0[k].f,top,S0[k].t⟩:=by
           have h5:Bn[k]?=some ⟨f,S0[k].f,top,S0[k].t⟩:=by
            rw [HBE.out,List.getElem?_eq_getElem (by rw [rows_len'];omega),rows_at _ (by omega)]
           rw [List.getElem?_eq_getElem (by omega)]at h5
           exact Option.some.inj h5
          rw [ex]at HXC;rw [eb]at HBC;have HON:=hid (take_on hk0 hk1 HTK.out);have HNE2:=hid (at_ne hk0 hk1);clear ex eb;generalize S1[k]=y1 at *;generalize S0[k]=y0 at *;obtain ⟨y1f,y1t⟩:=y1;obtain ⟨y0f,y0t⟩:=y0;have c1:wr.cell? ⟨gx,k*4+1,none⟩=some (.int .i64 y1f):=HXC.out 1 _ rfl
          have c2:wr.cell? ⟨gx,k*4+3,none⟩=some (.int .i64 y1t):=HXC.out 3 _ rfl
          have c3:wr.cell? ⟨gb,k*4+1,none⟩=some (.int .i64 y0f):=HBC.out 1 _ rfl
          have c4:wr.cell? ⟨gb,k*4+3,none⟩=some (.int .i64 y0t):=HBC.out 3 _ rfl
          clear HXC HBC;simp only at HON HNE2
          by_cases e1:y1f=y0f
          ·have e1b:(y1f == y0f)=true:=by simpa using e1
           by_cases e2:y1t=y0t
           ·have e2b:(y1t == y0t)=true:=by simpa using e2
            have HR1:=hid (sm_yes HY1.out hy2 (HON.out e1 e2));clear e1 e2 HON HNE2;go_upto_region 25 with fail
            go_quiet (fail)
            go_wp2_with fail
            go_roundw
            case rel=>exact ⟨k+1,by go_num,by omega,HR1.out,HQr.out.drewN nq⟩
            case measure=>simp [intOf];omega
           ·have e2b:(y1t == y0t)=false:=by simpa using e2
            have HR1:=hid (sm_no (k:=k+1) (HNE2.out (fun h=>e2 h.2)))
            clear e1 e2 HON HNE2;go_upto_region 25 with fail
            go_quiet (fail)
            go_wp2_with fail
            go_roundw
            case rel=>exact ⟨k+1,by go_num,by omega,HR1.out,HQr.out.drewN nq⟩
            case measure=>simp [intOf];omega
          ·have e1b:(y1f == y0f)=false:=by simpa using e1
           have HR1:=hid (sm_no (k:=k+1) (HNE2.out (fun h=>e1 h.1)))
           clear e1 HON HNE2;go_upto_region 25 with fail
           go_quiet (fail)
           go_wp2_with fail
           go_roundw
           case rel=>exact ⟨k+1,by go_num,by omega,HR1.out,HQr.out.drewN nq⟩
           case measure=>simp [intOf];omega
         ·have hkx:¬ (k:Int)<(X.length:Int):=by omega
          have HR1:Hid (SM S0 S1 (S0.length+S1.length) (.bool true)):=sm_yes HY1.out hy2 (by
           rw [take_all HTK.out (by omega) (by omega)])
          go_wp2_with fail
          go_meet
          exact ⟨HR1.out,HQr.out⟩
      case rest=>
       obtain ⟨⟨sm,rfl,hs1,hs2⟩,hq⟩:=hcut;have HX3:=hid (HX2.out.on hq);have HL3:=hid (HL2.out.on hq);have HB3:=hid (HB2.out.on hq);have HQ3:=hid (HQ2.out.trans hq);have HQx3:=hid (HQx2.out.trans hq);clear hq HX2 HL2 HB2 HQ2 HQx2 HSM;obtain ⟨W3,rfl⟩:∃ w0,w0=wc:=⟨wc,rfl⟩;cases sm
       ·have HNO:Hid (¬ (S0=S1∧0<S0.length)):=hs2 rfl
        clear hs1 hs2
        as_aux_lemma=>
         have HFI:=hid (HNEW.out HNO.out);have hs3:W0.heap.size≤W3.heap.size:=HQx3.out.size
         have hs4:wb.heap.size≤W3.heap.size:=HQ3.out.size
         have HXB:=hid HX3.out.blk;have HXLT:=hid HX3.out.lt;have hLl:L.length≤511*512:=Nat.le_trans hL (Nat.mul_le_mul_right _ (by omega))
         go_wp2_with (first
          |(at_builtin;refine wpList_append_src_at rfl _ _ 33 rfl wb.heap.size 49 i0 (.agg #[.int .i64 0,.int .i64 0,.int .i64 0,.int .i64 0]) 4 32 Tryz.underlying33 HI.out.1 HI.out.2.1 HI.out.2.2.1 HI.out.2.2.2 rfl (by decide) _ _ _ rfl HL3.out _ rfl X.length (flat rc X) (own_src HX3.out rc_len (by decide)) (flat_len rc rc_len X) (flat_one rc rc_one) (by unfold maxLen;omega) (by omega) hs4 ?_;intro v6 w6 hown' hgrow hat;have HO6:=hid (own_append' (enc:=rc) (L:=L) (L':=X) hown' rfl);have HQ6:Hid (Q wb w6):=(hid (Below.grown HQ3.out hgrow hs4 (HL3.out.blk)));have HX6:=hid (HX3.out.grown hgrow (new_ne1 HXB.out HLB.out));have HN6:=hid (new_ne2 HXB.out HXLT.out HLB.out hat);clear hown' hgrow hat))
         go_roundw
         case rel=>exact ⟨i+1,L++X,X,by go_num,.inr (by omega),by rw [List.length_append];omega,HO6.out,HX6.out.mono hw0,HN6,HQ6.out,by show FI _ _ _ (L++X) X T;rw [HLE.out,HXE.out];exact HFI.out⟩
         case measure=>simp [intOf];omega
       ·obtain ⟨hy1,hy2,hy3⟩:=hs1 rfl
        have HEQ:=hid (take_all hy3 (by omega) (by omega))
        clear hs1 hs2 hy3 hy1
        as_aux_lemma=>
         have HFI:=hid (HSAME.out HEQ.out hy2);obtain ⟨gl,capl9,hv,hgl1,hgl2,hgl3,hgl4⟩:=HL3.out.shape (by have:=HLP.out;omega)
         cases hv
         obtain ⟨gb,capb9,hv,hgb1,hgb2,hgb3,hgb4⟩:=HB3.out.shape (by omega)
         cases hv
         have HLB2:Hid (gl≠gb):=by
          rcases HNE.out with h|h
          ·cases h
          ·intro e;exact h (by rw [e];rfl)
         generalize Rg.flatB D=P at *;have HNL:Hid (L.length=P.length+Bn.length):=HLP
         have hbl:Bn.length≤L.length:=by have:=HLP.out;omega
         go_upto_block 8 with fail
         go_cut [17] from 201 to 215 (fun _ W=>Own rc 49 4 wb.heap.size W (.slice (some ⟨gl,0,none⟩) L.length capl2) (mk P Bn en Bn.length)∧Own rc 49 4 wb.heap.size W (.slice (some ⟨gb,0,none⟩) Bn.length capb) Bn∧Q wb W)
         case first=>
          as_aux_lemma=>
           go_wp2_with fail
           go_loopw [17] (fun s W=>∃ (m j:Nat),s=.int .i64 m∧Hid (m=P.length+j)∧j≤Bn.length∧Own rc 49 4 wb.heap.size W (.slice (some ⟨gl,0,none⟩) L.length capl2) (mk P Bn en j)∧Own rc 49 4 wb.heap.size W (.slice (some ⟨gb,0,none⟩) Bn.length capb) Bn∧Q wb W) (fun s _=>L.length-(intOf s).toNat)
           case atStart=>exact ⟨P.length,0,(by have h8:=HLP.out;first|go_num|(congr 1;unfold wrap64;omega)),(by show _=_;rfl),Nat.zero_le _,own_eq HL3.out (by rw [mk_zero,HLE.out,HBE.out]),HB3.out,HQ3.out⟩
           case round=>
            obtain ⟨m,j,rfl,HM,hj,hl,hb,hq⟩:=hrel;have HL4:=hid hl;have HB4:=hid hb;have HQ4:=hid hq;clear hl hb hq;by_cases hjl:j<Bn.length
            ·have hm1:(m:Int)<(L.length:Int):=by have h1:=HNL.out;have h2:=HM.out;(first|omega|(simp only [List.length_nil]at h1 h2;omega))
             obtain ⟨d1,d2,d3⟩:=own_mk HL4.out HNL.out hjl;rw [←HM.out]at d1 d2 d3;have HO5:=hid d3;have c1:wr.cell? ⟨gg,offg+(i+1),none⟩=some (.int .i64 en):=(HCG.out _ HQ4.out).2
             have HB5:=hid (own_apart (j:=m*4+2) (u:=.int .i64 en) HB4.out HL4.out (by intro h;exact HLB2.out.symm (by simpa [Value.ownBlock] using h)))
             have HQ5:Hid (Q wb (wr.setCell ⟨gl,m*4+2,none⟩ (.int .i64 en))):=Below.setCell HQ4.out hgl1 _
             clear d3 HL4 HB4 HQ4;go_wp2_with fail
             go_roundw
             case rel=>exact ⟨m+1,j+1,by go_num,(by show _=_;have:=HM.out;omega),by omega,HO5.out,HB5.out,HQ5.out⟩
             case measure=>simp [intOf];omega
            ·have hm1:¬ (m:Int)<(L.length:Int):=by have h1:=HNL.out;have h2:=HM.out;(first|omega|(simp only [List.length_nil]at h1 h2;omega))
             have ej:j=Bn.length:=by omega
             have HE:=hid ej;clear ej;go_wp2_with fail
             go_meet
             exact ⟨own_eq HL4.out (by rw [HE.out]),HB4.out,HQ4.out⟩
         case rest=>
          obtain ⟨hl,hb,hq⟩:=hcut;have HL6:=hid hl;have HB6:=hid hb;have HQ6:=hid hq;clear hl hb hq HNL HL3 HB3 HQ3 HX3 HQx3;have HNL:Hid (Bn.length=([]:List Rg.Rc).length+Bn.length):=by show _=_;simp
          go_upto_block 10 with fail
          go_cut [18] from 216 to 230 (fun _ W=>Own rc 49 4 wb.heap.size W (.slice (some ⟨gb,0,none⟩) Bn.length capb) (mk [] Bn en Bn.length)∧Own rc 49 4 wb.heap.size W (.slice (some ⟨gl,0,none⟩) L.length capl2) (mk P Bn en Bn.length)∧Q wb W)
          case first=>
           as_aux_lemma=>
            go_wp2_with fail
            go_loopw [18] (fun s W=>∃ (m j:Nat),s=.int .i64 m∧Hid (m=([]:List Rg.Rc).length+j)∧j≤Bn.length∧Own rc 49 4 wb.heap.size W (.slice (some ⟨gb,0,none⟩) Bn.length capb) (mk ([]:List Rg.Rc) Bn en j)∧Own rc 49 4 wb.heap.size W (.slice (some ⟨gl,0,none⟩) L.length capl2) (mk P Bn en Bn.length)∧Q wb W) (fun s _=>Bn.length-(intOf s).toNat)
            case atStart=>exact ⟨([]:List Rg.Rc).length,0,rfl,(by show _=_;rfl),Nat.zero_le _,own_eq HB6.out (by rw [mk_zero,List.nil_append]),HL6.out,HQ6.out⟩
            case round=>
             obtain ⟨m,j,rfl,HM,hj,hl,hb,hq⟩:=hrel;have HL4:=hid hl;have HB4:=hid hb;have HQ4:=hid hq;clear hl hb hq;by_cases hjl:j<Bn.length
             ·have hm1:(m:Int)<(Bn.length:Int):=by have h1:=HNL.out;have h2:=HM.out;(first|omega|(simp only [List.length_nil]at h1 h2;omega))
              obtain ⟨d1,d2,d3⟩:=own_mk HL4.out HNL.out hjl;rw [←HM.out]at d1 d2 d3;have HO5:=hid d3;have c1:wr.cell? ⟨gg,offg+(i+1),none⟩=some (.int .i64 en):=(HCG.out _ HQ4.out).2
              have HB5:=hid (own_apart (j:=m*4+2) (u:=.int .i64 en) HB4.out HL4.out (by intro h;exact HLB2.out (by simpa [Value.ownBlock] using h)))
              have HQ5:Hid (Q wb (wr.setCell ⟨gb,m*4+2,none⟩ (.int .i64 en))):=Below.setCell HQ4.out hgb1 _
              clear d3 HL4 HB4 HQ4;go_wp2_with fail
              go_roundw
              case rel=>exact ⟨m+1,j+1,by go_num,(by show _=_;have:=HM.out;omega),by omega,HO5.out,HB5.out,HQ5.out⟩
              case measure=>simp [intOf];omega
             ·have hm1:¬ (m:Int)<(Bn.length:Int):=by have h1:=HNL.out;have h2:=HM.out;(first|omega|(simp only [List.length_nil]at h1 h2;omega))
              have ej:j=Bn.length:=by omega
              have HE:=hid ej;clear ej;go_wp2_with fail
              go_meet
              exact ⟨own_eq HL4.out (by rw [HE.out]),HB4.out,HQ4.out⟩
          case rest=>
           obtain ⟨hb,hl,hq⟩:=hcut;have HL7:=hid (own_eq hl (by rw [mk_all,HBE.out,rows_st]:_=P++Rg.rows ⟨f,en,S0⟩))
           have HB7:=hid (own_eq hb (by rw [mk_all,HBE.out,rows_st,List.nil_append]:_=Rg.rows ⟨f,en,S0⟩))
           have HQ7:=hid hq;clear hb hl hq;go_wp2_with fail
           go_roundw
           case rel=>exact ⟨i+1,P++Rg.rows ⟨f,en,S0⟩,Rg.rows ⟨f,en,S0⟩,by go_num,.inr (by omega),(by rw [List.length_append,rows_len'];have:=HLP.out;omega),HL7.out,HB7.out,.inr (fun h=>HLB2.out (by simpa [Value.ownBlock] using h)),HQ7.out,HFI⟩
           case measure=>simp [intOf];omega
   ·have hlt':¬ (i:Int)+1<(G.length:Int):=by omega
    have HE:=hid (fi_end HF.out hlt);go_wp2_with fail
    go_ret
    exact ⟨_,rfl,G,C,by rw [HT.out];exact own_eq (HL.out.mono HQ4.out.size) HE.out,HQ4.out.trans HQ.out,HG⟩
end Go.Proofs.YtngnakdbhkjbjaaGreatDoor.R
