/- What the statement begins with. -/
import Derived.Test.YtgheopdadfnilaaGreatDoorKf39
import Derived.Test.YtgheopdadfnilaaGreatDoorKf05
import Derived.Test.YtgheopdadfnilaaGreatDoorKf04
import Derived.Test.YtgheopdadfnilaaGreatDoorKf21
import Derived.Deep.RegionHeld3
import Derived.Test.YtgheopdadfnilaaGreatDoorKf34
set_option linter.unusedVariables false
set_option linter.unusedSimpArgs false
set_option maxRecDepth 100000
set_option maxHeartbeats 8000000
namespace Go.Proofs.YtgheopdadfnilaaGreatDoor
open Go.RowKit
theorem pro_few(L:List Wd)(hE:Ends L)(hG:Good EE L)(hK:∀ i,i<L.length→1≤kAt L i∧kAt L i≤7)(hr:L.length≤50000)(hz:∀ i,(tAt L i).length≤1000)(hA:∀ i,kAt L i≠2∧kAt L i≠4∧kAt L i≠5)(hB:∀ i,isW L i [58]=false∧isW L i [45]=false)(p b off cap:Nat):∀ f:Nat,
  (∀ (lv i:Nat) (o:Option (Ex × Nat)) (W:World),1≤lv→lv≤5→ptF EE L f lv i=some o→PT W p L b off cap i→i<L.length→Calls Tryz.prog 108 #[.pointer (some ⟨p,0,none⟩),.int .i64 (lv:Int)] W fun e W'=>RepP p L b off cap W o e W') ∧
  (∀ (i:Nat) (o:Option (Ex × Nat)) (W:World),ptF.paF EE L f i=some o→PT W p L b off cap i→i<L.length→Calls Tryz.prog 142 #[.pointer (some ⟨p,0,none⟩)] W fun e W'=>RepP p L b off cap W o e W') ∧
  (∀ (i:Nat) (o:Option (Ex × Nat)) (W:World),ptF.pfF EE L f i=some o→PT W p L b off cap i→i<L.length→Calls Tryz.prog 167 #[.pointer (some ⟨p,0,none⟩)] W fun e W'=>RepP p L b off cap W o e W'):=by
 intro f
 induction f using Nat.strongRecOn with
 |ind f ih=>
  cases f with
  |zero=>
   refine ⟨?_,?_,?_⟩
   ·intro lv i o W _ _ h;unfold ptF at h;cases h
   ·intro i o W h;unfold ptF.paF at h;cases h
   ·intro i o W h;unfold ptF.pfF at h;cases h
  |succ f=>
   have IT:=fun f' (h:f'<f+1)=>(ih f' h).1
   obtain ⟨iT,iA,iF⟩:=ih f (Nat.lt_succ_self f);refine ⟨?_,?_,?_⟩
   ·intro lv i o W hv hv5 h hP hi
    rw [ptF]at h;obtain ⟨oa,h1,h2⟩:=Option.bind_eq_some_iff.1 h;refine ptree_step L hE p b off cap lv i W hP hi hr hv hv5 oa o f (fun e=>?_) (hid fun r e=>?_) (hid fun W1 g=>iA i oa W1 h1 g hi) (hid fun f' lv' j o' W1 hf a1 a2 a3 a4 a5=>IT f' (by omega) lv' j o' W1 a1 a2 a3 a4 a5)
    ·subst e;exact (Option.some.inj h2).symm
    ·subst e;exact ⟨h2,((pfwd_all EE L hE f).2.2.1 _ _ _ hi h1).2⟩
   ·intro i o W h hP hi
    rw [ptF.paF]at h
    split at h
    ·rename_i hw
     rw [(hB i).2]at hw;cases hw
    ·rename_i hw
     exact pahead_no L p b off cap i W hP hi hr (by simpa using hw) o (hid fun W1 g=>iF i o W1 h g hi)
   ·intro i o W h hP hi
    rw [ptF.pfF]at h
    split at h
    ·rename_i hw
     obtain ⟨ob,h1,h2⟩:=Option.bind_eq_some_iff.1 h;have hi1:=hE.sign hw;refine pfirst_paren L p b off cap i W hP hi hr hw o (hid fun W1 g=>?_)
     have HT:=hid fun W2 (g2:PT W2 p L b off cap (i+1))=>iT 1 (i+1) ob W2 (by omega) (by omega) h1 g2 hi1
     cases ob with
     |none=>
      have e:o=none:=(Option.some.inj h2).symm
      rw [e];exact pbrack_none L p b off cap (i+1) W1 g hi1 hr HT
     |some r=>
      obtain ⟨x,j⟩:=r;have hj:=((pfwd_all EE L hE f).1 _ _ _ _ (by omega) hi1 h1).2
      have e:(if isW L j [41] then some (x,j+1) else none)=o:=Option.some.inj h2
      cases hw2:isW L j [41]
      ·rw [hw2]at e
       rw [←e];exact pbrack_no L p b off cap (i+1) W1 g hi1 hr x j hj hw2 HT
      ·rw [hw2]at e
       rw [←e];exact pbrack_yes L p b off cap (i+1) W1 g hi1 hr x j hj hw2 HT
    ·rename_i hw0
     have hw:isW L i [40]=false:=by simpa using hw0
     split at h
     ·rename_i hk
      exact absurd hk (hA i).2.1
     ·rename_i hk4
      rw [←Option.some.inj h];unfold poneF
      have hk:=hK i hi;by_cases k1:kAt L i=1
      ·rw [if_pos k1,if_pos (hG.num i hi k1)]
       exact pfirst_num L p b off cap i W hP hi hr hw k1 hz (hG.num i hi k1) hP.sd hP.p5
      ·rw [if_neg k1]
       by_cases k2:kAt L i=2
       ·exact absurd k2 (hA i).1
       ·rw [if_neg k2]
        by_cases k5:kAt L i=5
        ·exact absurd k5 (hA i).2.2
        ·rw [if_neg k5]
         by_cases k3:kAt L i=3
         ·have hok:=hG.ref i hi k3
          have hok':refF (tAt L i)=true:=hok
          rw [if_pos k3,if_neg (show ¬ EE.rok (tAt L i)=false by rw [hok];simp)]
          have hi1:=hE i hi (by omega)
          refine pfirst_ref L p b off cap i W hP hi hr hw k3 _ (hid fun W1 T hT _ g=>?_)
          by_cases hc:isW L (i+1) [58]=true
          ·rw [(hB (i+1)).1]at hc;cases hc
          ·rw [if_neg hc]
           exact pref_one L p b off cap (i+1) W1 T (tAt L i) hT g hi1 hr g.sd g.p5 (hz i) hok' (by simpa using hc)
         ·rw [if_neg k3]
          exact pfirst_other L p b off cap i W hP hi hr hw (by omega)
theorem pparse_few(s:ByteArray)(W:World)(hw:Std W)(hs:s.size≤100000)(L:List Wd)(n f:Nat)(hn:scanL s.data.toList=(some L,n))(x:Ex)(j:Nat)(hpt:ptF EE L f 1 0=some (some (x,j)))(hk:kAt L j=7)(hf:fitB x=true)(hA:∀ i,kAt L i≠2∧kAt L i≠4∧kAt L i≠5)(hB:∀ i,isW L i [58]=false∧isW L i [45]=false) :
  Calls Tryz.prog 76 #[.string s] W fun e W'=>RepR W (x,0) e W':=by
 have HZ:=hid (tb_new W (.int .i64 0) (.int .i64 0) (.string ⟨#[]⟩) (.bool false) (.int .i64 0) (.slice none 0 0) (.slice none 0 0) 26);have HSt:=hid hw;have h4:=hw.big;have HSc:=hid (fun W1 (g:Std W1)=>scan_any s W1 g hs)
 have HN:=hid hn;obtain ⟨hpos,hr,hE,hG,hK,hz⟩:=scan_good hn;have HPr:=hid (fun W1 p b off cap (g:PT W1 p L b off cap 0)=>(pro_few L hE hG hK hr hz hA hB p b off cap f).1 1 0 _ W1 (by omega) (by omega) hpt g hpos)
 have hjl:=((pfwd_all EE L hE f).1 _ _ _ _ (by omega) hpos hpt).2
 have HWd:=hid (fun W1 p b off cap (g:PT W1 p L b off cap j)=>word_any W1 p L.length b off cap j _ _ _ (g.kw hjl) hjl hr)
 obtain ⟨T2,hT2⟩:∃ T2:ByteArray,T2=⟨(tAt L j).toArray⟩:=⟨_,rfl⟩;rw [←hT2]at HWd;generalize ((L.getD j ⟨7,[],0⟩).p:Int)=q at HWd;have F0:∀ (k:Int) (w:World),(Instr.field 141 (.agg #[.int .i64 k,.string T2,.int .i64 q]) 0).run Tryz.prog w=.ok (.int .i64 k) w:=fun k w=>fd0 _ _ _ w
 have HF:=hid (fun W1 v (h:Rd W1 x v)=>fits_any x v W1 h)
 clear hn hT2;rw [hk]at HWd;clear hk;rw [hf]at HF;clear hw;go_enter Tryz.func76,Tryz.ntmps76
 go_wp2_with (first|(go_at_call 56;refine (HF.out _ _ (Rd.on Q3.out _ _ (Rdg.rd _ _ R2.out.1))).mono ?_;rintro e w4 ⟨rfl,q4⟩;have Q4:=hid q4;have X4:=hid (X3.out.on (p:=w1.heap.size) (Qx.of q4) (by omega));have Z4:=hid (Z3.out.on (p:=w1.heap.size) (Qx.of q4) (by omega));have hs4:w3.heap.size≤w4.heap.size:=q4.size;clear q4;have d0:=Z4.out.g0;have d1:=Z4.out.g1;have d2:=Z4.out.g2;have d3:=Z4.out.g3;have d4:=Z4.out.g4;have d5:=Z4.out.g5;have d6:=Z4.out.g6;have y0:=Z4.out.f 0;have y1:=Z4.out.f 1;have y2:=Z4.out.f 2;have y3:=Z4.out.f 3;have y4:=Z4.out.f 4;have y5:=Z4.out.f 5;have y6:=Z4.out.f 6;have r0:=X4.out.g0;have r1:=X4.out.g1;have r2:=X4.out.g2;have r3:=X4.out.g3;have r4:=X4.out.g4;have r5:=X4.out.g5;have r6:=X4.out.g6)|(go_at_call 109;refine (HWd.out _ _ _ _ _ P2.out).mono ?_;rintro e w3 ⟨rfl,q3⟩;have Q3:Hid (Q w2 w3):=hid (((Q.refl _).alloc _).trans q3);have hs3:w2.heap.size<w3.heap.size:=(by have:=q3.size;simp at this;omega);have X3:=hid (X2.out.on (p:=w1.heap.size) (Qx.of q3) (by omega));have Z3:=hid (Z2.out.on (p:=w1.heap.size) (Qx.of Q3.out) (by omega));clear q3;have n0:=X3.out.g0;have n1:=X3.out.g1;have n2:=X3.out.g2;have n3:=X3.out.g3;have n4:=X3.out.g4;have n5:=X3.out.g5;have n6:=X3.out.g6)|(go_at_call 107;refine (HSc.out _ (HSt.out.on (by repeat (first|with_reducible exact Q.refl _|with_reducible refine Q.drewN ?_ _|with_reducible refine Q.drew ?_|with_reducible refine Q.alloc ?_ _|with_reducible refine Q.setCell ?_ (by simp) _)))).mono ?_;rintro e w1 ⟨h1,q1⟩;rw [HN.out]at h1;obtain ⟨sv,h1',hsl⟩:=ScanRet.some h1;subst h1';obtain ⟨b,off,cap,hsw⟩:=sw_of hsl hpos;obtain rfl:=hsw.ev;have Q1:Hid (Q W w1):=hid (Q.trans (by repeat (first|with_reducible exact Q.refl _|with_reducible refine Q.drewN ?_ _|with_reducible refine Q.drew ?_|with_reducible refine Q.alloc ?_ _|with_reducible refine Q.setCell ?_ (by simp) _)) q1);have hs1:W.heap.size<w1.heap.size:=(by have:=q1.size;simp at this;omega);have Z1:=hid (HZ.out.on (p:=W.heap.size+1) (Qx.of q1) (by omega));have P1:Hid (PT (w1.alloc (.cells #[.slice (some ⟨b,off,none⟩) L.length cap,.int .i64 0] 138)) w1.heap.size L b off cap 0):=hid (pt_new w1 L b off cap hsw hpos (HSt.out.on Q1.out));clear q1 h1 hsl hsw)|(go_at_call 108;refine (HPr.out _ _ _ _ _ P1.out).mono ?_;rintro e w2 h2;obtain ⟨k,m,t,bb,er,a1,l1,c1,a2,l2,c2,rfl,q2,r2⟩:=h2.inY;have Q2:=hid q2;have R2:=hid r2;clear h2 q2 r2;have Z2:=hid ((Z1.out.on (p:=w1.heap.size) ((Qx.refl _ _).alloc _) (by omega)).on Q2.out (by omega));have hs2:w1.heap.size<w2.heap.size:=(by have:=Q2.out.size;simp at this;omega);have QW:Hid (Q W w2):=hid ((Q1.out.alloc _).viax Q2.out (by omega));have P2:=hid (R2.out.2.on ((Q.refl _).alloc (.cells #[.int .i64 k,.int .i64 m,.string t,.bool bb,.int .i64 er,.slice a1 l1 c1,.slice a2 l2 c2] 26)));have X2:=hid (tb_new w2 (.int .i64 k) (.int .i64 m) (.string t) (.bool bb) (.int .i64 er) (.slice a1 l1 c1) (.slice a2 l2 c2) 26)))
 refine bodyPost_ret (v:=.tuple #[.agg #[.int .i64 k,.int .i64 m,.string t,.bool bb,.int .i64 er,.slice a1 l1 c1,.slice a2 l2 c2],.int .i64 0]) (by simp [results,Tryz.results76,go_sem,d0,d1,d2,d3,d4,d5,d6]) rfl ?_
 have QF:∀ V:World,Qx W.heap.size w4 V→Rdg (fun b=>W.heap.size≤b) V x (.agg #[.int .i64 k,.int .i64 m,.string t,.bool bb,.int .i64 er,.slice a1 l1 c1,.slice a2 l2 c2]):=fun V q=>Rdg.mono (fun b hb=>by simp at hb;omega) _ _ (Rdg.on q (fun b hb=>by simp at hb;omega) _ _ (Rdg.on (Qx.of (p:=W.heap.size) (Q3.out.trans Q4.out)) (fun b hb=>by simp at hb;omega) _ _ R2.out.1))
 exact ⟨_,rfl,QF _ ((((((((Qx.refl _ _).own _ _).own _ _).own _ _).own _ _).own _ _).own _ _).own _ _),Q.setCell (Q.setCell (Q.setCell (Q.setCell (Q.setCell (Q.setCell (Q.setCell ((QW.out.trans Q3.out).trans Q4.out) (Nat.le_refl _) _) (Nat.le_refl _) _) (Nat.le_refl _) _) (Nat.le_refl _) _) (Nat.le_refl _) _) (Nat.le_refl _) _) (Nat.le_refl _) _⟩
theorem pz_ref_ok{s:ByteArray}{X:Ex}(h:PzR s.data.toList (X,0))(hs:s.size≤100000)(W:World):Calls Tryz.prog 13 #[.string s] W fun e W'=>RepR W (X,0) e W':=by
 rcases h with ⟨n,h1,h2⟩|⟨L,n,f0,o0,h1,h2,h3⟩
 ·exact absurd (congrArg Prod.snd h2) (by simp)
 ·obtain ⟨hpos,hr,hE,hG,hK,hz⟩:=scan_good h1
  obtain ⟨f,r,hf⟩:=total_ref EE L hE L.length ⟨0,false,0⟩ (by simp) hpos 1 (by omega) (by omega)
  obtain ⟨g,o,hg,hag⟩:=(same_all EE L hE hG f).1 1 ⟨0,false,0⟩ r (by omega) (by omega) hpos rfl hf
  have eo:=pt_fun h2 hg;subst eo;cases o0 with
  |none=>exact absurd (congrArg Prod.snd h3) (by simp [finR])
  |some xj=>
   obtain ⟨x,j⟩:=xj;obtain ⟨g1,g2,g3,g4⟩:=hag;unfold finR at h3
   simp only at h3 g4
   split at h3
   ·rename_i hk
    split at h3
    ·rename_i hfit
     cases h3
     have hd:=dp_shl 50 X;unfold fitB at hfit
     rw [←hd]at hfit;simp only [Bool.and_eq_true,decide_eq_true_eq]at hfit
     have:=rparse_ok s W hs L n f r h1 hf g3 (by rw [g2];exact hk) (by omega) (by rw [g1];exact Nat.not_lt.2 hfit.2)
     rw [g1]at this;exact this
    ·exact absurd (congrArg Prod.snd h3) (by simp)
   ·exact absurd (congrArg Prod.snd h3) (by simp)
theorem cellText_five(w:World)(hg:Gd w):Calls Tryz.prog 53 #[.agg #[.int .i64 2,.int .i64 0,.string ⟨#[53]⟩,.bool false,.int .i64 0]] w fun e W'=>e=.returned (.string ⟨[39,53].toArray⟩)∧Q w W':=by
 have HR:=hid (fun W' (g:Std W')=>read_val ⟨#[53]⟩ W' g (by decide) (by decide +kernel))
 rw [show valT (⟨#[53]⟩:ByteArray).data.toList=((false,(1,50000,[],false,0),zeroE),0) by kernel_rfl]at HR
 have HV:=hid (fun W'=>veq_any 1 50000 ⟨#[]⟩ false 0 2 0 ⟨#[53]⟩ false 0 W')
 unfold vx at HV
 rw [show decide ((1:Int)=2∧(50000:Int)=0∧(⟨#[]⟩:ByteArray).data.toList=(⟨#[53]⟩:ByteArray).data.toList∧false=false∧(0:Int)=0)=false by decide +kernel]at HV
 have HG:=hid hg;clear hg;unfold RepC RdC at HR
 go_enter Tryz.func53,Tryz.ntmps53
 go_upto_region 2 with (go_at_call 16;refine (HR.out _ (HG.out.on ((Q.refl _).alloc _)).1).mono ?_;rintro e9 w3 ⟨v,rfl,⟨k,m,t,bb,er,a1,l1,c1,a2,l2,c2,rfl,_⟩,q3⟩;have Z1:=hid ((cb_new w [.int .i64 2,.int .i64 0,.string ⟨#[53]⟩,.bool false,.int .i64 0] 37).on q3);have Q3:Hid (Q w w3):=hid (((Q.refl _).alloc _).trans q3);clear q3)
 have Z2:=hid (cb_new w3 [.bool false,.int .i64 1,.int .i64 50000,.string ⟨#[]⟩,.bool false,.int .i64 0,.int .i64 k,.int .i64 m,.string t,.bool bb,.int .i64 er,.slice a1 l1 c1,.slice a2 l2 c2] 39);have Z12:=hid (Z1.out.on ((Q.refl w3).alloc (.cells #[.bool false,.int .i64 1,.int .i64 50000,.string ⟨#[]⟩,.bool false,.int .i64 0,.int .i64 k,.int .i64 m,.string t,.bool bb,.int .i64 er,.slice a1 l1 c1,.slice a2 l2 c2] 39)));have Q4:=hid (Q3.out.alloc (.cells #[.bool false,.int .i64 1,.int .i64 50000,.string ⟨#[]⟩,.bool false,.int .i64 0,.int .i64 k,.int .i64 m,.string t,.bool bb,.int .i64 er,.slice a1 l1 c1,.slice a2 l2 c2] 39));rw [show ([.bool false,.int .i64 1,.int .i64 50000,.string ⟨#[]⟩,.bool false,.int .i64 0,.int .i64 k,.int .i64 m,.string t,.bool bb,.int .i64 er,.slice a1 l1 c1,.slice a2 l2 c2]:List Value).toArray=#[.bool false,.int .i64 1,.int .i64 50000,.string ⟨#[]⟩,.bool false,.int .i64 0,.int .i64 k,.int .i64 m,.string t,.bool bb,.int .i64 er,.slice a1 l1 c1,.slice a2 l2 c2] from rfl]at Z2
 generalize w3.alloc (.cells #[.bool false,.int .i64 1,.int .i64 50000,.string ⟨#[]⟩,.bool false,.int .i64 0,.int .i64 k,.int .i64 m,.string t,.bool bb,.int .i64 er,.slice a1 l1 c1,.slice a2 l2 c2] 39)=w4 at Z2 Z12 Q4 ⊢;generalize w3.heap.size=b4 at Z2 ⊢;clear Z1 Q3;have d0:=Z2.out.c 0 _ rfl;have d1:=Z2.out.c 1 _ rfl;have d2:=Z2.out.c 2 _ rfl;have d3:=Z2.out.c 3 _ rfl;have d4:=Z2.out.c 4 _ rfl;have d5:=Z2.out.c 5 _ rfl;have d6:=Z2.out.c 6 _ rfl;have d7:=Z2.out.c 7 _ rfl;have d8:=Z2.out.c 8 _ rfl;have d9:=Z2.out.c 9 _ rfl;have d10:=Z2.out.c 10 _ rfl;have d11:=Z2.out.c 11 _ rfl;have d12:=Z2.out.c 12 _ rfl;have x0:=Z12.out.c 0 _ rfl;have x1:=Z12.out.c 1 _ rfl;have x2:=Z12.out.c 2 _ rfl;have x3:=Z12.out.c 3 _ rfl;have x4:=Z12.out.c 4 _ rfl;go_wp2_with (go_at_call 51;refine (HV.out _).mono ?_;rintro e9 w5 ⟨rfl,q5⟩;have Q5:=hid (Q4.out.trans q5);have Z15:=hid (Z12.out.on q5);clear q5;have n0:=Z15.out.c 2 _ rfl)
 go_ret
 exact ⟨rfl,Q5.out⟩
def xb:Ex:=binE [42] (binE [43] (numE 10000) (refE ([],1,0,false,false))) (numE 30000)
def xbW:List Wd:=[⟨6,[40],0⟩,⟨1,[49],1⟩,⟨6,[43],2⟩,⟨3,[65,50],3⟩,⟨6,[41],5⟩,⟨6,[42],6⟩,⟨1,[51],7⟩,⟨7,[],8⟩]
theorem xb_kinds:∀ i,kAt xbW i≠2∧kAt xbW i≠4∧kAt xbW i≠5
 |0|1|2|3|4|5|6|7=>by decide
 |n+8=>by
  have:kAt xbW (n+8)=7:=rfl
  rw [this];decide
theorem xb_signs:∀ i,isW xbW i [58]=false∧isW xbW i [45]=false
 |0|1|2|3|4|5|6|7=>by decide
 |n+8=>⟨rfl,rfl⟩
theorem xb_parse(W:World)(hw:Std W):Calls Tryz.prog 76 #[.string ⟨#[40,49,43,65,50,41,42,51]⟩] W fun e W'=>RepR W (xb,0) e W':=
 pparse_few ⟨#[40,49,43,65,50,41,42,51]⟩ W hw (by decide) xbW 0 20 (by kernel_rfl) xb 7 (by kernel_rfl) (by kernel_rfl) (by decide +kernel) xb_kinds xb_signs
theorem xb_may:(fitB xb&&mall mayN xb)=true:=by decide +kernel
theorem xb_sm:Sm xb:=by
 unfold xb binE refE numE
 simp [Sm,Sm.SmL]
theorem num_wri(i:Nat)(h:i<100)(hd:(Lib.decDigits i).length≤100)(h0:0<(Lib.decDigits i).length):Wri (numE ((i:Int)*10000)) (Lib.decDigits i):=
 pr_num ((i:Int)*10000) ⟨(Lib.decDigits i).toArray⟩ (by rw [size_mk];exact h0) (hid fun W=>print_small i h hd W)
theorem xb_wri:Wri xb [40,49,43,65,50,41,42,51]:=by
 have h1:Wri (numE 10000) [49]:=by
  have h:=num_wri 1 (by omega) (by decide +kernel) (by decide +kernel)
  rw [show Lib.decDigits 1=[49] by decide +kernel]at h
  exact h
 have h3:Wri (numE 30000) [51]:=by
  have h:=num_wri 3 (by omega) (by decide +kernel) (by decide +kernel)
  rw [show Lib.decDigits 3=[51] by decide +kernel]at h
  exact h
 have h2:Wri (refE ([],1,0,false,false)) [65,50]:=by
  have h:=pr_ref ([],1,0,false,false) (by simp) (by decide +kernel)
  simp only at h
  rw [show prR [] 1 0 false false=[65,50] by decide +kernel]at h
  exact h
 exact pr_bin [42] _ _ _ _ (by decide) (pr_bin [43] _ _ _ _ (by decide) h1 h2) h3
def cA:Cl:=(true,zV,xb)
def cB:Cl:=(false,(2,0,[53],false,0),zeroE)
theorem RdC.on0{B:Nat}{W W':World}{c:Cl}{v:Value}(h:RdC B W c v)(q:Q W W')(hB:0<B):RdC B W' c v:=h.on (Qx.of (p:=0) q) hB
theorem mayA{v:Value}{B:Nat}{w:World}(hg:Gd w)(hr:RdC B w cA v):Calls Tryz.prog 21 #[v] w fun e W'=>e=.returned (.bool true)∧Q w W':=by
 obtain ⟨k,m,t,bb,er,a1,l1,c1,a2,l2,c2,rfl,hd⟩:=hr;refine (smay_form 0 0 ⟨#[]⟩ false 0 k m t bb er a1 l1 c1 a2 l2 c2 xb w hg xb_sm (Rdg.rd _ _ hd)).mono ?_
 rintro e W' ⟨rfl,q⟩
 rw [xb_may];exact ⟨by simp,q⟩
theorem mayBB{v:Value}{B:Nat}{w:World}(hg:Gd w)(hr:RdC B w cB v):Calls Tryz.prog 21 #[v] w fun e W'=>e=.returned (.bool true)∧Q w W':=by
 obtain ⟨k,m,t,bb,er,a1,l1,c1,a2,l2,c2,rfl,hd⟩:=hr;refine (smay_val 2 0 ⟨#[53]⟩ false 0 k m t bb er a1 l1 c1 a2 l2 c2 zeroE w hg (by decide) (by decide) (Rdg.rd _ _ hd)).mono ?_
 rintro e W' ⟨rfl,q⟩
 exact ⟨ret_bool (by decide +kernel),q⟩
theorem cellA{v:Value}{B:Nat}{w:World}(hg:Gd w)(hB:0<B)(hr:RdC B w cA v):Calls Tryz.prog 22 #[v] w fun e W'=>e=.returned (.string ⟨[61,40,49,43,65,50,41,42,51].toArray⟩)∧Q w W':=by
 have HM:=hid (fun W' (q:Q w W')=>mayA (hg.on q) (hr.on0 q hB))
 obtain ⟨k,m,t,bb,er,a1,l1,c1,a2,l2,c2,rfl,hd⟩:=hr;have hd:=Rdg.rd _ _ hd;exact scell_form 0 0 ⟨#[]⟩ false 0 k m t bb er a1 l1 c1 a2 l2 c2 ⟨#[40,49,43,65,50,41,42,51]⟩ w (by decide) HM (hid fun W' q=>form_of xb [40,49,43,65,50,41,42,51] xb_wri (by decide) _ W' (hg.on q) xb_sm xb_may (Rd.on q _ _ hd))
theorem cellB{v:Value}{B:Nat}{w:World}(hg:Gd w)(hB:0<B)(hr:RdC B w cB v):Calls Tryz.prog 22 #[v] w fun e W'=>e=.returned (.string ⟨[39,53].toArray⟩)∧Q w W':=by
 have HM:=hid (fun W' (q:Q w W')=>mayBB (hg.on q) (hr.on0 q hB))
 obtain ⟨k,m,t,bb,er,a1,l1,c1,a2,l2,c2,rfl,hd⟩:=hr;refine scell_2 0 ⟨#[53]⟩ false 0 k m t bb er a1 l1 c1 a2 l2 c2 ⟨#[39,53]⟩ w HM (hid fun W' q=>?_)
 exact cellText_five W' (hg.on q)
theorem sbegun_any(w:World)(hg:Gd w):Calls Tryz.prog 8 #[] w fun e W'=>e=.returned (.bool true)∧Q w W':=by
 have HA:Hid (∀ W',Std W'→Calls Tryz.prog 16 #[.string ⟨#[61,40,49,43,65,50,41,42,51]⟩] W' fun e W2=>RepC W' (cA,0) e W2):=fun W' g=>
  read_eq ⟨#[61,40,49,43,65,50,41,42,51]⟩ _ (xb,0) W' g (by decide +kernel) rfl (hid fun W2 g2=>xb_parse W2 g2)
 have HB:Hid (∀ W',Std W'→Calls Tryz.prog 16 #[.string ⟨#[39,53]⟩] W' fun e W2=>RepC W' (cB,0) e W2):=fun W' g=>by
  have:=read_val ⟨#[39,53]⟩ W' g (by decide) (by decide +kernel)
  rw [show valT (⟨#[39,53]⟩:ByteArray).data.toList=(cB,0) by kernel_rfl]at this
  exact this
 have HCA:=hid (fun W' B v (g:Gd W') (hB:0<B) (hr:RdC B W' cA v)=>cellA g hB hr)
 have HCB:=hid (fun W' B v (g:Gd W') (hB:0<B) (hr:RdC B W' cB v)=>cellB g hB hr)
 have HMA:=hid (fun W' B v (g:Gd W') (hr:RdC B W' cA v)=>mayA g hr)
 have HG:=hid hg;clear hg;go_enter Tryz.func8,Tryz.ntmps8
 go_upto_region 2 with (go_at_call 16;refine (HA.out _ HG.out.1).mono ?_;rintro e9 w1 ⟨v,rfl,hr,q1⟩;have hr0:=hid hr;obtain ⟨k,m,t,bb,er,a1,l1,c1,a2,l2,c2,rfl,_⟩:=hr;have R1:=hr0;have Q1:=hid q1;clear q1 hr0)
 have hB0:0<w.heap.size:=Nat.lt_of_le_of_lt (Nat.zero_le _) HG.out.1.big
 have Z1:=hid (cb_new w1 [.bool true,.int .i64 0,.int .i64 0,.string ⟨#[]⟩,.bool false,.int .i64 0,.int .i64 k,.int .i64 m,.string t,.bool bb,.int .i64 er,.slice a1 l1 c1,.slice a2 l2 c2] 39);have R2:=hid (R1.out.on0 ((Q.refl w1).alloc (.cells #[.bool true,.int .i64 0,.int .i64 0,.string ⟨#[]⟩,.bool false,.int .i64 0,.int .i64 k,.int .i64 m,.string t,.bool bb,.int .i64 er,.slice a1 l1 c1,.slice a2 l2 c2] 39)) hB0);have Q2:=hid (Q1.out.alloc (.cells #[.bool true,.int .i64 0,.int .i64 0,.string ⟨#[]⟩,.bool false,.int .i64 0,.int .i64 k,.int .i64 m,.string t,.bool bb,.int .i64 er,.slice a1 l1 c1,.slice a2 l2 c2] 39));rw [show ([.bool true,.int .i64 0,.int .i64 0,.string ⟨#[]⟩,.bool false,.int .i64 0,.int .i64 k,.int .i64 m,.string t,.bool bb,.int .i64 er,.slice a1 l1 c1,.slice a2 l2 c2]:List Value).toArray=#[.bool true,.int .i64 0,.int .i64 0,.string ⟨#[]⟩,.bool false,.int .i64 0,.int .i64 k,.int .i64 m,.string t,.bool bb,.int .i64 er,.slice a1 l1 c1,.slice a2 l2 c2] from rfl]at Z1
 simp only [cA,zV]at ⊢
 generalize w1.alloc (.cells #[.bool true,.int .i64 0,.int .i64 0,.string ⟨#[]⟩,.bool false,.int .i64 0,.int .i64 k,.int .i64 m,.string t,.bool bb,.int .i64 er,.slice a1 l1 c1,.slice a2 l2 c2] 39)=w2 at Z1 R2 Q2 ⊢;generalize w1.heap.size=b2 at Z1 ⊢;clear R1 Q1;go_upto_region 3 with (go_at_call 16;refine (HB.out _ (HG.out.on Q2.out).1).mono ?_;rintro e9 w3 ⟨v,rfl,hr,q3⟩;have hr0:=hid hr;obtain ⟨k',m',t',bb',er',a1',l1',c1',a2',l2',c2',rfl,_⟩:=hr;have R3:=hr0;have Q3:=hid q3;clear q3 hr0)
 have hB2:0<w2.heap.size:=Nat.lt_of_le_of_lt (Nat.zero_le _) Z1.out.l
 simp only [cB]at ⊢
 have Z2:=hid (cb_new w3 [.bool false,.int .i64 2,.int .i64 0,.string ⟨#[53]⟩,.bool false,.int .i64 0,.int .i64 k',.int .i64 m',.string t',.bool bb',.int .i64 er',.slice a1' l1' c1',.slice a2' l2' c2'] 39);have Z12:=hid (Z1.out.on (Q3.out.alloc (.cells #[.bool false,.int .i64 2,.int .i64 0,.string ⟨#[53]⟩,.bool false,.int .i64 0,.int .i64 k',.int .i64 m',.string t',.bool bb',.int .i64 er',.slice a1' l1' c1',.slice a2' l2' c2'] 39)));have RA:Hid (RdC w.heap.size (w3.alloc (.cells #[.bool false,.int .i64 2,.int .i64 0,.string ⟨#[53]⟩,.bool false,.int .i64 0,.int .i64 k',.int .i64 m',.string t',.bool bb',.int .i64 er',.slice a1' l1' c1',.slice a2' l2' c2'] 39)) cA (.agg #[.bool true,.int .i64 0,.int .i64 0,.string ⟨#[]⟩,.bool false,.int .i64 0,.int .i64 k,.int .i64 m,.string t,.bool bb,.int .i64 er,.slice a1 l1 c1,.slice a2 l2 c2])):=hid (R2.out.on0 (Q3.out.alloc _) hB0)
 have RB:Hid (RdC w2.heap.size (w3.alloc (.cells #[.bool false,.int .i64 2,.int .i64 0,.string ⟨#[53]⟩,.bool false,.int .i64 0,.int .i64 k',.int .i64 m',.string t',.bool bb',.int .i64 er',.slice a1' l1' c1',.slice a2' l2' c2'] 39)) cB (.agg #[.bool false,.int .i64 2,.int .i64 0,.string ⟨#[53]⟩,.bool false,.int .i64 0,.int .i64 k',.int .i64 m',.string t',.bool bb',.int .i64 er',.slice a1' l1' c1',.slice a2' l2' c2'])):=hid (R3.out.on0 ((Q.refl w3).alloc _) hB2)
 have Q4:=hid (Q2.out.trans (Q3.out.alloc (.cells #[.bool false,.int .i64 2,.int .i64 0,.string ⟨#[53]⟩,.bool false,.int .i64 0,.int .i64 k',.int .i64 m',.string t',.bool bb',.int .i64 er',.slice a1' l1' c1',.slice a2' l2' c2'] 39)));rw [show ([.bool false,.int .i64 2,.int .i64 0,.string ⟨#[53]⟩,.bool false,.int .i64 0,.int .i64 k',.int .i64 m',.string t',.bool bb',.int .i64 er',.slice a1' l1' c1',.slice a2' l2' c2']:List Value).toArray=#[.bool false,.int .i64 2,.int .i64 0,.string ⟨#[53]⟩,.bool false,.int .i64 0,.int .i64 k',.int .i64 m',.string t',.bool bb',.int .i64 er',.slice a1' l1' c1',.slice a2' l2' c2'] from rfl]at Z2
 generalize w3.alloc (.cells #[.bool false,.int .i64 2,.int .i64 0,.string ⟨#[53]⟩,.bool false,.int .i64 0,.int .i64 k',.int .i64 m',.string t',.bool bb',.int .i64 er',.slice a1' l1' c1',.slice a2' l2' c2'] 39)=w4 at Z2 Z12 RA RB Q4 ⊢;generalize w3.heap.size=b4 at Z2 ⊢;clear R2 R3 Q2 Q3 Z1;have d0:=Z12.out.c 0 _ rfl;have d1:=Z12.out.c 1 _ rfl;have d2:=Z12.out.c 2 _ rfl;have d3:=Z12.out.c 3 _ rfl;have d4:=Z12.out.c 4 _ rfl;have d5:=Z12.out.c 5 _ rfl;have d6:=Z12.out.c 6 _ rfl;have d7:=Z12.out.c 7 _ rfl;have d8:=Z12.out.c 8 _ rfl;have d9:=Z12.out.c 9 _ rfl;have d10:=Z12.out.c 10 _ rfl;have d11:=Z12.out.c 11 _ rfl;have d12:=Z12.out.c 12 _ rfl;have x0:=Z2.out.c 0 _ rfl;have x1:=Z2.out.c 1 _ rfl;have x2:=Z2.out.c 2 _ rfl;have x3:=Z2.out.c 3 _ rfl;have x4:=Z2.out.c 4 _ rfl;have x5:=Z2.out.c 5 _ rfl;have x6:=Z2.out.c 6 _ rfl;have x7:=Z2.out.c 7 _ rfl;have x8:=Z2.out.c 8 _ rfl;have x9:=Z2.out.c 9 _ rfl;have x10:=Z2.out.c 10 _ rfl;have x11:=Z2.out.c 11 _ rfl;have x12:=Z2.out.c 12 _ rfl;go_wp2_with (first|(go_at_call_of 22 t';refine (HCB.out w5 _ _ (HG.out.on Q5.out) hB2 RB5.out).mono ?_;rintro e9 w6 ⟨rfl,q6⟩;have Q6:=hid (Q5.out.trans q6);have RA6:=hid (RA5.out.on0 q6 hB0);have ZA6:=hid (ZA5.out.on q6);clear q6;have z0:=ZA6.out.c 0 _ rfl;have z1:=ZA6.out.c 1 _ rfl;have z2:=ZA6.out.c 2 _ rfl;have z3:=ZA6.out.c 3 _ rfl;have z4:=ZA6.out.c 4 _ rfl;have z5:=ZA6.out.c 5 _ rfl;have z6:=ZA6.out.c 6 _ rfl;have z7:=ZA6.out.c 7 _ rfl;have z8:=ZA6.out.c 8 _ rfl;have z9:=ZA6.out.c 9 _ rfl;have z10:=ZA6.out.c 10 _ rfl;have z11:=ZA6.out.c 11 _ rfl;have z12:=ZA6.out.c 12 _ rfl)|(go_at_call_of 22 t;refine (HCA.out w4 _ _ (HG.out.on Q4.out) hB0 RA.out).mono ?_;rintro e9 w5 ⟨rfl,q5⟩;have Q5:=hid (Q4.out.trans q5);have RA5:=hid (RA.out.on0 q5 hB0);have RB5:=hid (RB.out.on0 q5 hB2);have ZA5:=hid (Z12.out.on q5);have ZB5:=hid (Z2.out.on q5);clear q5;have y0:=ZB5.out.c 0 _ rfl;have y1:=ZB5.out.c 1 _ rfl;have y2:=ZB5.out.c 2 _ rfl;have y3:=ZB5.out.c 3 _ rfl;have y4:=ZB5.out.c 4 _ rfl;have y5:=ZB5.out.c 5 _ rfl;have y6:=ZB5.out.c 6 _ rfl;have y7:=ZB5.out.c 7 _ rfl;have y8:=ZB5.out.c 8 _ rfl;have y9:=ZB5.out.c 9 _ rfl;have y10:=ZB5.out.c 10 _ rfl;have y11:=ZB5.out.c 11 _ rfl;have y12:=ZB5.out.c 12 _ rfl)|(go_at_call 21;refine (HMA.out w6 _ _ (HG.out.on Q6.out) RA6.out).mono ?_;rintro e9 w7 ⟨rfl,q7⟩;have Q7:=hid (Q6.out.trans q7);clear q7))
 go_ret
 exact ⟨rfl,Q7.out⟩
def DI(N m:Nat)(l:List UInt8):Prop:=(l=[]∧m=N)∨(l≠[]∧(if m=0 then l else Lib.decDigits m++l)=Lib.decDigits N)
theorem DI.next{N m:Nat}{l:List UInt8}(h:DI N m l)(hg:0<m∨l=[]):DI N (m / 10) (UInt8.ofNat (48+m % 10)::l):=by
 refine .inr ⟨by simp,?_⟩
 have e:Lib.decDigits m++l=Lib.decDigits N:=by
  rcases h with ⟨rfl,rfl⟩|⟨hl,h⟩
  ·simp
  ·rw [if_neg (by rcases hg with h|h;omega;exact absurd h hl)]at h
   exact h
 rw [←e];by_cases h10:m<10
 ·rw [if_pos (by omega),dec_small h10];rfl
 ·rw [if_neg (by omega),dec_big h10];simp
theorem DI.done{N m:Nat}{l:List UInt8}(h:DI N m l)(hm:m=0)(hl:l≠[]):l=Lib.decDigits N:=by
 rcases h with ⟨h,_⟩|⟨_,h⟩
 ·exact absurd h hl
 ·rw [if_pos hm]at h;exact h
theorem DI.len{N m:Nat}{l:List UInt8}(h:DI N m l)(hN:N<18446744073709551616):l.length≤20:=by
 have hd:(Lib.decDigits N).length≤20:=by rw [Lib.decDigits_length];exact nDigits_le N hN
 rcases h with ⟨h,_⟩|⟨_,h⟩
 ·rw [h];simp
 ·rw [←h]at hd
  split at hd
  ·exact hd
  ·rw [List.length_append]at hd;omega
theorem digit_nat(m:Nat):((UInt8.ofNat (48+m % 10)).toNat:Int)=48+(m:Int) % 10:=by
 have h:(UInt8.ofNat (48+m % 10)).toNat=(48+m % 10) % 256:=UInt8.toNat_ofNat'
 rw [h];omega
theorem dec_int(N:Nat)(X:Int)(w:World)(hX:Hid (X=(N:Int)))(hN:Hid (N<18446744073709551616))(X0:0≤X)(X1:X<18446744073709551616) :
  Calls Tryz.prog 69 #[.int .u64 X] w fun e w'=>e=.returned (.string ⟨(Lib.decDigits N).toArray⟩)∧Q w w':=by
 go_enter Tryz.func69,Tryz.ntmps69
 go_wp2
 go_loopw [0,3] (fun a b W=>∃ (x:Int) (m:Nat) (l:List UInt8),a=.int .u64 x∧b=.string ⟨l.toArray⟩∧Hid (x=(m:Int))∧0≤x∧x<18446744073709551616∧DI N m l∧Q w W) (fun a b _=>(intOf a).toNat+(1-strLen b))
 case atStart=>exact ⟨X,N,[],rfl,rfl,hX,X0,X1,.inl ⟨rfl,rfl⟩,Q.refl _⟩
 case round=>
  obtain ⟨x,m,l,rfl,rfl,hx,x0,x1,di,hq⟩:=hrel;have hl20:=di.len hN.out;have HD:=hid di;clear di;by_cases hg:0<m∨l=[]
  ·have HN:=hid (HD.out.next hg)
   have hc:((UInt8.ofNat (48+m % 10)).toNat:Int)=48+x % 10:=by rw [hx.out];exact digit_nat m
   obtain ⟨c,ec⟩:∃ c,c=UInt8.ofNat (48+m % 10):=⟨_,rfl⟩;rw [←ec]at HN hc;have hcv:(convert 52 9 (.slice (some ⟨wr.heap.size,0,none⟩) 1 1)).run Tryz.prog (wr.alloc (.cells #[.int .u8 (48+x % 10)] 5))=.ok (.string ⟨#[c]⟩) (wr.alloc (.cells #[.int .u8 (48+x % 10)] 5)):=by
    have h:=run_convert_bytes_back (P:=Tryz.prog) (wr.alloc (.cells #[.int .u8 (48+x % 10)] 5)) 52 9 5 ⟨wr.heap.size,0,none⟩ 1 [c] Tryz.underlying52 Tryz.underlying5 Tryz.underlying9 (fun j hj=>by
     have hj0:j=0:=by simpa using hj
     subst hj0;rw [Lib.add_plain,World.cell?_alloc_new];simp [hc])
    exact h
   have hms:Hid ((x / 10).toNat+(1-(l.length+1))<x.toNat+(1-l.length)):=by
    show _<_
    have:=hx.out
    rcases hg with h|h
    ·omega
    ·rw [h];simp;omega
   have hx':Hid (x / 10=((m / 10:Nat):Int)):=by show _=_;rw [hx.out];omega
   have hg':0<x∨(x=0∧l=[]):=by have:=hx.out;rcases hg with h|h;exact .inl (by omega);by_cases h0:0<x;exact .inl h0;exact .inr ⟨by omega,h⟩
   clear ec hc hg HD
   rcases hg' with hp|⟨hp,hl⟩
   ·go_wp2
    go_roundw
    case rel=>exact ⟨x / 10,m / 10,c::l,rfl,congrArg Value.string (bytes_cat [c] l),hx',by omega,by omega,HN.out,hq.alloc _⟩
    case measure=>
     have h1:=hms.out;have e2:((⟨#[c]⟩:ByteArray)++⟨l.toArray⟩).size=l.length+1:=by
      have e:=congrArg ByteArray.size (bytes_cat [c] l);rw [size_mk]at e;exact e
     simp only [intOf,strLen,size_mk,e2]
     omega
   ·have hnp:¬ 0<x:=by omega
    clear hp;subst hl;go_wp2
    go_roundw
    case rel=>exact ⟨x / 10,m / 10,[c],rfl,congrArg Value.string (bytes_cat [c] []),hx',by omega,by omega,HN.out,hq.alloc _⟩
    case measure=>
     have h1:=hms.out;have e2:((⟨#[c]⟩:ByteArray)++⟨#[]⟩).size=1:=by
      have e:=congrArg ByteArray.size (bytes_cat [c] []);rw [size_mk]at e;exact e
     simp [intOf,strLen,size_mk,e2]at *
     omega
  ·have hm0:m=0:=by omega
   have hl0:l≠[]:=fun h=>hg (.inr h)
   have HF:=hid (HD.out.done hm0 hl0);have hz:¬ 0<x:=by have:=hx.out;omega
   clear hg hm0 HD
   rcases l with _|⟨y,l⟩
   ·exact absurd rfl hl0
   ·clear hl0
    go_wp2
    go_ret
    exact ⟨ret_str (by rw [HF.out]),hq⟩
theorem rdec_any(n:Int)(w:World)(n0:0≤n)(n1:n≤2199023255552) :
  Calls Tryz.prog 71 #[.int .i64 n] w fun e w'=>e=.returned (.string ⟨(Lib.decDigits n.toNat).toArray⟩)∧Q w w':=by
 have HD:=hid (fun W=>dec_int n.toNat n W (by show _=_;omega) (by show _<_;omega) n0 (by omega))
 go_enter Tryz.func71,Tryz.ntmps71
 go_wp2_with (go_at_call 69;refine (HD.out _).mono ?_;rintro e w1 ⟨rfl,q1⟩)
 go_ret
 exact ⟨rfl,q1⟩
theorem rcnm_yes(n:Int)(N:Nat)(w:World)(hN:Hid (n+1=(N:Int)))(n0:0≤n)(n1:n<2199023255552) :
  Calls Tryz.prog 70 #[.int .i64 n] w fun e w'=>e=.returned (.string ⟨(nmL N).toArray⟩)∧Q w w':=by
 go_enter Tryz.func70,Tryz.ntmps70
 go_wp2
 go_loopw [0,3] (fun a b W=>∃ (x:Int) (m:Nat) (l:List UInt8),a=.int .i64 x∧b=.string ⟨l.toArray⟩∧Hid (x=(m:Int))∧0≤x∧x≤2199023255552∧NI N m l∧Q w W) (fun a b _=>(intOf a).toNat)
 case atStart=>exact ⟨n+1,N,[],rfl,rfl,hN,by omega,by omega,List.append_nil _,Q.refl _⟩
 case round=>
  obtain ⟨x,m,l,rfl,rfl,hx,x0,x1,di,hq⟩:=hrel;have hl20:=di.len (by have:=hN.out;omega)
  have HD:=hid di;clear di;by_cases hp:0<x
  ·obtain ⟨k,rfl⟩:∃ k,m=k+1:=⟨m-1,by have:=hx.out;omega⟩
   have HN:=hid (HD.out.next);have hc:((UInt8.ofNat (65+k % 26)).toNat:Int)=65+(x-1) % 26:=by rw [nm_nat k,hx.out];omega
   obtain ⟨c,ec⟩:∃ c,c=UInt8.ofNat (65+k % 26):=⟨_,rfl⟩;rw [←ec]at HN hc;have hcv:(convert 52 9 (.slice (some ⟨wr.heap.size,0,none⟩) 1 1)).run Tryz.prog (wr.alloc (.cells #[.int .u8 (65+(x-1) % 26)] 5))=.ok (.string ⟨#[c]⟩) (wr.alloc (.cells #[.int .u8 (65+(x-1) % 26)] 5)):=by
    have h:=run_convert_bytes_back (P:=Tryz.prog) (wr.alloc (.cells #[.int .u8 (65+(x-1) % 26)] 5)) 52 9 5 ⟨wr.heap.size,0,none⟩ 1 [c] Tryz.underlying52 Tryz.underlying5 Tryz.underlying9 (fun j hj=>by
     have hj0:j=0:=by simpa using hj
     subst hj0;rw [Lib.add_plain,World.cell?_alloc_new];simp [hc])
    exact h
   have hx':Hid ((x-1) / 26=((k / 26:Nat):Int)):=by show _=_;rw [hx.out];omega
   clear ec hc HD;go_wp2
   go_roundw
   case rel=>exact ⟨(x-1) / 26,k / 26,c::l,rfl,congrArg Value.string (bytes_cat [c] l),hx',by omega,by omega,HN.out,hq.alloc _⟩
   case measure=>
    simp only [intOf]
    omega
  ·have hm0:m=0:=by have:=hx.out;omega
   subst hm0;have HF:Hid (l=nmL N):=by have:=HD.out;unfold NI at this;rw [nmL]at this;exact this
   clear HD;go_wp2
   go_ret
   exact ⟨ret_str (by rw [HF.out]),hq⟩
theorem rcnm_any(n:Int)(w:World) :
  Calls Tryz.prog 70 #[.int .i64 n] w fun e w'=>e=.returned (.string ⟨(cnL n).toArray⟩)∧Q w w':=by
 by_cases h:0≤n∧n<2199023255552
 ·unfold cnL
  rw [if_pos h];exact rcnm_yes n _ w (by show _=_;omega) h.1 h.2
 ·have HC:Hid (cnL n=[]):=by show _=_;unfold cnL;rw [if_neg h]
  by_cases h0:n<0
  ·clear h
   go_enter Tryz.func70,Tryz.ntmps70
   go_wp2
   go_ret
   exact ⟨ret_str (by rw [HC.out]),Q.refl _⟩
  ·have h1:2199023255552≤n:=by omega
   clear h;go_enter Tryz.func70,Tryz.ntmps70
   go_wp2
   go_ret
   exact ⟨ret_str (by rw [HC.out]),Q.refl _⟩
theorem bytes_nil(s:ByteArray):s++⟨([]:List UInt8).toArray⟩=s:=by
 apply ByteArray.ext
 simp
theorem rpref_no(sh:ByteArray)(row col:Int)(ra ca:Bool)(w:World)
  (HM:Hid (∀ W,Calls Tryz.prog 67 #[rv sh row col ra ca] W fun e w'=>e=.returned (.bool false)∧Q W w')) :
  Calls Tryz.prog 34 #[rv sh row col ra ca] w fun e w'=>e=.returned (.string ⟨#[]⟩)∧Q w w':=by
 go_enter Tryz.func34,Tryz.ntmps34
 go_wp2_with (go_at_call 67;refine (HM.out _).mono ?_;rintro e w1 ⟨rfl,q1⟩)
 go_ret
 exact ⟨rfl,((Q.refl _).alloc _).trans q1⟩
theorem rpref_plain(sh SH NM DC X1 X2 X3 X4:ByteArray)(row col:Int)(ra ca:Bool)(w:World)(hz:sh.size≤1000)
  (HM:Hid (∀ W,Calls Tryz.prog 67 #[rv sh row col ra ca] W fun e w'=>e=.returned (.bool true)∧Q W w'))
  (hE:(sh.toList == [])=true)
  (HN:Hid (∀ W,Calls Tryz.prog 70 #[.int .i64 col] W fun e w'=>e=.returned (.string NM)∧Q W w'))
  (HD:Hid (∀ W,Calls Tryz.prog 71 #[.int .i64 (row+1)] W fun e w'=>e=.returned (.string DC)∧Q W w'))
  (r0:0≤row) (r1:row<2199023255552) (hc:Cat ⟨#[]⟩ ⟨(sgS ca).toArray⟩ NM ⟨(sgS ra).toArray⟩ DC X1 X2 X3 X4) :
  Calls Tryz.prog 34 #[rv sh row col ra ca] w fun e w'=>e=.returned (.string X4)∧Q w w':=by
 obtain ⟨e1,e2,e3,e4,z0,z1,z2,z3,z4,y1,y2,y3,y4⟩:=hc;have J:=hid (PB.start w sh row col ra ca);cases ca <;> cases ra
 ·have e1':(⟨#[]⟩:ByteArray)=X1:=by rw [←e1];exact (bytes_nil _).symm
  clear e1;subst e1';have e3':X2=X3:=by rw [←e3];exact (bytes_nil _).symm
  clear e3;subst e3';go_enter Tryz.func34,Tryz.ntmps34
  go_wp2_with (first|(go_at_call 67;refine (HM.out _).mono ?_;rintro e w1 ⟨rfl,q1⟩;replace J:=hid (J.out.on q1);have a0:=J.out.c0;have a1:=J.out.c1;have a2:=J.out.c2;have a3:=J.out.c3;have a4:=J.out.c4)|(go_at_call 70;refine (HN.out _).mono ?_;rintro e w2 ⟨rfl,q2⟩;replace J:=hid (J.out.on q2);have d0:=J.out.c0;have d1:=J.out.c1;have d2:=J.out.c2;have d3:=J.out.c3;have d4:=J.out.c4)|(go_at_call 71;refine (HD.out _).mono ?_;rintro e w3 ⟨rfl,q3⟩;replace J:=hid (J.out.on q3)))
  go_ret
  exact ⟨rfl,J.out.q⟩
 ·have e1':(⟨#[]⟩:ByteArray)=X1:=by rw [←e1];exact (bytes_nil _).symm
  clear e1;subst e1'
  replace e3:X2++⟨#[36]⟩=X3:=e3
  go_enter Tryz.func34,Tryz.ntmps34
  go_wp2_with (first|(go_at_call 67;refine (HM.out _).mono ?_;rintro e w1 ⟨rfl,q1⟩;replace J:=hid (J.out.on q1);have a0:=J.out.c0;have a1:=J.out.c1;have a2:=J.out.c2;have a3:=J.out.c3;have a4:=J.out.c4)|(go_at_call 70;refine (HN.out _).mono ?_;rintro e w2 ⟨rfl,q2⟩;replace J:=hid (J.out.on q2);have d0:=J.out.c0;have d1:=J.out.c1;have d2:=J.out.c2;have d3:=J.out.c3;have d4:=J.out.c4)|(go_at_call 71;refine (HD.out _).mono ?_;rintro e w3 ⟨rfl,q3⟩;replace J:=hid (J.out.on q3)))
  go_ret
  exact ⟨rfl,J.out.q⟩
 ·replace e1:(⟨#[]⟩:ByteArray)++⟨#[36]⟩=X1:=e1
  have e3':X2=X3:=by rw [←e3];exact (bytes_nil _).symm
  clear e3;subst e3';go_enter Tryz.func34,Tryz.ntmps34
  go_wp2_with (first|(go_at_call 67;refine (HM.out _).mono ?_;rintro e w1 ⟨rfl,q1⟩;replace J:=hid (J.out.on q1);have a0:=J.out.c0;have a1:=J.out.c1;have a2:=J.out.c2;have a3:=J.out.c3;have a4:=J.out.c4)|(go_at_call 70;refine (HN.out _).mono ?_;rintro e w2 ⟨rfl,q2⟩;replace J:=hid (J.out.on q2);have d0:=J.out.c0;have d1:=J.out.c1;have d2:=J.out.c2;have d3:=J.out.c3;have d4:=J.out.c4)|(go_at_call 71;refine (HD.out _).mono ?_;rintro e w3 ⟨rfl,q3⟩;replace J:=hid (J.out.on q3)))
  go_ret
  exact ⟨rfl,J.out.q⟩
 ·replace e1:(⟨#[]⟩:ByteArray)++⟨#[36]⟩=X1:=e1
  replace e3:X2++⟨#[36]⟩=X3:=e3
  go_enter Tryz.func34,Tryz.ntmps34
  go_wp2_with (first|(go_at_call 67;refine (HM.out _).mono ?_;rintro e w1 ⟨rfl,q1⟩;replace J:=hid (J.out.on q1);have a0:=J.out.c0;have a1:=J.out.c1;have a2:=J.out.c2;have a3:=J.out.c3;have a4:=J.out.c4)|(go_at_call 70;refine (HN.out _).mono ?_;rintro e w2 ⟨rfl,q2⟩;replace J:=hid (J.out.on q2);have d0:=J.out.c0;have d1:=J.out.c1;have d2:=J.out.c2;have d3:=J.out.c3;have d4:=J.out.c4)|(go_at_call 71;refine (HD.out _).mono ?_;rintro e w3 ⟨rfl,q3⟩;replace J:=hid (J.out.on q3)))
  go_ret
  exact ⟨rfl,J.out.q⟩
theorem rpref_sheet(sh SH NM DC X1 X2 X3 X4:ByteArray)(row col:Int)(ra ca:Bool)(w:World)(hz:sh.size≤1000)
  (HM:Hid (∀ W,Calls Tryz.prog 67 #[rv sh row col ra ca] W fun e w'=>e=.returned (.bool true)∧Q W w'))
  (hE:(sh.toList == [])=false)
  (eS:sh++⟨#[33]⟩=SH)
  (HN:Hid (∀ W,Calls Tryz.prog 70 #[.int .i64 col] W fun e w'=>e=.returned (.string NM)∧Q W w'))
  (HD:Hid (∀ W,Calls Tryz.prog 71 #[.int .i64 (row+1)] W fun e w'=>e=.returned (.string DC)∧Q W w'))
  (r0:0≤row) (r1:row<2199023255552) (hc:Cat SH ⟨(sgS ca).toArray⟩ NM ⟨(sgS ra).toArray⟩ DC X1 X2 X3 X4) :
  Calls Tryz.prog 34 #[rv sh row col ra ca] w fun e w'=>e=.returned (.string X4)∧Q w w':=by
 obtain ⟨e1,e2,e3,e4,z0,z1,z2,z3,z4,y1,y2,y3,y4⟩:=hc;have J:=hid (PB.start w sh row col ra ca);cases ca <;> cases ra
 ·have e1':SH=X1:=by rw [←e1];exact (bytes_nil _).symm
  clear e1;subst e1';have e3':X2=X3:=by rw [←e3];exact (bytes_nil _).symm
  clear e3;subst e3';go_enter Tryz.func34,Tryz.ntmps34
  go_wp2_with (first|(go_at_call 67;refine (HM.out _).mono ?_;rintro e w1 ⟨rfl,q1⟩;replace J:=hid (J.out.on q1);have a0:=J.out.c0;have a1:=J.out.c1;have a2:=J.out.c2;have a3:=J.out.c3;have a4:=J.out.c4)|(go_at_call 70;refine (HN.out _).mono ?_;rintro e w2 ⟨rfl,q2⟩;replace J:=hid (J.out.on q2);have d0:=J.out.c0;have d1:=J.out.c1;have d2:=J.out.c2;have d3:=J.out.c3;have d4:=J.out.c4)|(go_at_call 71;refine (HD.out _).mono ?_;rintro e w3 ⟨rfl,q3⟩;replace J:=hid (J.out.on q3)))
  go_ret
  exact ⟨rfl,J.out.q⟩
 ·have e1':SH=X1:=by rw [←e1];exact (bytes_nil _).symm
  clear e1;subst e1'
  replace e3:X2++⟨#[36]⟩=X3:=e3
  go_enter Tryz.func34,Tryz.ntmps34
  go_wp2_with (first|(go_at_call 67;refine (HM.out _).mono ?_;rintro e w1 ⟨rfl,q1⟩;replace J:=hid (J.out.on q1);have a0:=J.out.c0;have a1:=J.out.c1;have a2:=J.out.c2;have a3:=J.out.c3;have a4:=J.out.c4)|(go_at_call 70;refine (HN.out _).mono ?_;rintro e w2 ⟨rfl,q2⟩;replace J:=hid (J.out.on q2);have d0:=J.out.c0;have d1:=J.out.c1;have d2:=J.out.c2;have d3:=J.out.c3;have d4:=J.out.c4)|(go_at_call 71;refine (HD.out _).mono ?_;rintro e w3 ⟨rfl,q3⟩;replace J:=hid (J.out.on q3)))
  go_ret
  exact ⟨rfl,J.out.q⟩
 ·replace e1:SH++⟨#[36]⟩=X1:=e1
  have e3':X2=X3:=by rw [←e3];exact (bytes_nil _).symm
  clear e3;subst e3';go_enter Tryz.func34,Tryz.ntmps34
  go_wp2_with (first|(go_at_call 67;refine (HM.out _).mono ?_;rintro e w1 ⟨rfl,q1⟩;replace J:=hid (J.out.on q1);have a0:=J.out.c0;have a1:=J.out.c1;have a2:=J.out.c2;have a3:=J.out.c3;have a4:=J.out.c4)|(go_at_call 70;refine (HN.out _).mono ?_;rintro e w2 ⟨rfl,q2⟩;replace J:=hid (J.out.on q2);have d0:=J.out.c0;have d1:=J.out.c1;have d2:=J.out.c2;have d3:=J.out.c3;have d4:=J.out.c4)|(go_at_call 71;refine (HD.out _).mono ?_;rintro e w3 ⟨rfl,q3⟩;replace J:=hid (J.out.on q3)))
  go_ret
  exact ⟨rfl,J.out.q⟩
 ·replace e1:SH++⟨#[36]⟩=X1:=e1
  replace e3:X2++⟨#[36]⟩=X3:=e3
  go_enter Tryz.func34,Tryz.ntmps34
  go_wp2_with (first|(go_at_call 67;refine (HM.out _).mono ?_;rintro e w1 ⟨rfl,q1⟩;replace J:=hid (J.out.on q1);have a0:=J.out.c0;have a1:=J.out.c1;have a2:=J.out.c2;have a3:=J.out.c3;have a4:=J.out.c4)|(go_at_call 70;refine (HN.out _).mono ?_;rintro e w2 ⟨rfl,q2⟩;replace J:=hid (J.out.on q2);have d0:=J.out.c0;have d1:=J.out.c1;have d2:=J.out.c2;have d3:=J.out.c3;have d4:=J.out.c4)|(go_at_call 71;refine (HD.out _).mono ?_;rintro e w3 ⟨rfl,q3⟩;replace J:=hid (J.out.on q3)))
  go_ret
  exact ⟨rfl,J.out.q⟩
theorem rpref_any(sh:ByteArray)(row col:Int)(ra ca:Bool)(w:World)(hs:sh.size≤1000) :
  Calls Tryz.prog 34 #[rv sh row col ra ca] w fun e w'=>e=.returned (.string ⟨(prR sh.data.toList row col ra ca).toArray⟩)∧Q w w':=by
 have HM:=fun W=>rmay_any sh row col ra ca W (by omega)
 have et:=Lib.toList_data sh;unfold prR
 cases h1:mayR sh.data.toList row col
 ·rw [h1]at HM
  exact (rpref_no sh row col ra ca w HM).mono fun e w' g=>g
 rw [h1]at HM;have hb:(0≤row∧row<2199023255552)∧(0≤col∧col<2199023255552):=by
  unfold mayR at h1
  simp only [Bool.and_eq_true,decide_eq_true_eq]at h1
  exact h1.2
 obtain ⟨b1,b2⟩:=hb;obtain ⟨X1,X2,X3,hc⟩:=cat_of sh.data.toList row col ra ca (by rw [len_data];exact hs) b1.1 b1.2
 have HD:=fun W=>rdec_any (row+1) W (by omega) (by omega)
 by_cases he:sh.toList=[]
 ·have he2:sh.data.toList=[]:=by rw [←et,he]
  rw [he2]at hc ⊢;exact (rpref_plain sh ⟨#[]⟩ _ _ X1 X2 X3 _ row col ra ca w hs HM (by rw [he];rfl) (fun W=>rcnm_any col W) HD b1.1 b1.2 hc).mono fun e w' g=>g
 ·have hei:sh.data.toList.isEmpty=false:=by
   rw [←et];cases hh:sh.toList
   ·exact absurd hh he
   ·rfl
  have eS:sh++⟨#[33]⟩=⟨(shX sh.data.toList).toArray⟩:=by
   unfold shX
   rw [hei];have e:=bytes_cat sh.data.toList [33];exact e
  exact (rpref_sheet sh _ _ _ X1 X2 X3 _ row col ra ca w hs HM (by simpa using he) eS (fun W=>rcnm_any col W) HD b1.1 b1.2 hc).mono fun e w' g=>g
theorem abs_any(a:Int)(w:World)(h:V.fitB a=true) :
  Calls Tryz.prog 68 #[.int .i64 a] w fun e w'=>e=.returned (.int .u64 (a.natAbs:Int))∧w'=w:=by
 obtain ⟨h0,h1⟩:=of_decide_eq_true h;by_cases hn:a<0
 ·have H:Hid (-(a+1)+1=(a.natAbs:Int)):=by show -(a+1)+1=(a.natAbs:Int);omega
  go_enter Tryz.func68,Tryz.ntmps68
  go_wp2
  go_ret
  exact ⟨ret_int H.out,rfl⟩
 ·have H:Hid (a=(a.natAbs:Int)):=by show a=(a.natAbs:Int);omega
  go_enter Tryz.func68,Tryz.ntmps68
  go_wp2
  go_ret
  exact ⟨ret_int H.out,rfl⟩
theorem trim_zero(l:List UInt8):Lib.trimRightB (l++[48]) 48=Lib.trimRightB l 48:=by
 unfold Lib.trimRightB
 rw [List.reverse_append];simp
theorem trim_other(l:List UInt8)(c:UInt8)(h:c≠48):Lib.trimRightB (l++[c]) 48=l++[c]:=by
 unfold Lib.trimRightB
 rw [List.reverse_append];simp [h]
theorem part_ne(r:Nat)(h0:0<r)(h1:r<10000):Lib.trimRightB ((Lib.decDigits (10000+r)).drop 1) 48≠[]:=by
 intro e
 have h:=V.mag_read r false;unfold V.magL V.partL at h
 rw [if_neg (by omega),show r % 10000=r by omega,e]at h
 have h2:=V.parse2_point false (dec_all (r / 10000)) (show allD []=true from rfl)
 rw [h2]at h;simp at h
theorem rnum_zero(a M:Int)(m:Nat)(w:World)(ha:V.fitB a=true)(hm:Hid (m=a.natAbs))(hM:(a.natAbs:Int)=M)(hr:Hid (m % 10000=0))(hz:M % 10000=0)(m0:0≤M)(m1:M≤9223372036854775808) :
  Calls Tryz.prog 32 #[.int .i64 a] w fun e w'=>e=.returned (.string ⟨(V.printL a).toArray⟩)∧Q w w':=by
 have HA:=hid (fun w=>abs_any a w ha)
 rw [hM]at HA;have HD:=hid (fun w=>dec_int (m / 10000) (M / 10000) w (by show _=_;rw [←hM,←hm.out];omega) (by show _<_;have:=hm.out;have:=(of_decide_eq_true ha).1;have:=(of_decide_eq_true ha).2;omega) (by omega) (by omega))
 have HP:Hid (V.printL a=if a<0 then 45::Lib.decDigits (m / 10000) else Lib.decDigits (m / 10000)):=by
  show _=_
  unfold V.printL V.magL V.partL
  rw [←hm.out,if_pos hr.out,List.append_nil]
 have hlen:(Lib.decDigits (m / 10000)).length≤20:=by
  rw [Lib.decDigits_length];exact nDigits_le _ (by have:=hm.out;have:=(of_decide_eq_true ha).1;have:=(of_decide_eq_true ha).2;omega)
 generalize Lib.decDigits (m / 10000)=D at *;have hsz:(⟨D.toArray⟩:ByteArray).size=D.length:=by simp [ByteArray.size]
 clear hM ha;by_cases hn:a<0
 ·have HP':Hid (V.printL a=45::D):=by show _=_;rw [HP.out,if_pos hn]
  go_enter Tryz.func32,Tryz.ntmps32
  go_wp2_with (first|(go_at_call 68;refine (HA.out _).mono ?_;rintro e w1 ⟨rfl,rfl⟩)|(go_at_call 69;refine (HD.out _).mono ?_;rintro e w2 ⟨rfl,q2⟩))
  go_ret
  exact ⟨ret_str (by rw [HP'.out];exact bytes_cat [45] D),q2⟩
 ·have HP':Hid (V.printL a=D):=by show _=_;rw [HP.out,if_neg hn]
  go_enter Tryz.func32,Tryz.ntmps32
  go_wp2_with (first|(go_at_call 68;refine (HA.out _).mono ?_;rintro e w1 ⟨rfl,rfl⟩)|(go_at_call 69;refine (HD.out _).mono ?_;rintro e w2 ⟨rfl,q2⟩))
  go_ret
  exact ⟨ret_str (by rw [HP'.out]),q2⟩
theorem str_last(s:ByteArray)(m:Nat)(h:s.size=m+1):s.data.toList=s.data.toList.take m++[s[m]]:=by
 have h1:=take_snoc s m (by omega)
 rw [←h1,take_all s (m+1) (by omega)]
theorem rnum_some(a M:Int)(m:Nat)(w:World)(ha:V.fitB a=true)(hm:Hid (m=a.natAbs))(hM:(a.natAbs:Int)=M)(hr:Hid (0<m % 10000))(Y R S:Int)(hY:M / 10000=Y)(hR:M % 10000=R)(hS:10000+R=S)(hz:0<R)(m0:0≤M)(m1:M≤9223372036854775808) :
  Calls Tryz.prog 32 #[.int .i64 a] w fun e w'=>e=.returned (.string ⟨(V.printL a).toArray⟩)∧Q w w':=by
 have HA:=hid (fun w=>abs_any a w ha)
 rw [hM]at HA;have HD:=hid (fun w=>dec_int (m / 10000) Y w (by show _=_;rw [←hY,←hM,←hm.out];omega) (by show _<_;have:=hm.out;have:=(of_decide_eq_true ha).1;have:=(of_decide_eq_true ha).2;omega) (by omega) (by omega))
 have HE:=hid (fun w=>dec_int (10000+m % 10000) S w (by show _=_;rw [←hS,←hR,←hM,←hm.out];omega) (by show _<_;omega) (by omega) (by omega))
 obtain ⟨X,eX⟩:∃ X,Lib.trimRightB ((Lib.decDigits (10000+m % 10000)).drop 1) 48=X:=⟨_,rfl⟩;have hX:=part_ne (m % 10000) hr.out (by omega)
 rw [eX]at hX;have HP:Hid (V.printL a=if a<0 then 45::(Lib.decDigits (m / 10000)++46::X) else Lib.decDigits (m / 10000)++46::X):=by
  show _=_
  unfold V.printL V.magL V.partL
  rw [←hm.out,if_neg (show ¬ (m % 10000=0) by have:=hr.out;omega),eX]
 have hlen:(Lib.decDigits (m / 10000)).length≤20:=by
  rw [Lib.decDigits_length];exact nDigits_le _ (by have:=hm.out;have:=(of_decide_eq_true ha).1;have:=(of_decide_eq_true ha).2;omega)
 have hlen2:(Lib.decDigits (10000+m % 10000)).length=5:=by rw [Lib.decDigits_length];exact Lib.nDigits_unique 4 _ (by omega) (by omega)
 generalize Lib.decDigits (m / 10000)=D at *;generalize Lib.decDigits (10000+m % 10000)=E at *;have hsz:(⟨D.toArray⟩:ByteArray).size=D.length:=by simp [ByteArray.size]
 have hsz2:(⟨E.toArray⟩:ByteArray).size=5:=by simp [ByteArray.size,hlen2]
 have eT:(ByteArray.extract ⟨E.toArray⟩ 1 5).data.toList=E.drop 1:=by
  rw [Lib.extract_data];exact List.take_of_length_le (by simp [hlen2])
 have HX:=hid hX;have HT:Hid (Lib.trimRightB (ByteArray.extract ⟨E.toArray⟩ 1 5).data.toList 48=X∧(ByteArray.extract ⟨E.toArray⟩ 1 5).size≤4):=by
  show _∧_
  rw [eT];refine ⟨eX,?_⟩
  simp only [ByteArray.size_extract]
  omega
 clear hM ha eT eX hX;go_enter Tryz.func32,Tryz.ntmps32
 go_wp2_with (first|(go_at_call 68;refine (HA.out _).mono ?_;rintro e w1 ⟨rfl,rfl⟩)|(go_at_call_of 69 S;refine (HE.out _).mono ?_;rintro e w3 ⟨rfl,q3⟩)|(go_at_call_of 69 Y;refine (HD.out _).mono ?_;rintro e w2 ⟨rfl,q2⟩))
 go_loop [6] (fun v=>∃ s:ByteArray,v=.string s∧Hid (Lib.trimRightB s.data.toList 48=X)∧s.size≤4) (fun v=>strLen v)
 case atStart=>exact ⟨_,rfl,HT.out.1,HT.out.2⟩
 case round=>
  obtain ⟨s,rfl,hs,hs4⟩:=hrel;obtain ⟨k,hk⟩:∃ k,s.size=k+1:=by
   refine ⟨s.size-1,?_⟩
   rcases Nat.eq_zero_or_pos s.size with h|h
   ·exfalso
    have h1:=hs.out;have h2:s.data.toList=[]:=List.eq_nil_of_length_eq_zero (by simpa using h)
    rw [h2]at h1;exact HX.out h1.symm
   ·omega
  have hl:=str_last s k hk;have hkz:(s.size:Int)=(k:Int)+1:=by omega
  by_cases hc:s[k]=48
  ·have hs':Hid (Lib.trimRightB (ByteArray.extract s 0 k).data.toList 48=X∧(ByteArray.extract s 0 k).size=k):=by
    show _∧_
    have h1:=hs.out;rw [hl,hc,trim_zero]at h1;rw [Lib.extract_data];refine ⟨by simpa using h1,?_⟩
    simp only [ByteArray.size_extract]
    omega
   have hcn:(s[k].toNat:Int)=48:=by rw [hc];rfl
   clear hl hc;go_wp2
   refine ⟨⟨_,rfl,hs'.out.1,by rw [hs'.out.2];omega⟩,?_⟩
   show (s.extract 0 k).size<s.size
   rw [hs'.out.2];omega
  ·have hsX:Hid (s.data.toList=X):=by
    show _=_
    have h1:=hs.out;rw [hl,trim_other _ _ hc,←hl]at h1;exact h1
   have hcn:((s[k].toNat:Int) == 48)=false:=by
    rw [beq_eq_false_iff_ne];intro h
    apply hc
    apply UInt8.toNat_inj.1
    show s[k].toNat=48
    omega
   have hcat:Hid ((⟨D.toArray⟩:ByteArray)++(⟨#[46]⟩++s)=⟨(D++46::X).toArray⟩∧((⟨#[46]⟩:ByteArray)++s).size≤5):=by
    show _∧_
    have e:s=⟨X.toArray⟩:=by
     apply ByteArray.ext
     apply Array.ext'
     exact hsX.out
    have e2:(⟨#[46]⟩:ByteArray)++s=⟨(46::X).toArray⟩:=by rw [e];exact bytes_cat [46] X
    refine ⟨by rw [e2,bytes_cat],?_⟩
    rw [ByteArray.size_append];show 1+s.size≤5
    omega
   have hsa:=hcat.out.2;obtain ⟨U,eU⟩:∃ U,(⟨#[46]⟩:ByteArray)++s=U:=⟨_,rfl⟩;rw [eU]at hsa;have hcat':Hid ((⟨D.toArray⟩:ByteArray)++U=⟨(D++46::X).toArray⟩):=by show _=_;rw [←eU];exact hcat.out.1
   have hsu:((⟨D.toArray⟩:ByteArray)++U).size≤25:=by rw [ByteArray.size_append];omega
   clear hl hc hcat;by_cases hn:a<0
   ·have HP':Hid (V.printL a=45::(D++46::X)):=by show _=_;rw [HP.out,if_pos hn]
    go_wp2
    go_ret
    exact ⟨ret_str (by rw [HP'.out,hcat'.out];exact bytes_cat [45] _),q2.trans q3⟩
   ·have HP':Hid (V.printL a=D++46::X):=by show _=_;rw [HP.out,if_neg hn]
    go_wp2
    go_ret
    exact ⟨ret_str (by rw [HP'.out,hcat'.out]),q2.trans q3⟩
theorem rnum_any(a:Int)(w:World)(ha:V.fitB a=true) :
  Calls Tryz.prog 32 #[.int .i64 a] w fun e w'=>e=.returned (.string ⟨(V.printL a).toArray⟩)∧Q w w':=by
 have h0:=(of_decide_eq_true ha).1;have h1:=(of_decide_eq_true ha).2
 rcases Nat.eq_zero_or_pos (a.natAbs % 10000) with h|h
 ·exact rnum_zero a _ a.natAbs w ha rfl rfl h (by omega) (by omega) (by omega)
 ·exact rnum_some a _ a.natAbs w ha rfl rfl h _ _ _ rfl rfl rfl (by omega) (by omega) (by omega)
def RFm(x:Ex)(T:List UInt8):Prop:=∀ (W:World) (v:Value),Rd W x v→Calls Tryz.prog 12 #[v] W fun e W'=>e=.returned (.string ⟨T.toArray⟩)∧Q W W'
theorem rd_kind{W:World}{x:Ex}{k m:Int}{t:ByteArray}{bb:Bool}{er:Int}{rv kv:Value}(h:Rd W x (.agg #[.int .i64 k,.int .i64 m,.string t,.bool bb,.int .i64 er,rv,kv])):x.k=k∧x.n=m∧x.t=t.data.toList∧x.b=bb∧x.e=er:=by
 obtain ⟨k9,n9,t9,b9,e9,rs,ks,rv',kv',ao,cap,hv,hp⟩:=h.prt;simp at hv
 obtain ⟨rfl,rfl,rfl,rfl,rfl,_⟩:=hv;rw [hp.ex];exact ⟨rfl,rfl,rfl,rfl,rfl⟩
theorem rf_num(n:Int)(h:V.fitB n=true):RFm (numE n) (V.printL n):=by
 intro W v hr
 obtain ⟨k,m,t,bb,er,a1,l1,c1,a2,l2,c2,rfl⟩:=hr.shape;obtain ⟨h1,h2,-⟩:=rd_kind hr;obtain rfl:k=1:=h1.symm;obtain rfl:m=n:=h2.symm;have HP:=hid (fun W'=>rnum_any m W' h)
 generalize (⟨(V.printL m).toArray⟩:ByteArray)=T at HP ⊢;clear hr h h1 h2;go_enter Tryz.func12,Tryz.ntmps12
 go_wp2_with (go_at_call 32;refine (HP.out _).mono ?_;rintro e9 w1 ⟨rfl,q1⟩;have Q1:Hid (Q W w1):=hid (((Q.refl _).alloc _).trans q1);clear q1)
 go_ret
 exact ⟨rfl,Q1.out⟩
theorem rf_bool(x:Bool):RFm (boolE x) (if x then truW else flsW):=by
 intro W v hr
 obtain ⟨k,m,t,bb,er,a1,l1,c1,a2,l2,c2,rfl⟩:=hr.shape;obtain ⟨h1,-,-,h4,-⟩:=rd_kind hr;obtain rfl:k=3:=h1.symm;obtain rfl:bb=x:=h4.symm;clear hr h1 h4;cases bb
 ·go_enter Tryz.func12,Tryz.ntmps12
  go_wp2
  go_ret
  exact ⟨rfl,(Q.refl _).alloc _⟩
 ·go_enter Tryz.func12,Tryz.ntmps12
  go_wp2
  go_ret
  exact ⟨rfl,(Q.refl _).alloc _⟩
theorem rf_err(x:Nat):RFm (errE x) (enL x):=by
 intro W v hr
 obtain ⟨k,m,t,bb,er,a1,l1,c1,a2,l2,c2,rfl⟩:=hr.shape;obtain ⟨h1,-,-,-,h5⟩:=rd_kind hr;obtain rfl:k=4:=h1.symm;obtain rfl:er=(x:Int):=h5.symm;have HP:=hid (fun W'=>V.rname_any (x:Int) W')
 generalize (⟨(enL x).toArray⟩:ByteArray)=T at HP ⊢;clear hr h1 h5;go_enter Tryz.func12,Tryz.ntmps12
 go_wp2_with (go_at_call 33;refine (HP.out _).mono ?_;rintro e9 w1 ⟨rfl,q1⟩;have Q1:Hid (Q W w1):=hid (((Q.refl _).alloc _).trans q1);clear q1)
 go_ret
 exact ⟨rfl,Q1.out⟩
theorem rf_ref(r:Rf)(hs:r.1.length≤1000):RFm (refE r) (prf r):=by
 intro W v hr
 obtain ⟨k,m,t,bb,er,rs,ks,rv',kv,ao,cap,rfl,hp⟩:=hr.prt;have hx:=hp.ex;unfold refE at hx
 simp only [Ex.mk.injEq]at hx
 obtain ⟨rfl,rfl,ht,rfl,rfl,rfl,rfl⟩:=hx;have hkl:=hp.kl;subst hkl;obtain ⟨rb,ro,rc,hrv,_,hrc,hra⟩:=hp.rl.at (i:=0) (by simp)
 subst hrv;obtain ⟨sh,row,col,ra,ca⟩:=r;simp only [prf]at hs ⊢
 have r0:W.cell? ⟨rb,ro,none⟩=some (.string ⟨sh.toArray⟩):=by have:=hra 0 _ rfl;simpa using this
 have r1:W.cell? ⟨rb,ro+1,none⟩=some (.int .i64 row):=by have:=hra 1 _ rfl;simpa using this
 have r2:W.cell? ⟨rb,ro+2,none⟩=some (.int .i64 col):=by have:=hra 2 _ rfl;simpa using this
 have r3:W.cell? ⟨rb,ro+3,none⟩=some (.bool ra):=by have:=hra 3 _ rfl;simpa using this
 have r4:W.cell? ⟨rb,ro+4,none⟩=some (.bool ca):=by have:=hra 4 _ rfl;simpa using this
 have hlt:rb<W.heap.size:=World.block_lt_of_cell? W _ r0
 have HP:=hid (fun W'=>rpref_any ⟨sh.toArray⟩ row col ra ca W' (by rw [size_mk];exact hs))
 rw [show (⟨sh.toArray⟩:ByteArray).data.toList=sh from rfl]at HP
 generalize (⟨(prR sh row col ra ca).toArray⟩:ByteArray)=T at HP ⊢;generalize (⟨sh.toArray⟩:ByteArray)=S at HP r0;unfold rv at HP
 clear hr hp hra ht;go_enter Tryz.func12,Tryz.ntmps12
 go_upto_region 1 with fail
 have Z1:=hid (cb_new W [.int .i64 5,.int .i64 0,.string t,.bool false,.int .i64 0,.slice (some ⟨rb,ro,none⟩) 1 rc,.slice ao 0 cap] 26);have Q1:=hid ((Q.refl W).alloc (.cells #[.int .i64 5,.int .i64 0,.string t,.bool false,.int .i64 0,.slice (some ⟨rb,ro,none⟩) 1 rc,.slice ao 0 cap] 26));rw [show ([.int .i64 5,.int .i64 0,.string t,.bool false,.int .i64 0,.slice (some ⟨rb,ro,none⟩) 1 rc,.slice ao 0 cap]:List Value).toArray=#[.int .i64 5,.int .i64 0,.string t,.bool false,.int .i64 0,.slice (some ⟨rb,ro,none⟩) 1 rc,.slice ao 0 cap] from rfl]at Z1
 generalize W.alloc (.cells #[.int .i64 5,.int .i64 0,.string t,.bool false,.int .i64 0,.slice (some ⟨rb,ro,none⟩) 1 rc,.slice ao 0 cap] 26)=W1 at Z1 Q1 ⊢;have x0:=(Q1.out.cell hlt).trans r0;have x1:=(Q1.out.cell hlt).trans r1;have x2:=(Q1.out.cell hlt).trans r2;have x3:=(Q1.out.cell hlt).trans r3;have x4:=(Q1.out.cell hlt).trans r4;clear r0 r1 r2 r3 r4 hlt;generalize W.heap.size=b1 at Z1 ⊢;have d0:=Z1.out.c 0 _ rfl;have d5:=Z1.out.c 5 _ rfl;go_wp2_with (go_at_call 34;refine (HP.out _).mono ?_;rintro e9 w3 ⟨rfl,q3⟩;have Q3:=hid (Q1.out.trans q3);clear q3)
 go_ret
 exact ⟨rfl,Q3.out⟩
theorem dbl_snoc(l:List UInt8)(c:UInt8):dbl (l++[c])=dbl l++(if c=34 then [34,34] else [c]):=by
 induction l with
 |nil=>simp [dbl]
 |cons d l ih=>
  rw [List.cons_append,dbl,dbl,ih]
  split <;> simp
theorem rf_text(x:List UInt8)(hx:x.length≤1000):RFm (textE x) (34::(dbl x++[34])):=by
 intro W v hr
 obtain ⟨k,m,t,bb,er,a1,l1,c1,a2,l2,c2,rfl⟩:=hr.shape;obtain ⟨h1,-,h3,-⟩:=rd_kind hr;obtain rfl:k=2:=h1.symm;obtain rfl:x=t.data.toList:=h3;rw [len_data]at hx;clear hr h1;go_enter Tryz.func12,Tryz.ntmps12
 go_upto_region 1 with fail
 have Z1:=hid (cb_new W [.int .i64 2,.int .i64 m,.string t,.bool bb,.int .i64 er,.slice a1 l1 c1,.slice a2 l2 c2] 26);have Q1:=hid ((Q.refl W).alloc (.cells #[.int .i64 2,.int .i64 m,.string t,.bool bb,.int .i64 er,.slice a1 l1 c1,.slice a2 l2 c2] 26));rw [show ([.int .i64 2,.int .i64 m,.string t,.bool bb,.int .i64 er,.slice a1 l1 c1,.slice a2 l2 c2]:List Value).toArray=#[.int .i64 2,.int .i64 m,.string t,.bool bb,.int .i64 er,.slice a1 l1 c1,.slice a2 l2 c2] from rfl]at Z1
 generalize W.alloc (.cells #[.int .i64 2,.int .i64 m,.string t,.bool bb,.int .i64 er,.slice a1 l1 c1,.slice a2 l2 c2] 26)=W1 at Z1 Q1 ⊢;generalize W.heap.size=b1 at Z1 ⊢;have d0:=Z1.out.c 0 _ rfl;have d2:=Z1.out.c 2 _ rfl;go_wp2
 go_loop [3,4] (fun a z=>∃ (i:Nat),i≤t.size∧z=.int .i64 (i:Int)∧a=.string ⟨(34::dbl (t.data.toList.take i)).toArray⟩) (fun _ z=>t.size-(intOf z).toNat)
 case atStart=>exact ⟨0,Nat.zero_le _,rfl,rfl⟩
 case round=>
  obtain ⟨i,hi,rfl,rfl⟩:=hrel;have hdl:=dbl_len (t.data.toList.take i);have htl:(t.data.toList.take i).length≤1000:=by rw [List.length_take,len_data];omega
  by_cases hlt:i<t.size
  ·have i1:(i:Int)<(t.size:Int):=by omega
   have hsn:=take_snoc t i hlt;obtain ⟨c,hc⟩:∃ c,t[i]=c:=⟨_,rfl⟩;rw [hc]at hsn;have HD:Hid (dbl (t.data.toList.take (i+1))=dbl (t.data.toList.take i)++(if c=34 then [34,34] else [c])):=by show _=_;rw [hsn,dbl_snoc]
   have eX:ByteArray.extract t i (i+1)=⟨#[c]⟩:=by
    apply ByteArray.ext
    apply Array.ext'
    rw [Lib.extract_data];show (t.data.toList.drop i).take (i+1-i)=[c]
    rw [drop_cons t i hlt,hc,show i+1-i=1 by omega]
    rfl
   obtain ⟨P,hP⟩:∃ P:ByteArray,(⟨(34::dbl (t.data.toList.take i)).toArray⟩:ByteArray)=P:=⟨_,rfl⟩;have hPs:P.size≤2001:=by rw [←hP,size_mk,List.length_cons];omega
   have hPl:P.data.toList=34::dbl (t.data.toList.take i):=by rw [←hP]
   rw [hP];have HPL:=hid hPl;have hw1:IntKind.i64.wrap ((i:Int)+1)=(i:Int)+1:=by rw [IntKind.wrap_i64];omega
   clear hP hPl hdl htl hsn;by_cases h34:c=34
   ·subst h34
    have ec:(((34:UInt8).toNat:Int) == 34)=true:=rfl
    obtain ⟨P1,hP1⟩:∃ P1:ByteArray,P++(⟨#[34]⟩:ByteArray)=P1:=⟨_,rfl⟩;obtain ⟨P2,hP2⟩:∃ P2:ByteArray,P1++(⟨#[34]⟩:ByteArray)=P2:=⟨_,rfl⟩;have z1:P1.size=P.size+1:=by rw [←hP1,ByteArray.size_append];rfl
    have n1:¬ (9223372036854775807<P.size+1):=by omega
    have n2:¬ (9223372036854775807<P1.size+1):=by omega
    have HR:Hid (P2=⟨(34::dbl (t.data.toList.take (i+1))).toArray⟩):=by
     show _=_
     rw [HD.out,if_pos rfl,←hP2,←hP1];apply ByteArray.ext
     apply Array.ext'
     simp [HPL.out]
    clear z1;go_wp2_with fail
    go_round
    case rel=>exact ⟨i+1,by omega,by go_num,congrArg Value.string HR.out⟩
    case measure=>simp [intOf];omega
   ·have ec:((c.toNat:Int) == 34)=false:=by
     rw [beq_eq_false_iff_ne];intro e
     exact h34 (UInt8.toNat_inj.1 (by have:(34:UInt8).toNat=34:=rfl;omega))
    obtain ⟨P2,hP2⟩:∃ P2:ByteArray,P++(⟨#[c]⟩:ByteArray)=P2:=⟨_,rfl⟩;have n1:¬ (9223372036854775807<P.size+1):=by omega
    have HR:Hid (P2=⟨(34::dbl (t.data.toList.take (i+1))).toArray⟩):=by
     show _=_
     rw [HD.out,if_neg h34,←hP2];apply ByteArray.ext
     apply Array.ext'
     simp [HPL.out]
    clear h34;go_wp2_with fail
    go_round
    case rel=>exact ⟨i+1,by omega,by go_num,congrArg Value.string HR.out⟩
    case measure=>simp [intOf];omega
  ·have hall:t.data.toList.take i=t.data.toList:=take_all t i (by omega)
   have i1:¬ ((i:Int)<(t.size:Int)):=by omega
   rw [hall]at hdl ⊢;obtain ⟨P,hP⟩:∃ P:ByteArray,(⟨(34::dbl t.data.toList).toArray⟩:ByteArray)=P:=⟨_,rfl⟩;have hPs:P.size≤2001:=by rw [←hP,size_mk,List.length_cons];rw [len_data]at hdl;omega
   obtain ⟨P2,hP2⟩:∃ P2:ByteArray,P++(⟨#[34]⟩:ByteArray)=P2:=⟨_,rfl⟩;have HR:Hid (P2=⟨(34::(dbl t.data.toList++[34])).toArray⟩):=by
    show _=_
    rw [←hP2,←hP];apply ByteArray.ext
    apply Array.ext'
    simp
   have n1:¬ (9223372036854775807<P.size+1):=by omega
   rw [hP];clear hP hall hdl;go_wp2_with fail
   go_ret
   exact ⟨ret_str HR.out,Q1.out⟩
theorem rside_any(x:Ex)(T:List UInt8)(hT:T.length≤200000)(hx:RFm x T)(W:World)(v:Value)(hr:Rd W x v)(lv:Nat)(hlv:lv≤5):Calls Tryz.prog 35 #[v,.int .i64 (lv:Int)] W fun e W'=>e=.returned (.string ⟨(brk (decide (x.k=8∧lvl x.t<lv)) T).toArray⟩)∧Q W W':=by
 have HX:=hid (fun W' (q:Q W W')=>hx W' v (Rd.on q _ _ hr))
 obtain ⟨k,m,t,bb,er,a1,l1,c1,a2,l2,c2,rfl⟩:=hr.shape;obtain ⟨h1,-,h3,-⟩:=rd_kind hr;rw [h1,h3];have HL:=hid (fun W'=>level_any t W')
 obtain ⟨S,hS⟩:∃ S:ByteArray,(⟨T.toArray⟩:ByteArray)=S:=⟨_,rfl⟩;have hSl:S.data.toList=T:=by rw [←hS]
 have hSs:S.size≤200000:=by rw [←len_data,hSl];exact hT
 rw [hS]at HX;clear hr h1 h3 hx hT hlv;by_cases hk:k=8
 ·subst hk
  by_cases hl:lvl t.data.toList<lv
  ·rw [decide_eq_true ⟨rfl,hl⟩]
   obtain ⟨A,hA⟩:∃ A:ByteArray,(⟨#[40]⟩:ByteArray)++S=A:=⟨_,rfl⟩;obtain ⟨B,hB⟩:∃ B:ByteArray,A++(⟨#[41]⟩:ByteArray)=B:=⟨_,rfl⟩;have zA:A.size=1+S.size:=by rw [←hA,ByteArray.size_append];rfl
   have n1:¬ (9223372036854775807<1+S.size):=by omega
   have n2:¬ (9223372036854775807<A.size+1):=by omega
   have HR:Hid (B=⟨(brk true T).toArray⟩):=by
    show _=_
    rw [←hB,←hA,←hSl];apply ByteArray.ext
    apply Array.ext'
    simp [brk]
   have hl':((lvl t.data.toList:Nat):Int)<(lv:Int):=by omega
   rw [←HR.out];generalize ((lvl t.data.toList:Nat):Int)=lt at HL hl';clear hl zA hS hSl HR;go_enter Tryz.func35,Tryz.ntmps35
   go_wp2_with (first|(go_at_call 36;refine (HL.out _).mono ?_;rintro e9 w1 ⟨rfl,h9⟩;replace h9:=h9.symm;subst h9)|(go_at_call 12;refine (HX.out _ ((Q.refl _).alloc _)).mono ?_;rintro e9 w2 ⟨rfl,q2⟩;have Q2:Hid (Q W w2):=hid (((Q.refl _).alloc _).trans q2);clear q2))
   go_ret
   exact ⟨rfl,Q2.out⟩
  ·rw [decide_eq_false (fun x=>hl x.2),show brk false T=T from rfl,hS]
   have hl':¬ (((lvl t.data.toList:Nat):Int)<(lv:Int)):=by omega
   generalize ((lvl t.data.toList:Nat):Int)=lt at HL hl';clear hl hS hSl;go_enter Tryz.func35,Tryz.ntmps35
   go_wp2_with (first|(go_at_call 36;refine (HL.out _).mono ?_;rintro e9 w1 ⟨rfl,h9⟩;replace h9:=h9.symm;subst h9)|(go_at_call 12;refine (HX.out _ ((Q.refl _).alloc _)).mono ?_;rintro e9 w2 ⟨rfl,q2⟩;have Q2:Hid (Q W w2):=hid (((Q.refl _).alloc _).trans q2);clear q2))
   go_ret
   exact ⟨rfl,Q2.out⟩
 ·rw [decide_eq_false (fun x=>hk x.1),show brk false T=T from rfl,hS]
  have hk':((k:Int) == 8)=false:=by simpa using hk
  clear hk hS hSl;go_enter Tryz.func35,Tryz.ntmps35
  go_wp2_with (go_at_call 12;refine (HX.out _ ((Q.refl _).alloc _)).mono ?_;rintro e9 w2 ⟨rfl,q2⟩;have Q2:Hid (Q W w2):=hid (((Q.refl _).alloc _).trans q2);clear q2)
  go_ret
  exact ⟨rfl,Q2.out⟩
theorem rf_neg(a:Ex)(Ta:List UInt8)(hT:Ta.length≤100000)(ha:RFm a Ta):RFm (negE a) (45::brk (decide (a.k=8∧lvl a.t<5)) Ta):=by
 intro W v hr
 obtain ⟨k,m,t,bb,er,rs,ks,rv',kv,ao,kc,rfl,hp⟩:=hr.prt;have hx:=hp.ex;unfold negE at hx
 simp only [Ex.mk.injEq]at hx
 obtain ⟨rfl,rfl,ht,rfl,rfl,rfl,rfl⟩:=hx;have hkl:=hp.kl;subst hkl;obtain ⟨a1,c1,hrv,_,_⟩:=hp.rl.len;subst hrv;obtain ⟨kb,ko,rfl,hkl⟩:=hp.kd (by simp)
 obtain ⟨p0,p1,p2,p3,p4,p5,p6,hk0⟩:=hkl.kid 0 (by simp)
 obtain ⟨ak,am,at',ab,ae,aa1,al1,ac1,aa2,al2,ac2,hav⟩:=hk0.rd.shape;simp only [Value.agg.injEq,Array.mk.injEq,List.cons.injEq,and_true]at hav
 obtain ⟨rfl,rfl,rfl,rfl,rfl,rfl,rfl⟩:=hav;simp only [Nat.zero_mul,Nat.add_zero,List.getElem_cons_zero]at hk0
 have hkb:kb<W.heap.size:=World.block_lt_of_cell? W _ hk0.g0
 have HKa:=hid hk0;have HS:=hid (fun W' (q:Q W W')=>rside_any a Ta (by omega) ha W' _ (Rd.on q _ _ HKa.out.rd) 5 (by omega))
 have hbl:=brk_len (decide (a.k=8∧lvl a.t<5)) Ta;generalize brk (decide (a.k=8∧lvl a.t<5)) Ta=TA at HS hbl ⊢;obtain ⟨S,hS⟩:∃ S:ByteArray,(⟨TA.toArray⟩:ByteArray)=S:=⟨_,rfl⟩;have hSl:S.data.toList=TA:=by rw [←hS]
 have hSs:S.size≤100002:=by rw [←len_data,hSl];omega
 rw [hS]at HS;obtain ⟨B,hB⟩:∃ B:ByteArray,(⟨#[45]⟩:ByteArray)++S=B:=⟨_,rfl⟩;have n1:¬ (9223372036854775807<1+S.size):=by omega
 have HR:Hid (B=⟨(45::TA).toArray⟩):=by
  show _=_
  rw [←hB,←hSl];apply ByteArray.ext
  apply Array.ext'
  simp
 rw [←HR.out];clear hr hp hkl hk0 ht hS hSl HR hbl ha;go_enter Tryz.func12,Tryz.ntmps12
 go_upto_region 1 with fail
 have Z1:=hid (cb_new W [.int .i64 7,.int .i64 0,.string t,.bool false,.int .i64 0,.slice a1 0 c1,.slice (some ⟨kb,ko,none⟩) 1 kc] 26);have Q1:=hid ((Q.refl W).alloc (.cells #[.int .i64 7,.int .i64 0,.string t,.bool false,.int .i64 0,.slice a1 0 c1,.slice (some ⟨kb,ko,none⟩) 1 kc] 26));rw [show ([.int .i64 7,.int .i64 0,.string t,.bool false,.int .i64 0,.slice a1 0 c1,.slice (some ⟨kb,ko,none⟩) 1 kc]:List Value).toArray=#[.int .i64 7,.int .i64 0,.string t,.bool false,.int .i64 0,.slice a1 0 c1,.slice (some ⟨kb,ko,none⟩) 1 kc] from rfl]at Z1
 generalize W.alloc (.cells #[.int .i64 7,.int .i64 0,.string t,.bool false,.int .i64 0,.slice a1 0 c1,.slice (some ⟨kb,ko,none⟩) 1 kc] 26)=W1 at Z1 Q1 ⊢;have g0:=(Q1.out.cell hkb).trans HKa.out.g0;have g1:=(Q1.out.cell hkb).trans HKa.out.g1;have g2:=(Q1.out.cell hkb).trans HKa.out.g2;have g3:=(Q1.out.cell hkb).trans HKa.out.g3;have g4:=(Q1.out.cell hkb).trans HKa.out.g4;have g5:=(Q1.out.cell hkb).trans HKa.out.g5;have g6:=(Q1.out.cell hkb).trans HKa.out.g6;generalize W.heap.size=b1 at Z1 ⊢;have d0:=Z1.out.c 0 _ rfl;have d6:=Z1.out.c 6 _ rfl;go_wp2_with (go_at_call 35;refine (HS.out _ Q1.out).mono ?_;rintro e9 w3 ⟨rfl,q3⟩;have Q3:=hid (Q1.out.trans q3);clear q3)
 go_ret
 exact ⟨rfl,Q3.out⟩
end Go.Proofs.YtgheopdadfnilaaGreatDoor
