/- What the reference reads: all . -/
import Derived.Test.YtoikodohcieipaaGreatDoorKh16
import Derived.Test.YtoikodohcieipaaGreatDoorKh36
import Derived.Test.YtoikodohcieipaaGreatDoorKh20
import Derived.Test.YtoikodohcieipaaGreatDoorKh24
import Derived.Test.YtoikodohcieipaaGreatDoorKh37
import Derived.Test.YtoikodohcieipaaGreatDoorKh35
set_option linter.unusedVariables false
set_option linter.unusedSimpArgs false
set_option maxRecDepth 100000
set_option maxHeartbeats 8000000
namespace Go.Proofs.YtoikodohcieipaaGreatDoor
open Go.RowKit
theorem first_name(L:List Wd)(p b off cap:Nat)(s:St)(W:World)(h:PS W p L b off cap s.i s.bd s.n)(hi:s.i<L.length)(hr:L.length≤50000)(hn:s.n≤s.i)(hw:isW L s.i [40]=false)(hk:kAt L s.i=4)(r:Ex × St)
  (HC:Hid (∀ W1 (T:ByteArray) (q:Int),T.data.toList=tAt L s.i→PS W1 p L b off cap s.on.i s.on.bd s.on.n→Calls Tryz.prog 103 #[.pointer (some ⟨p,0,none⟩),.agg #[.int .i64 4,.string T,.int .i64 q]] W1 fun e W'=>Rep p L b off cap W1 r e W')) :
  Calls Tryz.prog 86 #[.pointer (some ⟨p,0,none⟩)] W fun e W'=>Rep p L b off cap W r e W':=by
 have hlt:=h.lt;have hbW:=h.blk hi;obtain ⟨T,q,hT,kw⟩:=h.kw hi;have HTT:=hid hT;have HK:=hid kw;rw [hk]at HK;have HP:=hid h;have hroom:(s.i:Int)+1≤9223372036854775807:=by omega
 have HZ:=hid ((tb_new W (.int .i64 0) (.int .i64 0) (.string ⟨#[]⟩) (.bool false) (.int .i64 0) (.slice none 0 0) (.slice none 0 0) 26).on (((Qx.refl p _).alloc (.cells #[.int .i64 4,.string T,.int .i64 q] 78)).drew) (by omega))
 have HB:=hid ((wb_new (W.alloc (.cells #[.int .i64 0,.int .i64 0,.string ⟨#[]⟩,.bool false,.int .i64 0,.slice none 0 0,.slice none 0 0] 26)) (.int .i64 4) (.string T) (.int .i64 q) 78).on ((Qx.refl p _).drew) (by simp;omega))
 rw [show (W.alloc (.cells #[.int .i64 0,.int .i64 0,.string ⟨#[]⟩,.bool false,.int .i64 0,.slice none 0 0,.slice none 0 0] 26)).heap.size=W.heap.size+1 by simp]at HB
 have hc:=hid (fun W1 (g:PS W1 p L b off cap s.i s.bd s.n)=>take_any W1 p L b off cap s.i s.bd s.n ⟨#[40]⟩ g hi)
 rw [show (⟨#[40]⟩:ByteArray).data.toList=[40] from rfl,hw]at hc
 clear h kw hT;go_enter Tryz.func86,Tryz.ntmps86
 go_wp2_with fail
 go_region_held3 (fun V=>V.cell? ⟨p,0,none⟩=some (.slice (some ⟨b,off,none⟩) L.length cap)∧V.cell? ⟨p,1,none⟩=some (.int .i64 (s.i:Int))∧V.cell? ⟨b,off+s.i*3,none⟩=some (.int .i64 4)∧V.cell? ⟨b,off+s.i*3+1,none⟩=some (.string T)∧V.cell? ⟨b,off+s.i*3+2,none⟩=some (.int .i64 q)) (exact HK.out.on (by repeat (first|with_reducible exact Q.refl _|with_reducible refine Q.drewN ?_ _|with_reducible refine Q.drew ?_|with_reducible refine Q.alloc ?_ _|with_reducible refine Q.setCell ?_ (by simp) _))) (fail)
 go_wp2_with (first|(go_at_call 85;refine (hc.out _ (HP.out.on (by repeat (first|with_reducible exact Q.refl _|with_reducible refine Q.drewN ?_ _|with_reducible refine Q.drew ?_|with_reducible refine Q.alloc ?_ _|with_reducible refine Q.setCell ?_ (by simp) _)))).mono ?_;rintro e w1 ⟨rfl,q1,p1⟩;have Q1:Hid (Qx p W w1):=hid (Qx.trans (by repeat (first|with_reducible exact Qx.refl _ _|with_reducible refine Qx.drewN ?_ _|with_reducible refine Qx.drew ?_|with_reducible refine Qx.alloc ?_ _|with_reducible refine Qx.own ?_ _ _|with_reducible refine Qx.new ?_ (by simp) _ _)) q1);have P1:=hid p1;have Z1:=hid (HZ.out.on q1 (by omega));have B1:=hid (HB.out.on q1 (by omega));have hsw:W.heap.size+1<w1.heap.size:=World.block_lt_of_cell? w1 ⟨W.heap.size+1,0,none⟩ B1.out.g0;clear q1 p1;have x1:=P1.out.c1;have z1:=P1.out.f1;have b0:=B1.out.g0;have b1:=B1.out.g1;have b2:=B1.out.g2)|(go_at_call 103;refine (HC.out _ T q HTT.out (P1.out.set1 (s.i+1) _ (by go_num))).mono ?_;rintro e w2 ⟨v,rfl,hr2,q2,p2⟩;obtain ⟨k,m,t,bb,er,a1,l1,c1,a2,l2,c2,rfl⟩:=hr2.shape;have R2:=hid hr2;have Q2:Hid (Qx p w1 w2):=hid (Qx.trans (by repeat (first|with_reducible exact Qx.refl _ _|with_reducible refine Qx.drewN ?_ _|with_reducible refine Qx.drew ?_|with_reducible refine Qx.alloc ?_ _|with_reducible refine Qx.own ?_ _ _|with_reducible refine Qx.new ?_ (by simp) _ _)) q2);have P2:=hid p2;have Z2:=hid (Z1.out.on Q2.out (by omega));clear hr2 q2 p2;have d0:=Z2.out.g0;have d1:=Z2.out.g1;have d2:=Z2.out.g2;have d3:=Z2.out.g3;have d4:=Z2.out.g4;have d5:=Z2.out.g5;have d6:=Z2.out.g6;have y0:=Z2.out.f 0;have y1:=Z2.out.f 1;have y2:=Z2.out.f 2;have y3:=Z2.out.f 3;have y4:=Z2.out.f 4;have y5:=Z2.out.f 5;have y6:=Z2.out.f 6))
 refine bodyPost_ret (v:=.agg #[.int .i64 k,.int .i64 m,.string t,.bool bb,.int .i64 er,.slice a1 l1 c1,.slice a2 l2 c2]) (by simp [results,Tryz.results86,go_sem,d0,d1,d2,d3,d4,d5,d6]) rfl ?_
 have hsz1:(w1.setCell ⟨p,1,none⟩ (.int .i64 ((s.i:Int)+1))).heap.size=w1.heap.size:=by simp [World.setCell]
 exact fin7 (s':=r.2) k m t bb er a1 l1 c1 a2 l2 c2 hlt hbW (Q1.out.trans Q2.out) (Rdg.mono (fun b hb=>by rw [hsz1]at hb;omega) _ _ R2.out) P2.out
theorem ref_all(L:List Wd)(hE:Ends L)(hG:Good EE L)(hK:∀ i,i<L.length→1≤kAt L i∧kAt L i≤7)(hr:L.length≤50000)(hz:∀ i,(tAt L i).length≤1000)(p b off cap:Nat):∀ f:Nat,
  (∀ (lv:Nat) (s:St) (r:Ex × St) (W:World),1≤lv→lv≤5→treeF EE L f lv s=some r→PS W p L b off cap s.i s.bd s.n→s.i<L.length→s.n≤s.i→Calls Tryz.prog 41 #[.pointer (some ⟨p,0,none⟩),.int .i64 (lv:Int)] W fun e W'=>Rep p L b off cap W r e W') ∧
  (∀ (s:St) (r:Ex × St) (W:World),treeF.aheadF EE L f s=some r→PS W p L b off cap s.i s.bd s.n→s.i<L.length→s.n≤s.i→Calls Tryz.prog 65 #[.pointer (some ⟨p,0,none⟩)] W fun e W'=>Rep p L b off cap W r e W') ∧
  (∀ (s:St) (r:Ex × St) (W:World),treeF.firstF EE L f s=some r→PS W p L b off cap s.i s.bd s.n→s.i<L.length→s.n≤s.i→Calls Tryz.prog 86 #[.pointer (some ⟨p,0,none⟩)] W fun e W'=>Rep p L b off cap W r e W'):=by
 intro f
 induction f using Nat.strongRecOn with
 |ind f ih=>
  cases f with
  |zero=>
   refine ⟨?_,?_,?_⟩
   ·intro lv s r W _ _ h;unfold treeF at h;cases h
   ·intro s r W h;unfold treeF.aheadF at h;cases h
   ·intro s r W h;unfold treeF.firstF at h;cases h
  |succ f=>
   have IT:=fun f' (h:f'<f+1)=>(ih f' h).1
   obtain ⟨iT,iA,iF⟩:=ih f (Nat.lt_succ_self f);refine ⟨?_,?_,?_⟩
   ·intro lv s r W hv hv5 h hP hi hn
    rw [treeF]at h
    split at h
    ·rename_i hb
     cases h
     exact tree_bad L p b off cap lv s W hP hi hb
    ·rename_i hb
     have hb':s.bd=false:=by simpa using hb
     split at h
     ·rename_i e5
      subst e5;exact tree_five L p b off cap s r W hP hi hb' (hid fun W1 g=>iA s r W1 h g hi hn)
     ·rename_i hn5
      obtain ⟨r0,h1,h2⟩:=Option.bind_eq_some_iff.1 h;have hF0:=((fwd_all EE L hE f).1 _ _ _ (by omega) h1 hi).1
      refine tree_step EE L hE p b off cap lv s W hP hi hb' hv (by omega) r0 r f (hid h2) (hid fun W1 g=>?_) (hid fun f' s1 r1 W1 hf ht g hi1 hn1=>?_) hr hF0 hn
      ·have:=iT (lv+1) s r0 W1 (by omega) (by omega) h1 g hi hn
       rw [show (((lv+1:Nat):Int))=(lv:Int)+1 by omega]at this
       exact this
      ·have:=IT f' (by omega) (lv+1) s1 r1 W1 (by omega) (by omega) ht g hi1 hn1
       rw [show (((lv+1:Nat):Int))=(lv:Int)+1 by omega]at this
       exact this
   ·intro s r W h hP hi hn
    rw [treeF.aheadF]at h
    split at h
    ·rename_i hw
     obtain ⟨r0,h1,h2⟩:=Option.bind_eq_some_iff.1 h;cases h2
     have hon:=hE.sign hw;have hF0:=((fwd_all EE L hE f).1 _ _ _ (by omega) h1 hon).1
     exact ahead_yes L p b off cap s r0 W hP hi hw (by have:=hF0.nd;have:=hF0.lt;simp only [on_i,on_n]at *;omega) (hid fun W1 g=>iT 5 s.on r0 W1 (by omega) (by omega) h1 g hon (by simp only [on_i,on_n];omega))
    ·rename_i hw
     exact ahead_no L p b off cap s r W hP hi (by simpa using hw) (hid fun W1 g=>iF s r W1 h g hi hn)
   ·intro s r W h hP hi hn
    rw [treeF.firstF]at h
    split at h
    ·rename_i hw
     obtain ⟨r0,h1,h2⟩:=Option.bind_eq_some_iff.1 h;cases h2
     have hon:=hE.sign hw;have hF0:=((fwd_all EE L hE f).1 _ _ _ (by omega) h1 hon).1
     have HT:=hid fun W1 (g:PS W1 p L b off cap s.on.i s.on.bd s.on.n)=>iT 1 s.on r0 W1 (by omega) (by omega) h1 g hon (by simp only [on_i,on_n];omega)
     unfold closeS
     cases hbd:r0.2.bd
     ·cases hw2:isW L r0.2.i [41]
      ·exact first_paren_no L p b off cap s W hP hi hr hn hw r0 hbd hF0.lt hw2 HT
      ·exact first_paren_yes L p b off cap s W hP hi hr hn hw r0 hbd hF0.lt hw2 HT
     ·exact first_paren_bad L p b off cap s W hP hi hr hn hw r0 hbd HT
    ·rename_i hw0
     have hw:isW L s.i [40]=false:=by simpa using hw0
     split at h
     ·rename_i hk
      have hon:=hE s.i hi (by omega)
      refine first_name L p b off cap s W hP hi hr hn hw hk r (hid fun W1 T q hT g=>?_)
      split at h
      ·rename_i ht
       cases h
       by_cases htr:tAt L s.i=truW
       ·exact call_true L p b off cap s.on W1 T q (tAt L s.i) hT g hon hr (by simp only [on_i,on_n];omega) htr
       ·exact call_false L p b off cap s.on W1 T q (tAt L s.i) hT g hon hr (by simp only [on_i,on_n];omega) (ht.resolve_left htr)
      ·rename_i ht
       split at h
       ·rename_i h40
        split at h
        ·rename_i hl
         cases h
         exact call_long L p b off cap s.on W1 T q (tAt L s.i) hT g hon hr (by simp only [on_i,on_n];omega) ht h40 hl
        ·rename_i hl
         exact call_args L p b off cap s.on W1 T q (tAt L s.i) hT g hon hr (by simp only [on_i,on_n];omega) hE ht h40 (by omega) r f (by simp only [on_i,on_n];omega) (hid h) (hid fun f' s1 r1 W2 hf htr g1 hi1 hn1=>IT f' (by omega) 1 s1 r1 W2 (by omega) (by omega) htr g1 hi1 hn1)
       ·rename_i h40
        cases h
        exact call_none L p b off cap s.on W1 T q (tAt L s.i) hT g hon hr (by simp only [on_i,on_n];omega) ht (by show isW L (s.i+1) [40]=false;simpa using h40)
     ·rename_i hk4
      cases h
      unfold oneF
      have hk:=hK s.i hi;by_cases k1:kAt L s.i=1
      ·rw [if_pos k1];exact first_num L p b off cap s W hP hi hr hn hw k1 hz
      ·rw [if_neg k1]
       by_cases k2:kAt L s.i=2
       ·rw [if_pos k2];exact first_text L p b off cap s W hP hi hr hn hw k2
       ·rw [if_neg k2]
        by_cases k5:kAt L s.i=5
        ·rw [if_pos k5,if_neg (hG.err _ hi k5)]
         exact first_err L p b off cap s W hP hi hr hn hw k5 (hG.err _ hi k5)
        ·rw [if_neg k5]
         by_cases k3:kAt L s.i=3
         ·rw [if_pos k3]
          by_cases hc:isW L (s.i+1) [58]=true
          ·rw [if_pos hc]
           by_cases h3:kAt L (s.i+2)=3
           ·by_cases hok:refF (tAt L (s.i+2))=true
            ·by_cases hsh:(refT (tAt L (s.i+2))).1=[]
             ·rw [if_pos ⟨h3,hok,hsh⟩]
              exact first_range L p b off cap s W hP hi hr hn hE hw k3 hz hc h3 hok hsh
             ·rw [if_neg (fun e=>hsh e.2.2)]
              exact first_range_sheet L p b off cap s W hP hi hr hn hE hw k3 hz hc h3 hok hsh
            ·rw [if_neg (fun e=>hok e.2.1)]
             exact first_range_none L p b off cap s W hP hi hr hn hE hw k3 hz hc h3 (by simpa using hok)
           ·rw [if_neg (fun e=>h3 e.1)]
            exact first_range_kind L p b off cap s W hP hi hr hn hE hw k3 hz hc h3
          ·rw [if_neg hc]
           exact first_ref L p b off cap s W hP hi hr hn hE hw k3 hz (by simpa using hc)
         ·rw [if_neg k3]
          exact first_other L p b off cap s W hP hi hr hn hw (by omega)
theorem ps_new(w:World)(L:List Wd)(b off cap:Nat)(h:Sw w L (.slice (some ⟨b,off,none⟩) L.length cap) b off cap)(hpos:0<L.length):PS (w.alloc (.cells #[.slice (some ⟨b,off,none⟩) L.length cap,.int .i64 0,.bool false,.int .i64 0] 75)) w.heap.size L b off cap 0 false 0:=by
 have hb:b<w.heap.size:=World.block_lt_of_cell? w ⟨b,off+0*3,none⟩ (h.k 0 hpos)
 have sv:Sv w L (.slice (some ⟨b,off,none⟩) L.length cap) b off cap:=⟨rfl,h.le,h.mx,h.k,h.t,h.p⟩
 refine ⟨?_,?_,?_,?_,?_,?_,?_,sv.on (p:=w.heap.size) ((Qx.refl _ _).alloc _) (by omega),by omega⟩
 all_goals simp [World.cell?_alloc_new,World.frozen?_alloc_new]
theorem rparse_ok(s:ByteArray)(W:World)(hs:s.size≤100000)(L:List Wd)(n f:Nat)(r:Ex × St)(hn:scanL s.data.toList=(some L,n))(hpt:treeF EE L f 1 ⟨0,false,0⟩=some r)(hb:r.2.bd=false)(hk:kAt L r.2.i=7)(hn2:¬ 200<r.2.n)(hd:¬ 50<dp 51 r.1) :
  Calls Tryz.prog 21 #[.string s] W fun e W'=>RepR W (r.1,0) e W':=by
 have HZ:=hid (tb_new W (.int .i64 0) (.int .i64 0) (.string ⟨#[]⟩) (.bool false) (.int .i64 0) (.slice none 0 0) (.slice none 0 0) 26);have HSc:=hid (fun W1=>rscan_any s W1 hs)
 have HN:=hid hn;obtain ⟨hpos,hr,hE,hG,hK,hz⟩:=scan_good hn;have HPr:=hid (fun W1 p b off cap (g:PS W1 p L b off cap 0 false 0)=>(ref_all L hE hG hK hr hz p b off cap f).1 1 ⟨0,false,0⟩ r W1 (by omega) (by omega) hpt g hpos (Nat.le_refl _))
 have hF:=((fwd_all EE L hE f).1 _ _ _ (by omega) hpt hpos).1
 have hil:r.2.i<L.length:=hF.lt
 have hnl:r.2.n≤50000:=by have h1:=hF.nd;have h2:=hF.lt;simp at h1;omega
 have HDp:=hid (fun W1 v (h:Rd W1 r.1 v)=>depth_any 51 r.1 v W1 51 rfl (by omega) h)
 have hdl:=dp_le 51 r.1;have hkg:=kAt_get hil;clear hn hF;go_enter Tryz.func21,Tryz.ntmps21
 go_upto_region 6 with (first|(go_at_call 40;refine (HSc.out _).mono ?_;rintro e w1 ⟨h1,q1⟩;rw [HN.out]at h1;obtain ⟨sv,h1',hsl⟩:=ScanRet.some h1;subst h1';obtain ⟨b,off,cap,hsw⟩:=sw_of hsl hpos;obtain rfl:=hsw.ev;have Q1:Hid (Q W w1):=hid (Q.trans (by repeat (first|with_reducible exact Q.refl _|with_reducible refine Q.drewN ?_ _|with_reducible refine Q.drew ?_|with_reducible refine Q.alloc ?_ _|with_reducible refine Q.setCell ?_ (by simp) _)) q1);have hs1:W.heap.size<w1.heap.size:=(by have:=q1.size;simp at this;omega);have Z1:=hid (HZ.out.on (p:=W.heap.size+1) (Qx.of q1) (by omega));have P1:Hid (PS (w1.alloc (.cells #[.slice (some ⟨b,off,none⟩) L.length cap,.int .i64 0,.bool false,.int .i64 0] 75)) w1.heap.size L b off cap 0 false 0):=hid (ps_new w1 L b off cap hsw hpos);clear q1 h1 hsl hsw)|(go_at_call 41;refine (HPr.out _ _ _ _ _ P1.out).mono ?_;rintro e w2 ⟨v,rfl,hr2,q2,p2⟩;obtain ⟨k,m,t,bb,er,a1,l1,c1,a2,l2,c2,rfl⟩:=hr2.shape;have R2:=hid hr2;have Q2:=hid q2;have P2:=hid (p2.on ((Q.refl _).alloc (.cells #[.int .i64 k,.int .i64 m,.string t,.bool bb,.int .i64 er,.slice a1 l1 c1,.slice a2 l2 c2] 26)));have Z2:=hid (((Z1.out.on (p:=w1.heap.size) ((Qx.refl _ _).alloc _) (by omega)).on q2 (by omega)).on (p:=w1.heap.size) ((Qx.refl _ _).alloc (.cells #[.int .i64 k,.int .i64 m,.string t,.bool bb,.int .i64 er,.slice a1 l1 c1,.slice a2 l2 c2] 26)) (by omega));have X2:=hid (tb_new w2 (.int .i64 k) (.int .i64 m) (.string t) (.bool bb) (.int .i64 er) (.slice a1 l1 c1) (.slice a2 l2 c2) 26);have hs2:w1.heap.size<w2.heap.size:=(by have:=q2.size;simp at this;omega);have QW:Hid (Q W (w2.alloc (.cells #[.int .i64 k,.int .i64 m,.string t,.bool bb,.int .i64 er,.slice a1 l1 c1,.slice a2 l2 c2] 26))):=hid (((Q1.out.alloc _).viax q2 (by omega)).alloc _);clear hr2 q2 p2))
 obtain ⟨V2,hV2,P2v,Z2v,X2v,QWv,RV,hsv⟩:∃ V2,V2=w2.alloc (.cells #[.int .i64 k,.int .i64 m,.string t,.bool bb,.int .i64 er,.slice a1 l1 c1,.slice a2 l2 c2] 26)∧PS V2 w1.heap.size L b off cap r.2.i r.2.bd r.2.n∧Tb V2 W.heap.size (.int .i64 0) (.int .i64 0) (.string ⟨#[]⟩) (.bool false) (.int .i64 0) (.slice none 0 0) (.slice none 0 0)∧Tb V2 w2.heap.size (.int .i64 k) (.int .i64 m) (.string t) (.bool bb) (.int .i64 er) (.slice a1 l1 c1) (.slice a2 l2 c2)∧Q W V2∧Rdg (fun b=>W.heap.size+1≤b) V2 r.1 (.agg #[.int .i64 k,.int .i64 m,.string t,.bool bb,.int .i64 er,.slice a1 l1 c1,.slice a2 l2 c2])∧w2.heap.size<V2.heap.size:=
  ⟨_,rfl,P2.out,Z2.out,X2.out,QW.out,Rdg.on (p:=W.heap.size) ((Qx.refl _ _).alloc _) (fun b hb=>by omega) _ _ (Rdg.mono (fun b hb=>by simp at hb;omega) _ _ R2.out),by simp⟩
 rw [←hV2];have P2h:=hid P2v;have Z2h:=hid Z2v;have X2h:=hid X2v;have QWh:=hid QWv;have RVh:=hid RV;have c0:=P2v.c0;have c1':=P2v.c1;have c2':=P2v.c2;have c3:=P2v.c3;have v0:=P2v.sw.k r.2.i hil;rw [←hkg.1]at v0;have n0:=X2v.g0;have n1:=X2v.g1;have n2:=X2v.g2;have n3:=X2v.g3;have n4:=X2v.g4;have n5:=X2v.g5;have n6:=X2v.g6;have d0:=Z2v.g0;have d1:=Z2v.g1;have d2:=Z2v.g2;have d3:=Z2v.g3;have d4:=Z2v.g4;have d5:=Z2v.g5;have d6:=Z2v.g6;have y0:=Z2v.f 0;have y1:=Z2v.f 1;have y2:=Z2v.f 2;have y3:=Z2v.f 3;have y4:=Z2v.f 4;have y5:=Z2v.f 5;have y6:=Z2v.f 6;clear hV2 P2v Z2v X2v QWv RV P2 Z2 X2 QW R2 hkg;rw [hb]at c2';rw [hk]at v0;have c200:¬ (200:Int)<(r.2.n:Int):=by omega
 have cd:¬ (50:Int)<(dp 51 r.1:Int):=by omega
 generalize dp 51 r.1=dd at HDp cd hdl hd;go_quiet (fail)
 go_wp2_with (go_at_call 42;refine (HDp.out _ _ (Rd.on ((Q.refl _).drewN _) _ _ (Rdg.rd _ _ RVh.out))).mono ?_;rintro e w4 ⟨rfl,q4⟩;have Q4:Hid (Q V2 w4):=hid (((Q.refl _).drewN _).trans q4);have X4:=hid (X2h.out.on (p:=w1.heap.size) (Qx.of Q4.out) (by omega));have Z4:=hid (Z2h.out.on (p:=w1.heap.size) (Qx.of Q4.out) (by omega));clear q4;have e0:=Z4.out.g0;have e1:=Z4.out.g1;have e2:=Z4.out.g2;have e3:=Z4.out.g3;have e4:=Z4.out.g4;have e5:=Z4.out.g5;have e6:=Z4.out.g6;have f0:=Z4.out.f 0;have f1:=Z4.out.f 1;have f2:=Z4.out.f 2;have f3:=Z4.out.f 3;have f4:=Z4.out.f 4;have f5:=Z4.out.f 5;have f6:=Z4.out.f 6;have r0:=X4.out.g0;have r1:=X4.out.g1;have r2:=X4.out.g2;have r3:=X4.out.g3;have r4:=X4.out.g4;have r5:=X4.out.g5;have r6:=X4.out.g6)
 refine bodyPost_ret (v:=.tuple #[.agg #[.int .i64 k,.int .i64 m,.string t,.bool bb,.int .i64 er,.slice a1 l1 c1,.slice a2 l2 c2],.int .i64 0]) (by simp [results,Tryz.results21,go_sem,e0,e1,e2,e3,e4,e5,e6]) rfl ?_
 have QF:∀ Vf:World,Qx W.heap.size w4 Vf→Rdg (fun b=>W.heap.size≤b) Vf r.1 (.agg #[.int .i64 k,.int .i64 m,.string t,.bool bb,.int .i64 er,.slice a1 l1 c1,.slice a2 l2 c2]):=fun Vf q=>Rdg.mono (fun b hb=>by omega) _ _ (Rdg.on q (fun b hb=>by omega) _ _ (Rdg.on (Qx.of (p:=W.heap.size) Q4.out) (fun b hb=>by omega) _ _ RVh.out))
 exact ⟨_,rfl,QF _ ((((((((Qx.refl _ _).own _ _).own _ _).own _ _).own _ _).own _ _).own _ _).own _ _),Q.setCell (Q.setCell (Q.setCell (Q.setCell (Q.setCell (Q.setCell (Q.setCell (QWh.out.trans Q4.out) (Nat.le_refl _) _) (Nat.le_refl _) _) (Nat.le_refl _) _) (Nat.le_refl _) _) (Nat.le_refl _) _) (Nat.le_refl _) _) (Nat.le_refl _) _⟩
def xq:Ex:=binE [43] (refE ([],0,0,false,false)) (refE ([],2,0,false,false))
def xqW:List Wd:=[⟨3,[65,49],0⟩,⟨6,[43],2⟩,⟨3,[65,51],3⟩,⟨7,[],5⟩]
def xr:Ex:=binE [43] lostE (refE ([],1,0,false,false))
theorem xq_parse(W:World):Calls Tryz.prog 21 #[.string ⟨#[65,49,43,65,51]⟩] W fun e W'=>RepR W (xq,0) e W':=
 rparse_ok ⟨#[65,49,43,65,51]⟩ W (by decide) xqW 0 20 (xq,⟨3,false,3⟩) (by kernel_rfl) (by kernel_rfl) rfl rfl (by decide) (by decide)
theorem xq_may:(fitB xq&&mall mayN xq)=true:=by decide +kernel
theorem xq_sm:Sm xq:=by
 unfold xq binE refE
 simp [Sm,Sm.SmL]
theorem xq_sn:Sn xq:=by
 unfold xq binE refE
 simp [Sn,Sn.SnL]
theorem xr_sn:Sn xr:=by
 unfold xr binE refE lostE
 simp [Sn,Sn.SnL]
theorem xq_ln:lnE (⟨#[99,48,110,48]⟩:ByteArray).data.toList (⟨#[99,48,110,48]⟩:ByteArray).data.toList true 2 0 0 xq=xr:=by kernel_rfl
theorem xr_refs:rfs xr=[([],1,0,false,false)]:=by kernel_rfl
theorem xr_shape{W:World}{v:Value}{lo hi:Nat}(h:Ow W xr v lo hi):∃ a1 l1 c1 g c2,v=.agg #[.int .i64 8,.int .i64 0,.string ⟨#[43]⟩,.bool false,.int .i64 0,.slice a1 l1 c1,.slice (some ⟨g,0,none⟩) 2 c2]∧2≤c2∧c2≤maxLen∧W.cell? ⟨g,0,none⟩=some (.int .i64 4):=by
 unfold xr binE Ow at h
 obtain ⟨rv,kv,m,hv,hr,hm,ao,cap,hkv,hc1,hc2,hk3⟩:=h;obtain ⟨g,m',rfl,_,_,_,hl⟩:=hk3 (by simp)
 obtain ⟨a1,l1,c1,rfl⟩:=hr.shape;unfold Ow.OwL at hl
 obtain ⟨m1,⟨d0,d1,d2,d3,d4,d5,d6,g0,g1,g2,g3,g4,g5,g6,hx⟩,_⟩:=hl;unfold lostE Ow at hx
 obtain ⟨rv',kv',_,hv',_⟩:=hx;simp only [Value.agg.injEq,Array.mk.injEq,List.cons.injEq,and_true]at hv'
 obtain ⟨rfl,_⟩:=hv';subst hkv;exact ⟨a1,l1,c1,g,cap,hv,by simpa using hc1,hc2,g0⟩
theorem begun_any(W:World)(hg:Gd W):Calls Tryz.prog 8 #[] W fun e W'=>e=.returned (.bool true)∧Q W W':=by
 have HP:=hid (xq_parse W);have HLI:=hid (fun w v (q:Q W w) (r:Rd w xq v)=>lines_any xq v ⟨#[99,48,110,48]⟩ ⟨#[99,48,110,48]⟩ true 2 0 0 w (hg.on q) r xq_sn xq_sm (by decide) xq_may)
 rw [xq_ln]at HLI;have HRE:=hid (fun w v (r:Rd w xr v)=>refs_any xr v w r xr_sn (by decide) (by rw [xr_refs];decide))
 clear hg;go_enter Tryz.func8,Tryz.ntmps8
 go_wp2_with (first
  |(go_at_call 21;refine HP.out.mono ?_;rintro e9 w1 ⟨v1,rfl,r1,q1⟩;obtain ⟨k1,n1,t1,b1,e1,a1,l1,c1,a2,l2,c2,rfl⟩:=r1.shape;have R1:=hid (Rdg.rd _ _ r1);have Q1:=hid q1;clear r1 q1)
  |(go_at_call 11;refine (HLI.out _ _ (Q1.out.alloc _) (Rd.on ((Q.refl _).alloc _) _ _ R1.out)).mono ?_;rintro e9 w3 ⟨v3,rfl,q3,lo,hi,_,_,ow3⟩;obtain ⟨a3,l3,c3,g3,c4,rfl,hc3,hc4,hz3⟩:=xr_shape ow3;have R3:=hid (Rdg.rd _ _ (Ow.rdg (g:=fun _=>True) _ _ _ _ (fun _ _ _=>trivial) ow3));have Q3:=hid ((Q1.out.alloc _).trans q3);clear ow3 q3;have hl3:=World.block_lt_of_cell? w3 _ hz3)
  |(go_at_call 17;refine (HRE.out _ _ (Rd.on ((Q.refl _).alloc _) _ _ R3.out)).mono ?_;rintro e9 w5 ⟨v5,rfl,o5,q5⟩;rw [xr_refs]at o5;obtain ⟨g5,c5,hv5,_,hlt5,hca5,hcb5⟩:=o5.shape (by simp);simp only [List.length_singleton]at hv5 hca5;subst hv5;have z5:w5.cell? ⟨g5,1,none⟩=some (.int .i64 1):=(by have h:=Own.cell (L:=[([],1,0,false,false)]) o5 rf_len (i:=0) (by simp) 1 (.int .i64 1) rfl;simpa using h);have z6:w5.cell? ⟨g3,0,none⟩=some (.int .i64 4):=(q5.cell (by simp;omega)).trans ((Q.cell ((Q.refl _).alloc _) hl3).trans hz3);have N5:=hid ((nd_new w3 (.int .i64 8) (.int .i64 0) (.string ⟨#[43]⟩) (.bool false) (.int .i64 0) (.slice a3 l3 c3) (.slice (some ⟨g3,0,none⟩) 2 c4) 26).on q5);have Q5:=hid ((Q3.out.alloc _).trans q5);clear o5 q5;obtain ⟨y0,y1,y2,y3,y4,y5,y6,_⟩:=N5.out;simp only [Nat.zero_add]at y0 y1 y2 y3 y4 y5 y6))
 go_ret
 exact ⟨rfl,Q5.out⟩
end Go.Proofs.YtoikodohcieipaaGreatDoor
