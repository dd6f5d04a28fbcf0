/- P.first of the reference, walk. -/
import Derived.Test.YtoikodohcieipaaGreatDoorKl12
import Derived.Test.YtoikodohcieipaaGreatDoorKl14
import Derived.Deep.RegionHeld3
import Derived.Test.YtoikodohcieipaaGreatDoorKl00
import Derived.Maps.AppendAt
import Derived.Test.YtoikodohcieipaaGreatDoorKl06
set_option linter.unusedVariables false
set_option linter.unusedSimpArgs false
set_option maxRecDepth 100000
set_option maxHeartbeats 8000000
namespace Go.Proofs.YtoikodohcieipaaGreatDoor
open Go.RowKit
def errN(t:List UInt8):Nat:=if t=enL 1 then 1 else if t=enL 2 then 2 else if t=enL 3 then 3 else if t=enL 4 then 4 else if t=enL 5 then 5 else if t=enL 6 then 6 else if t=enL 7 then 7 else 0
def namF(t:List UInt8):Bool:=decide (0<t.length)&&(decide (t.length≤20)&&(decide (¬ (t=truW∨t=flsW))&&t.all let1))
def EE:Env:={ num:=fun t=>V.pk (V.parseO t),nok:=fun t=>V.pf (V.parseO t),ref:=refT,rok:=refF,err:=errN,nam:=namF }
def KW(W:World)(p n b off cap i:Nat)(k:Int)(T:ByteArray)(q:Int):Prop:=W.cell? ⟨p,0,none⟩=some (.slice (some ⟨b,off,none⟩) n cap)∧W.cell? ⟨p,1,none⟩=some (.int .i64 (i:Int))∧W.cell? ⟨b,off+i*3,none⟩=some (.int .i64 k)∧W.cell? ⟨b,off+i*3+1,none⟩=some (.string T)∧W.cell? ⟨b,off+i*3+2,none⟩=some (.int .i64 q)
theorem KW.on{W W':World}{p n b off cap i:Nat}{k:Int}{T:ByteArray}{q:Int}(h:KW W p n b off cap i k T q)(x:Q W W'):KW W' p n b off cap i k T q:=
 ⟨(x.cell (World.block_lt_of_cell? W ⟨p,0,none⟩ h.1)).trans h.1,(x.cell (World.block_lt_of_cell? W ⟨p,1,none⟩ h.2.1)).trans h.2.1,(x.cell (World.block_lt_of_cell? W ⟨b,off+i*3,none⟩ h.2.2.1)).trans h.2.2.1,(x.cell (World.block_lt_of_cell? W ⟨b,off+i*3+1,none⟩ h.2.2.2.1)).trans h.2.2.2.1,(x.cell (World.block_lt_of_cell? W ⟨b,off+i*3+2,none⟩ h.2.2.2.2)).trans h.2.2.2.2⟩
theorem PS.kw{W:World}{p:Nat}{L:List Wd}{b off cap i:Nat}{bd:Bool}{n:Nat}(h:PS W p L b off cap i bd n)(hi:i<L.length):∃ (T:ByteArray) (q:Int),T.data.toList=tAt L i∧KW W p L.length b off cap i (kAt L i:Int) T q:=by
 have hk:=kAt_get hi;refine ⟨⟨L[i].t.toArray⟩,(L[i].p:Int),hk.2.symm,h.c0,h.c1,?_,h.sw.t i hi,h.sw.p i hi⟩
 rw [hk.1];exact h.sw.k i hi
structure Wb (W:World) (q:Nat) (c0 c1 c2:Value):Prop where
 g0:W.cell? ⟨q,0,none⟩=some c0
 g1:W.cell? ⟨q,1,none⟩=some c1
 g2:W.cell? ⟨q,2,none⟩=some c2
theorem wb_new(W:World)(c0 c1 c2:Value)(t:TypeId):Wb (W.alloc (.cells #[c0,c1,c2] t)) W.heap.size c0 c1 c2:=by
 refine ⟨?_,?_,?_⟩
 all_goals simp [World.cell?_alloc_new]
theorem Wb.on{p:Nat}{W W':World}{q:Nat}{c0 c1 c2:Value}(h:Wb W q c0 c1 c2)(x:Qx p W W')(hq:q≠p):Wb W' q c0 c1 c2:=by
 have hl:q<W.heap.size:=World.block_lt_of_cell? W ⟨q,0,none⟩ h.g0
 exact ⟨(x.cell hl hq).trans h.g0,(x.cell hl hq).trans h.g1,(x.cell hl hq).trans h.g2⟩
theorem rdg_leaf{g:Nat→Prop}{W:World}(k n:Int)(t:List UInt8)(T:ByteArray)(hT:T.data.toList=t)(b:Bool)(e:Int):Rdg g W (.mk k n t b e [] []) (.agg #[.int .i64 k,.int .i64 n,.string T,.bool b,.int .i64 e,.slice none 0 0,.slice none 0 0]):=by
 have e':T=⟨t.toArray⟩:=bytes_eq hT
 subst e';unfold Rdg
 exact ⟨_,_,rfl,⟨none,0,rfl,Nat.le_refl _,Nat.zero_le _,fun h=>absurd h (by simp)⟩,none,0,rfl,Nat.le_refl _,Nat.zero_le _,fun h=>absurd rfl h⟩
theorem first_text(L:List Wd)(p b off cap:Nat)(s:St)(W:World)(h:PS W p L b off cap s.i s.bd s.n)(hi:s.i<L.length)(hr:L.length≤50000)(hn:s.n≤s.i)(hw:isW L s.i [40]=false)(hk:kAt L s.i=2) :
  Calls Tryz.prog 86 #[.pointer (some ⟨p,0,none⟩)] W fun e W'=>Rep p L b off cap W (textE (tAt L s.i),s.on.node) e W':=by
 have hlt:=h.lt;have hbW:=h.blk hi;obtain ⟨T,q,hT,kw⟩:=h.kw hi;have HTT:=hid hT;have HK:=hid kw;rw [hk]at HK;have HP:=hid h;have hroom:(s.i:Int)+1≤9223372036854775807:=by omega
 have HZ:=hid ((tb_new W (.int .i64 0) (.int .i64 0) (.string ⟨#[]⟩) (.bool false) (.int .i64 0) (.slice none 0 0) (.slice none 0 0) 26).on (((Qx.refl p _).alloc (.cells #[.int .i64 2,.string T,.int .i64 q] 78)).drew) (by omega))
 have HB:=hid ((wb_new (W.alloc (.cells #[.int .i64 0,.int .i64 0,.string ⟨#[]⟩,.bool false,.int .i64 0,.slice none 0 0,.slice none 0 0] 26)) (.int .i64 2) (.string T) (.int .i64 q) 78).on ((Qx.refl p _).drew) (by simp;omega))
 rw [show (W.alloc (.cells #[.int .i64 0,.int .i64 0,.string ⟨#[]⟩,.bool false,.int .i64 0,.slice none 0 0,.slice none 0 0] 26)).heap.size=W.heap.size+1 by simp]at HB
 have hc:=hid (fun W1 (g:PS W1 p L b off cap s.i s.bd s.n)=>take_any W1 p L b off cap s.i s.bd s.n ⟨#[40]⟩ g hi)
 rw [show (⟨#[40]⟩:ByteArray).data.toList=[40] from rfl,hw]at hc
 clear h kw hT;go_enter Tryz.func86,Tryz.ntmps86
 go_wp2_with fail
 go_region_held3 (fun V=>V.cell? ⟨p,0,none⟩=some (.slice (some ⟨b,off,none⟩) L.length cap)∧V.cell? ⟨p,1,none⟩=some (.int .i64 (s.i:Int))∧V.cell? ⟨b,off+s.i*3,none⟩=some (.int .i64 2)∧V.cell? ⟨b,off+s.i*3+1,none⟩=some (.string T)∧V.cell? ⟨b,off+s.i*3+2,none⟩=some (.int .i64 q)) (exact HK.out.on (by repeat (first|exact Q.refl _|refine Q.drewN ?_ _|refine Q.drew ?_|refine Q.alloc ?_ _|refine Q.setCell ?_ (by simp) _))) (fail)
 go_wp2_with (first|(go_at_call 85;refine (hc.out _ (HP.out.on (by repeat (first|exact Q.refl _|refine Q.drewN ?_ _|refine Q.drew ?_|refine Q.alloc ?_ _|refine Q.setCell ?_ (by simp) _)))).mono ?_;rintro e w1 ⟨rfl,q1,p1⟩;have Q1:Hid (Qx p W w1):=hid (Qx.trans (by repeat (first|with_reducible exact Qx.refl _ _|with_reducible refine Qx.drewN ?_ _|with_reducible refine Qx.drew ?_|with_reducible refine Qx.alloc ?_ _|with_reducible refine Qx.own ?_ _ _|with_reducible refine Qx.new ?_ (by simp) _ _)) q1);have P1:=hid p1;have Z1:=hid (HZ.out.on q1 (by omega));have B1:=hid (HB.out.on q1 (by omega));clear q1 p1;have x1:=P1.out.c1;have z1:=P1.out.f1;have b0:=B1.out.g0;have b1:=B1.out.g1;have b2:=B1.out.g2)|(go_at_call 66;refine (node_any _ p L b off cap _ _ _ (P1.out.set1 (s.i+1) _ (by go_num)) (by omega) 2 0 T false 0 none 0 0 none 0 0).mono ?_;rintro e w3 ⟨rfl,q3,p3⟩;have Q3:Hid (Qx p w1 w3):=hid (Qx.trans (by repeat (first|with_reducible exact Qx.refl _ _|with_reducible refine Qx.drewN ?_ _|with_reducible refine Qx.drew ?_|with_reducible refine Qx.alloc ?_ _|with_reducible refine Qx.own ?_ _ _|with_reducible refine Qx.new ?_ (by simp) _ _)) q3);have P3:=hid p3;have Z3:=hid (Z1.out.on Q3.out (by omega));clear q3 p3;have d0:=Z3.out.g0;have d1:=Z3.out.g1;have d2:=Z3.out.g2;have d3:=Z3.out.g3;have d4:=Z3.out.g4;have d5:=Z3.out.g5;have d6:=Z3.out.g6;have y0:=Z3.out.f 0;have y1:=Z3.out.f 1;have y2:=Z3.out.f 2;have y3:=Z3.out.f 3;have y4:=Z3.out.f 4;have y5:=Z3.out.f 5;have y6:=Z3.out.f 6))
 refine bodyPost_ret (v:=.agg #[.int .i64 2,.int .i64 0,.string T,.bool false,.int .i64 0,.slice none 0 0,.slice none 0 0]) (by simp [results,Tryz.results86,go_sem,d0,d1,d2,d3,d4,d5,d6]) rfl ?_
 exact fin7 2 0 T false 0 none 0 0 none 0 0 hlt hbW (Q1.out.trans Q3.out) (rdg_leaf 2 0 (tAt L s.i) T HTT.out false 0) P3.out
theorem first_num(L:List Wd)(p b off cap:Nat)(s:St)(W:World)(h:PS W p L b off cap s.i s.bd s.n)(hi:s.i<L.length)(hr:L.length≤50000)(hn:s.n≤s.i)(hw:isW L s.i [40]=false)(hk:kAt L s.i=1)(hz:∀ i,(tAt L i).length≤1000) :
  Calls Tryz.prog 86 #[.pointer (some ⟨p,0,none⟩)] W fun e W'=>Rep p L b off cap W (numE (EE.num (tAt L s.i)),s.on.node) e W':=by
 have hlt:=h.lt;have hbW:=h.blk hi;obtain ⟨T,q,hT,kw⟩:=h.kw hi;have HTT:=hid hT;have HK:=hid kw;rw [hk]at HK;have HN:=hid (fun W1=>V.rparse_any T W1 (by have:=hz s.i;rw [←hT]at this;simp at this;omega))
 have HP:=hid h;have hroom:(s.i:Int)+1≤9223372036854775807:=by omega
 have HZ:=hid ((tb_new W (.int .i64 0) (.int .i64 0) (.string ⟨#[]⟩) (.bool false) (.int .i64 0) (.slice none 0 0) (.slice none 0 0) 26).on (((Qx.refl p _).alloc (.cells #[.int .i64 1,.string T,.int .i64 q] 78)).drew) (by omega))
 have HB:=hid ((wb_new (W.alloc (.cells #[.int .i64 0,.int .i64 0,.string ⟨#[]⟩,.bool false,.int .i64 0,.slice none 0 0,.slice none 0 0] 26)) (.int .i64 1) (.string T) (.int .i64 q) 78).on ((Qx.refl p _).drew) (by simp;omega))
 rw [show (W.alloc (.cells #[.int .i64 0,.int .i64 0,.string ⟨#[]⟩,.bool false,.int .i64 0,.slice none 0 0,.slice none 0 0] 26)).heap.size=W.heap.size+1 by simp]at HB
 have hc:=hid (fun W1 (g:PS W1 p L b off cap s.i s.bd s.n)=>take_any W1 p L b off cap s.i s.bd s.n ⟨#[40]⟩ g hi)
 rw [show (⟨#[40]⟩:ByteArray).data.toList=[40] from rfl,hw]at hc
 clear h kw hT;go_enter Tryz.func86,Tryz.ntmps86
 go_wp2_with fail
 go_region_held3 (fun V=>V.cell? ⟨p,0,none⟩=some (.slice (some ⟨b,off,none⟩) L.length cap)∧V.cell? ⟨p,1,none⟩=some (.int .i64 (s.i:Int))∧V.cell? ⟨b,off+s.i*3,none⟩=some (.int .i64 1)∧V.cell? ⟨b,off+s.i*3+1,none⟩=some (.string T)∧V.cell? ⟨b,off+s.i*3+2,none⟩=some (.int .i64 q)) (exact HK.out.on (by repeat (first|exact Q.refl _|refine Q.drewN ?_ _|refine Q.drew ?_|refine Q.alloc ?_ _|refine Q.setCell ?_ (by simp) _))) (fail)
 go_wp2_with (first|(go_at_call 85;refine (hc.out _ (HP.out.on (by repeat (first|exact Q.refl _|refine Q.drewN ?_ _|refine Q.drew ?_|refine Q.alloc ?_ _|refine Q.setCell ?_ (by simp) _)))).mono ?_;rintro e w1 ⟨rfl,q1,p1⟩;have Q1:Hid (Qx p W w1):=hid (Qx.trans (by repeat (first|with_reducible exact Qx.refl _ _|with_reducible refine Qx.drewN ?_ _|with_reducible refine Qx.drew ?_|with_reducible refine Qx.alloc ?_ _|with_reducible refine Qx.own ?_ _ _|with_reducible refine Qx.new ?_ (by simp) _ _)) q1);have P1:=hid p1;have Z1:=hid (HZ.out.on q1 (by omega));have B1:=hid (HB.out.on q1 (by omega));clear q1 p1;have x1:=P1.out.c1;have z1:=P1.out.f1;have b0:=B1.out.g0;have b1:=B1.out.g1;have b2:=B1.out.g2)|(go_at_call 82;refine (HN.out _).mono ?_;rintro e w2 ⟨h2,q2⟩;unfold V.RP at h2;subst h2;have Q2:=hid q2;clear q2)|(go_at_call 66;refine (node_any _ p L b off cap _ _ _ ((P1.out.set1 (s.i+1) _ (by go_num)).on Q2.out) (by omega) 1 (V.pk (V.parseO T.data.toList)) ⟨#[]⟩ false 0 none 0 0 none 0 0).mono ?_;rintro e w3 ⟨rfl,q3,p3⟩;have Q3:Hid (Qx p w1 w3):=hid (Qx.trans (Qx.trans (by repeat (first|with_reducible exact Qx.refl _ _|with_reducible refine Qx.drewN ?_ _|with_reducible refine Qx.drew ?_|with_reducible refine Qx.alloc ?_ _|with_reducible refine Qx.own ?_ _ _|with_reducible refine Qx.new ?_ (by simp) _ _)) (Qx.of Q2.out)) q3);have P3:=hid p3;have Z3:=hid (Z1.out.on Q3.out (by omega));clear q3 p3;have d0:=Z3.out.g0;have d1:=Z3.out.g1;have d2:=Z3.out.g2;have d3:=Z3.out.g3;have d4:=Z3.out.g4;have d5:=Z3.out.g5;have d6:=Z3.out.g6;have y0:=Z3.out.f 0;have y1:=Z3.out.f 1;have y2:=Z3.out.f 2;have y3:=Z3.out.f 3;have y4:=Z3.out.f 4;have y5:=Z3.out.f 5;have y6:=Z3.out.f 6))
 refine bodyPost_ret (v:=.agg #[.int .i64 1,.int .i64 (V.pk (V.parseO T.data.toList)),.string ⟨#[]⟩,.bool false,.int .i64 0,.slice none 0 0,.slice none 0 0]) (by simp [results,Tryz.results86,go_sem,d0,d1,d2,d3,d4,d5,d6]) rfl ?_
 have e:=rdg_leaf (g:=fun b=>W.heap.size+1≤b) (W:=w3) 1 (V.pk (V.parseO T.data.toList)) [] ⟨#[]⟩ rfl false 0
 rw [show numE (EE.num (tAt L s.i))=.mk 1 (V.pk (V.parseO T.data.toList)) [] false 0 [] [] by rw [HTT.out];rfl]
 exact fin7 1 (V.pk (V.parseO T.data.toList)) ⟨#[]⟩ false 0 none 0 0 none 0 0 hlt hbW (Q1.out.trans Q3.out) e P3.out
theorem strength_any(s:ByteArray)(W:World):Calls Tryz.prog 92 #[.string s] W fun e W'=>e=.returned (.int .i64 (lvl s.data.toList:Int))∧W'=W:=by
 have et:=hid (toL s);by_cases h0:s.data.toList=[61]
 ·have f0:(s.toList == [61])=true:=by rw [et.out,h0];rfl
  have HR:Hid (lvl s.data.toList=1):=by show _=_;rw [h0];rfl
  generalize lvl s.data.toList=r at HR ⊢;clear et h0;go_enter Tryz.func92,Tryz.ntmps92
  go_wp2
  go_ret
  exact ⟨ret_int (by rw [HR.out];rfl),rfl⟩
 ·have f0:(s.toList == [61])=false:=by rw [et.out,beq_eq_false_iff_ne];exact h0
  by_cases h1:s.data.toList=[60,62]
  ·have f1:(s.toList == [60,62])=true:=by rw [et.out,h1];rfl
   have HR:Hid (lvl s.data.toList=1):=by show _=_;rw [h1];rfl
   generalize lvl s.data.toList=r at HR ⊢;clear et h0 h1;go_enter Tryz.func92,Tryz.ntmps92
   go_wp2
   go_ret
   exact ⟨ret_int (by rw [HR.out];rfl),rfl⟩
  ·have f1:(s.toList == [60,62])=false:=by rw [et.out,beq_eq_false_iff_ne];exact h1
   by_cases h2:s.data.toList=[60]
   ·have f2:(s.toList == [60])=true:=by rw [et.out,h2];rfl
    have HR:Hid (lvl s.data.toList=1):=by show _=_;rw [h2];rfl
    generalize lvl s.data.toList=r at HR ⊢;clear et h0 h1 h2;go_enter Tryz.func92,Tryz.ntmps92
    go_wp2
    go_ret
    exact ⟨ret_int (by rw [HR.out];rfl),rfl⟩
   ·have f2:(s.toList == [60])=false:=by rw [et.out,beq_eq_false_iff_ne];exact h2
    by_cases h3:s.data.toList=[60,61]
    ·have f3:(s.toList == [60,61])=true:=by rw [et.out,h3];rfl
     have HR:Hid (lvl s.data.toList=1):=by show _=_;rw [h3];rfl
     generalize lvl s.data.toList=r at HR ⊢;clear et h0 h1 h2 h3;go_enter Tryz.func92,Tryz.ntmps92
     go_wp2
     go_ret
     exact ⟨ret_int (by rw [HR.out];rfl),rfl⟩
    ·have f3:(s.toList == [60,61])=false:=by rw [et.out,beq_eq_false_iff_ne];exact h3
     by_cases h4:s.data.toList=[62]
     ·have f4:(s.toList == [62])=true:=by rw [et.out,h4];rfl
      have HR:Hid (lvl s.data.toList=1):=by show _=_;rw [h4];rfl
      generalize lvl s.data.toList=r at HR ⊢;clear et h0 h1 h2 h3 h4;go_enter Tryz.func92,Tryz.ntmps92
      go_wp2
      go_ret
      exact ⟨ret_int (by rw [HR.out];rfl),rfl⟩
     ·have f4:(s.toList == [62])=false:=by rw [et.out,beq_eq_false_iff_ne];exact h4
      by_cases h5:s.data.toList=[62,61]
      ·have f5:(s.toList == [62,61])=true:=by rw [et.out,h5];rfl
       have HR:Hid (lvl s.data.toList=1):=by show _=_;rw [h5];rfl
       generalize lvl s.data.toList=r at HR ⊢;clear et h0 h1 h2 h3 h4 h5;go_enter Tryz.func92,Tryz.ntmps92
       go_wp2
       go_ret
       exact ⟨ret_int (by rw [HR.out];rfl),rfl⟩
      ·have f5:(s.toList == [62,61])=false:=by rw [et.out,beq_eq_false_iff_ne];exact h5
       by_cases h6:s.data.toList=[38]
       ·have f6:(s.toList == [38])=true:=by rw [et.out,h6];rfl
        have HR:Hid (lvl s.data.toList=2):=by show _=_;rw [h6];rfl
        generalize lvl s.data.toList=r at HR ⊢;clear et h0 h1 h2 h3 h4 h5 h6;go_enter Tryz.func92,Tryz.ntmps92
        go_wp2
        go_ret
        exact ⟨ret_int (by rw [HR.out];rfl),rfl⟩
       ·have f6:(s.toList == [38])=false:=by rw [et.out,beq_eq_false_iff_ne];exact h6
        by_cases h7:s.data.toList=[43]
        ·have f7:(s.toList == [43])=true:=by rw [et.out,h7];rfl
         have HR:Hid (lvl s.data.toList=3):=by show _=_;rw [h7];rfl
         generalize lvl s.data.toList=r at HR ⊢;clear et h0 h1 h2 h3 h4 h5 h6 h7;go_enter Tryz.func92,Tryz.ntmps92
         go_wp2
         go_ret
         exact ⟨ret_int (by rw [HR.out];rfl),rfl⟩
        ·have f7:(s.toList == [43])=false:=by rw [et.out,beq_eq_false_iff_ne];exact h7
         by_cases h8:s.data.toList=[45]
         ·have f8:(s.toList == [45])=true:=by rw [et.out,h8];rfl
          have HR:Hid (lvl s.data.toList=3):=by show _=_;rw [h8];rfl
          generalize lvl s.data.toList=r at HR ⊢;clear et h0 h1 h2 h3 h4 h5 h6 h7 h8;go_enter Tryz.func92,Tryz.ntmps92
          go_wp2
          go_ret
          exact ⟨ret_int (by rw [HR.out];rfl),rfl⟩
         ·have f8:(s.toList == [45])=false:=by rw [et.out,beq_eq_false_iff_ne];exact h8
          by_cases h9:s.data.toList=[42]
          ·have f9:(s.toList == [42])=true:=by rw [et.out,h9];rfl
           have HR:Hid (lvl s.data.toList=4):=by show _=_;rw [h9];rfl
           generalize lvl s.data.toList=r at HR ⊢;clear et h0 h1 h2 h3 h4 h5 h6 h7 h8 h9;go_enter Tryz.func92,Tryz.ntmps92
           go_wp2
           go_ret
           exact ⟨ret_int (by rw [HR.out];rfl),rfl⟩
          ·have f9:(s.toList == [42])=false:=by rw [et.out,beq_eq_false_iff_ne];exact h9
           by_cases h10:s.data.toList=[47]
           ·have f10:(s.toList == [47])=true:=by rw [et.out,h10];rfl
            have HR:Hid (lvl s.data.toList=4):=by show _=_;rw [h10];rfl
            generalize lvl s.data.toList=r at HR ⊢;clear et h0 h1 h2 h3 h4 h5 h6 h7 h8 h9 h10;go_enter Tryz.func92,Tryz.ntmps92
            go_wp2
            go_ret
            exact ⟨ret_int (by rw [HR.out];rfl),rfl⟩
           ·have f10:(s.toList == [47])=false:=by rw [et.out,beq_eq_false_iff_ne];exact h10
            have HR:Hid (lvl s.data.toList=0):=by show _=_;unfold lvl;rw [if_neg h0,if_neg h1,if_neg h2,if_neg h3,if_neg h4,if_neg h5,if_neg h6,if_neg h7,if_neg h8,if_neg h9,if_neg h10]
            generalize lvl s.data.toList=r at HR ⊢;clear et h0 h1 h2 h3 h4 h5 h6 h7 h8 h9 h10;go_enter Tryz.func92,Tryz.ntmps92
            go_wp2
            go_ret
            exact ⟨ret_int (by rw [HR.out];rfl),rfl⟩
theorem errN_min{t:List UInt8}(h:errN t≠0):1≤errN t∧errN t≤7∧enL (errN t:Int)=t∧∀ e:Nat,1≤e→e<errN t→enL (e:Int)≠t:=by
 by_cases h1:t=enL 1
 ·have e:errN t=1:=by unfold errN;rw [if_pos h1]
  rw [e];exact ⟨by omega,by omega,h1.symm,fun e a b=>by omega⟩
 ·by_cases h2:t=enL 2
  ·have e:errN t=2:=by unfold errN;rw [if_neg h1,if_pos h2]
   rw [e];refine ⟨by omega,by omega,h2.symm,fun e a b=>?_⟩
   have:e=1:=by omega
   subst this;exact fun x=>h1 x.symm
  ·by_cases h3:t=enL 3
   ·have e:errN t=3:=by unfold errN;rw [if_neg h1,if_neg h2,if_pos h3]
    rw [e];refine ⟨by omega,by omega,h3.symm,fun e a b=>?_⟩
    have:e=1∨e=2:=by omega
    rcases this with rfl|rfl
    ·exact fun x=>h1 x.symm
    ·exact fun x=>h2 x.symm
   ·by_cases h4:t=enL 4
    ·have e:errN t=4:=by unfold errN;rw [if_neg h1,if_neg h2,if_neg h3,if_pos h4]
     rw [e];refine ⟨by omega,by omega,h4.symm,fun e a b=>?_⟩
     have:e=1∨e=2∨e=3:=by omega
     rcases this with rfl|rfl|rfl
     ·exact fun x=>h1 x.symm
     ·exact fun x=>h2 x.symm
     ·exact fun x=>h3 x.symm
    ·by_cases h5:t=enL 5
     ·have e:errN t=5:=by unfold errN;rw [if_neg h1,if_neg h2,if_neg h3,if_neg h4,if_pos h5]
      rw [e];refine ⟨by omega,by omega,h5.symm,fun e a b=>?_⟩
      have:e=1∨e=2∨e=3∨e=4:=by omega
      rcases this with rfl|rfl|rfl|rfl
      ·exact fun x=>h1 x.symm
      ·exact fun x=>h2 x.symm
      ·exact fun x=>h3 x.symm
      ·exact fun x=>h4 x.symm
     ·by_cases h6:t=enL 6
      ·have e:errN t=6:=by unfold errN;rw [if_neg h1,if_neg h2,if_neg h3,if_neg h4,if_neg h5,if_pos h6]
       rw [e];refine ⟨by omega,by omega,h6.symm,fun e a b=>?_⟩
       have:e=1∨e=2∨e=3∨e=4∨e=5:=by omega
       rcases this with rfl|rfl|rfl|rfl|rfl
       ·exact fun x=>h1 x.symm
       ·exact fun x=>h2 x.symm
       ·exact fun x=>h3 x.symm
       ·exact fun x=>h4 x.symm
       ·exact fun x=>h5 x.symm
      ·by_cases h7:t=enL 7
       ·have e:errN t=7:=by unfold errN;rw [if_neg h1,if_neg h2,if_neg h3,if_neg h4,if_neg h5,if_neg h6,if_pos h7]
        rw [e];refine ⟨by omega,by omega,h7.symm,fun e a b=>?_⟩
        have:e=1∨e=2∨e=3∨e=4∨e=5∨e=6:=by omega
        rcases this with rfl|rfl|rfl|rfl|rfl|rfl
        ·exact fun x=>h1 x.symm
        ·exact fun x=>h2 x.symm
        ·exact fun x=>h3 x.symm
        ·exact fun x=>h4 x.symm
        ·exact fun x=>h5 x.symm
        ·exact fun x=>h6 x.symm
       ·exact absurd (by unfold errN;rw [if_neg h1,if_neg h2,if_neg h3,if_neg h4,if_neg h5,if_neg h6,if_neg h7]) h
structure EI (L:List Wd) (p b off cap:Nat) (s:St) (W:World) (T:ByteArray) (q:Int) (W':World):Prop where
 qx:Qx p W W'
 st:PS W' p L b off cap (s.i+1) s.bd s.n
 zb:Tb W' W.heap.size (.int .i64 0) (.int .i64 0) (.string ⟨#[]⟩) (.bool false) (.int .i64 0) (.slice none 0 0) (.slice none 0 0)
 wb:Wb W' (W.heap.size+1) (.int .i64 5) (.string T) (.int .i64 q)
theorem EI.on{L:List Wd}{p b off cap:Nat}{s:St}{W:World}{T:ByteArray}{q:Int}{W' W2:World}(h:EI L p b off cap s W T q W')(hp:p<W.heap.size)(x:Q W' W2):EI L p b off cap s W T q W2:=
 ⟨h.qx.trans (Qx.of x),h.st.on x,h.zb.on (Qx.of (p:=p) x) (by omega),h.wb.on (Qx.of (p:=p) x) (by omega)⟩
theorem first_err(L:List Wd)(p b off cap:Nat)(s:St)(W:World)(h:PS W p L b off cap s.i s.bd s.n)(hi:s.i<L.length)(hr:L.length≤50000)(hn:s.n≤s.i)(hw:isW L s.i [40]=false)(hk:kAt L s.i=5)(he:errN (tAt L s.i)≠0) :
  Calls Tryz.prog 86 #[.pointer (some ⟨p,0,none⟩)] W fun e W'=>Rep p L b off cap W (errE (errN (tAt L s.i)),s.on.node) e W':=by
 have hlt:=h.lt;have hbW:=h.blk hi;obtain ⟨T,q,hT,kw⟩:=h.kw hi;have HTT:=hid hT;have HK:=hid kw;rw [hk]at HK;have HM:=hid (errN_min he);have hm1:=HM.out.1;have hm7:=HM.out.2.1;generalize hM:errN (tAt L s.i)=M at HM hm1 hm7 he ⊢;have HP:=hid h;have hroom:(s.i:Int)+1≤9223372036854775807:=by omega
 have HZ:=hid ((tb_new W (.int .i64 0) (.int .i64 0) (.string ⟨#[]⟩) (.bool false) (.int .i64 0) (.slice none 0 0) (.slice none 0 0) 26).on (((Qx.refl p _).alloc (.cells #[.int .i64 5,.string T,.int .i64 q] 78)).drew) (by omega))
 have HB:=hid ((wb_new (W.alloc (.cells #[.int .i64 0,.int .i64 0,.string ⟨#[]⟩,.bool false,.int .i64 0,.slice none 0 0,.slice none 0 0] 26)) (.int .i64 5) (.string T) (.int .i64 q) 78).on ((Qx.refl p _).drew) (by simp;omega))
 rw [show (W.alloc (.cells #[.int .i64 0,.int .i64 0,.string ⟨#[]⟩,.bool false,.int .i64 0,.slice none 0 0,.slice none 0 0] 26)).heap.size=W.heap.size+1 by simp]at HB
 have hc:=hid (fun W1 (g:PS W1 p L b off cap s.i s.bd s.n)=>take_any W1 p L b off cap s.i s.bd s.n ⟨#[40]⟩ g hi)
 rw [show (⟨#[40]⟩:ByteArray).data.toList=[40] from rfl,hw]at hc
 clear h kw hT;go_enter Tryz.func86,Tryz.ntmps86
 go_wp2_with fail
 go_region_held3 (fun V=>V.cell? ⟨p,0,none⟩=some (.slice (some ⟨b,off,none⟩) L.length cap)∧V.cell? ⟨p,1,none⟩=some (.int .i64 (s.i:Int))∧V.cell? ⟨b,off+s.i*3,none⟩=some (.int .i64 5)∧V.cell? ⟨b,off+s.i*3+1,none⟩=some (.string T)∧V.cell? ⟨b,off+s.i*3+2,none⟩=some (.int .i64 q)) (exact HK.out.on (by repeat (first|exact Q.refl _|refine Q.drewN ?_ _|refine Q.drew ?_|refine Q.alloc ?_ _|refine Q.setCell ?_ (by simp) _))) (fail)
 go_wp2_with (go_at_call 85;refine (hc.out _ (HP.out.on (by repeat (first|exact Q.refl _|refine Q.drewN ?_ _|refine Q.drew ?_|refine Q.alloc ?_ _|refine Q.setCell ?_ (by simp) _)))).mono ?_;rintro e w1 ⟨rfl,q1,p1⟩;have Q1:Hid (Qx p W w1):=hid (Qx.trans (by repeat (first|with_reducible exact Qx.refl _ _|with_reducible refine Qx.drewN ?_ _|with_reducible refine Qx.drew ?_|with_reducible refine Qx.alloc ?_ _|with_reducible refine Qx.own ?_ _ _|with_reducible refine Qx.new ?_ (by simp) _ _)) q1);have P1:=hid p1;have Z1:=hid (HZ.out.on q1 (by omega));have B1:=hid (HB.out.on q1 (by omega));have hsw:W.heap.size+1<w1.heap.size:=World.block_lt_of_cell? w1 ⟨W.heap.size+1,0,none⟩ B1.out.g0;clear q1 p1;have x1:=P1.out.c1;have z1:=P1.out.f1;have b0:=B1.out.g0;have b1:=B1.out.g1;have b2:=B1.out.g2)
 have HI:Hid (EI L p b off cap s W T q (w1.setCell ⟨p,1,none⟩ (.int .i64 ((s.i:Int)+1)))):=hid ⟨Q1.out.own _ _,P1.out.set1 (s.i+1) _ (by omega),Z1.out.on ((Qx.refl p _).own _ _) (by omega),B1.out.on ((Qx.refl p _).own _ _) (by omega)⟩
 go_loopw [7] (fun y W'=>∃ e:Nat,1≤e∧e≤M∧y=.int .i64 (e:Int)∧EI L p b off cap s W T q W') (fun y _=>M-(intOf y).toNat)
 case atStart=>exact ⟨1,by omega,by omega,rfl,HI.out⟩
 case round=>
  obtain ⟨e,he1,heM,rfl,hI⟩:=hrel;have HI2:=hid hI;have he7:(e:Int)≤7:=by omega
  have H1:=hid (fun W1=>V.rname_any (e:Int) W1)
  obtain ⟨N,hN,lN⟩:∃ N:ByteArray,⟨(enL (e:Int)).toArray⟩=N∧N.data.toList=enL (e:Int):=⟨_,rfl,rfl⟩;rw [hN]at H1;by_cases hlt2:e<M
  ·have e7:(N.toList == T.toList)=false:=by rw [toL,toL,lN,beq_eq_false_iff_ne,HTT.out];exact HM.out.2.2.2 e he1 hlt2
   clear hI hN lN;go_wp2_with fail
   go_region_held3 (fun V=>V.cell? ⟨W.heap.size+1,1,none⟩=some (.string T)) (first|exact HI5.out.wb.g1|exact (HI2.out.on hlt (by repeat (first|exact Q.refl _|refine Q.drewN ?_ _|refine Q.drew ?_|refine Q.alloc ?_ _|refine Q.setCell ?_ (by simp) _))).wb.g1) (first|(go_at_call 84;refine (H1.out _).mono ?_;rintro e9 w5 ⟨rfl,q5⟩;have HI5:=hid ((HI2.out.on hlt (by repeat (first|exact Q.refl _|refine Q.drewN ?_ _|refine Q.drew ?_|refine Q.alloc ?_ _|refine Q.setCell ?_ (by simp) _))).on hlt q5);clear q5))
   all_goals go_wp2_with fail
   all_goals go_roundw
   case rel=>exact ⟨e+1,by omega,by omega,by go_num,HI5.out⟩
   case measure=>simp [intOf];omega
  ·have eM:e=M:=by omega
   have e7:(N.toList == T.toList)=true:=by rw [toL,toL,lN,beq_iff_eq,HTT.out,eM];exact HM.out.2.2.1
   have EM:=hid eM;clear hI hN lN hlt2 eM;go_wp2_with fail
   go_region_held3 (fun V=>V.cell? ⟨W.heap.size+1,1,none⟩=some (.string T)) (first|exact HI5.out.wb.g1|exact (HI2.out.on hlt (by repeat (first|exact Q.refl _|refine Q.drewN ?_ _|refine Q.drew ?_|refine Q.alloc ?_ _|refine Q.setCell ?_ (by simp) _))).wb.g1) (first|(go_at_call 84;refine (H1.out _).mono ?_;rintro e9 w5 ⟨rfl,q5⟩;have HI5:=hid ((HI2.out.on hlt (by repeat (first|exact Q.refl _|refine Q.drewN ?_ _|refine Q.drew ?_|refine Q.alloc ?_ _|refine Q.setCell ?_ (by simp) _))).on hlt q5);clear q5))
   all_goals go_wp2_with (go_at_call 66;refine (node_any _ p L b off cap _ _ _ HI5.out.st (by omega) 4 0 ⟨#[]⟩ false (e:Int) none 0 0 none 0 0).mono ?_;rintro e9 w3 ⟨rfl,q3,p3⟩;have Q3:=hid q3;have P3:=hid p3;have Z3:=hid (HI5.out.zb.on Q3.out (by omega));clear q3 p3;have d0:=Z3.out.g0;have d1:=Z3.out.g1;have d2:=Z3.out.g2;have d3:=Z3.out.g3;have d4:=Z3.out.g4;have d5:=Z3.out.g5;have d6:=Z3.out.g6;have y0:=Z3.out.f 0;have y1:=Z3.out.f 1;have y2:=Z3.out.f 2;have y3:=Z3.out.f 3;have y4:=Z3.out.f 4;have y5:=Z3.out.f 5;have y6:=Z3.out.f 6)
   all_goals refine bodyPost_ret (v:=.agg #[.int .i64 4,.int .i64 0,.string ⟨#[]⟩,.bool false,.int .i64 (e:Int),.slice none 0 0,.slice none 0 0]) (by simp [results,Tryz.results86,go_sem,d0,d1,d2,d3,d4,d5,d6]) rfl ?_
   all_goals rw [←EM.out]
   all_goals exact fin7 (s':=s.on.node) 4 0 ⟨#[]⟩ false (e:Int) none 0 0 none 0 0 hlt hbW (HI5.out.qx.trans Q3.out) (rdg_leaf 4 0 [] ⟨#[]⟩ rfl false (e:Int)) P3.out
theorem ptruth_any(s:ByteArray)(w:World):Calls Tryz.prog 106 #[.string s] w fun e w'=>e=.returned (.bool (decide (s.data.toList=truW∨s.data.toList=flsW)))∧w'=w:=by
 have et:=hid (toL s);by_cases h1:s.data.toList=truW
 ·have f1:(s.toList == [84,82,85,69])=true:=by rw [et.out,h1];rfl
  have HR:Hid (decide (s.data.toList=truW∨s.data.toList=flsW)=true):=by show _=_;exact decide_eq_true (.inl h1)
  generalize decide (s.data.toList=truW∨s.data.toList=flsW)=r at HR ⊢;clear et h1;go_enter Tryz.func106,Tryz.ntmps106
  go_wp2
  go_ret
  exact ⟨ret_bool HR.out.symm,rfl⟩
 ·have f1:(s.toList == [84,82,85,69])=false:=by rw [et.out,beq_eq_false_iff_ne];exact h1
  by_cases h2:s.data.toList=flsW
  ·have f2:(s.toList == [70,65,76,83,69])=true:=by rw [et.out,h2];rfl
   have HR:Hid (decide (s.data.toList=truW∨s.data.toList=flsW)=true):=by show _=_;exact decide_eq_true (.inr h2)
   generalize decide (s.data.toList=truW∨s.data.toList=flsW)=r at HR ⊢;clear et h1 h2;go_enter Tryz.func106,Tryz.ntmps106
   go_wp2
   go_ret
   exact ⟨ret_bool HR.out.symm,rfl⟩
  ·have f2:(s.toList == [70,65,76,83,69])=false:=by rw [et.out,beq_eq_false_iff_ne];exact h2
   have HR:Hid (decide (s.data.toList=truW∨s.data.toList=flsW)=false):=by show _=_;exact decide_eq_false (fun e=>e.elim h1 h2)
   generalize decide (s.data.toList=truW∨s.data.toList=flsW)=r at HR ⊢;clear et h1 h2;go_enter Tryz.func106,Tryz.ntmps106
   go_wp2
   go_ret
   exact ⟨ret_bool HR.out.symm,rfl⟩
theorem mayname_any(s:ByteArray)(w:World)(hs:s.size≤4000000000):Calls Tryz.prog 93 #[.string s] w fun e w'=>e=.returned (.bool (namF s.data.toList))∧w'=w:=by
 have hl:=len_data s;by_cases h0:s.size=0
 ·have HR:Hid (namF s.data.toList=false):=by show _=_;unfold namF;rw [hl,h0];rfl
  have e0:((s.size:Int) == 0)=true:=by rw [h0];rfl
  generalize namF s.data.toList=r at HR ⊢;clear hl;go_enter Tryz.func93,Tryz.ntmps93
  go_wp2_with fail
  go_ret
  exact ⟨ret_bool HR.out.symm,rfl⟩
 ·have e0:((s.size:Int) == 0)=false:=by rw [beq_eq_false_iff_ne];omega
  by_cases h20:(20:Int)<(s.size:Int)
  ·have HR:Hid (namF s.data.toList=false):=by show _=_;unfold namF;rw [hl,decide_eq_false (show ¬ s.size≤20 by omega)];simp
   generalize namF s.data.toList=r at HR ⊢;clear hl h0;go_enter Tryz.func93,Tryz.ntmps93
   go_wp2_with fail
   go_ret
   exact ⟨ret_bool HR.out.symm,rfl⟩
  ·have HT:=hid (ptruth_any s w)
   by_cases htr:s.data.toList=truW∨s.data.toList=flsW
   ·rw [decide_eq_true htr]at HT
    have HR:Hid (namF s.data.toList=false):=by show _=_;unfold namF;rw [decide_eq_false (show ¬ ¬ (s.data.toList=truW∨s.data.toList=flsW) from fun e=>e htr)];simp
    generalize namF s.data.toList=r at HR ⊢;clear hl h0 htr;go_enter Tryz.func93,Tryz.ntmps93
    go_wp2_with (go_at_call 106;refine HT.out.mono ?_;rintro e9 w9 ⟨rfl,h9⟩;replace h9:=h9.symm;subst h9)
    go_ret
    exact ⟨ret_bool HR.out.symm,rfl⟩
   ·rw [decide_eq_false htr]at HT
    have HR:Hid (namF s.data.toList=allL s.data.toList):=by
     show _=_
     unfold namF allL
     rw [hl,decide_eq_true (show 0<s.size by omega),decide_eq_true (show s.size≤20 by omega),decide_eq_true htr]
     simp
    generalize namF s.data.toList=r at HR ⊢;clear hl h0 htr;go_enter Tryz.func93,Tryz.ntmps93
    go_wp2_with (go_at_call 106;refine HT.out.mono ?_;rintro e9 w9 ⟨rfl,h9⟩;replace h9:=h9.symm;subst h9)
    go_loop [18,3] (fun i _=>∃ k:Nat,k≤s.size∧i=.int .i64 k∧Hid (allL (s.data.toList.take k)=true)) (fun i _=>s.size-(intOf i).toNat)
    case atStart=>exact ⟨0,Nat.zero_le _,rfl,rfl⟩
    case round=>
     obtain ⟨k,hk,rfl,ha⟩:=hrel;by_cases hlt:k<s.size
     ·by_cases hd:let1 s[k]=true
      ·have ha':Hid (allL (s.data.toList.take (k+1))=true):=by
        show _=_
        have:=ha.out
        rw [take_snoc s k hlt,allL_app,this];unfold allL
        simp [hd]
       have b0:¬ (s[k].toNat:Int)<65:=by unfold let1 at hd;simp at hd;omega
       have b1:¬ 90<(s[k].toNat:Int):=by unfold let1 at hd;simp at hd;omega
       clear hd;go_wp2_with fail
       go_round
       case rel=>exact ⟨k+1,by omega,by go_num,ha'⟩
       case measure=>simp [intOf];omega
      ·have hN:=hid (allL_no s k hlt (by simpa using hd))
       by_cases b0:(s[k].toNat:Int)<65
       ·clear hd
        go_wp2_with fail
        go_ret
        exact ⟨ret_bool (by rw [HR.out,hN.out]),rfl⟩
       ·have b1:90<(s[k].toNat:Int):=by unfold let1 at hd;simp at hd;omega
        clear hd;go_wp2_with fail
        go_ret
        exact ⟨ret_bool (by rw [HR.out,hN.out]),rfl⟩
     ·have hN:Hid (allL s.data.toList=true):=by
       show _=_
       have:=ha.out
       rw [take_all s k (by omega)]at this
       exact this
      go_wp2_with fail
      go_ret
      exact ⟨ret_bool (by rw [HR.out,hN.out]),rfl⟩
structure R5 (W:World) (q o:Nat) (S:ByteArray) (row col:Int) (ra ca:Bool):Prop where
 g0:W.cell? ⟨q,o,none⟩=some (.string S)
 g1:W.cell? ⟨q,o+1,none⟩=some (.int .i64 row)
 g2:W.cell? ⟨q,o+2,none⟩=some (.int .i64 col)
 g3:W.cell? ⟨q,o+3,none⟩=some (.bool ra)
 g4:W.cell? ⟨q,o+4,none⟩=some (.bool ca)
theorem R5.on{p:Nat}{W W':World}{q o:Nat}{S:ByteArray}{row col:Int}{ra ca:Bool}(h:R5 W q o S row col ra ca)(x:Qx p W W')(hq:q≠p):R5 W' q o S row col ra ca:=by
 have hl:q<W.heap.size:=World.block_lt_of_cell? W ⟨q,o,none⟩ h.g0
 exact ⟨(x.cell hl hq).trans h.g0,(x.cell hl hq).trans h.g1,(x.cell hl hq).trans h.g2,(x.cell hl hq).trans h.g3,(x.cell hl hq).trans h.g4⟩
theorem r5_new(W:World)(S:ByteArray)(row col:Int)(ra ca:Bool)(t:TypeId):R5 (W.alloc (.cells #[.string S,.int .i64 row,.int .i64 col,.bool ra,.bool ca] t)) W.heap.size 0 S row col ra ca:=by
 refine ⟨?_,?_,?_,?_,?_⟩
 all_goals simp [World.cell?_alloc_new]
theorem r5_two(W:World)(S:ByteArray)(row col:Int)(ra ca:Bool)(S':ByteArray)(row' col':Int)(ra' ca':Bool)(t:TypeId):R5 (W.alloc (.cells #[.string S,.int .i64 row,.int .i64 col,.bool ra,.bool ca,.string S',.int .i64 row',.int .i64 col',.bool ra',.bool ca'] t)) W.heap.size 0 S row col ra ca∧R5 (W.alloc (.cells #[.string S,.int .i64 row,.int .i64 col,.bool ra,.bool ca,.string S',.int .i64 row',.int .i64 col',.bool ra',.bool ca'] t)) W.heap.size 5 S' row' col' ra' ca':=by
 refine ⟨⟨?_,?_,?_,?_,?_⟩,?_,?_,?_,?_,?_⟩
 all_goals simp [World.cell?_alloc_new]
theorem R5.ats{W:World}{q o:Nat}{S:ByteArray}{row col:Int}{ra ca:Bool}(h:R5 W q o S row col ra ca):Ats rf W q o (S.data.toList,row,col,ra,ca):=by
 intro j u hu
 unfold rf at hu
 rcases j with _|_|_|_|_|j
 ·simp at hu;subst hu;exact h.g0
 ·simp at hu;subst hu;exact h.g1
 ·simp at hu;subst hu;exact h.g2
 ·simp at hu;subst hu;exact h.g3
 ·simp at hu;subst hu;exact h.g4
 ·simp at hu
theorem rdg_ref{g:Nat→Prop}{W:World}{q:Nat}{S:ByteArray}{row col:Int}{ra ca:Bool}(hq:g q)(h:R5 W q 0 S row col ra ca):Rdg g W (refE (S.data.toList,row,col,ra,ca)) (.agg #[.int .i64 5,.int .i64 0,.string ⟨#[]⟩,.bool false,.int .i64 0,.slice (some ⟨q,0,none⟩) 1 1,.slice none 0 0]):=by
 unfold refE Rdg
 refine ⟨_,_,rfl,⟨some ⟨q,0,none⟩,1,rfl,by simp,by unfold maxLen;omega,fun _=>⟨q,0,rfl,hq,fun i hi=>?_⟩⟩,none,0,rfl,Nat.le_refl _,Nat.zero_le _,fun h=>absurd rfl h⟩
 have:i=0:=by simpa using hi
 subst this;exact h.ats
theorem rdg_range{g:Nat→Prop}{W:World}{q:Nat}{S:ByteArray}{row col:Int}{ra ca:Bool}{S':ByteArray}{row' col':Int}{ra' ca':Bool}(hq:g q)(h:R5 W q 0 S row col ra ca)(h':R5 W q 5 S' row' col' ra' ca'):Rdg g W (rangeE (S.data.toList,row,col,ra,ca) (S'.data.toList,row',col',ra',ca')) (.agg #[.int .i64 6,.int .i64 0,.string ⟨#[]⟩,.bool false,.int .i64 0,.slice (some ⟨q,0,none⟩) 2 2,.slice none 0 0]):=by
 unfold rangeE Rdg
 refine ⟨_,_,rfl,⟨some ⟨q,0,none⟩,2,rfl,by simp,by unfold maxLen;omega,fun _=>⟨q,0,rfl,hq,fun i hi=>?_⟩⟩,none,0,rfl,Nat.le_refl _,Nat.zero_le _,fun h=>absurd rfl h⟩
 have:i=0∨i=1:=by simp at hi;omega
 rcases this with rfl|rfl
 ·exact h.ats
 ·exact h'.ats
theorem ref_parts(l:List UInt8):∃ (S:ByteArray) (row col:Int) (ra ca:Bool),refT l=(S.data.toList,row,col,ra,ca)∧refA (refT l)=.agg #[.string S,.int .i64 row,.int .i64 col,.bool ra,.bool ca]:=by
 obtain ⟨a,b,c,d,e⟩:=refT l;exact ⟨⟨a.toArray⟩,b,c,d,e,rfl,rfl⟩
theorem first_ref(L:List Wd)(p b off cap:Nat)(s:St)(W:World)(h:PS W p L b off cap s.i s.bd s.n)(hi:s.i<L.length)(hr:L.length≤50000)(hn:s.n≤s.i)(hE:Ends L)(hw:isW L s.i [40]=false)(hk:kAt L s.i=3)(hz:∀ i,(tAt L i).length≤1000)(hw5:isW L (s.i+1) [58]=false) :
  Calls Tryz.prog 86 #[.pointer (some ⟨p,0,none⟩)] W fun e W'=>Rep p L b off cap W (refE (EE.ref (tAt L s.i)),s.on.node) e W':=by
 have hlt:=h.lt;have hbW:=h.blk hi;obtain ⟨T,q,hT,kw⟩:=h.kw hi;have HTT:=hid hT;have HK:=hid kw;rw [hk]at HK;obtain ⟨S,row,col,ra,ca,hS,hA⟩:=ref_parts T.data.toList;have HRf:=hid (fun W1=>rref_any T W1 (by have:=hz s.i;rw [←hT]at this;simp at this;omega))
 rw [hA]at HRf;generalize refF T.data.toList=rok at HRf;have HS:=hid hS;clear hA hS;have hi1:s.i+1<L.length:=hE _ hi (by omega)
 have hc5:=hid (fun W1 (g:PS W1 p L b off cap (s.i+1) s.bd s.n)=>take_any W1 p L b off cap (s.i+1) s.bd s.n ⟨#[58]⟩ g hi1)
 rw [show (⟨#[58]⟩:ByteArray).data.toList=[58] from rfl,hw5]at hc5
 have hpW:p≠W.heap.size:=by omega
 have HP:=hid h;have hroom:(s.i:Int)+1≤9223372036854775807:=by omega
 have HZ:=hid ((tb_new W (.int .i64 0) (.int .i64 0) (.string ⟨#[]⟩) (.bool false) (.int .i64 0) (.slice none 0 0) (.slice none 0 0) 26).on (((Qx.refl p _).alloc (.cells #[.int .i64 3,.string T,.int .i64 q] 78)).drew) (by omega))
 have HB:=hid ((wb_new (W.alloc (.cells #[.int .i64 0,.int .i64 0,.string ⟨#[]⟩,.bool false,.int .i64 0,.slice none 0 0,.slice none 0 0] 26)) (.int .i64 3) (.string T) (.int .i64 q) 78).on ((Qx.refl p _).drew) (by simp;omega))
 rw [show (W.alloc (.cells #[.int .i64 0,.int .i64 0,.string ⟨#[]⟩,.bool false,.int .i64 0,.slice none 0 0,.slice none 0 0] 26)).heap.size=W.heap.size+1 by simp]at HB
 have hc:=hid (fun W1 (g:PS W1 p L b off cap s.i s.bd s.n)=>take_any W1 p L b off cap s.i s.bd s.n ⟨#[40]⟩ g hi)
 rw [show (⟨#[40]⟩:ByteArray).data.toList=[40] from rfl,hw]at hc
 clear h kw hT;go_enter Tryz.func86,Tryz.ntmps86
 go_wp2_with fail
 go_region_held3 (fun V=>V.cell? ⟨p,0,none⟩=some (.slice (some ⟨b,off,none⟩) L.length cap)∧V.cell? ⟨p,1,none⟩=some (.int .i64 (s.i:Int))∧V.cell? ⟨b,off+s.i*3,none⟩=some (.int .i64 3)∧V.cell? ⟨b,off+s.i*3+1,none⟩=some (.string T)∧V.cell? ⟨b,off+s.i*3+2,none⟩=some (.int .i64 q)) (exact HK.out.on (by repeat (first|exact Q.refl _|refine Q.drewN ?_ _|refine Q.drew ?_|refine Q.alloc ?_ _|refine Q.setCell ?_ (by simp) _))) (fail)
 go_wp2_with (first|(go_at_call 66;refine (node_any _ p L b off cap _ _ _ (P4.out.on (by repeat (first|exact Q.refl _|refine Q.drewN ?_ _|refine Q.drew ?_|refine Q.alloc ?_ _|refine Q.setCell ?_ (by simp) _))) (by omega) 5 0 ⟨#[]⟩ false 0 (some ⟨w4.heap.size,0,none⟩) 1 1 none 0 0).mono ?_;rintro e w6 ⟨rfl,q6,p6⟩;have Q6:=hid q6;have P6:=hid p6;have Z6:=hid ((Z4.out.on (by repeat (first|with_reducible exact Qx.refl _ _|with_reducible refine Qx.drewN ?_ _|with_reducible refine Qx.drew ?_|with_reducible refine Qx.alloc ?_ _|with_reducible refine Qx.own ?_ _ _|with_reducible refine Qx.new ?_ (by simp) _ _)) (show _≠p by omega)).on q6 (by omega));clear q6 p6;have d0:=Z6.out.g0;have d1:=Z6.out.g1;have d2:=Z6.out.g2;have d3:=Z6.out.g3;have d4:=Z6.out.g4;have d5:=Z6.out.g5;have d6:=Z6.out.g6;have y0:=Z6.out.f 0;have y1:=Z6.out.f 1;have y2:=Z6.out.f 2;have y3:=Z6.out.f 3;have y4:=Z6.out.f 4;have y5:=Z6.out.f 5;have y6:=Z6.out.f 6)|(go_at_call 85;refine (hc5.out _ P2.out).mono ?_;rintro e w4 ⟨rfl,q4,p4⟩;have Q4:=hid q4;have P4:=hid p4;have hs4:w2.heap.size+1≤w4.heap.size:=(by simpa using q4.size);have A4:=hid ((r5_new w2 S row col ra ca 40).on q4 (by omega));have Z4:=hid (((Z1.out.on Q2.out (by omega)).on ((Qx.refl p _).alloc _) (by omega)).on q4 (by omega));clear q4 p4;have m0:=A4.out.g0;have m1:=A4.out.g1;have m2:=A4.out.g2;have m3:=A4.out.g3;have m4:=A4.out.g4;simp only [Nat.zero_add]at m1 m2 m3 m4)|(go_at_call 83;refine (HRf.out _).mono ?_;rintro e w2 ⟨rfl,q2⟩;have hs2:w1.heap.size≤w2.heap.size:=(by simpa [World.setCell] using q2.size);have Q2:Hid (Qx p w1 w2):=hid (Qx.trans (by repeat (first|with_reducible exact Qx.refl _ _|with_reducible refine Qx.drewN ?_ _|with_reducible refine Qx.drew ?_|with_reducible refine Qx.alloc ?_ _|with_reducible refine Qx.own ?_ _ _|with_reducible refine Qx.new ?_ (by simp) _ _)) (Qx.of q2));have P2:=hid (((P1.out.set1 (s.i+1) _ (by go_num)).on q2).on ((Q.refl _).alloc (.cells #[.string S,.int .i64 row,.int .i64 col,.bool ra,.bool ca] 40)));clear q2)|(go_at_call 85;refine (hc.out _ (HP.out.on (by repeat (first|exact Q.refl _|refine Q.drewN ?_ _|refine Q.drew ?_|refine Q.alloc ?_ _|refine Q.setCell ?_ (by simp) _)))).mono ?_;rintro e w1 ⟨rfl,q1,p1⟩;have Q1:Hid (Qx p W w1):=hid (Qx.trans (by repeat (first|with_reducible exact Qx.refl _ _|with_reducible refine Qx.drewN ?_ _|with_reducible refine Qx.drew ?_|with_reducible refine Qx.alloc ?_ _|with_reducible refine Qx.own ?_ _ _|with_reducible refine Qx.new ?_ (by simp) _ _)) q1);have P1:=hid p1;have Z1:=hid (HZ.out.on q1 (by omega));have B1:=hid (HB.out.on q1 (by omega));have hsw:W.heap.size+1<w1.heap.size:=World.block_lt_of_cell? w1 ⟨W.heap.size+1,0,none⟩ B1.out.g0;clear q1 p1;have x1:=P1.out.c1;have z1:=P1.out.f1;have b0:=B1.out.g0;have b1:=B1.out.g1;have b2:=B1.out.g2))
 refine bodyPost_ret (v:=.agg #[.int .i64 5,.int .i64 0,.string ⟨#[]⟩,.bool false,.int .i64 0,.slice (some ⟨w4.heap.size,0,none⟩) 1 1,.slice none 0 0]) (by simp [results,Tryz.results86,go_sem,d0,d1,d2,d3,d4,d5,d6]) rfl ?_
 rw [show refE (EE.ref (tAt L s.i))=refE (S.data.toList,row,col,ra,ca) by show refE (refT (tAt L s.i))=_;rw [←HTT.out,HS.out]]
 exact fin7 (s':=s.on.node) 5 0 ⟨#[]⟩ false 0 (some ⟨w4.heap.size,0,none⟩) 1 1 none 0 0 hlt hbW ((((Q1.out.trans Q2.out).alloc _).trans Q4.out).trans ((Qx.alloc (Qx.refl p _) _).trans Q6.out)) (rdg_ref (show _≤_ by omega) ((r5_new w4 S row col ra ca 40).on Q6.out (by omega))) P6.out
theorem fin7g{p:Nat}{L:List Wd}{b off cap:Nat}{W w3:World}{x:Ex}{s':St}(RB:Nat)(k m:Int)(t:ByteArray)(bb:Bool)(er:Int)(a1:Option Addr)(l1 c1:Nat)(a2:Option Addr)(l2 c2:Nat)(hRB:W.heap.size≤RB)(hp:p<W.heap.size)(hb:b<W.heap.size)(hq:Qx p W w3)(hr:Rdg (fun b=>W.heap.size≤b∧b≠RB) w3 x (.agg #[.int .i64 k,.int .i64 m,.string t,.bool bb,.int .i64 er,.slice a1 l1 c1,.slice a2 l2 c2]))(h:PS w3 p L b off cap s'.i s'.bd s'.n) :
  Rep p L b off cap W (x,s') (.returned (.agg #[.int .i64 k,.int .i64 m,.string t,.bool bb,.int .i64 er,.slice a1 l1 c1,.slice a2 l2 c2])) (((((((w3.setCell ⟨RB,0,none⟩ (.int .i64 k)).setCell ⟨RB,1,none⟩ (.int .i64 m)).setCell ⟨RB,2,none⟩ (.string t)).setCell ⟨RB,3,none⟩ (.bool bb)).setCell ⟨RB,4,none⟩ (.int .i64 er)).setCell ⟨RB,5,none⟩ (.slice a1 l1 c1)).setCell ⟨RB,6,none⟩ (.slice a2 l2 c2)):=by
 have QF:Qx RB w3 (((((((w3.setCell ⟨RB,0,none⟩ (.int .i64 k)).setCell ⟨RB,1,none⟩ (.int .i64 m)).setCell ⟨RB,2,none⟩ (.string t)).setCell ⟨RB,3,none⟩ (.bool bb)).setCell ⟨RB,4,none⟩ (.int .i64 er)).setCell ⟨RB,5,none⟩ (.slice a1 l1 c1)).setCell ⟨RB,6,none⟩ (.slice a2 l2 c2)):=(((((((Qx.refl _ _).own _ _).own _ _).own _ _).own _ _).own _ _).own _ _).own _ _
 refine ⟨_,rfl,Rdg.mono (fun b hb=>hb.1) _ _ (Rdg.on QF (fun b hb=>hb.2) _ _ hr),?_,h.onx QF (by omega) (by omega)⟩
 exact ((((((hq.new hRB _ _).new hRB _ _).new hRB _ _).new hRB _ _).new hRB _ _).new hRB _ _).new hRB _ _
theorem call_true(L:List Wd)(p b off cap:Nat)(s:St)(W:World)(T:ByteArray)(q:Int)(t:List UInt8)(hT:T.data.toList=t)(h:PS W p L b off cap s.i s.bd s.n)(hi:s.i<L.length)(hr:L.length≤50000)(hn:s.n≤s.i)(ht:t=truW) :
  Calls Tryz.prog 103 #[.pointer (some ⟨p,0,none⟩),.agg #[.int .i64 4,.string T,.int .i64 q]] W fun e W'=>Rep p L b off cap W (boolE (decide (t=truW)),s.node) e W':=by
 have hlt:=h.lt;have hbW:=h.blk hi;have HTT:=hid hT;have et:=hid (toL T);have HP:=hid h;have HB:=hid ((wb_new W (.int .i64 4) (.string T) (.int .i64 q) 78).on ((Qx.refl p _).alloc (.cells #[.int .i64 0,.int .i64 0,.string ⟨#[]⟩,.bool false,.int .i64 0,.slice none 0 0,.slice none 0 0] 26)) (by omega))
 have HZ:=hid (tb_new (W.alloc (.cells #[.int .i64 4,.string T,.int .i64 q] 78)) (.int .i64 0) (.int .i64 0) (.string ⟨#[]⟩) (.bool false) (.int .i64 0) (.slice none 0 0) (.slice none 0 0) 26);rw [show (W.alloc (.cells #[.int .i64 4,.string T,.int .i64 q] 78)).heap.size=W.heap.size+1 by simp]at HZ
 have f1:(T.toList == [84,82,85,69])=true:=by rw [et.out,hT,ht];rfl
 have HD:Hid (decide (t=truW)=true):=by show _=_;rw [ht];decide
 clear hT ht et;clear h;go_enter Tryz.func103,Tryz.ntmps103
 go_wp2_with (go_at_call 66;refine (node_any _ p L b off cap _ _ _ (HP.out.on (by repeat (first|with_reducible exact Q.refl _|with_reducible refine Q.drewN ?_ _|with_reducible refine Q.drew ?_|with_reducible refine Q.alloc ?_ _|with_reducible refine Q.setCell ?_ (by simp) _))) (by omega) 3 0 ⟨#[]⟩ true 0 none 0 0 none 0 0).mono ?_;rintro e w3 ⟨rfl,q3,p3⟩;have Q3:Hid (Qx p W w3):=hid (Qx.trans (by repeat (first|with_reducible exact Qx.refl _ _|with_reducible refine Qx.drewN ?_ _|with_reducible refine Qx.drew ?_|with_reducible refine Qx.alloc ?_ _|with_reducible refine Qx.own ?_ _ _|with_reducible refine Qx.new ?_ (by simp) _ _)) q3);have P3:=hid p3;have Z3:=hid (HZ.out.on (Qx.trans (by repeat (first|with_reducible exact Qx.refl _ _|with_reducible refine Qx.drewN ?_ _|with_reducible refine Qx.drew ?_|with_reducible refine Qx.alloc ?_ _|with_reducible refine Qx.own ?_ _ _|with_reducible refine Qx.new ?_ (by simp) _ _)) q3) (by omega));clear q3 p3;have d0:=Z3.out.g0;have d1:=Z3.out.g1;have d2:=Z3.out.g2;have d3:=Z3.out.g3;have d4:=Z3.out.g4;have d5:=Z3.out.g5;have d6:=Z3.out.g6;have y0:=Z3.out.f 0;have y1:=Z3.out.f 1;have y2:=Z3.out.f 2;have y3:=Z3.out.f 3;have y4:=Z3.out.f 4;have y5:=Z3.out.f 5;have y6:=Z3.out.f 6)
 refine bodyPost_ret (v:=.agg #[.int .i64 3,.int .i64 0,.string ⟨#[]⟩,.bool true,.int .i64 0,.slice none 0 0,.slice none 0 0]) (by simp [results,Tryz.results103,go_sem,d0,d1,d2,d3,d4,d5,d6]) rfl ?_
 rw [HD.out];exact fin7g (s':=s.node) (W.heap.size+1) 3 0 ⟨#[]⟩ true 0 none 0 0 none 0 0 (by omega) hlt hbW Q3.out (rdg_leaf 3 0 [] ⟨#[]⟩ rfl true 0) P3.out
theorem call_false(L:List Wd)(p b off cap:Nat)(s:St)(W:World)(T:ByteArray)(q:Int)(t:List UInt8)(hT:T.data.toList=t)(h:PS W p L b off cap s.i s.bd s.n)(hi:s.i<L.length)(hr:L.length≤50000)(hn:s.n≤s.i)(ht:t=flsW) :
  Calls Tryz.prog 103 #[.pointer (some ⟨p,0,none⟩),.agg #[.int .i64 4,.string T,.int .i64 q]] W fun e W'=>Rep p L b off cap W (boolE (decide (t=truW)),s.node) e W':=by
 have hlt:=h.lt;have hbW:=h.blk hi;have HTT:=hid hT;have et:=hid (toL T);have HP:=hid h;have HB:=hid ((wb_new W (.int .i64 4) (.string T) (.int .i64 q) 78).on ((Qx.refl p _).alloc (.cells #[.int .i64 0,.int .i64 0,.string ⟨#[]⟩,.bool false,.int .i64 0,.slice none 0 0,.slice none 0 0] 26)) (by omega))
 have HZ:=hid (tb_new (W.alloc (.cells #[.int .i64 4,.string T,.int .i64 q] 78)) (.int .i64 0) (.int .i64 0) (.string ⟨#[]⟩) (.bool false) (.int .i64 0) (.slice none 0 0) (.slice none 0 0) 26);rw [show (W.alloc (.cells #[.int .i64 4,.string T,.int .i64 q] 78)).heap.size=W.heap.size+1 by simp]at HZ
 have f1:(T.toList == [84,82,85,69])=false:=by rw [et.out,hT,ht];rfl
 have f2:(T.toList == [70,65,76,83,69])=true:=by rw [et.out,hT,ht];rfl
 have HD:Hid (decide (t=truW)=false):=by show _=_;rw [ht];decide
 clear hT ht et;clear h;go_enter Tryz.func103,Tryz.ntmps103
 go_wp2_with (go_at_call 66;refine (node_any _ p L b off cap _ _ _ (HP.out.on (by repeat (first|with_reducible exact Q.refl _|with_reducible refine Q.drewN ?_ _|with_reducible refine Q.drew ?_|with_reducible refine Q.alloc ?_ _|with_reducible refine Q.setCell ?_ (by simp) _))) (by omega) 3 0 ⟨#[]⟩ false 0 none 0 0 none 0 0).mono ?_;rintro e w3 ⟨rfl,q3,p3⟩;have Q3:Hid (Qx p W w3):=hid (Qx.trans (by repeat (first|with_reducible exact Qx.refl _ _|with_reducible refine Qx.drewN ?_ _|with_reducible refine Qx.drew ?_|with_reducible refine Qx.alloc ?_ _|with_reducible refine Qx.own ?_ _ _|with_reducible refine Qx.new ?_ (by simp) _ _)) q3);have P3:=hid p3;have Z3:=hid (HZ.out.on (Qx.trans (by repeat (first|with_reducible exact Qx.refl _ _|with_reducible refine Qx.drewN ?_ _|with_reducible refine Qx.drew ?_|with_reducible refine Qx.alloc ?_ _|with_reducible refine Qx.own ?_ _ _|with_reducible refine Qx.new ?_ (by simp) _ _)) q3) (by omega));clear q3 p3;have d0:=Z3.out.g0;have d1:=Z3.out.g1;have d2:=Z3.out.g2;have d3:=Z3.out.g3;have d4:=Z3.out.g4;have d5:=Z3.out.g5;have d6:=Z3.out.g6;have y0:=Z3.out.f 0;have y1:=Z3.out.f 1;have y2:=Z3.out.f 2;have y3:=Z3.out.f 3;have y4:=Z3.out.f 4;have y5:=Z3.out.f 5;have y6:=Z3.out.f 6)
 refine bodyPost_ret (v:=.agg #[.int .i64 3,.int .i64 0,.string ⟨#[]⟩,.bool false,.int .i64 0,.slice none 0 0,.slice none 0 0]) (by simp [results,Tryz.results103,go_sem,d0,d1,d2,d3,d4,d5,d6]) rfl ?_
 rw [HD.out];exact fin7g (s':=s.node) (W.heap.size+1) 3 0 ⟨#[]⟩ false 0 none 0 0 none 0 0 (by omega) hlt hbW Q3.out (rdg_leaf 3 0 [] ⟨#[]⟩ rfl false 0) P3.out
theorem call_none(L:List Wd)(p b off cap:Nat)(s:St)(W:World)(T:ByteArray)(q:Int)(t:List UInt8)(hT:T.data.toList=t)(h:PS W p L b off cap s.i s.bd s.n)(hi:s.i<L.length)(hr:L.length≤50000)(hn:s.n≤s.i)(ht:¬ (t=truW∨t=flsW))(hw:isW L s.i [40]=false) :
  Calls Tryz.prog 103 #[.pointer (some ⟨p,0,none⟩),.agg #[.int .i64 4,.string T,.int .i64 q]] W fun e W'=>Rep p L b off cap W (callE t [],s.bad) e W':=by
 have hlt:=h.lt;have hbW:=h.blk hi;have HTT:=hid hT;have et:=hid (toL T);have HP:=hid h;have HB:=hid ((wb_new W (.int .i64 4) (.string T) (.int .i64 q) 78).on ((Qx.refl p _).alloc (.cells #[.int .i64 0,.int .i64 0,.string ⟨#[]⟩,.bool false,.int .i64 0,.slice none 0 0,.slice none 0 0] 26)) (by omega))
 have HZ:=hid (tb_new (W.alloc (.cells #[.int .i64 4,.string T,.int .i64 q] 78)) (.int .i64 0) (.int .i64 0) (.string ⟨#[]⟩) (.bool false) (.int .i64 0) (.slice none 0 0) (.slice none 0 0) 26);rw [show (W.alloc (.cells #[.int .i64 4,.string T,.int .i64 q] 78)).heap.size=W.heap.size+1 by simp]at HZ
 have f1:(T.toList == [84,82,85,69])=false:=by rw [et.out,hT,beq_eq_false_iff_ne];exact fun e=>ht (.inl e)
 have f2:(T.toList == [70,65,76,83,69])=false:=by rw [et.out,hT,beq_eq_false_iff_ne];exact fun e=>ht (.inr e)
 have hc:=hid (fun W1 (g:PS W1 p L b off cap s.i s.bd s.n)=>take_any W1 p L b off cap s.i s.bd s.n ⟨#[40]⟩ g hi)
 rw [show (⟨#[40]⟩:ByteArray).data.toList=[40] from rfl,hw]at hc
 have X0:=hid (tb_new ((W.alloc (.cells #[.int .i64 4,.string T,.int .i64 q] 78)).alloc (.cells #[.int .i64 0,.int .i64 0,.string ⟨#[]⟩,.bool false,.int .i64 0,.slice none 0 0,.slice none 0 0] 26)) (.int .i64 9) (.int .i64 0) (.string T) (.bool false) (.int .i64 0) (.slice none 0 0) (.slice none 0 0) 26);rw [show ((W.alloc (.cells #[.int .i64 4,.string T,.int .i64 q] 78)).alloc (.cells #[.int .i64 0,.int .i64 0,.string ⟨#[]⟩,.bool false,.int .i64 0,.slice none 0 0,.slice none 0 0] 26)).heap.size=W.heap.size+2 by simp]at X0
 have hp0:p≠W.heap.size+1:=by omega
 have hp1:p≠W.heap.size+2:=by omega
 clear hT ht et;clear h;go_enter Tryz.func103,Tryz.ntmps103
 go_wp2_with (go_at_call 85;refine (hc.out _ (HP.out.on (by repeat (first|with_reducible exact Q.refl _|with_reducible refine Q.drewN ?_ _|with_reducible refine Q.drew ?_|with_reducible refine Q.alloc ?_ _|with_reducible refine Q.setCell ?_ (by simp) _)))).mono ?_;rintro e w1 ⟨rfl,q1,p1⟩;have Q1:Hid (Qx p W w1):=hid (Qx.trans (by repeat (first|with_reducible exact Qx.refl _ _|with_reducible refine Qx.drewN ?_ _|with_reducible refine Qx.drew ?_|with_reducible refine Qx.alloc ?_ _|with_reducible refine Qx.own ?_ _ _|with_reducible refine Qx.new ?_ (by simp) _ _)) q1);have P1:=hid p1;have Z1:=hid (HZ.out.on (Qx.trans (by repeat (first|with_reducible exact Qx.refl _ _|with_reducible refine Qx.drewN ?_ _|with_reducible refine Qx.drew ?_|with_reducible refine Qx.alloc ?_ _|with_reducible refine Qx.own ?_ _ _|with_reducible refine Qx.new ?_ (by simp) _ _)) q1) (by omega));have X1:=hid (X0.out.on q1 (by omega));have B1:=hid (HB.out.on (Qx.trans (by repeat (first|with_reducible exact Qx.refl _ _|with_reducible refine Qx.drewN ?_ _|with_reducible refine Qx.drew ?_|with_reducible refine Qx.alloc ?_ _|with_reducible refine Qx.own ?_ _ _|with_reducible refine Qx.new ?_ (by simp) _ _)) q1) (by omega));clear q1 p1;have x2:=P1.out.c2;have z2:=P1.out.f2;have bw:=B1.out.g1;have d0:=Z1.out.g0;have d1:=Z1.out.g1;have d2:=Z1.out.g2;have d3:=Z1.out.g3;have d4:=Z1.out.g4;have d5:=Z1.out.g5;have d6:=Z1.out.g6;have y0:=Z1.out.f 0;have y1:=Z1.out.f 1;have y2:=Z1.out.f 2;have y3:=Z1.out.f 3;have y4:=Z1.out.f 4;have y5:=Z1.out.f 5;have y6:=Z1.out.f 6;have n0:=X1.out.g0;have n1:=X1.out.g1;have n2:=X1.out.g2;have n3:=X1.out.g3;have n4:=X1.out.g4;have n5:=X1.out.g5;have n6:=X1.out.g6)
 refine bodyPost_ret (v:=.agg #[.int .i64 9,.int .i64 0,.string T,.bool false,.int .i64 0,.slice none 0 0,.slice none 0 0]) (by simp [results,Tryz.results103,go_sem,d0,d1,d2,d3,d4,d5,d6,n0,n1,n2,n3,n4,n5,n6,hp0]) rfl ?_
 exact fin7g (s':=s.bad) (W.heap.size+1) 9 0 T false 0 none 0 0 none 0 0 (by omega) hlt hbW (Q1.out.own 2 (.bool true)) (rdg_leaf 9 0 t T HTT.out false 0) (P1.out.set2 true)
theorem call_long(L:List Wd)(p b off cap:Nat)(s:St)(W:World)(T:ByteArray)(q:Int)(t:List UInt8)(hT:T.data.toList=t)(h:PS W p L b off cap s.i s.bd s.n)(hi:s.i<L.length)(hr:L.length≤50000)(hn:s.n≤s.i)(ht:¬ (t=truW∨t=flsW))(hw:isW L s.i [40]=true)(hl:20<t.length) :
  Calls Tryz.prog 103 #[.pointer (some ⟨p,0,none⟩),.agg #[.int .i64 4,.string T,.int .i64 q]] W fun e W'=>Rep p L b off cap W (callE t [],s.on.bad) e W':=by
 have hlt:=h.lt;have hbW:=h.blk hi;have HTT:=hid hT;have et:=hid (toL T);have HP:=hid h;have HB:=hid ((wb_new W (.int .i64 4) (.string T) (.int .i64 q) 78).on ((Qx.refl p _).alloc (.cells #[.int .i64 0,.int .i64 0,.string ⟨#[]⟩,.bool false,.int .i64 0,.slice none 0 0,.slice none 0 0] 26)) (by omega))
 have HZ:=hid (tb_new (W.alloc (.cells #[.int .i64 4,.string T,.int .i64 q] 78)) (.int .i64 0) (.int .i64 0) (.string ⟨#[]⟩) (.bool false) (.int .i64 0) (.slice none 0 0) (.slice none 0 0) 26);rw [show (W.alloc (.cells #[.int .i64 4,.string T,.int .i64 q] 78)).heap.size=W.heap.size+1 by simp]at HZ
 have f1:(T.toList == [84,82,85,69])=false:=by rw [et.out,hT,beq_eq_false_iff_ne];exact fun e=>ht (.inl e)
 have f2:(T.toList == [70,65,76,83,69])=false:=by rw [et.out,hT,beq_eq_false_iff_ne];exact fun e=>ht (.inr e)
 have hc:=hid (fun W1 (g:PS W1 p L b off cap s.i s.bd s.n)=>take_any W1 p L b off cap s.i s.bd s.n ⟨#[40]⟩ g hi)
 rw [show (⟨#[40]⟩:ByteArray).data.toList=[40] from rfl,hw]at hc
 have X0:=hid (tb_new ((W.alloc (.cells #[.int .i64 4,.string T,.int .i64 q] 78)).alloc (.cells #[.int .i64 0,.int .i64 0,.string ⟨#[]⟩,.bool false,.int .i64 0,.slice none 0 0,.slice none 0 0] 26)) (.int .i64 9) (.int .i64 0) (.string T) (.bool false) (.int .i64 0) (.slice none 0 0) (.slice none 0 0) 26);rw [show ((W.alloc (.cells #[.int .i64 4,.string T,.int .i64 q] 78)).alloc (.cells #[.int .i64 0,.int .i64 0,.string ⟨#[]⟩,.bool false,.int .i64 0,.slice none 0 0,.slice none 0 0] 26)).heap.size=W.heap.size+2 by simp]at X0
 have hp0:p≠W.heap.size+1:=by omega
 have hp1:p≠W.heap.size+2:=by omega
 have hsz:(20:Int)<(T.size:Int):=by rw [←hT]at hl;simp at hl;omega
 clear hl;clear hT ht et;clear h;go_enter Tryz.func103,Tryz.ntmps103
 go_wp2_with (go_at_call 85;refine (hc.out _ (HP.out.on (by repeat (first|with_reducible exact Q.refl _|with_reducible refine Q.drewN ?_ _|with_reducible refine Q.drew ?_|with_reducible refine Q.alloc ?_ _|with_reducible refine Q.setCell ?_ (by simp) _)))).mono ?_;rintro e w1 ⟨rfl,q1,p1⟩;have Q1:Hid (Qx p W w1):=hid (Qx.trans (by repeat (first|with_reducible exact Qx.refl _ _|with_reducible refine Qx.drewN ?_ _|with_reducible refine Qx.drew ?_|with_reducible refine Qx.alloc ?_ _|with_reducible refine Qx.own ?_ _ _|with_reducible refine Qx.new ?_ (by simp) _ _)) q1);have P1:=hid p1;have Z1:=hid (HZ.out.on (Qx.trans (by repeat (first|with_reducible exact Qx.refl _ _|with_reducible refine Qx.drewN ?_ _|with_reducible refine Qx.drew ?_|with_reducible refine Qx.alloc ?_ _|with_reducible refine Qx.own ?_ _ _|with_reducible refine Qx.new ?_ (by simp) _ _)) q1) (by omega));have X1:=hid (X0.out.on q1 (by omega));have B1:=hid (HB.out.on (Qx.trans (by repeat (first|with_reducible exact Qx.refl _ _|with_reducible refine Qx.drewN ?_ _|with_reducible refine Qx.drew ?_|with_reducible refine Qx.alloc ?_ _|with_reducible refine Qx.own ?_ _ _|with_reducible refine Qx.new ?_ (by simp) _ _)) q1) (by omega));clear q1 p1;have x2:=P1.out.c2;have z2:=P1.out.f2;have bw:=B1.out.g1;have d0:=Z1.out.g0;have d1:=Z1.out.g1;have d2:=Z1.out.g2;have d3:=Z1.out.g3;have d4:=Z1.out.g4;have d5:=Z1.out.g5;have d6:=Z1.out.g6;have y0:=Z1.out.f 0;have y1:=Z1.out.f 1;have y2:=Z1.out.f 2;have y3:=Z1.out.f 3;have y4:=Z1.out.f 4;have y5:=Z1.out.f 5;have y6:=Z1.out.f 6;have n0:=X1.out.g0;have n1:=X1.out.g1;have n2:=X1.out.g2;have n3:=X1.out.g3;have n4:=X1.out.g4;have n5:=X1.out.g5;have n6:=X1.out.g6)
 refine bodyPost_ret (v:=.agg #[.int .i64 9,.int .i64 0,.string T,.bool false,.int .i64 0,.slice none 0 0,.slice none 0 0]) (by simp [results,Tryz.results103,go_sem,d0,d1,d2,d3,d4,d5,d6,n0,n1,n2,n3,n4,n5,n6,hp0]) rfl ?_
 exact fin7g (s':=s.on.bad) (W.heap.size+1) 9 0 T false 0 none 0 0 none 0 0 (by omega) hlt hbW (Q1.out.own 2 (.bool true)) (rdg_leaf 9 0 t T HTT.out false 0) (P1.out.set2 true)
structure V7 where
 c0:Value
 c1:Value
 c2:Value
 c3:Value
 c4:Value
 c5:Value
 c6:Value
def enc7(x:V7):List Value:=[x.c0,x.c1,x.c2,x.c3,x.c4,x.c5,x.c6]
def agg7(x:V7):Value:=.agg #[x.c0,x.c1,x.c2,x.c3,x.c4,x.c5,x.c6]
theorem enc7_len(x:V7):(enc7 x).length=7:=rfl
theorem info28:(Tryz.prog.info? 26).map (fun i=>(i.zero,i.size,i.bytes))=some (some (.agg #[.int .i64 0,.int .i64 0,.string ⟨#[]⟩,.bool false,.int .i64 0,.slice none 0 0,.slice none 0 0]),7,96):=by kernel_rfl
theorem Tb.put6{W:World}{q:Nat}{c0 c1 c2 c3 c4 c5 c6:Value}(h:Tb W q c0 c1 c2 c3 c4 c5 c6)(d:Value):Tb (W.setCell ⟨q,6,none⟩ d) q c0 c1 c2 c3 c4 c5 d:=by
 obtain ⟨h0,h1,h2,h3,h4,h5,h6,hf⟩:=h;refine ⟨?_,?_,?_,?_,?_,?_,World.cell?_setCell_same _ _ _ h6,fun j=>by rw [World.frozen?_setCell];exact hf j⟩
 all_goals (rw [World.cell?_setCell_other _ _ _ _ (by simp)];assumption)
theorem grown_qx{w w':World}{v:Value}{n:Nat}(g:w.grownBy w' v.ownBlock)(hn:n≤w.heap.size)(ho:∀ j,v.ownBlock=some j→n≤j):∃ r,Qx r w w'∧n≤r∧(v.ownBlock=some r∨r=w.heap.size):=by
 cases hv:v.ownBlock with
 |none=>
  rw [hv]at g;exact ⟨w.heap.size,⟨g.os,g.tape,g.output,g.size,fun i hi _=>g.block i hi (fun e=>by cases e)⟩,hn,.inr rfl⟩
 |some j=>
  rw [hv]at g;exact ⟨j,g,ho j hv,.inl rfl⟩
theorem rdl_row{g:Nat→Prop}{W:World}{B q:Nat}:∀ (ks:List Ex) (Ls:List V7) (o:Nat),ks.length=Ls.length→(∀ i (h:i<Ls.length),Ats enc7 W q (o+i*7) Ls[i])→(∀ i (h:i<ks.length) (h':i<Ls.length),Rdg g W ks[i] (agg7 Ls[i]))→Rdg.RdLg g W ks q o:=by
 intro ks
 induction ks with
 |nil=>intro Ls o _ _ _;unfold Rdg.RdLg;trivial
 |cons x xs ih=>
  intro Ls o hl ha hr
  cases Ls with
  |nil=>simp at hl
  |cons y ys=>
   unfold Rdg.RdLg
   have h0:=ha 0 (by simp)
   simp only [List.getElem_cons_zero,Nat.zero_mul,Nat.add_zero]at h0
   refine ⟨⟨y.c0,y.c1,y.c2,y.c3,y.c4,y.c5,y.c6,h0 0 _ rfl,h0 1 _ rfl,h0 2 _ rfl,h0 3 _ rfl,h0 4 _ rfl,h0 5 _ rfl,h0 6 _ rfl,hr 0 (by simp) (by simp)⟩,?_⟩
   refine ih ys (o+7) (by simpa using hl) (fun i h=>?_) (fun i h h'=>?_)
   ·have:=ha (i+1) (by simpa using h)
    simp only [List.getElem_cons_succ]at this
    rw [show o+7+i*7=o+(i+1)*7 by omega]
    exact this
   ·exact hr (i+1) (by simpa using h) (by simpa using h')
theorem rdg_call{g:Nat→Prop}{W:World}{B:Nat}{t:List UInt8}{T:ByteArray}(hT:T.data.toList=t){ks:List Ex}{Ls:List V7}{kv:Value}(ow:Own enc7 26 7 B W kv Ls)(hl:ks.length=Ls.length)(hb:∀ j,kv.ownBlock=some j→g j)(hr:∀ i (h:i<ks.length) (h':i<Ls.length),Rdg g W ks[i] (agg7 Ls[i])) :
  Rdg g W (callE t ks) (.agg #[.int .i64 9,.int .i64 0,.string T,.bool false,.int .i64 0,.slice none 0 0,kv]):=by
 have e:T=⟨t.toArray⟩:=bytes_eq hT
 subst e;unfold callE Rdg
 refine ⟨_,_,rfl,⟨none,0,rfl,Nat.le_refl _,Nat.zero_le _,fun h=>absurd h (by simp)⟩,?_⟩
 obtain ⟨ao,cap,hv,h1,h2⟩:=(ow.sl enc7_len (by omega)).len
 refine ⟨ao,cap,by rw [hl];exact hv,by omega,h2,fun hn=>?_⟩
 have hpos:0<Ls.length:=by rw [←hl];exact List.length_pos_iff.2 hn
 obtain ⟨g',cap',hv',_,_,_,_⟩:=ow.shape hpos;refine ⟨g',0,?_,hb g' (by rw [hv'];rfl),?_,?_⟩
 ·rw [hv]at hv'
  simp only [Value.slice.injEq]at hv'
  exact hv'.1
 ·obtain ⟨_,ho⟩:=ow
  rcases ho with ⟨hv0,_⟩|⟨g0,cap0,cur0,hv0,_,hg0,_⟩
  ·rw [hv0]at hv';cases hv'
  ·rw [hv0]at hv'
   simp only [Value.slice.injEq,Option.some.injEq,Addr.mk.injEq]at hv'
   exact ⟨_,_,by rw [←hv'.1.1];exact hg0⟩
 ·rw [hv']at ow
  exact rdl_row (B:=B) ks Ls 0 hl (fun i h=>by rw [Nat.zero_add];exact ow.cell enc7_len h) hr
structure AI (L:List Wd) (p b off cap:Nat) (W:World) (T:ByteArray) (t:List UInt8) (R:Ex × St) (W':World) (f':Nat) (ks:List Ex) (s1:St) (Ls:List V7) (ao:Option Addr) (cp:Nat):Prop where
 st:PS W' p L b off cap s1.i s1.bd s1.n
 lt:s1.i<L.length
 nb:s1.n+1≤s1.i
 fe:treeF.argsF EE L f' t ks s1=some R
 xb:Tb W' (W.heap.size+2) (.int .i64 9) (.int .i64 0) (.string T) (.bool false) (.int .i64 0) (.slice none 0 0) (.slice ao Ls.length cp)
 zb:Tb W' (W.heap.size+1) (.int .i64 0) (.int .i64 0) (.string ⟨#[]⟩) (.bool false) (.int .i64 0) (.slice none 0 0) (.slice none 0 0)
 ow:Own enc7 26 7 W.heap.size W' (.slice ao Ls.length cp) Ls
 ln:ks.length=Ls.length
 ob:∀ j,(Value.slice ao Ls.length cp).ownBlock=some j→W.heap.size+3≤j
 rd:∀ i (h:i<ks.length) (h':i<Ls.length),Rdg (fun b=>W.heap.size+3≤b∧(Value.slice ao Ls.length cp).ownBlock≠some b) W' ks[i] (agg7 Ls[i])
 qx:Qx p W W'
 kl:ks.length≤31
 kb:s1.bd=false→ks.length≤30
 sz:W.heap.size+3≤W'.heap.size
def mzA(n p:Nat)(W:World):Nat:=2*(n-far p W)+(match W.cell? ⟨p,2,none⟩ with
 |some (.bool true)=>0
 |_=>1)
theorem mzA_of{W:World}{p:Nat}{L:List Wd}{b off cap i:Nat}{bd:Bool}{n:Nat}(h:PS W p L b off cap i bd n)(m:Nat):mzA m p W=2*(m-i)+(if bd then 0 else 1):=by
 unfold mzA
 rw [far_of h,h.c2];cases bd <;> rfl
theorem args_done{L:List Wd}{f:Nat}{t:List UInt8}{ks:List Ex}{s:St}{R:Ex × St}(h:s.bd=true)(e:treeF.argsF EE L f t ks s=some R):R=(callE t ks,s.node):=by
 cases f with
 |zero=>unfold treeF.argsF at e;cases e
 |succ f=>rw [treeF.argsF,if_pos h]at e;exact (Option.some.inj e).symm
theorem args_end{L:List Wd}{f:Nat}{t:List UInt8}{ks:List Ex}{s:St}{R:Ex × St}(h:s.bd=false)(hw:isW L s.i [41]=true)(e:treeF.argsF EE L f t ks s=some R):R=(callE t ks,s.on.node):=by
 cases f with
 |zero=>unfold treeF.argsF at e;cases e
 |succ f=>rw [treeF.argsF,if_neg (by rw [h];simp),if_pos hw]at e;exact (Option.some.inj e).symm
theorem args_bad{L:List Wd}{f:Nat}{t:List UInt8}{ks:List Ex}{s:St}{R:Ex × St}(h:s.bd=false)(hw:isW L s.i [41]=false)(hn:ks≠[]∧isW L s.i [44]=false)(e:treeF.argsF EE L f t ks s=some R):R=(callE t ks,s.bad):=by
 cases f with
 |zero=>unfold treeF.argsF at e;cases e
 |succ f=>rw [treeF.argsF,if_neg (by rw [h];simp),if_neg (by rw [hw];simp),if_pos hn]at e;exact (Option.some.inj e).symm
theorem args_more{L:List Wd}{f:Nat}{t:List UInt8}{ks:List Ex}{s:St}{R:Ex × St}(h:s.bd=false)(hw:isW L s.i [41]=false)(hn:¬ (ks≠[]∧isW L s.i [44]=false))(e:treeF.argsF EE L f t ks s=some R):∃ g r,f=g+1∧treeF EE L g 1 (if ks=[] then s else s.on)=some r∧treeF.argsF EE L g t (ks++[r.1]) (argS ks r.2)=some R:=by
 cases f with
 |zero=>unfold treeF.argsF at e;cases e
 |succ f=>
  rw [treeF.argsF,if_neg (by rw [h];simp),if_neg (by rw [hw];simp),if_neg hn]at e
  obtain ⟨r,h1,h2⟩:=Option.bind_eq_some_iff.1 e;exact ⟨f,r,rfl,h1,h2⟩
structure WdOk (x:Wd):Prop where
 k1:1≤x.k
 k6:x.k≤6
 len:x.t.length≤1000
 num:x.k=1→EE.nok x.t=true
 ref:x.k=3→EE.rok x.t=true
 err:x.k=5→EE.err x.t≠0
 nam:x.k=4→x.t=truW∨x.t=flsW∨EE.nam x.t=decide (x.t.length≤20)
theorem wdok_plain{k:Nat}{t:List UInt8}{a:Nat}(h:k=2∨k=6)(hl:t.length≤1000):WdOk ⟨k,t,a⟩:=
 ⟨by simp only;omega,by simp only;omega,hl,fun e=>by simp only at e;omega,fun e=>by simp only at e;omega,fun e=>by simp only at e;omega,fun e=>by simp only at e;omega⟩
theorem mtB_len{t:List UInt8}(h:V.mtB t=true):t.length≤1000:=by
 unfold V.mtB at h
 simp only [Bool.and_eq_true,decide_eq_true_eq]at h
 have:=h.1
 omega
theorem errN_enL{e:Int}(h:e∈([1,2,3,4,5,6,7]:List Int)):errN (enL e)≠0∧(enL e).length≤1000:=by
 simp only [List.mem_cons,List.mem_nil_iff,or_false]at h
 rcases h with rfl|rfl|rfl|rfl|rfl|rfl|rfl <;> decide
theorem wordF_ok{l:List UInt8}(h:(wordF l).2.2≠0)(hl:l.length≤1000)(a:Nat):WdOk ⟨(wordF l).1,(wordF l).2.1,a⟩:=by
 by_cases h34:l.headD 0=34
 ·have e:wordF l=quoW l:=by unfold wordF;rw [if_pos h34]
  rw [e]at h ⊢;unfold quoW at h ⊢
  cases hq:quoF (l.drop 1) [] 1 with
  |none=>rw [hq]at h;exact absurd rfl h
  |some r=>
   obtain ⟨t,n⟩:=r;rw [hq]at h;unfold quoP at h ⊢
   simp only at h ⊢
   by_cases hm:V.mtB t=true
   ·rw [if_pos hm]
    exact wdok_plain (.inl rfl) (mtB_len hm)
   ·rw [if_neg hm]at h;exact absurd rfl h
 ·by_cases h35:l.headD 0=35
  ·have e:wordF l=errW l:=by unfold wordF;rw [if_neg h34,if_pos h35]
   rw [e]at h ⊢;unfold errW at h ⊢
   cases hq:errF l with
   |none=>rw [hq]at h;exact absurd rfl h
   |some e=>
    unfold errP
    have hm:e∈([1,2,3,4,5,6,7]:List Int):=List.mem_of_find?_eq_some hq
    obtain ⟨g1,g2⟩:=errN_enL hm;exact ⟨by simp,by simp,g2,fun e=>by simp at e,fun e=>by simp at e,fun _=>g1,fun e=>by simp at e⟩
  ·by_cases hj:joinB (l.headD 0)=true
   ·have e:wordF l=joinW l:=by unfold wordF;rw [if_neg h34,if_neg h35,if_pos hj]
    rw [e]at h ⊢;unfold joinW at h ⊢
    split at h
    ·exact absurd rfl h
    ·rename_i hk
     rw [if_neg hk];have hlen:(l.takeWhile joinB).length≤1000:=Nat.le_trans (List.takeWhile_prefix _).length_le hl
     have hne:0<(l.takeWhile joinB).length:=by
      cases l with
      |nil=>simp [joinB]at hj
      |cons c r=>
       simp only [List.headD_cons]at hj
       rw [List.takeWhile_cons,if_pos hj];simp
     generalize l.takeWhile joinB=t at hk hlen hne ⊢;unfold kindJ at hk ⊢
     by_cases c1:V.pf (V.parseO t)=true
     ·rw [if_pos c1]
      exact ⟨by simp,by simp,hlen,fun _=>c1,fun e=>by simp at e,fun e=>by simp at e,fun e=>by simp at e⟩
     ·rw [if_neg c1]at hk ⊢
      by_cases c3:refF t=true
      ·rw [if_pos c3]
       exact ⟨by simp,by simp,hlen,fun e=>by simp at e,fun _=>c3,fun e=>by simp at e,fun e=>by simp at e⟩
      ·rw [if_neg c3]at hk ⊢
       by_cases c4:t=tru∨t=fls∨(Lib.hasPrefix (l.dropWhile joinB) [40]=true∧allL t=true)
       ·rw [if_pos c4]
        refine ⟨by simp,by simp,hlen,fun e=>by simp at e,fun e=>by simp at e,fun e=>by simp at e,fun _=>?_⟩
        rcases c4 with e|e|⟨_,e⟩
        ·exact .inl e
        ·exact .inr (.inl e)
        ·by_cases ht:t=truW∨t=flsW
         ·rcases ht with e'|e'
          ·exact .inl e'
          ·exact .inr (.inl e')
         ·refine .inr (.inr ?_)
          show namF t=_
          unfold namF
          rw [decide_eq_true hne,decide_eq_true ht,show t.all let1=true from e]
          simp
       ·rw [if_neg c4]at hk
        exact absurd rfl hk
   ·have e:wordF l=sigW l:=by unfold wordF;rw [if_neg h34,if_neg h35,if_neg hj]
    rw [e]at h ⊢;unfold sigW at h ⊢
    cases hq:sigF l with
    |none=>rw [hq]at h;exact absurd rfl h
    |some t=>
     unfold sigP
     have hm:t∈sgL:=List.mem_of_find?_eq_some hq
     refine wdok_plain (.inr rfl) ?_
     have:∀ t∈sgL,t.length≤1000:=by decide
     exact this t hm
theorem scanG_ok:∀ (f:Nat) (l:List UInt8) (a:Nat) (acc L:List Wd) (n:Nat),l.length≤1000→(∀ x∈acc,WdOk x)→scanG f l a acc=(some L,n)→(∀ x∈L,WdOk x)∧L.length≤acc.length+l.length:=by
 intro f
 induction f with
 |zero=>
  intro l a acc L n hl hacc h
  unfold scanG at h
  cases h
  exact ⟨hacc,by omega⟩
 |succ f ih=>
  intro l a acc L n hl hacc h
  cases l with
  |nil=>unfold scanG at h;cases h;exact ⟨hacc,by simp⟩
  |cons c r=>
   unfold scanG at h
   split at h
   ·obtain ⟨h1,h2⟩:=ih _ _ _ _ _ (by simp at hl;omega) hacc h
    exact ⟨h1,by simp;omega⟩
   ·split at h
    ·cases h
    ·rename_i hn
     have hlen:((c::r).drop (wordF (c::r)).2.2).length+1≤(c::r).length:=by rw [List.length_drop];simp;omega
     have hacc':∀ x∈acc++[(⟨(wordF (c::r)).1,(wordF (c::r)).2.1,a⟩:Wd)],WdOk x:=by
      intro x hx
      rw [List.mem_append]at hx
      rcases hx with hx|hx
      ·exact hacc x hx
      ·simp only [List.mem_singleton]at hx
       subst hx;exact wordF_ok hn hl a
     obtain ⟨h1,h2⟩:=ih _ _ _ _ _ (by omega) hacc' h
     refine ⟨h1,?_⟩
     rw [List.length_append]at h2;simp only [List.length_singleton]at h2
     omega
theorem scan_good{l:List UInt8}{L:List Wd}{n:Nat}(h:scanL l=(some L,n)):0<L.length∧L.length≤50000∧Ends L∧Good EE L∧(∀ i,i<L.length→1≤kAt L i∧kAt L i≤7)∧(∀ i,(tAt L i).length≤1000):=by
 unfold scanL at h
 split at h
 ·cases h
 ·rename_i hlen
  split at h
  ·rename_i Ls n' hs
   cases h
   obtain ⟨hok,hll⟩:=scanG_ok _ _ _ _ _ _ (by omega) (fun x hx=>by cases hx) hs
   simp only [List.length_nil,Nat.zero_add]at hll
   have hat:∀ i,i<Ls.length→∃ x,WdOk x∧kAt (Ls++[⟨7,[],l.length⟩]) i=x.k∧tAt (Ls++[⟨7,[],l.length⟩]) i=x.t:=by
    intro i hi
    refine ⟨Ls[i],hok _ (List.getElem_mem hi),?_,?_⟩
    ·unfold kAt;rw [List.getD_eq_getElem?_getD,List.getElem?_append_left hi,List.getElem?_eq_getElem hi];rfl
    ·unfold tAt;rw [List.getD_eq_getElem?_getD,List.getElem?_append_left hi,List.getElem?_eq_getElem hi];rfl
   have hend:∀ i,Ls.length≤i→kAt (Ls++[⟨7,[],l.length⟩]) i=7∧tAt (Ls++[⟨7,[],l.length⟩]) i=[]:=by
    intro i hi
    unfold kAt tAt
    rw [List.getD_eq_getElem?_getD,List.getElem?_append_right hi]
    rcases Nat.eq_zero_or_pos (i-Ls.length) with e|e
    ·rw [e];exact ⟨rfl,rfl⟩
    ·rw [List.getElem?_eq_none (by simp;omega)];exact ⟨rfl,rfl⟩
   have hL:(Ls++[(⟨7,[],l.length⟩:Wd)]).length=Ls.length+1:=by simp
   have low:∀ i,kAt (Ls++[⟨7,[],l.length⟩]) i≠7→i<Ls.length:=by
    intro i hk
    rcases Nat.lt_or_ge i Ls.length with h'|h'
    ·exact h'
    ·exact absurd (hend i h').1 hk
   refine ⟨by rw [hL];omega,by rw [hL];omega,fun i hi hk=>by have:=low i hk;omega,⟨fun i _ hk=>?_,fun i _ hk=>?_,fun i _ hk=>?_,fun i _ hk=>?_⟩,fun i _=>?_,fun i=>?_⟩
   ·obtain ⟨x,hx,e1,e2⟩:=hat i (low i (by omega))
    rw [e2];exact hx.num (by omega)
   ·obtain ⟨x,hx,e1,e2⟩:=hat i (low i (by omega))
    rw [e2];exact hx.ref (by omega)
   ·obtain ⟨x,hx,e1,e2⟩:=hat i (low i (by omega))
    rw [e2];exact hx.err (by omega)
   ·obtain ⟨x,hx,e1,e2⟩:=hat i (low i (by omega))
    rw [e2];exact hx.nam (by omega)
   ·rcases Nat.lt_or_ge i Ls.length with h'|h'
    ·obtain ⟨x,hx,e1,e2⟩:=hat i h'
     have:=hx.k1
     have:=hx.k6
     omega
    ·have:=(hend i h').1
     omega
   ·rcases Nat.lt_or_ge i Ls.length with h'|h'
    ·obtain ⟨x,hx,e1,e2⟩:=hat i h'
     rw [e2];exact hx.len
    ·rw [(hend i h').2];simp
  ·cases h
theorem first_paren_bad(L:List Wd)(p b off cap:Nat)(s:St)(W:World)(h:PS W p L b off cap s.i s.bd s.n)(hi:s.i<L.length)(hr:L.length≤50000)(hn:s.n≤s.i)(hw:isW L s.i [40]=true)(r:Ex × St)(hbd:r.2.bd=true)(HT:Hid (∀ W1,PS W1 p L b off cap s.on.i s.on.bd s.on.n→Calls Tryz.prog 41 #[.pointer (some ⟨p,0,none⟩),.int .i64 1] W1 fun e W'=>Rep p L b off cap W1 r e W')) :
  Calls Tryz.prog 86 #[.pointer (some ⟨p,0,none⟩)] W fun e W'=>Rep p L b off cap W (r.1,r.2) e W':=by
 have hlt:=h.lt;have hbW:=h.blk hi;obtain ⟨T,q,hT,kw⟩:=h.kw hi;have HTT:=hid hT;have HK:=hid kw;generalize hkk:(kAt L s.i:Int)=kk at HK;have hpW:p≠W.heap.size:=by omega
 have HBD:=hid hbd;clear hbd;have HP:=hid h;have hroom:(s.i:Int)+1≤9223372036854775807:=by omega
 have HZ:=hid ((tb_new W (.int .i64 0) (.int .i64 0) (.string ⟨#[]⟩) (.bool false) (.int .i64 0) (.slice none 0 0) (.slice none 0 0) 26).on (((Qx.refl p _).alloc (.cells #[.int .i64 kk,.string T,.int .i64 q] 78)).drew) (by omega))
 have HB:=hid ((wb_new (W.alloc (.cells #[.int .i64 0,.int .i64 0,.string ⟨#[]⟩,.bool false,.int .i64 0,.slice none 0 0,.slice none 0 0] 26)) (.int .i64 kk) (.string T) (.int .i64 q) 78).on ((Qx.refl p _).drew) (by simp;omega))
 rw [show (W.alloc (.cells #[.int .i64 0,.int .i64 0,.string ⟨#[]⟩,.bool false,.int .i64 0,.slice none 0 0,.slice none 0 0] 26)).heap.size=W.heap.size+1 by simp]at HB
 have hc:=hid (fun W1 (g:PS W1 p L b off cap s.i s.bd s.n)=>take_any W1 p L b off cap s.i s.bd s.n ⟨#[40]⟩ g hi)
 rw [show (⟨#[40]⟩:ByteArray).data.toList=[40] from rfl,hw]at hc
 clear h kw hT;go_enter Tryz.func86,Tryz.ntmps86
 go_wp2_with fail
 go_region_held3 (fun V=>V.cell? ⟨p,0,none⟩=some (.slice (some ⟨b,off,none⟩) L.length cap)∧V.cell? ⟨p,1,none⟩=some (.int .i64 (s.i:Int))∧V.cell? ⟨b,off+s.i*3,none⟩=some (.int .i64 kk)∧V.cell? ⟨b,off+s.i*3+1,none⟩=some (.string T)∧V.cell? ⟨b,off+s.i*3+2,none⟩=some (.int .i64 q)) (exact HK.out.on (by repeat (first|exact Q.refl _|refine Q.drewN ?_ _|refine Q.drew ?_|refine Q.alloc ?_ _|refine Q.setCell ?_ (by simp) _))) (fail)
 go_wp2_with (first|(go_at_call 41;refine (HT.out _ P1.out).mono ?_;rintro e w2 ⟨v,rfl,hr2,q2,p2⟩;obtain ⟨k,m,t,bb,er,a1,l1,c1,a2,l2,c2,rfl⟩:=hr2.shape;have R2:=hid hr2;have Q2:=hid q2;have P2:=hid p2;have Z2:=hid (Z1.out.on q2 (by omega));have hsz:w1.heap.size≤w2.heap.size:=q2.size;clear hr2 q2 p2;have hp2:p≠w2.heap.size:=(by omega);have hW2:W.heap.size≠w2.heap.size:=(by omega);have PX:=hid (P2.out.on ((Q.refl _).alloc (.cells #[.int .i64 k,.int .i64 m,.string t,.bool bb,.int .i64 er,.slice a1 l1 c1,.slice a2 l2 c2] 26)));have u2:=PX.out.c2;rw [HBD.out]at u2;have v2:=PX.out.f2;have Z5:=hid ((Z2.out.on ((Qx.refl p _).alloc (.cells #[.int .i64 k,.int .i64 m,.string t,.bool bb,.int .i64 er,.slice a1 l1 c1,.slice a2 l2 c2] 26)) (by omega)).on ((Qx.refl p _).own 2 (.bool true)) (by omega));have X5:=hid ((tb_new w2 (.int .i64 k) (.int .i64 m) (.string t) (.bool bb) (.int .i64 er) (.slice a1 l1 c1) (.slice a2 l2 c2) 26).on ((Qx.refl p _).own 2 (.bool true)) (by omega));clear hp2 hW2;have d0:=Z5.out.g0;have d1:=Z5.out.g1;have d2:=Z5.out.g2;have d3:=Z5.out.g3;have d4:=Z5.out.g4;have d5:=Z5.out.g5;have d6:=Z5.out.g6;have y0:=Z5.out.f 0;have y1:=Z5.out.f 1;have y2:=Z5.out.f 2;have y3:=Z5.out.f 3;have y4:=Z5.out.f 4;have y5:=Z5.out.f 5;have y6:=Z5.out.f 6;have n0:=X5.out.g0;have n1:=X5.out.g1;have n2:=X5.out.g2;have n3:=X5.out.g3;have n4:=X5.out.g4;have n5:=X5.out.g5;have n6:=X5.out.g6)|(go_at_call 85;refine (hc.out _ (HP.out.on (by repeat (first|exact Q.refl _|refine Q.drewN ?_ _|refine Q.drew ?_|refine Q.alloc ?_ _|refine Q.setCell ?_ (by simp) _)))).mono ?_;rintro e w1 ⟨rfl,q1,p1⟩;have Q1:Hid (Qx p W w1):=hid (Qx.trans (by repeat (first|with_reducible exact Qx.refl _ _|with_reducible refine Qx.drewN ?_ _|with_reducible refine Qx.drew ?_|with_reducible refine Qx.alloc ?_ _|with_reducible refine Qx.own ?_ _ _|with_reducible refine Qx.new ?_ (by simp) _ _)) q1);have P1:=hid p1;have Z1:=hid (HZ.out.on q1 (by omega));have B1:=hid (HB.out.on q1 (by omega));have hsw:W.heap.size+1<w1.heap.size:=World.block_lt_of_cell? w1 ⟨W.heap.size+1,0,none⟩ B1.out.g0;clear q1 p1;have x1:=P1.out.c1;have z1:=P1.out.f1;have b0:=B1.out.g0;have b1:=B1.out.g1;have b2:=B1.out.g2))
 refine bodyPost_ret (v:=.agg #[.int .i64 k,.int .i64 m,.string t,.bool bb,.int .i64 er,.slice a1 l1 c1,.slice a2 l2 c2]) (by simp [results,Tryz.results86,go_sem,d0,d1,d2,d3,d4,d5,d6,n0,n1,n2,n3,n4,n5,n6]) rfl ?_
 have hp2:p≠w2.heap.size:=by omega
 have hq:Qx p W _:=(((Q1.out.trans Q2.out).alloc (.cells #[.int .i64 k,.int .i64 m,.string t,.bool bb,.int .i64 er,.slice a1 l1 c1,.slice a2 l2 c2] 26)).own 2 (.bool true))
 have PY:=PX.out.set2 true;rw [←HBD.out]at PY;exact fin7 (s':=r.2) k m t bb er a1 l1 c1 a2 l2 c2 hlt hbW hq (Rdg.on (((Qx.refl p _).alloc _).own _ _) (fun b hb=>by omega) _ _ (Rdg.mono (fun b hb=>by omega) _ _ R2.out)) (by rw [←HBD.out];exact PY)
theorem first_paren_yes(L:List Wd)(p b off cap:Nat)(s:St)(W:World)(h:PS W p L b off cap s.i s.bd s.n)(hi:s.i<L.length)(hr:L.length≤50000)(hn:s.n≤s.i)(hw:isW L s.i [40]=true)(r:Ex × St)(hbd:r.2.bd=false)(hri:r.2.i<L.length)(hw2:isW L r.2.i [41]=true)(HT:Hid (∀ W1,PS W1 p L b off cap s.on.i s.on.bd s.on.n→Calls Tryz.prog 41 #[.pointer (some ⟨p,0,none⟩),.int .i64 1] W1 fun e W'=>Rep p L b off cap W1 r e W')) :
  Calls Tryz.prog 86 #[.pointer (some ⟨p,0,none⟩)] W fun e W'=>Rep p L b off cap W (r.1,r.2.on) e W':=by
 have hlt:=h.lt;have hbW:=h.blk hi;obtain ⟨T,q,hT,kw⟩:=h.kw hi;have HTT:=hid hT;have HK:=hid kw;generalize hkk:(kAt L s.i:Int)=kk at HK;have hpW:p≠W.heap.size:=by omega
 have HBD:=hid hbd;clear hbd;have hc2:=hid (fun W1 (g:PS W1 p L b off cap r.2.i r.2.bd r.2.n)=>take_any W1 p L b off cap r.2.i r.2.bd r.2.n ⟨#[41]⟩ g hri)
 rw [show (⟨#[41]⟩:ByteArray).data.toList=[41] from rfl,hw2]at hc2
 have HP:=hid h;have hroom:(s.i:Int)+1≤9223372036854775807:=by omega
 have HZ:=hid ((tb_new W (.int .i64 0) (.int .i64 0) (.string ⟨#[]⟩) (.bool false) (.int .i64 0) (.slice none 0 0) (.slice none 0 0) 26).on (((Qx.refl p _).alloc (.cells #[.int .i64 kk,.string T,.int .i64 q] 78)).drew) (by omega))
 have HB:=hid ((wb_new (W.alloc (.cells #[.int .i64 0,.int .i64 0,.string ⟨#[]⟩,.bool false,.int .i64 0,.slice none 0 0,.slice none 0 0] 26)) (.int .i64 kk) (.string T) (.int .i64 q) 78).on ((Qx.refl p _).drew) (by simp;omega))
 rw [show (W.alloc (.cells #[.int .i64 0,.int .i64 0,.string ⟨#[]⟩,.bool false,.int .i64 0,.slice none 0 0,.slice none 0 0] 26)).heap.size=W.heap.size+1 by simp]at HB
 have hc:=hid (fun W1 (g:PS W1 p L b off cap s.i s.bd s.n)=>take_any W1 p L b off cap s.i s.bd s.n ⟨#[40]⟩ g hi)
 rw [show (⟨#[40]⟩:ByteArray).data.toList=[40] from rfl,hw]at hc
 clear h kw hT;go_enter Tryz.func86,Tryz.ntmps86
 go_wp2_with fail
 go_region_held3 (fun V=>V.cell? ⟨p,0,none⟩=some (.slice (some ⟨b,off,none⟩) L.length cap)∧V.cell? ⟨p,1,none⟩=some (.int .i64 (s.i:Int))∧V.cell? ⟨b,off+s.i*3,none⟩=some (.int .i64 kk)∧V.cell? ⟨b,off+s.i*3+1,none⟩=some (.string T)∧V.cell? ⟨b,off+s.i*3+2,none⟩=some (.int .i64 q)) (exact HK.out.on (by repeat (first|exact Q.refl _|refine Q.drewN ?_ _|refine Q.drew ?_|refine Q.alloc ?_ _|refine Q.setCell ?_ (by simp) _))) (fail)
 go_wp2_with (first|(go_at_call 85;refine (hc2.out _ PX.out).mono ?_;rintro e w4 ⟨rfl,q4,p4⟩;have Q4:=hid q4;have P4:=hid p4;have X4:=hid ((tb_new w2 (.int .i64 k) (.int .i64 m) (.string t) (.bool bb) (.int .i64 er) (.slice a1 l1 c1) (.slice a2 l2 c2) 26).on q4 (by omega));have Z4:=hid ((Z2.out.on ((Qx.refl p _).alloc _) (by omega)).on q4 (by omega));clear q4 p4;have t2:=P4.out.c2;have s2:=P4.out.f2;have e0:=Z4.out.g0;have e1:=Z4.out.g1;have e2:=Z4.out.g2;have e3:=Z4.out.g3;have e4:=Z4.out.g4;have e5:=Z4.out.g5;have e6:=Z4.out.g6;have r0:=Z4.out.f 0;have r1:=Z4.out.f 1;have r2:=Z4.out.f 2;have r3:=Z4.out.f 3;have r4:=Z4.out.f 4;have r5:=Z4.out.f 5;have r6:=Z4.out.f 6;have n0:=X4.out.g0;have n1:=X4.out.g1;have n2:=X4.out.g2;have n3:=X4.out.g3;have n4:=X4.out.g4;have n5:=X4.out.g5;have n6:=X4.out.g6)|(go_at_call 41;refine (HT.out _ P1.out).mono ?_;rintro e w2 ⟨v,rfl,hr2,q2,p2⟩;obtain ⟨k,m,t,bb,er,a1,l1,c1,a2,l2,c2,rfl⟩:=hr2.shape;have R2:=hid hr2;have Q2:=hid q2;have P2:=hid p2;have Z2:=hid (Z1.out.on q2 (by omega));have hsz:w1.heap.size≤w2.heap.size:=q2.size;clear hr2 q2 p2;have hp2:p≠w2.heap.size:=(by omega);have hW2:W.heap.size≠w2.heap.size:=(by omega);have PX:=hid (P2.out.on ((Q.refl _).alloc (.cells #[.int .i64 k,.int .i64 m,.string t,.bool bb,.int .i64 er,.slice a1 l1 c1,.slice a2 l2 c2] 26)));have u2:=PX.out.c2;rw [HBD.out]at u2;have v2:=PX.out.f2;have d0:=Z2.out.g0;have d1:=Z2.out.g1;have d2:=Z2.out.g2;have d3:=Z2.out.g3;have d4:=Z2.out.g4;have d5:=Z2.out.g5;have d6:=Z2.out.g6;have y0:=Z2.out.f 0;have y1:=Z2.out.f 1;have y2:=Z2.out.f 2;have y3:=Z2.out.f 3;have y4:=Z2.out.f 4;have y5:=Z2.out.f 5;have y6:=Z2.out.f 6)|(go_at_call 85;refine (hc.out _ (HP.out.on (by repeat (first|exact Q.refl _|refine Q.drewN ?_ _|refine Q.drew ?_|refine Q.alloc ?_ _|refine Q.setCell ?_ (by simp) _)))).mono ?_;rintro e w1 ⟨rfl,q1,p1⟩;have Q1:Hid (Qx p W w1):=hid (Qx.trans (by repeat (first|with_reducible exact Qx.refl _ _|with_reducible refine Qx.drewN ?_ _|with_reducible refine Qx.drew ?_|with_reducible refine Qx.alloc ?_ _|with_reducible refine Qx.own ?_ _ _|with_reducible refine Qx.new ?_ (by simp) _ _)) q1);have P1:=hid p1;have Z1:=hid (HZ.out.on q1 (by omega));have B1:=hid (HB.out.on q1 (by omega));have hsw:W.heap.size+1<w1.heap.size:=World.block_lt_of_cell? w1 ⟨W.heap.size+1,0,none⟩ B1.out.g0;clear q1 p1;have x1:=P1.out.c1;have z1:=P1.out.f1;have b0:=B1.out.g0;have b1:=B1.out.g1;have b2:=B1.out.g2))
 refine bodyPost_ret (v:=.agg #[.int .i64 k,.int .i64 m,.string t,.bool bb,.int .i64 er,.slice a1 l1 c1,.slice a2 l2 c2]) (by simp [results,Tryz.results86,go_sem,e0,e1,e2,e3,e4,e5,e6,n0,n1,n2,n3,n4,n5,n6]) rfl ?_
 have hq:Qx p W _:=(((Q1.out.trans Q2.out).alloc (.cells #[.int .i64 k,.int .i64 m,.string t,.bool bb,.int .i64 er,.slice a1 l1 c1,.slice a2 l2 c2] 26)).trans Q4.out).own 2 (.bool false)
 have PY:=P4.out.set2 false;exact fin7 (s':=r.2.on) k m t bb er a1 l1 c1 a2 l2 c2 hlt hbW hq (Rdg.on ((((Qx.refl p _).alloc _).trans Q4.out).own _ _) (fun b hb=>by omega) _ _ (Rdg.mono (fun b hb=>by omega) _ _ R2.out)) (by rw [on_bd,HBD.out];exact PY)
theorem first_paren_no(L:List Wd)(p b off cap:Nat)(s:St)(W:World)(h:PS W p L b off cap s.i s.bd s.n)(hi:s.i<L.length)(hr:L.length≤50000)(hn:s.n≤s.i)(hw:isW L s.i [40]=true)(r:Ex × St)(hbd:r.2.bd=false)(hri:r.2.i<L.length)(hw2:isW L r.2.i [41]=false)(HT:Hid (∀ W1,PS W1 p L b off cap s.on.i s.on.bd s.on.n→Calls Tryz.prog 41 #[.pointer (some ⟨p,0,none⟩),.int .i64 1] W1 fun e W'=>Rep p L b off cap W1 r e W')) :
  Calls Tryz.prog 86 #[.pointer (some ⟨p,0,none⟩)] W fun e W'=>Rep p L b off cap W (r.1,r.2.bad) e W':=by
 have hlt:=h.lt;have hbW:=h.blk hi;obtain ⟨T,q,hT,kw⟩:=h.kw hi;have HTT:=hid hT;have HK:=hid kw;generalize hkk:(kAt L s.i:Int)=kk at HK;have hpW:p≠W.heap.size:=by omega
 have HBD:=hid hbd;clear hbd;have hc2:=hid (fun W1 (g:PS W1 p L b off cap r.2.i r.2.bd r.2.n)=>take_any W1 p L b off cap r.2.i r.2.bd r.2.n ⟨#[41]⟩ g hri)
 rw [show (⟨#[41]⟩:ByteArray).data.toList=[41] from rfl,hw2]at hc2
 have HP:=hid h;have hroom:(s.i:Int)+1≤9223372036854775807:=by omega
 have HZ:=hid ((tb_new W (.int .i64 0) (.int .i64 0) (.string ⟨#[]⟩) (.bool false) (.int .i64 0) (.slice none 0 0) (.slice none 0 0) 26).on (((Qx.refl p _).alloc (.cells #[.int .i64 kk,.string T,.int .i64 q] 78)).drew) (by omega))
 have HB:=hid ((wb_new (W.alloc (.cells #[.int .i64 0,.int .i64 0,.string ⟨#[]⟩,.bool false,.int .i64 0,.slice none 0 0,.slice none 0 0] 26)) (.int .i64 kk) (.string T) (.int .i64 q) 78).on ((Qx.refl p _).drew) (by simp;omega))
 rw [show (W.alloc (.cells #[.int .i64 0,.int .i64 0,.string ⟨#[]⟩,.bool false,.int .i64 0,.slice none 0 0,.slice none 0 0] 26)).heap.size=W.heap.size+1 by simp]at HB
 have hc:=hid (fun W1 (g:PS W1 p L b off cap s.i s.bd s.n)=>take_any W1 p L b off cap s.i s.bd s.n ⟨#[40]⟩ g hi)
 rw [show (⟨#[40]⟩:ByteArray).data.toList=[40] from rfl,hw]at hc
 clear h kw hT;go_enter Tryz.func86,Tryz.ntmps86
 go_wp2_with fail
 go_region_held3 (fun V=>V.cell? ⟨p,0,none⟩=some (.slice (some ⟨b,off,none⟩) L.length cap)∧V.cell? ⟨p,1,none⟩=some (.int .i64 (s.i:Int))∧V.cell? ⟨b,off+s.i*3,none⟩=some (.int .i64 kk)∧V.cell? ⟨b,off+s.i*3+1,none⟩=some (.string T)∧V.cell? ⟨b,off+s.i*3+2,none⟩=some (.int .i64 q)) (exact HK.out.on (by repeat (first|exact Q.refl _|refine Q.drewN ?_ _|refine Q.drew ?_|refine Q.alloc ?_ _|refine Q.setCell ?_ (by simp) _))) (fail)
 go_wp2_with (first|(go_at_call 85;refine (hc2.out _ PX.out).mono ?_;rintro e w4 ⟨rfl,q4,p4⟩;have Q4:=hid q4;have P4:=hid p4;have X4:=hid ((tb_new w2 (.int .i64 k) (.int .i64 m) (.string t) (.bool bb) (.int .i64 er) (.slice a1 l1 c1) (.slice a2 l2 c2) 26).on q4 (by omega));have Z4:=hid ((Z2.out.on ((Qx.refl p _).alloc _) (by omega)).on q4 (by omega));clear q4 p4;have t2:=P4.out.c2;have s2:=P4.out.f2;have e0:=Z4.out.g0;have e1:=Z4.out.g1;have e2:=Z4.out.g2;have e3:=Z4.out.g3;have e4:=Z4.out.g4;have e5:=Z4.out.g5;have e6:=Z4.out.g6;have r0:=Z4.out.f 0;have r1:=Z4.out.f 1;have r2:=Z4.out.f 2;have r3:=Z4.out.f 3;have r4:=Z4.out.f 4;have r5:=Z4.out.f 5;have r6:=Z4.out.f 6;have n0:=X4.out.g0;have n1:=X4.out.g1;have n2:=X4.out.g2;have n3:=X4.out.g3;have n4:=X4.out.g4;have n5:=X4.out.g5;have n6:=X4.out.g6)|(go_at_call 41;refine (HT.out _ P1.out).mono ?_;rintro e w2 ⟨v,rfl,hr2,q2,p2⟩;obtain ⟨k,m,t,bb,er,a1,l1,c1,a2,l2,c2,rfl⟩:=hr2.shape;have R2:=hid hr2;have Q2:=hid q2;have P2:=hid p2;have Z2:=hid (Z1.out.on q2 (by omega));have hsz:w1.heap.size≤w2.heap.size:=q2.size;clear hr2 q2 p2;have hp2:p≠w2.heap.size:=(by omega);have hW2:W.heap.size≠w2.heap.size:=(by omega);have PX:=hid (P2.out.on ((Q.refl _).alloc (.cells #[.int .i64 k,.int .i64 m,.string t,.bool bb,.int .i64 er,.slice a1 l1 c1,.slice a2 l2 c2] 26)));have u2:=PX.out.c2;rw [HBD.out]at u2;have v2:=PX.out.f2;have d0:=Z2.out.g0;have d1:=Z2.out.g1;have d2:=Z2.out.g2;have d3:=Z2.out.g3;have d4:=Z2.out.g4;have d5:=Z2.out.g5;have d6:=Z2.out.g6;have y0:=Z2.out.f 0;have y1:=Z2.out.f 1;have y2:=Z2.out.f 2;have y3:=Z2.out.f 3;have y4:=Z2.out.f 4;have y5:=Z2.out.f 5;have y6:=Z2.out.f 6)|(go_at_call 85;refine (hc.out _ (HP.out.on (by repeat (first|exact Q.refl _|refine Q.drewN ?_ _|refine Q.drew ?_|refine Q.alloc ?_ _|refine Q.setCell ?_ (by simp) _)))).mono ?_;rintro e w1 ⟨rfl,q1,p1⟩;have Q1:Hid (Qx p W w1):=hid (Qx.trans (by repeat (first|with_reducible exact Qx.refl _ _|with_reducible refine Qx.drewN ?_ _|with_reducible refine Qx.drew ?_|with_reducible refine Qx.alloc ?_ _|with_reducible refine Qx.own ?_ _ _|with_reducible refine Qx.new ?_ (by simp) _ _)) q1);have P1:=hid p1;have Z1:=hid (HZ.out.on q1 (by omega));have B1:=hid (HB.out.on q1 (by omega));have hsw:W.heap.size+1<w1.heap.size:=World.block_lt_of_cell? w1 ⟨W.heap.size+1,0,none⟩ B1.out.g0;clear q1 p1;have x1:=P1.out.c1;have z1:=P1.out.f1;have b0:=B1.out.g0;have b1:=B1.out.g1;have b2:=B1.out.g2))
 refine bodyPost_ret (v:=.agg #[.int .i64 k,.int .i64 m,.string t,.bool bb,.int .i64 er,.slice a1 l1 c1,.slice a2 l2 c2]) (by simp [results,Tryz.results86,go_sem,e0,e1,e2,e3,e4,e5,e6,n0,n1,n2,n3,n4,n5,n6]) rfl ?_
 have hq:Qx p W _:=(((Q1.out.trans Q2.out).alloc (.cells #[.int .i64 k,.int .i64 m,.string t,.bool bb,.int .i64 er,.slice a1 l1 c1,.slice a2 l2 c2] 26)).trans Q4.out).own 2 (.bool true)
 have PY:=P4.out.set2 true;exact fin7 (s':=r.2.bad) k m t bb er a1 l1 c1 a2 l2 c2 hlt hbW hq (Rdg.on ((((Qx.refl p _).alloc _).trans Q4.out).own _ _) (fun b hb=>by omega) _ _ (Rdg.mono (fun b hb=>by omega) _ _ R2.out)) PY
theorem first_other(L:List Wd)(p b off cap:Nat)(s:St)(W:World)(h:PS W p L b off cap s.i s.bd s.n)(hi:s.i<L.length)(hr:L.length≤50000)(hn:s.n≤s.i)(hw:isW L s.i [40]=false)(hk:kAt L s.i=6∨kAt L s.i=7) :
  Calls Tryz.prog 86 #[.pointer (some ⟨p,0,none⟩)] W fun e W'=>Rep p L b off cap W (zeroE,s.bad) e W':=by
 have hlt:=h.lt;have hbW:=h.blk hi;obtain ⟨T,q,hT,kw⟩:=h.kw hi;have HTT:=hid hT;have HK:=hid kw;have hpW:p≠W.heap.size:=by omega
 have k1:((kAt L s.i:Int) == 1)=false:=by rw [beq_eq_false_iff_ne];omega
 have k2:((kAt L s.i:Int) == 2)=false:=by rw [beq_eq_false_iff_ne];omega
 have k5:((kAt L s.i:Int) == 5)=false:=by rw [beq_eq_false_iff_ne];omega
 have k3:((kAt L s.i:Int) == 3)=false:=by rw [beq_eq_false_iff_ne];omega
 have k4:((kAt L s.i:Int) == 4)=false:=by rw [beq_eq_false_iff_ne];omega
 generalize hkk:(kAt L s.i:Int)=kk at HK k1 k2 k3 k4 k5;clear hk;have HP:=hid h;have hroom:(s.i:Int)+1≤9223372036854775807:=by omega
 have HZ:=hid ((tb_new W (.int .i64 0) (.int .i64 0) (.string ⟨#[]⟩) (.bool false) (.int .i64 0) (.slice none 0 0) (.slice none 0 0) 26).on (((Qx.refl p _).alloc (.cells #[.int .i64 kk,.string T,.int .i64 q] 78)).drew) (by omega))
 have HB:=hid ((wb_new (W.alloc (.cells #[.int .i64 0,.int .i64 0,.string ⟨#[]⟩,.bool false,.int .i64 0,.slice none 0 0,.slice none 0 0] 26)) (.int .i64 kk) (.string T) (.int .i64 q) 78).on ((Qx.refl p _).drew) (by simp;omega))
 rw [show (W.alloc (.cells #[.int .i64 0,.int .i64 0,.string ⟨#[]⟩,.bool false,.int .i64 0,.slice none 0 0,.slice none 0 0] 26)).heap.size=W.heap.size+1 by simp]at HB
 have hc:=hid (fun W1 (g:PS W1 p L b off cap s.i s.bd s.n)=>take_any W1 p L b off cap s.i s.bd s.n ⟨#[40]⟩ g hi)
 rw [show (⟨#[40]⟩:ByteArray).data.toList=[40] from rfl,hw]at hc
 clear h kw hT;go_enter Tryz.func86,Tryz.ntmps86
 go_wp2_with fail
 go_region_held3 (fun V=>V.cell? ⟨p,0,none⟩=some (.slice (some ⟨b,off,none⟩) L.length cap)∧V.cell? ⟨p,1,none⟩=some (.int .i64 (s.i:Int))∧V.cell? ⟨b,off+s.i*3,none⟩=some (.int .i64 kk)∧V.cell? ⟨b,off+s.i*3+1,none⟩=some (.string T)∧V.cell? ⟨b,off+s.i*3+2,none⟩=some (.int .i64 q)) (exact HK.out.on (by repeat (first|exact Q.refl _|refine Q.drewN ?_ _|refine Q.drew ?_|refine Q.alloc ?_ _|refine Q.setCell ?_ (by simp) _))) (fail)
 go_wp2_with (go_at_call 85;refine (hc.out _ (HP.out.on (by repeat (first|exact Q.refl _|refine Q.drewN ?_ _|refine Q.drew ?_|refine Q.alloc ?_ _|refine Q.setCell ?_ (by simp) _)))).mono ?_;rintro e w1 ⟨rfl,q1,p1⟩;have Q1:Hid (Qx p W w1):=hid (Qx.trans (by repeat (first|with_reducible exact Qx.refl _ _|with_reducible refine Qx.drewN ?_ _|with_reducible refine Qx.drew ?_|with_reducible refine Qx.alloc ?_ _|with_reducible refine Qx.own ?_ _ _|with_reducible refine Qx.new ?_ (by simp) _ _)) q1);have P1:=hid p1;have Z1:=hid (HZ.out.on q1 (by omega));have B1:=hid (HB.out.on q1 (by omega));clear q1 p1;have x1:=P1.out.c1;have z1:=P1.out.f1;have x2:=P1.out.c2;have z2:=P1.out.f2;have d0:=Z1.out.g0;have d1:=Z1.out.g1;have d2:=Z1.out.g2;have d3:=Z1.out.g3;have d4:=Z1.out.g4;have d5:=Z1.out.g5;have d6:=Z1.out.g6;have y0:=Z1.out.f 0;have y1:=Z1.out.f 1;have y2:=Z1.out.f 2;have y3:=Z1.out.f 3;have y4:=Z1.out.f 4;have y5:=Z1.out.f 5;have y6:=Z1.out.f 6;have b0:=B1.out.g0;have b1:=B1.out.g1;have b2:=B1.out.g2)
 refine bodyPost_ret (v:=.agg #[.int .i64 0,.int .i64 0,.string ⟨#[]⟩,.bool false,.int .i64 0,.slice none 0 0,.slice none 0 0]) (by simp [results,Tryz.results86,go_sem,d0,d1,d2,d3,d4,d5,d6,hpW]) rfl ?_
 have hq:Qx p W _:=((Q1.out.own 1 (.int .i64 ((s.i:Int)+1))).own 1 (.int .i64 (s.i:Int))).own 2 (.bool true)
 have PY:=((P1.out.set1 (s.i+1) ((s.i:Int)+1) (by omega)).set1 s.i (s.i:Int) rfl).set2 true
 exact fin7 (s':=s.bad) 0 0 ⟨#[]⟩ false 0 none 0 0 none 0 0 hlt hbW hq (rdg_zero _ _) PY
end Go.Proofs.YtoikodohcieipaaGreatDoor
