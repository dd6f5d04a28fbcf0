/- P.first of the reference, walk. -/
import Derived.Test.YtoikodohcieipaaGreatDoorKl15
set_option linter.unusedVariables false
set_option linter.unusedSimpArgs false
set_option maxRecDepth 100000
set_option maxHeartbeats 8000000
namespace Go.Proofs.YtoikodohcieipaaGreatDoor
open Go.RowKit
theorem PS.kwt{W:World}{p:Nat}{L:List Wd}{b off cap i:Nat}{bd:Bool}{n:Nat}(h:PS W p L b off cap i bd n)(hi:i<L.length){k:Int}{T:ByteArray}{q:Int}(hk:k=(kAt L i:Int))(hT:T=⟨(tAt L i).toArray⟩)(hq:q=((L.getD i ⟨7,[],0⟩).p:Int)):KW W p L.length b off cap i k T q:=by
 have hg:=kAt_get hi;subst hk hT hq;refine ⟨h.c0,h.c1,?_,?_,?_⟩
 ·rw [hg.1];exact h.sw.k i hi
 ·rw [hg.2];exact h.sw.t i hi
 ·rw [List.getD_eq_getElem?_getD,List.getElem?_eq_getElem hi];exact h.sw.p i hi
theorem R5.put{W:World}{q:Nat}{S:ByteArray}{row col:Int}{ra ca:Bool}(h:R5 W q 0 S row col ra ca)(S':ByteArray)(row' col':Int)(ra' ca':Bool):R5 (((((W.setCell ⟨q,0,none⟩ (.string S')).setCell ⟨q,1,none⟩ (.int .i64 row')).setCell ⟨q,2,none⟩ (.int .i64 col')).setCell ⟨q,3,none⟩ (.bool ra')).setCell ⟨q,4,none⟩ (.bool ca')) q 0 S' row' col' ra' ca':=by
 obtain ⟨h0,h1,h2,h3,h4⟩:=h;have same:∀ {V:World} {j:Nat} {c d:Value},V.cell? ⟨q,j,none⟩=some c→(V.setCell ⟨q,j,none⟩ d).cell? ⟨q,j,none⟩=some d:=fun {V j c d} e=>World.cell?_setCell_same _ _ _ e
 have other:∀ {V:World} {j k:Nat} {d:Value} {o:Option Value},k≠j→V.cell? ⟨q,j,none⟩=o→(V.setCell ⟨q,k,none⟩ d).cell? ⟨q,j,none⟩=o:=fun {V j k d o} hk e=>by
  rw [World.cell?_setCell_other _ _ _ _ (by simp;try omega)];exact e
 refine ⟨?_,?_,?_,?_,?_⟩
 ·exact other (by omega) (other (by omega) (other (by omega) (other (by omega) (same h0))))
 ·exact other (by omega) (other (by omega) (other (by omega) (same (other (by omega) h1))))
 ·exact other (by omega) (other (by omega) (same (other (by omega) (other (by omega) h2))))
 ·exact other (by omega) (same (other (by omega) (other (by omega) (other (by omega) h3))))
 ·exact same (other (by omega) (other (by omega) (other (by omega) (other (by omega) h4))))
theorem fr5_new(W:World)(c0 c1 c2 c3 c4:Value)(t:TypeId)(W':World)(q:Q (W.alloc (.cells #[c0,c1,c2,c3,c4] t)).drew W'):∀ o,W'.frozen? ⟨W.heap.size,o,none⟩=false:=by
 intro o
 rw [Below.frozen q (p:=⟨W.heap.size,o,none⟩) (by show W.heap.size<(W.alloc (.cells #[c0,c1,c2,c3,c4] t)).heap.size;simp)]
 show (W.alloc (.cells #[c0,c1,c2,c3,c4] t)).frozen? ⟨W.heap.size,o,none⟩=false
 simp [World.frozen?_alloc_new]
theorem first_range(L:List Wd)(p b off cap:Nat)(s:St)(W:World)(h:PS W p L b off cap s.i s.bd s.n)(hi:s.i<L.length)(hr:L.length≤50000)(hn:s.n≤s.i)(hE:Ends L)(hw:isW L s.i [40]=false)(hk:kAt L s.i=3)(hz:∀ i,(tAt L i).length≤1000)(hw5:isW L (s.i+1) [58]=true)(h3:kAt L (s.i+2)=3)(hok:refF (tAt L (s.i+2))=true)(hsh:(refT (tAt L (s.i+2))).1=[]) :
  Calls Tryz.prog 86 #[.pointer (some ⟨p,0,none⟩)] W fun e W'=>Rep p L b off cap W (rangeE (EE.ref (tAt L s.i)) (EE.ref (tAt L (s.i+2))),s.on.on.on.node) e W':=by
 have hlt:=h.lt;have hbW:=h.blk hi;obtain ⟨T,q,hT,kw⟩:=h.kw hi;have HTT:=hid hT;have HK:=hid kw;rw [hk]at HK;obtain ⟨S,row,col,ra,ca,hS,hA⟩:=ref_parts T.data.toList;have HRf:=hid (fun W1=>rref_any T W1 (by have:=hz s.i;rw [←hT]at this;simp at this;omega))
 rw [hA]at HRf;generalize refF T.data.toList=rok at HRf;have HS:=hid hS;clear hA hS;have hi1:s.i+1<L.length:=hE _ hi (by omega)
 have hc5:=hid (fun W1 (g:PS W1 p L b off cap (s.i+1) s.bd s.n)=>take_any W1 p L b off cap (s.i+1) s.bd s.n ⟨#[58]⟩ g hi1)
 rw [show (⟨#[58]⟩:ByteArray).data.toList=[58] from rfl,hw5]at hc5
 have hpW:p≠W.heap.size:=by omega
 obtain ⟨j,hj⟩:∃ j,j=s.i+2:=⟨_,rfl⟩;obtain ⟨T2,hT2,lT2⟩:∃ T2:ByteArray,T2=⟨(tAt L (j)).toArray⟩∧T2.data.toList=tAt L (j):=⟨_,rfl,rfl⟩;obtain ⟨q2,hq2⟩:∃ q2:Int,q2=((L.getD (j) ⟨7,[],0⟩).p:Int):=⟨_,rfl⟩;obtain ⟨k2,hk2⟩:∃ k2:Int,k2=(kAt L (j):Int):=⟨_,rfl⟩;have hi2:j<L.length:=by rw [hj];exact hE.sign hw5
 have HK4:=hid (fun W1 (g:PS W1 p L b off cap (j) s.bd s.n)=>g.kwt hi2 hk2 hT2 hq2)
 obtain ⟨S',row',col',ra',ca',hS',hA'⟩:=ref_parts T2.data.toList;have HRf2:=hid (fun W1=>rref_any T2 W1 (by have:=hz (j);rw [←lT2]at this;simp at this;omega))
 rw [hA']at HRf2;have HS':=hid hS';have hS'2:=hS';have HT2:=hid lT2;have HJ:=hid hj;have HE:=hid hE;clear hA' hS' hT2 hq2 hj hE hz;rw [←HJ.out]at h3 hok hsh ⊢;rw [lT2,hok]at HRf2;rw [h3]at hk2;have hk3:k2=3:=hk2
 clear hk2;subst hk3;have hsh2:S'.data.toList=[]:=by have:=hsh;rw [←lT2,hS'2]at this;exact this
 have HSH:=hid hsh2;clear h3 hok lT2 hsh hsh2 hS'2;have HP:=hid h;have hroom:(s.i:Int)+1≤9223372036854775807:=by omega
 have HZ:=hid ((tb_new W (.int .i64 0) (.int .i64 0) (.string ⟨#[]⟩) (.bool false) (.int .i64 0) (.slice none 0 0) (.slice none 0 0) 26).on (((Qx.refl p _).alloc (.cells #[.int .i64 3,.string T,.int .i64 q] 78)).drew) (by omega))
 have HB:=hid ((wb_new (W.alloc (.cells #[.int .i64 0,.int .i64 0,.string ⟨#[]⟩,.bool false,.int .i64 0,.slice none 0 0,.slice none 0 0] 26)) (.int .i64 3) (.string T) (.int .i64 q) 78).on ((Qx.refl p _).drew) (by simp;omega))
 rw [show (W.alloc (.cells #[.int .i64 0,.int .i64 0,.string ⟨#[]⟩,.bool false,.int .i64 0,.slice none 0 0,.slice none 0 0] 26)).heap.size=W.heap.size+1 by simp]at HB
 have hc:=hid (fun W1 (g:PS W1 p L b off cap s.i s.bd s.n)=>take_any W1 p L b off cap s.i s.bd s.n ⟨#[40]⟩ g hi)
 rw [show (⟨#[40]⟩:ByteArray).data.toList=[40] from rfl,hw]at hc
 clear h kw hT;go_enter Tryz.func86,Tryz.ntmps86
 go_wp2_with fail
 go_region_held3 (fun V=>V.cell? ⟨p,0,none⟩=some (.slice (some ⟨b,off,none⟩) L.length cap)∧V.cell? ⟨p,1,none⟩=some (.int .i64 (s.i:Int))∧V.cell? ⟨b,off+s.i*3,none⟩=some (.int .i64 3)∧V.cell? ⟨b,off+s.i*3+1,none⟩=some (.string T)∧V.cell? ⟨b,off+s.i*3+2,none⟩=some (.int .i64 q)) (exact HK.out.on (by repeat (first|with_reducible exact Q.refl _|with_reducible refine Q.drewN ?_ _|with_reducible refine Q.drew ?_|with_reducible refine Q.alloc ?_ _|with_reducible refine Q.setCell ?_ (by simp) _))) (fail)
 go_wp2_with (first|(go_at_call 85;refine (hc5.out _ P2.out).mono ?_;rintro e w4 ⟨rfl,q4,p4⟩;have Q4:=hid q4;have P4:Hid (PS w4 p L b off cap j s.bd s.n):=hid (by rw [HJ.out];exact p4);have K4:=hid (HK4.out _ P4.out);have f1:=p4.f1;have f2:=p4.f2;have hs4:w2.heap.size+1≤w4.heap.size:=(by simpa using q4.size);have A4:=hid ((r5_new w2 S row col ra ca 40).on q4 (by omega));have Z4:=hid (((Z1.out.on Q2.out (by omega)).on ((Qx.refl p _).alloc _) (by omega)).on q4 (by omega));clear q4 p4;have m0:=A4.out.g0;have m1:=A4.out.g1;have m2:=A4.out.g2;have m3:=A4.out.g3;have m4:=A4.out.g4;simp only [Nat.zero_add]at m1 m2 m3 m4)|(go_at_call 83;refine (HRf.out _).mono ?_;rintro e w2 ⟨rfl,q2⟩;have hs2:w1.heap.size≤w2.heap.size:=(by simpa [World.setCell] using q2.size);have Q2:Hid (Qx p w1 w2):=hid (Qx.trans (by repeat (first|with_reducible exact Qx.refl _ _|with_reducible refine Qx.drewN ?_ _|with_reducible refine Qx.drew ?_|with_reducible refine Qx.alloc ?_ _|with_reducible refine Qx.own ?_ _ _|with_reducible refine Qx.new ?_ (by simp) _ _)) (Qx.of q2));have P2:=hid (((P1.out.set1 (s.i+1) _ (by go_num)).on q2).on ((Q.refl _).alloc (.cells #[.string S,.int .i64 row,.int .i64 col,.bool ra,.bool ca] 40)));clear q2)|(go_at_call 85;refine (hc.out _ (HP.out.on (by repeat (first|with_reducible exact Q.refl _|with_reducible refine Q.drewN ?_ _|with_reducible refine Q.drew ?_|with_reducible refine Q.alloc ?_ _|with_reducible refine Q.setCell ?_ (by simp) _)))).mono ?_;rintro e w1 ⟨rfl,q1,p1⟩;have Q1:Hid (Qx p W w1):=hid (Qx.trans (by repeat (first|with_reducible exact Qx.refl _ _|with_reducible refine Qx.drewN ?_ _|with_reducible refine Qx.drew ?_|with_reducible refine Qx.alloc ?_ _|with_reducible refine Qx.own ?_ _ _|with_reducible refine Qx.new ?_ (by simp) _ _)) q1);have P1:=hid p1;have Z1:=hid (HZ.out.on q1 (by omega));have B1:=hid (HB.out.on q1 (by omega));have hsw:W.heap.size+1<w1.heap.size:=World.block_lt_of_cell? w1 ⟨W.heap.size+1,0,none⟩ B1.out.g0;clear q1 p1;have x1:=P1.out.c1;have z1:=P1.out.f1;have b0:=B1.out.g0;have b1:=B1.out.g1;have b2:=B1.out.g2))
 go_region_held3 (fun V=>V.cell? ⟨p,0,none⟩=some (.slice (some ⟨b,off,none⟩) L.length cap)∧V.cell? ⟨p,1,none⟩=some (.int .i64 (j:Int))∧V.cell? ⟨b,off+j*3,none⟩=some (.int .i64 3)∧V.cell? ⟨b,off+j*3+1,none⟩=some (.string T2)∧V.cell? ⟨b,off+j*3+2,none⟩=some (.int .i64 q2)) (first|exact K4.out.on (by repeat (first|with_reducible exact Q5.out|with_reducible exact Q.refl _|with_reducible refine Q.drewN ?_ _|with_reducible refine Q.drew ?_|with_reducible refine Q.alloc ?_ _|with_reducible refine Q.setCell ?_ (Nat.le_refl _) _))|exact K4.out.on (by repeat (first|with_reducible exact Q.refl _|with_reducible refine Q.drewN ?_ _|with_reducible refine Q.drew ?_|with_reducible refine Q.alloc ?_ _|with_reducible refine Q.setCell ?_ (by simp) _))) (first|(go_at_call 83;refine (HRf2.out ((w4.alloc (.cells #[.string ⟨#[]⟩,.int .i64 0,.int .i64 0,.bool false,.bool false] 40)).drew)).mono ?_;rintro e9 w5 ⟨rfl,q5⟩;have Q5:Hid (Q w4 w5):=hid (Q.trans (by repeat (first|with_reducible exact Q.refl _|with_reducible refine Q.drewN ?_ _|with_reducible refine Q.drew ?_|with_reducible refine Q.alloc ?_ _|with_reducible refine Q.setCell ?_ (by simp) _)) q5);have K5:=hid (K4.out.on Q5.out);have F5:=hid (fr5_new w4 (.string ⟨#[]⟩) (.int .i64 0) (.int .i64 0) (.bool false) (.bool false) 40 w5 q5);have A5:=hid ((r5_new w4 ⟨#[]⟩ 0 0 false false 40).on (p:=p) (Qx.of (Q.trans (by repeat (first|with_reducible exact Q.refl _|with_reducible refine Q.drewN ?_ _|with_reducible refine Q.drew ?_|with_reducible refine Q.alloc ?_ _|with_reducible refine Q.setCell ?_ (by simp) _)) q5)) (by omega));have ss5:w4.heap.size<w5.heap.size:=World.block_lt_of_cell? w5 ⟨w4.heap.size,0,none⟩ A5.out.g0;clear q5;have i0:=A5.out.g0;have i1:=A5.out.g1;have i2:=A5.out.g2;have i3:=A5.out.g3;have i4:=A5.out.g4;simp only [Nat.zero_add]at i1 i2 i3 i4;have j0:=F5.out 0;have j1:=F5.out 1;have j2:=F5.out 2;have j3:=F5.out 3;have j4:=F5.out 4)|(go_at_call 83;refine (HRf2.out _).mono ?_;rintro e9 w5 ⟨rfl,q5⟩;have Q5:Hid (Q w4 w5):=hid (Q.trans (by repeat (first|with_reducible exact Q.refl _|with_reducible refine Q.drewN ?_ _|with_reducible refine Q.drew ?_|with_reducible refine Q.alloc ?_ _|with_reducible refine Q.setCell ?_ (by simp) _)) q5);have K5:=hid (K4.out.on Q5.out);have ss5:w4.heap.size≤w5.heap.size:=Q5.out.size;clear q5))
 ·obtain ⟨V5,hV5,QV,AB⟩:∃ V5,V5=w5.alloc (.cells #[.string S',.int .i64 row',.int .i64 col',.bool ra',.bool ca'] 40)∧Q w4 V5∧R5 V5 w5.heap.size 0 S' row' col' ra' ca':=⟨_,rfl,Q5.out.alloc _,r5_new _ _ _ _ _ _ _⟩
  rw [←hV5];have hB1:w4.heap.size≤w5.heap.size:=ss5
  generalize w5.heap.size=B at *;clear hV5;have P5:=hid (P4.out.on QV);obtain ⟨r0,r1,r2,r3,r4⟩:=K4.out.on QV;have A5b:=hid (A4.out.on (p:=p) (Qx.of QV) (by omega))
  have AB5:=hid AB;have QV5:=hid QV;have f1':=P5.out.f1;have f2':=P5.out.f2;have x0:=A5b.out.g0;have x1':=A5b.out.g1;have x2:=A5b.out.g2;have x3:=A5b.out.g3;have x4:=A5b.out.g4;have n0:=AB5.out.g0;have n1:=AB5.out.g1;have n2:=AB5.out.g2;have n3:=AB5.out.g3;have n4:=AB5.out.g4;simp only [Nat.zero_add]at x1' x2 x3 x4 n1 n2 n3 n4
  have Z5:=hid (Z4.out.on (p:=p) (Qx.of QV) (by omega))
  have hsv:w4.heap.size≤V5.heap.size:=QV.size
  clear QV AB K5 Q5 m0 m1 m2 m3 m4 f1 f2;have e9:(S'.toList == [])=true:=by rw [toL,HSH.out];rfl
  go_wp2_with fail
  go_quiet (fail)
  go_wp2_with (go_at_call 66;refine (node_any _ p L b off cap _ _ _ (((P5.out.on ((Q.refl _).drewN _)).set1 (j+1) _ (by go_num)).on ((Q.refl _).alloc _)) (by omega) 6 0 ⟨#[]⟩ false 0 (some ⟨V5.heap.size,0,none⟩) 2 2 none 0 0).mono ?_;rintro e w6 ⟨rfl,q6,p6⟩;have Q6:Hid (Qx p V5 w6):=hid (Qx.trans (by repeat (first|with_reducible exact Qx.refl _ _|with_reducible refine Qx.drewN ?_ _|with_reducible refine Qx.drew ?_|with_reducible refine Qx.alloc ?_ _|with_reducible refine Qx.own ?_ _ _|with_reducible refine Qx.new ?_ (by simp) _ _)) q6);have P6:=hid p6;have Z6:=hid (Z5.out.on Q6.out (by omega));have R6:=hid ((r5_two _ S row col ra ca S' row' col' ra' ca' 40).1.on q6 (by simp;omega));have R7:=hid ((r5_two _ S row col ra ca S' row' col' ra' ca' 40).2.on q6 (by simp;omega));clear q6 p6;have d0:=Z6.out.g0;have d1:=Z6.out.g1;have d2:=Z6.out.g2;have d3:=Z6.out.g3;have d4:=Z6.out.g4;have d5:=Z6.out.g5;have d6:=Z6.out.g6;have y0:=Z6.out.f 0;have y1:=Z6.out.f 1;have y2:=Z6.out.f 2;have y3:=Z6.out.f 3;have y4:=Z6.out.f 4;have y5:=Z6.out.f 5;have y6:=Z6.out.f 6)
  have hz6:∀ n v,((V5.drewN n).setCell ⟨p,1,none⟩ v).heap.size=V5.heap.size:=by intro n v;simp [World.setCell]
  rw [hz6]at R6 R7;refine bodyPost_ret (v:=.agg #[.int .i64 6,.int .i64 0,.string ⟨#[]⟩,.bool false,.int .i64 0,.slice (some ⟨V5.heap.size,0,none⟩) 2 2,.slice none 0 0]) (by simp [results,Tryz.results86,go_sem,d0,d1,d2,d3,d4,d5,d6]) rfl ?_
  rw [show rangeE (EE.ref (tAt L s.i)) (EE.ref (tAt L j))=rangeE (S.data.toList,row,col,ra,ca) (S'.data.toList,row',col',ra',ca') by show rangeE (refT (tAt L s.i)) (refT (tAt L j))=_;rw [←HTT.out,←HT2.out,HS.out,HS'.out]]
  have P6':PS w6 p L b off cap s.on.on.on.node.i s.on.on.on.node.bd s.on.on.on.node.n:=by
   have e:=HJ.out;show PS w6 p L b off cap (s.i+1+1+1) s.bd (s.n+1)
   rw [show s.i+1+1+1=j+1 by omega]
   exact P6.out
  exact fin7 (s':=s.on.on.on.node) 6 0 ⟨#[]⟩ false 0 (some ⟨V5.heap.size,0,none⟩) 2 2 none 0 0 hlt hbW (((((Q1.out.trans Q2.out).alloc _).trans Q4.out).trans (Qx.of QV5.out)).trans Q6.out) (rdg_range (show _≤_ by omega) R6.out R7.out) P6'
 ·obtain ⟨V5,hV5,QV,AB⟩:∃ V5,V5=((((w5.setCell ⟨w4.heap.size,0,none⟩ (.string S')).setCell ⟨w4.heap.size,1,none⟩ (.int .i64 row')).setCell ⟨w4.heap.size,2,none⟩ (.int .i64 col')).setCell ⟨w4.heap.size,3,none⟩ (.bool ra')).setCell ⟨w4.heap.size,4,none⟩ (.bool ca')∧Q w4 V5∧R5 V5 w4.heap.size 0 S' row' col' ra' ca':=⟨_,rfl,((((Q5.out.setCell (Nat.le_refl _) _).setCell (Nat.le_refl _) _).setCell (Nat.le_refl _) _).setCell (Nat.le_refl _) _).setCell (Nat.le_refl _) _,A5.out.put _ _ _ _ _⟩
  rw [←hV5];obtain ⟨B,hB,hB1⟩:∃ B,B=w4.heap.size∧w4.heap.size≤B:=⟨_,rfl,Nat.le_refl _⟩;rw [←hB]at AB ⊢;clear hV5 i0 i1 i2 i3 i4 j0 j1 j2 j3 j4 A5 F5 hB;have P5:=hid (P4.out.on QV);obtain ⟨r0,r1,r2,r3,r4⟩:=K4.out.on QV;have A5b:=hid (A4.out.on (p:=p) (Qx.of QV) (by omega))
  have AB5:=hid AB;have QV5:=hid QV;have f1':=P5.out.f1;have f2':=P5.out.f2;have x0:=A5b.out.g0;have x1':=A5b.out.g1;have x2:=A5b.out.g2;have x3:=A5b.out.g3;have x4:=A5b.out.g4;have n0:=AB5.out.g0;have n1:=AB5.out.g1;have n2:=AB5.out.g2;have n3:=AB5.out.g3;have n4:=AB5.out.g4;simp only [Nat.zero_add]at x1' x2 x3 x4 n1 n2 n3 n4
  have Z5:=hid (Z4.out.on (p:=p) (Qx.of QV) (by omega))
  have hsv:w4.heap.size≤V5.heap.size:=QV.size
  clear QV AB K5 Q5 m0 m1 m2 m3 m4 f1 f2;have e9:(S'.toList == [])=true:=by rw [toL,HSH.out];rfl
  go_wp2_with fail
  go_quiet (fail)
  go_wp2_with (go_at_call 66;refine (node_any _ p L b off cap _ _ _ (((P5.out.on ((Q.refl _).drewN _)).set1 (j+1) _ (by go_num)).on ((Q.refl _).alloc _)) (by omega) 6 0 ⟨#[]⟩ false 0 (some ⟨V5.heap.size,0,none⟩) 2 2 none 0 0).mono ?_;rintro e w6 ⟨rfl,q6,p6⟩;have Q6:Hid (Qx p V5 w6):=hid (Qx.trans (by repeat (first|with_reducible exact Qx.refl _ _|with_reducible refine Qx.drewN ?_ _|with_reducible refine Qx.drew ?_|with_reducible refine Qx.alloc ?_ _|with_reducible refine Qx.own ?_ _ _|with_reducible refine Qx.new ?_ (by simp) _ _)) q6);have P6:=hid p6;have Z6:=hid (Z5.out.on Q6.out (by omega));have R6:=hid ((r5_two _ S row col ra ca S' row' col' ra' ca' 40).1.on q6 (by simp;omega));have R7:=hid ((r5_two _ S row col ra ca S' row' col' ra' ca' 40).2.on q6 (by simp;omega));clear q6 p6;have d0:=Z6.out.g0;have d1:=Z6.out.g1;have d2:=Z6.out.g2;have d3:=Z6.out.g3;have d4:=Z6.out.g4;have d5:=Z6.out.g5;have d6:=Z6.out.g6;have y0:=Z6.out.f 0;have y1:=Z6.out.f 1;have y2:=Z6.out.f 2;have y3:=Z6.out.f 3;have y4:=Z6.out.f 4;have y5:=Z6.out.f 5;have y6:=Z6.out.f 6)
  have hz6:∀ n v,((V5.drewN n).setCell ⟨p,1,none⟩ v).heap.size=V5.heap.size:=by intro n v;simp [World.setCell]
  rw [hz6]at R6 R7;refine bodyPost_ret (v:=.agg #[.int .i64 6,.int .i64 0,.string ⟨#[]⟩,.bool false,.int .i64 0,.slice (some ⟨V5.heap.size,0,none⟩) 2 2,.slice none 0 0]) (by simp [results,Tryz.results86,go_sem,d0,d1,d2,d3,d4,d5,d6]) rfl ?_
  rw [show rangeE (EE.ref (tAt L s.i)) (EE.ref (tAt L j))=rangeE (S.data.toList,row,col,ra,ca) (S'.data.toList,row',col',ra',ca') by show rangeE (refT (tAt L s.i)) (refT (tAt L j))=_;rw [←HTT.out,←HT2.out,HS.out,HS'.out]]
  have P6':PS w6 p L b off cap s.on.on.on.node.i s.on.on.on.node.bd s.on.on.on.node.n:=by
   have e:=HJ.out;show PS w6 p L b off cap (s.i+1+1+1) s.bd (s.n+1)
   rw [show s.i+1+1+1=j+1 by omega]
   exact P6.out
  exact fin7 (s':=s.on.on.on.node) 6 0 ⟨#[]⟩ false 0 (some ⟨V5.heap.size,0,none⟩) 2 2 none 0 0 hlt hbW (((((Q1.out.trans Q2.out).alloc _).trans Q4.out).trans (Qx.of QV5.out)).trans Q6.out) (rdg_range (show _≤_ by omega) R6.out R7.out) P6'
end Go.Proofs.YtoikodohcieipaaGreatDoor
