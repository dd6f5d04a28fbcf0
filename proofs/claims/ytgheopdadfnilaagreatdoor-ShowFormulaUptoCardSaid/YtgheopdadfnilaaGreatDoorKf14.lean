/- P.first of the reference, walk. -/
import Derived.Test.YtgheopdadfnilaaGreatDoorKf06
import Derived.Test.YtgheopdadfnilaaGreatDoorKf13
import Derived.Deep.RegionHeld3
import Derived.Test.YtgheopdadfnilaaGreatDoorKf02
set_option linter.unusedVariables false
set_option linter.unusedSimpArgs false
set_option maxRecDepth 100000
set_option maxHeartbeats 8000000
namespace Go.Proofs.YtgheopdadfnilaaGreatDoor
open Go.RowKit
def errN(t:List UInt8):Nat:=if t=enL 1 then 1 else if t=enL 2 then 2 else if t=enL 3 then 3 else if t=enL 4 then 4 else if t=enL 5 then 5 else if t=enL 6 then 6 else if t=enL 7 then 7 else 0
def namF(t:List UInt8):Bool:=decide (0<t.length)&&(decide (t.length≤20)&&(decide (¬ (t=truW∨t=flsW))&&t.all let1))
def EE:Env:={ num:=fun t=>V.pk (V.parseO t),nok:=fun t=>V.pf (V.parseO t),ref:=refT,rok:=refF,err:=errN,nam:=namF }
def KW(W:World)(p n b off cap i:Nat)(k:Int)(T:ByteArray)(q:Int):Prop:=W.cell? ⟨p,0,none⟩=some (.slice (some ⟨b,off,none⟩) n cap)∧W.cell? ⟨p,1,none⟩=some (.int .i64 (i:Int))∧W.cell? ⟨b,off+i*3,none⟩=some (.int .i64 k)∧W.cell? ⟨b,off+i*3+1,none⟩=some (.string T)∧W.cell? ⟨b,off+i*3+2,none⟩=some (.int .i64 q)
theorem KW.on{W W':World}{p n b off cap i:Nat}{k:Int}{T:ByteArray}{q:Int}(h:KW W p n b off cap i k T q)(x:Q W W'):KW W' p n b off cap i k T q:=
 ⟨(x.cell (World.block_lt_of_cell? W ⟨p,0,none⟩ h.1)).trans h.1,(x.cell (World.block_lt_of_cell? W ⟨p,1,none⟩ h.2.1)).trans h.2.1,(x.cell (World.block_lt_of_cell? W ⟨b,off+i*3,none⟩ h.2.2.1)).trans h.2.2.1,(x.cell (World.block_lt_of_cell? W ⟨b,off+i*3+1,none⟩ h.2.2.2.1)).trans h.2.2.2.1,(x.cell (World.block_lt_of_cell? W ⟨b,off+i*3+2,none⟩ h.2.2.2.2)).trans h.2.2.2.2⟩
theorem PS.kw{W:World}{p:Nat}{L:List Wd}{b off cap i:Nat}{bd:Bool}{n:Nat}(h:PS W p L b off cap i bd n)(hi:i<L.length):∃ (T:ByteArray) (q:Int),T.data.toList=tAt L i∧KW W p L.length b off cap i (kAt L i:Int) T q:=by
 have hk:=kAt_get hi;refine ⟨⟨L[i].t.toArray⟩,(L[i].p:Int),hk.2.symm,h.c0,h.c1,?_,h.sw.t i hi,h.sw.p i hi⟩
 rw [hk.1];exact h.sw.k i hi
structure Wb (W:World) (q:Nat) (c0 c1 c2:Value):Prop where
 g0:W.cell? ⟨q,0,none⟩=some c0
 g1:W.cell? ⟨q,1,none⟩=some c1
 g2:W.cell? ⟨q,2,none⟩=some c2
theorem wb_new(W:World)(c0 c1 c2:Value)(t:TypeId):Wb (W.alloc (.cells #[c0,c1,c2] t)) W.heap.size c0 c1 c2:=by
 refine ⟨?_,?_,?_⟩
 all_goals simp [World.cell?_alloc_new]
theorem Wb.on{p:Nat}{W W':World}{q:Nat}{c0 c1 c2:Value}(h:Wb W q c0 c1 c2)(x:Qx p W W')(hq:q≠p):Wb W' q c0 c1 c2:=by
 have hl:q<W.heap.size:=World.block_lt_of_cell? W ⟨q,0,none⟩ h.g0
 exact ⟨(x.cell hl hq).trans h.g0,(x.cell hl hq).trans h.g1,(x.cell hl hq).trans h.g2⟩
theorem rdg_leaf{g:Nat→Prop}{W:World}(k n:Int)(t:List UInt8)(T:ByteArray)(hT:T.data.toList=t)(b:Bool)(e:Int):Rdg g W (.mk k n t b e [] []) (.agg #[.int .i64 k,.int .i64 n,.string T,.bool b,.int .i64 e,.slice none 0 0,.slice none 0 0]):=by
 have e':T=⟨t.toArray⟩:=bytes_eq hT
 subst e';unfold Rdg
 exact ⟨_,_,rfl,⟨none,0,rfl,Nat.le_refl _,Nat.zero_le _,fun h=>absurd h (by simp)⟩,none,0,rfl,Nat.le_refl _,Nat.zero_le _,fun h=>absurd rfl h⟩
theorem first_text(L:List Wd)(p b off cap:Nat)(s:St)(W:World)(h:PS W p L b off cap s.i s.bd s.n)(hi:s.i<L.length)(hr:L.length≤50000)(hn:s.n≤s.i)(hw:isW L s.i [40]=false)(hk:kAt L s.i=2) :
  Calls Tryz.prog 105 #[.pointer (some ⟨p,0,none⟩)] W fun e W'=>Rep p L b off cap W (textE (tAt L s.i),s.on.node) e W':=by
 have hlt:=h.lt;have hbW:=h.blk hi;obtain ⟨T,q,hT,kw⟩:=h.kw hi;have HTT:=hid hT;have HK:=hid kw;rw [hk]at HK;have HP:=hid h;have hroom:(s.i:Int)+1≤9223372036854775807:=by omega
 have HZ:=hid ((tb_new W (.int .i64 0) (.int .i64 0) (.string ⟨#[]⟩) (.bool false) (.int .i64 0) (.slice none 0 0) (.slice none 0 0) 26).on (((Qx.refl p _).alloc (.cells #[.int .i64 2,.string T,.int .i64 q] 74)).drew) (by omega))
 have HB:=hid ((wb_new (W.alloc (.cells #[.int .i64 0,.int .i64 0,.string ⟨#[]⟩,.bool false,.int .i64 0,.slice none 0 0,.slice none 0 0] 26)) (.int .i64 2) (.string T) (.int .i64 q) 74).on ((Qx.refl p _).drew) (by simp;omega))
 rw [show (W.alloc (.cells #[.int .i64 0,.int .i64 0,.string ⟨#[]⟩,.bool false,.int .i64 0,.slice none 0 0,.slice none 0 0] 26)).heap.size=W.heap.size+1 by simp]at HB
 have hc:=hid (fun W1 (g:PS W1 p L b off cap s.i s.bd s.n)=>take_any W1 p L b off cap s.i s.bd s.n ⟨#[40]⟩ g hi)
 rw [show (⟨#[40]⟩:ByteArray).data.toList=[40] from rfl,hw]at hc
 clear h kw hT;go_enter Tryz.func105,Tryz.ntmps105
 go_wp2_with fail
 go_region_held3 (fun V=>V.cell? ⟨p,0,none⟩=some (.slice (some ⟨b,off,none⟩) L.length cap)∧V.cell? ⟨p,1,none⟩=some (.int .i64 (s.i:Int))∧V.cell? ⟨b,off+s.i*3,none⟩=some (.int .i64 2)∧V.cell? ⟨b,off+s.i*3+1,none⟩=some (.string T)∧V.cell? ⟨b,off+s.i*3+2,none⟩=some (.int .i64 q)) (exact HK.out.on (by repeat (first|exact Q.refl _|refine Q.drewN ?_ _|refine Q.drew ?_|refine Q.alloc ?_ _|refine Q.setCell ?_ (by simp) _))) (fail)
 go_wp2_with (first|(go_at_call 104;refine (hc.out _ (HP.out.on (by repeat (first|exact Q.refl _|refine Q.drewN ?_ _|refine Q.drew ?_|refine Q.alloc ?_ _|refine Q.setCell ?_ (by simp) _)))).mono ?_;rintro e w1 ⟨rfl,q1,p1⟩;have Q1:Hid (Qx p W w1):=hid (Qx.trans (by repeat (first|with_reducible exact Qx.refl _ _|with_reducible refine Qx.drewN ?_ _|with_reducible refine Qx.drew ?_|with_reducible refine Qx.alloc ?_ _|with_reducible refine Qx.own ?_ _ _|with_reducible refine Qx.new ?_ (by simp) _ _)) q1);have P1:=hid p1;have Z1:=hid (HZ.out.on q1 (by omega));have B1:=hid (HB.out.on q1 (by omega));clear q1 p1;have x1:=P1.out.c1;have z1:=P1.out.f1;have b0:=B1.out.g0;have b1:=B1.out.g1;have b2:=B1.out.g2)|(go_at_call 74;refine (node_any _ p L b off cap _ _ _ (P1.out.set1 (s.i+1) _ (by go_num)) (by omega) 2 0 T false 0 none 0 0 none 0 0).mono ?_;rintro e w3 ⟨rfl,q3,p3⟩;have Q3:Hid (Qx p w1 w3):=hid (Qx.trans (by repeat (first|with_reducible exact Qx.refl _ _|with_reducible refine Qx.drewN ?_ _|with_reducible refine Qx.drew ?_|with_reducible refine Qx.alloc ?_ _|with_reducible refine Qx.own ?_ _ _|with_reducible refine Qx.new ?_ (by simp) _ _)) q3);have P3:=hid p3;have Z3:=hid (Z1.out.on Q3.out (by omega));clear q3 p3;have d0:=Z3.out.g0;have d1:=Z3.out.g1;have d2:=Z3.out.g2;have d3:=Z3.out.g3;have d4:=Z3.out.g4;have d5:=Z3.out.g5;have d6:=Z3.out.g6;have y0:=Z3.out.f 0;have y1:=Z3.out.f 1;have y2:=Z3.out.f 2;have y3:=Z3.out.f 3;have y4:=Z3.out.f 4;have y5:=Z3.out.f 5;have y6:=Z3.out.f 6))
 refine bodyPost_ret (v:=.agg #[.int .i64 2,.int .i64 0,.string T,.bool false,.int .i64 0,.slice none 0 0,.slice none 0 0]) (by simp [results,Tryz.results105,go_sem,d0,d1,d2,d3,d4,d5,d6]) rfl ?_
 exact fin7 2 0 T false 0 none 0 0 none 0 0 hlt hbW (Q1.out.trans Q3.out) (rdg_leaf 2 0 (tAt L s.i) T HTT.out false 0) P3.out
theorem first_num(L:List Wd)(p b off cap:Nat)(s:St)(W:World)(h:PS W p L b off cap s.i s.bd s.n)(hi:s.i<L.length)(hr:L.length≤50000)(hn:s.n≤s.i)(hw:isW L s.i [40]=false)(hk:kAt L s.i=1)(hz:∀ i,(tAt L i).length≤1000) :
  Calls Tryz.prog 105 #[.pointer (some ⟨p,0,none⟩)] W fun e W'=>Rep p L b off cap W (numE (EE.num (tAt L s.i)),s.on.node) e W':=by
 have hlt:=h.lt;have hbW:=h.blk hi;obtain ⟨T,q,hT,kw⟩:=h.kw hi;have HTT:=hid hT;have HK:=hid kw;rw [hk]at HK;have HN:=hid (fun W1=>V.rparse_any T W1 (by have:=hz s.i;rw [←hT]at this;simp at this;omega))
 have HP:=hid h;have hroom:(s.i:Int)+1≤9223372036854775807:=by omega
 have HZ:=hid ((tb_new W (.int .i64 0) (.int .i64 0) (.string ⟨#[]⟩) (.bool false) (.int .i64 0) (.slice none 0 0) (.slice none 0 0) 26).on (((Qx.refl p _).alloc (.cells #[.int .i64 1,.string T,.int .i64 q] 74)).drew) (by omega))
 have HB:=hid ((wb_new (W.alloc (.cells #[.int .i64 0,.int .i64 0,.string ⟨#[]⟩,.bool false,.int .i64 0,.slice none 0 0,.slice none 0 0] 26)) (.int .i64 1) (.string T) (.int .i64 q) 74).on ((Qx.refl p _).drew) (by simp;omega))
 rw [show (W.alloc (.cells #[.int .i64 0,.int .i64 0,.string ⟨#[]⟩,.bool false,.int .i64 0,.slice none 0 0,.slice none 0 0] 26)).heap.size=W.heap.size+1 by simp]at HB
 have hc:=hid (fun W1 (g:PS W1 p L b off cap s.i s.bd s.n)=>take_any W1 p L b off cap s.i s.bd s.n ⟨#[40]⟩ g hi)
 rw [show (⟨#[40]⟩:ByteArray).data.toList=[40] from rfl,hw]at hc
 clear h kw hT;go_enter Tryz.func105,Tryz.ntmps105
 go_wp2_with fail
 go_region_held3 (fun V=>V.cell? ⟨p,0,none⟩=some (.slice (some ⟨b,off,none⟩) L.length cap)∧V.cell? ⟨p,1,none⟩=some (.int .i64 (s.i:Int))∧V.cell? ⟨b,off+s.i*3,none⟩=some (.int .i64 1)∧V.cell? ⟨b,off+s.i*3+1,none⟩=some (.string T)∧V.cell? ⟨b,off+s.i*3+2,none⟩=some (.int .i64 q)) (exact HK.out.on (by repeat (first|exact Q.refl _|refine Q.drewN ?_ _|refine Q.drew ?_|refine Q.alloc ?_ _|refine Q.setCell ?_ (by simp) _))) (fail)
 go_wp2_with (first|(go_at_call 104;refine (hc.out _ (HP.out.on (by repeat (first|exact Q.refl _|refine Q.drewN ?_ _|refine Q.drew ?_|refine Q.alloc ?_ _|refine Q.setCell ?_ (by simp) _)))).mono ?_;rintro e w1 ⟨rfl,q1,p1⟩;have Q1:Hid (Qx p W w1):=hid (Qx.trans (by repeat (first|with_reducible exact Qx.refl _ _|with_reducible refine Qx.drewN ?_ _|with_reducible refine Qx.drew ?_|with_reducible refine Qx.alloc ?_ _|with_reducible refine Qx.own ?_ _ _|with_reducible refine Qx.new ?_ (by simp) _ _)) q1);have P1:=hid p1;have Z1:=hid (HZ.out.on q1 (by omega));have B1:=hid (HB.out.on q1 (by omega));clear q1 p1;have x1:=P1.out.c1;have z1:=P1.out.f1;have b0:=B1.out.g0;have b1:=B1.out.g1;have b2:=B1.out.g2)|(go_at_call 44;refine (HN.out _).mono ?_;rintro e w2 ⟨h2,q2⟩;unfold V.RP at h2;subst h2;have Q2:=hid q2;clear q2)|(go_at_call 74;refine (node_any _ p L b off cap _ _ _ ((P1.out.set1 (s.i+1) _ (by go_num)).on Q2.out) (by omega) 1 (V.pk (V.parseO T.data.toList)) ⟨#[]⟩ false 0 none 0 0 none 0 0).mono ?_;rintro e w3 ⟨rfl,q3,p3⟩;have Q3:Hid (Qx p w1 w3):=hid (Qx.trans (Qx.trans (by repeat (first|with_reducible exact Qx.refl _ _|with_reducible refine Qx.drewN ?_ _|with_reducible refine Qx.drew ?_|with_reducible refine Qx.alloc ?_ _|with_reducible refine Qx.own ?_ _ _|with_reducible refine Qx.new ?_ (by simp) _ _)) (Qx.of Q2.out)) q3);have P3:=hid p3;have Z3:=hid (Z1.out.on Q3.out (by omega));clear q3 p3;have d0:=Z3.out.g0;have d1:=Z3.out.g1;have d2:=Z3.out.g2;have d3:=Z3.out.g3;have d4:=Z3.out.g4;have d5:=Z3.out.g5;have d6:=Z3.out.g6;have y0:=Z3.out.f 0;have y1:=Z3.out.f 1;have y2:=Z3.out.f 2;have y3:=Z3.out.f 3;have y4:=Z3.out.f 4;have y5:=Z3.out.f 5;have y6:=Z3.out.f 6))
 refine bodyPost_ret (v:=.agg #[.int .i64 1,.int .i64 (V.pk (V.parseO T.data.toList)),.string ⟨#[]⟩,.bool false,.int .i64 0,.slice none 0 0,.slice none 0 0]) (by simp [results,Tryz.results105,go_sem,d0,d1,d2,d3,d4,d5,d6]) rfl ?_
 have e:=rdg_leaf (g:=fun b=>W.heap.size+1≤b) (W:=w3) 1 (V.pk (V.parseO T.data.toList)) [] ⟨#[]⟩ rfl false 0
 rw [show numE (EE.num (tAt L s.i))=.mk 1 (V.pk (V.parseO T.data.toList)) [] false 0 [] [] by rw [HTT.out];rfl]
 exact fin7 1 (V.pk (V.parseO T.data.toList)) ⟨#[]⟩ false 0 none 0 0 none 0 0 hlt hbW (Q1.out.trans Q3.out) e P3.out
theorem Std.onx{w w':World}{r:Nat}(h:Std w)(q:Qx r w w')(hr:6≤r):Std w':=by
 have hb:=h.big;have ce:∀ {b o:Nat},b<6→w'.cell? ⟨b,o,none⟩=w.cell? ⟨b,o,none⟩:=fun {b o} hb5=>q.cell (by omega) (by omega)
 refine ⟨fun i hi=>?_,⟨by have:=q.size;have:=h.nam.1;omega,fun i hi=>?_⟩,⟨fun c hc=>?_,fun i hi=>?_⟩,?_,by have:=q.size;omega⟩
 ·rw [ce (by omega)];exact h.sg i hi
 ·rw [ce (by omega)];exact h.nam.2 i hi
 ·rw [ce (by omega)];exact h.utf.1 c hc
 ·rw [ce (by omega),ce (by omega)];exact h.utf.2 i hi
 ·obtain ⟨m,hm⟩:=h.len
  exact ⟨m,by rw [ce (by omega)];exact hm⟩
structure PT (W:World) (p:Nat) (L:List Wd) (b off cap:Nat) (i:Nat):Prop where
 c0:W.cell? ⟨p,0,none⟩=some (.slice (some ⟨b,off,none⟩) L.length cap)
 c1:W.cell? ⟨p,1,none⟩=some (.int .i64 (i:Int))
 f1:W.frozen? ⟨p,1,none⟩=false
 sw:Sv W L (.slice (some ⟨b,off,none⟩) L.length cap) b off cap
 ne:b≠p
 sd:Std W
 p5:6≤p
theorem PT.lt{W:World}{p:Nat}{L:List Wd}{b off cap i:Nat}(h:PT W p L b off cap i):p<W.heap.size:=World.block_lt_of_cell? W ⟨p,0,none⟩ h.c0
theorem PT.blk{W:World}{p:Nat}{L:List Wd}{b off cap i:Nat}(h:PT W p L b off cap i)(j:Nat)(hj:j<L.length):b<W.heap.size:=World.block_lt_of_cell? W ⟨b,off+j*3,none⟩ (h.sw.k j hj)
theorem PT.on{W W':World}{p:Nat}{L:List Wd}{b off cap i:Nat}(h:PT W p L b off cap i)(q:Q W W'):PT W' p L b off cap i:=
 ⟨(q.cell h.lt).trans h.c0,(q.cell h.lt).trans h.c1,(Below.frozen q (p:=⟨p,1,none⟩) h.lt).trans h.f1,h.sw.on (Qx.of q) h.ne,h.ne,h.sd.on q,h.p5⟩
theorem PT.onx{W W':World}{p r:Nat}{L:List Wd}{b off cap i:Nat}(h:PT W p L b off cap i)(q:Qx r W W')(hp:p≠r)(hb:b≠r)(hr5:6≤r):PT W' p L b off cap i:=
 ⟨(q.cell h.lt hp).trans h.c0,(q.cell h.lt hp).trans h.c1,(World.frozen?_of_block (a:=⟨p,1,none⟩) (q.block p h.lt (fun e=>hp (Option.some.inj e)))).trans h.f1,h.sw.on q hb,h.ne,h.sd.onx q hr5,h.p5⟩
theorem PT.set1{W:World}{p:Nat}{L:List Wd}{b off cap i:Nat}(h:PT W p L b off cap i)(i':Nat)(I:Int)(hI:I=(i':Int)):PT (W.setCell ⟨p,1,none⟩ (.int .i64 I)) p L b off cap i':=by
 subst hI;refine ⟨?_,World.cell?_setCell_same _ _ _ h.c1,?_,h.sw.on ((Qx.refl p _).own _ _) h.ne,h.ne,h.sd.onx ((Qx.refl p _).own _ _) h.p5,h.p5⟩
 ·rw [World.cell?_setCell_other _ _ _ _ (by simp)];exact h.c0
 ·rw [World.frozen?_setCell];exact h.f1
theorem PT.kw{W:World}{p:Nat}{L:List Wd}{b off cap i:Nat}(h:PT W p L b off cap i)(hi:i<L.length):KW W p L.length b off cap i (kAt L i:Int) ⟨(tAt L i).toArray⟩ ((L.getD i ⟨7,[],0⟩).p:Int):=by
 have hg:=kAt_get hi;refine ⟨h.c0,h.c1,?_,?_,?_⟩
 ·rw [hg.1];exact h.sw.k i hi
 ·rw [hg.2];exact h.sw.t i hi
 ·rw [List.getD_eq_getElem?_getD,List.getElem?_eq_getElem hi];exact h.sw.p i hi
theorem word_any(W:World)(p n b off cap i:Nat)(k:Int)(T:ByteArray)(q:Int)(h:KW W p n b off cap i k T q)(hi:i<n)(hn:n≤50000) :
  Calls Tryz.prog 109 #[.pointer (some ⟨p,0,none⟩)] W fun e W'=>e=.returned (.agg #[.int .i64 k,.string T,.int .i64 q])∧Q W W':=by
 have HK:=hid h;clear h;go_enter Tryz.func109,Tryz.ntmps109
 go_wp2_with fail
 go_region_held3 (fun V=>V.cell? ⟨p,0,none⟩=some (.slice (some ⟨b,off,none⟩) n cap)∧V.cell? ⟨p,1,none⟩=some (.int .i64 (i:Int))∧V.cell? ⟨b,off+i*3,none⟩=some (.int .i64 k)∧V.cell? ⟨b,off+i*3+1,none⟩=some (.string T)∧V.cell? ⟨b,off+i*3+2,none⟩=some (.int .i64 q)) (exact HK.out.on (by repeat (first|with_reducible exact Q.refl _|with_reducible refine Q.drewN ?_ _|with_reducible refine Q.drew ?_|with_reducible refine Q.alloc ?_ _|with_reducible refine Q.setCell ?_ (by simp) _))) (fail)
 all_goals go_wp2_with fail
 all_goals refine bodyPost_ret (v:=.agg #[.int .i64 k,.string T,.int .i64 q]) (by simp [results,Tryz.results109,go_sem]) rfl ⟨rfl,?_⟩
 all_goals exact (by repeat (first|with_reducible exact Q.refl _|with_reducible refine Q.drewN ?_ _|with_reducible refine Q.drew ?_|with_reducible refine Q.alloc ?_ _|with_reducible refine Q.setCell ?_ (by simp) _))
theorem fd0(a b c:Value)(w:World):(Instr.field 141 (.agg #[a,b,c]) 0).run Tryz.prog w=.ok a w:=by kernel_rfl
theorem fd1(a b c:Value)(w:World):(Instr.field 141 (.agg #[a,b,c]) 1).run Tryz.prog w=.ok b w:=by kernel_rfl
def sgnL(L:List Wd)(i:Nat):List UInt8:=if kAt L i=6 then tAt L i else []
theorem psign_any(W:World)(p:Nat)(L:List Wd)(b off cap i:Nat)(h:PT W p L b off cap i)(hi:i<L.length)(hr:L.length≤50000) :
  Calls Tryz.prog 143 #[.pointer (some ⟨p,0,none⟩)] W fun e W'=>e=.returned (.string ⟨(sgnL L i).toArray⟩)∧Q W W':=by
 have HW:=hid (fun W1 (g:PT W1 p L b off cap i)=>word_any W1 p L.length b off cap i _ _ _ (g.kw hi) hi hr)
 have HP:=hid h;obtain ⟨T,hT⟩:∃ T:ByteArray,T=⟨(tAt L i).toArray⟩:=⟨_,rfl⟩;rw [←hT]at HW;generalize ((L.getD i ⟨7,[],0⟩).p:Int)=q at HW;have f0:∀ (k:Int) (w:World),(Instr.field 141 (.agg #[.int .i64 k,.string T,.int .i64 q]) 0).run Tryz.prog w=.ok (.int .i64 k) w:=fun k w=>fd0 _ _ _ w
 have f1:∀ (k:Int) (w:World),(Instr.field 141 (.agg #[.int .i64 k,.string T,.int .i64 q]) 1).run Tryz.prog w=.ok (.string T) w:=fun k w=>fd1 _ _ _ w
 have HTT:=hid hT;clear h hT;by_cases hk:kAt L i=6
 ·have HS:Hid (sgnL L i=tAt L i):=by show _=_;unfold sgnL;rw [if_pos hk]
  have e6:((kAt L i:Int) == 6)=true:=by rw [hk];rfl
  have e7:(kAt L i:Int)=6:=by omega
  generalize (kAt L i:Int)=kk at HW e6 e7;generalize sgnL L i=sg at HS ⊢;go_enter Tryz.func143,Tryz.ntmps143
  go_wp2_with (first|(go_at_call 109;refine (HW.out _ P1.out).mono ?_;rintro e w2 ⟨rfl,q2⟩;have Q2:=hid q2;clear q2)|(go_at_call 109;refine (HW.out _ HP.out).mono ?_;rintro e w1 ⟨rfl,q1⟩;have Q1:=hid q1;have P1:=hid (HP.out.on q1);clear q1))
  go_ret
  exact ⟨ret_str (by rw [HTT.out,HS.out]),Q1.out.trans Q2.out⟩
 ·have HS:Hid (sgnL L i=[]):=by show _=_;unfold sgnL;rw [if_neg hk]
  have e6:((kAt L i:Int) == 6)=false:=by rw [beq_eq_false_iff_ne];omega
  have e7:¬ (kAt L i:Int)=6:=by omega
  generalize (kAt L i:Int)=kk at HW e6 e7;generalize sgnL L i=sg at HS ⊢;go_enter Tryz.func143,Tryz.ntmps143
  go_wp2_with (go_at_call 109;refine (HW.out _ HP.out).mono ?_;rintro e w1 ⟨rfl,q1⟩;have Q1:=hid q1;clear q1)
  go_ret
  exact ⟨ret_str (by rw [HS.out]),Q1.out⟩
theorem isW_sgn{L:List Wd}{i:Nat}(hi:i<L.length){s:List UInt8}(hs:s≠[]):isW L i s=decide (sgnL L i=s):=by
 rw [isW_at hi];have hk:=kAt_get hi;unfold sgnL
 rw [←hk.1,←hk.2];by_cases h:kAt L i=6
 ·simp [h]
 ·rw [if_neg h]
  rw [decide_eq_false (fun e=>h e.1),decide_eq_false (fun e=>hs e.symm)]
theorem ptake_any(W:World)(p:Nat)(L:List Wd)(b off cap i:Nat)(s:ByteArray)(h:PT W p L b off cap i)(hi:i<L.length)(hr:L.length≤50000)(hs:s.data.toList≠[]) :
  Calls Tryz.prog 166 #[.pointer (some ⟨p,0,none⟩),.string s] W fun e W'=>e=.returned (.bool (isW L i s.data.toList))∧Qx p W W'∧PT W' p L b off cap (if isW L i s.data.toList then i+1 else i):=by
 have HI:=hid (psign_any W p L b off cap i h hi hr);have HP:=hid h;rw [isW_sgn hi hs];obtain ⟨S,hS,lS⟩:∃ S:ByteArray,⟨(sgnL L i).toArray⟩=S∧S.data.toList=sgnL L i:=⟨_,rfl,rfl⟩;rw [hS]at HI;clear h hS hs;by_cases hw:sgnL L i=s.data.toList
 ·have e7:(S.toList == s.toList)=true:=by rw [toL,toL,lS,hw];exact beq_self_eq_true _
  rw [decide_eq_true hw];clear lS hw;go_enter Tryz.func166,Tryz.ntmps166
  go_wp2_with (go_at_call 143;refine HI.out.mono ?_;rintro e w1 ⟨rfl,q1⟩;have Q1:=hid q1;have HP1:=hid (HP.out.on q1);clear q1;have g1:=HP1.out.c1;have k1:=HP1.out.f1)
  go_ret
  exact ⟨rfl,(Qx.of Q1.out).own _ _,HP1.out.set1 (i+1) _ rfl⟩
 ·have e7:(S.toList == s.toList)=false:=by rw [toL,toL,lS,beq_eq_false_iff_ne];exact hw
  rw [decide_eq_false hw];clear lS hw;go_enter Tryz.func166,Tryz.ntmps166
  go_wp2_with (go_at_call 143;refine HI.out.mono ?_;rintro e w1 ⟨rfl,q1⟩;have Q1:=hid q1;have HP1:=hid (HP.out.on q1);clear q1)
  go_ret
  exact ⟨rfl,Qx.of Q1.out,HP1.out⟩
theorem strength_any(s:ByteArray)(W:World):Calls Tryz.prog 125 #[.string s] W fun e W'=>e=.returned (.int .i64 (lvl s.data.toList:Int))∧W'=W:=by
 have et:=hid (toL s);by_cases h0:s.data.toList=[61]
 ·have f0:(s.toList == [61])=true:=by rw [et.out,h0];rfl
  have HR:Hid (lvl s.data.toList=1):=by show _=_;rw [h0];rfl
  generalize lvl s.data.toList=r at HR ⊢;clear et h0;go_enter Tryz.func125,Tryz.ntmps125
  go_wp2
  go_ret
  exact ⟨ret_int (by rw [HR.out];rfl),rfl⟩
 ·have f0:(s.toList == [61])=false:=by rw [et.out,beq_eq_false_iff_ne];exact h0
  by_cases h1:s.data.toList=[60,62]
  ·have f1:(s.toList == [60,62])=true:=by rw [et.out,h1];rfl
   have HR:Hid (lvl s.data.toList=1):=by show _=_;rw [h1];rfl
   generalize lvl s.data.toList=r at HR ⊢;clear et h0 h1;go_enter Tryz.func125,Tryz.ntmps125
   go_wp2
   go_ret
   exact ⟨ret_int (by rw [HR.out];rfl),rfl⟩
  ·have f1:(s.toList == [60,62])=false:=by rw [et.out,beq_eq_false_iff_ne];exact h1
   by_cases h2:s.data.toList=[60]
   ·have f2:(s.toList == [60])=true:=by rw [et.out,h2];rfl
    have HR:Hid (lvl s.data.toList=1):=by show _=_;rw [h2];rfl
    generalize lvl s.data.toList=r at HR ⊢;clear et h0 h1 h2;go_enter Tryz.func125,Tryz.ntmps125
    go_wp2
    go_ret
    exact ⟨ret_int (by rw [HR.out];rfl),rfl⟩
   ·have f2:(s.toList == [60])=false:=by rw [et.out,beq_eq_false_iff_ne];exact h2
    by_cases h3:s.data.toList=[60,61]
    ·have f3:(s.toList == [60,61])=true:=by rw [et.out,h3];rfl
     have HR:Hid (lvl s.data.toList=1):=by show _=_;rw [h3];rfl
     generalize lvl s.data.toList=r at HR ⊢;clear et h0 h1 h2 h3;go_enter Tryz.func125,Tryz.ntmps125
     go_wp2
     go_ret
     exact ⟨ret_int (by rw [HR.out];rfl),rfl⟩
    ·have f3:(s.toList == [60,61])=false:=by rw [et.out,beq_eq_false_iff_ne];exact h3
     by_cases h4:s.data.toList=[62]
     ·have f4:(s.toList == [62])=true:=by rw [et.out,h4];rfl
      have HR:Hid (lvl s.data.toList=1):=by show _=_;rw [h4];rfl
      generalize lvl s.data.toList=r at HR ⊢;clear et h0 h1 h2 h3 h4;go_enter Tryz.func125,Tryz.ntmps125
      go_wp2
      go_ret
      exact ⟨ret_int (by rw [HR.out];rfl),rfl⟩
     ·have f4:(s.toList == [62])=false:=by rw [et.out,beq_eq_false_iff_ne];exact h4
      by_cases h5:s.data.toList=[62,61]
      ·have f5:(s.toList == [62,61])=true:=by rw [et.out,h5];rfl
       have HR:Hid (lvl s.data.toList=1):=by show _=_;rw [h5];rfl
       generalize lvl s.data.toList=r at HR ⊢;clear et h0 h1 h2 h3 h4 h5;go_enter Tryz.func125,Tryz.ntmps125
       go_wp2
       go_ret
       exact ⟨ret_int (by rw [HR.out];rfl),rfl⟩
      ·have f5:(s.toList == [62,61])=false:=by rw [et.out,beq_eq_false_iff_ne];exact h5
       by_cases h6:s.data.toList=[38]
       ·have f6:(s.toList == [38])=true:=by rw [et.out,h6];rfl
        have HR:Hid (lvl s.data.toList=2):=by show _=_;rw [h6];rfl
        generalize lvl s.data.toList=r at HR ⊢;clear et h0 h1 h2 h3 h4 h5 h6;go_enter Tryz.func125,Tryz.ntmps125
        go_wp2
        go_ret
        exact ⟨ret_int (by rw [HR.out];rfl),rfl⟩
       ·have f6:(s.toList == [38])=false:=by rw [et.out,beq_eq_false_iff_ne];exact h6
        by_cases h7:s.data.toList=[43]
        ·have f7:(s.toList == [43])=true:=by rw [et.out,h7];rfl
         have HR:Hid (lvl s.data.toList=3):=by show _=_;rw [h7];rfl
         generalize lvl s.data.toList=r at HR ⊢;clear et h0 h1 h2 h3 h4 h5 h6 h7;go_enter Tryz.func125,Tryz.ntmps125
         go_wp2
         go_ret
         exact ⟨ret_int (by rw [HR.out];rfl),rfl⟩
        ·have f7:(s.toList == [43])=false:=by rw [et.out,beq_eq_false_iff_ne];exact h7
         by_cases h8:s.data.toList=[45]
         ·have f8:(s.toList == [45])=true:=by rw [et.out,h8];rfl
          have HR:Hid (lvl s.data.toList=3):=by show _=_;rw [h8];rfl
          generalize lvl s.data.toList=r at HR ⊢;clear et h0 h1 h2 h3 h4 h5 h6 h7 h8;go_enter Tryz.func125,Tryz.ntmps125
          go_wp2
          go_ret
          exact ⟨ret_int (by rw [HR.out];rfl),rfl⟩
         ·have f8:(s.toList == [45])=false:=by rw [et.out,beq_eq_false_iff_ne];exact h8
          by_cases h9:s.data.toList=[42]
          ·have f9:(s.toList == [42])=true:=by rw [et.out,h9];rfl
           have HR:Hid (lvl s.data.toList=4):=by show _=_;rw [h9];rfl
           generalize lvl s.data.toList=r at HR ⊢;clear et h0 h1 h2 h3 h4 h5 h6 h7 h8 h9;go_enter Tryz.func125,Tryz.ntmps125
           go_wp2
           go_ret
           exact ⟨ret_int (by rw [HR.out];rfl),rfl⟩
          ·have f9:(s.toList == [42])=false:=by rw [et.out,beq_eq_false_iff_ne];exact h9
           by_cases h10:s.data.toList=[47]
           ·have f10:(s.toList == [47])=true:=by rw [et.out,h10];rfl
            have HR:Hid (lvl s.data.toList=4):=by show _=_;rw [h10];rfl
            generalize lvl s.data.toList=r at HR ⊢;clear et h0 h1 h2 h3 h4 h5 h6 h7 h8 h9 h10;go_enter Tryz.func125,Tryz.ntmps125
            go_wp2
            go_ret
            exact ⟨ret_int (by rw [HR.out];rfl),rfl⟩
           ·have f10:(s.toList == [47])=false:=by rw [et.out,beq_eq_false_iff_ne];exact h10
            have HR:Hid (lvl s.data.toList=0):=by show _=_;unfold lvl;rw [if_neg h0,if_neg h1,if_neg h2,if_neg h3,if_neg h4,if_neg h5,if_neg h6,if_neg h7,if_neg h8,if_neg h9,if_neg h10]
            generalize lvl s.data.toList=r at HR ⊢;clear et h0 h1 h2 h3 h4 h5 h6 h7 h8 h9 h10;go_enter Tryz.func125,Tryz.ntmps125
            go_wp2
            go_ret
            exact ⟨ret_int (by rw [HR.out];rfl),rfl⟩
end Go.Proofs.YtgheopdadfnilaaGreatDoor
namespace Go.Proofs.YtgheopdadfnilaaGreatDoor
theorem pfwd_all(E:Env)(L:List Wd)(hE:Ends L):∀ f:Nat,
  (∀ lv i x j,1≤lv→i<L.length→ptF E L f lv i=some (some (x,j))→i<j∧j<L.length) ∧
  (∀ lv x i y j,1≤lv→i<L.length→ptF.plF E L f lv x i=some (some (y,j))→i≤j∧j<L.length) ∧
  (∀ i x j,i<L.length→ptF.paF E L f i=some (some (x,j))→i<j∧j<L.length) ∧
  (∀ i x j,i<L.length→ptF.pfF E L f i=some (some (x,j))→i<j∧j<L.length) ∧
  (∀ t ks i x j,i<L.length→ptF.pgF E L f t ks i=some (some (x,j))→i<j∧j<L.length):=by
 intro f
 induction f with
 |zero=>
  refine ⟨?_,?_,?_,?_,?_⟩
  ·intro lv i x j _ _ h;unfold ptF at h;cases h
  ·intro lv x i y j _ _ h;unfold ptF.plF at h;cases h
  ·intro i x j _ h;unfold ptF.paF at h;cases h
  ·intro i x j _ h;unfold ptF.pfF at h;cases h
  ·intro t ks i x j _ h;unfold ptF.pgF at h;cases h
 |succ f ih=>
  obtain ⟨iT,iL,iA,iF,iG⟩:=ih;refine ⟨?_,?_,?_,?_,?_⟩
  ·intro lv i x j hv hi h
   rw [ptF]at h;obtain ⟨o,h1,h2⟩:=Option.bind_eq_some_iff.1 h;cases o with
   |none=>cases h2
   |some r=>
    obtain ⟨a1,a2⟩:=iA _ _ _ hi h1;obtain ⟨b1,b2⟩:=iL _ _ _ _ _ hv a2 h2;exact ⟨by omega,b2⟩
  ·intro lv x i y j hv hi h
   rw [ptF.plF]at h
   split at h
   ·obtain ⟨o,h1,h2⟩:=Option.bind_eq_some_iff.1 h
    cases o with
    |none=>cases h2
    |some r=>
     have hn:=hE i hi (by have:=stg_six (L:=L) (i:=i) (by omega);omega)
     obtain ⟨a1,a2⟩:=iT _ _ _ _ (by omega) hn h1
     obtain ⟨b1,b2⟩:=iL _ _ _ _ _ hv a2 h2;exact ⟨by omega,b2⟩
   ·cases h
    exact ⟨Nat.le_refl _,hi⟩
  ·intro i x j hi h
   rw [ptF.paF]at h
   split at h
   ·rename_i hw
    obtain ⟨o,h1,h2⟩:=Option.bind_eq_some_iff.1 h;cases o with
    |none=>cases h2
    |some r=>
     cases h2
     obtain ⟨a1,a2⟩:=iA _ _ _ (hE.sign hw) h1;exact ⟨by omega,a2⟩
   ·exact iF _ _ _ hi h
  ·intro i x j hi h
   rw [ptF.pfF]at h
   split at h
   ·rename_i hw
    obtain ⟨o,h1,h2⟩:=Option.bind_eq_some_iff.1 h;cases o with
    |none=>cases h2
    |some r=>
     obtain ⟨a1,a2⟩:=iT _ _ _ _ (by omega) (hE.sign hw) h1
     simp only at h2
     split at h2
     ·rename_i hw2
      cases h2
      exact ⟨by omega,hE.sign hw2⟩
     ·cases h2
   ·split at h
    ·rename_i hk
     have hn:=hE i hi (by omega)
     split at h
     ·cases h
      exact ⟨by omega,hn⟩
     ·split at h
      ·rename_i hc
       have h2:=hE.sign hc.2
       split at h
       ·rename_i h41
        cases h
        exact ⟨by omega,hE.sign h41⟩
       ·obtain ⟨a1,a2⟩:=iG _ _ _ _ _ h2 h
        exact ⟨by omega,a2⟩
      ·cases h
    ·rename_i hk4
     have ho:poneF E L i=some (x,j):=Option.some.inj h
     unfold poneF at ho
     by_cases k1:kAt L i=1
     ·rw [if_pos k1]at ho
      split at ho
      ·cases ho;exact ⟨by omega,hE i hi (by omega)⟩
      ·cases ho
     ·rw [if_neg k1]at ho
      by_cases k2:kAt L i=2
      ·rw [if_pos k2]at ho;cases ho;exact ⟨by omega,hE i hi (by omega)⟩
      ·rw [if_neg k2]at ho
       by_cases k5:kAt L i=5
       ·rw [if_pos k5]at ho;cases ho;exact ⟨by omega,hE i hi (by omega)⟩
       ·rw [if_neg k5]at ho
        by_cases k3:kAt L i=3
        ·rw [if_pos k3]at ho
         split at ho
         ·cases ho
         ·split at ho
          ·rename_i hw
           have h2:=hE.sign hw
           split at ho
           ·rename_i hr
            cases ho
            exact ⟨by omega,hE (i+2) h2 (by rw [hr.1];decide)⟩
           ·cases ho
          ·cases ho;exact ⟨by omega,hE i hi (by omega)⟩
        ·rw [if_neg k3]at ho;cases ho
  ·intro t ks i x j hi h
   rw [ptF.pgF]at h
   split at h
   ·obtain ⟨o,h1,h2⟩:=Option.bind_eq_some_iff.1 h
    cases o with
    |none=>cases h2
    |some r=>
     obtain ⟨a1,a2⟩:=iT _ _ _ _ (by omega) hi h1
     simp only at h2
     split at h2
     ·rename_i hw
      obtain ⟨b1,b2⟩:=iG _ _ _ _ _ (hE.sign hw) h2;exact ⟨by omega,b2⟩
     ·split at h2
      ·rename_i hw2
       cases h2
       exact ⟨by omega,hE.sign hw2⟩
      ·cases h2
   ·cases h
end Go.Proofs.YtgheopdadfnilaaGreatDoor
namespace Go.Proofs.YtgheopdadfnilaaGreatDoor
open Go.RowKit
def RepP(p:Nat)(L:List Wd)(b off cap:Nat)(W:World)(o:Option (Ex × Nat))(e:Ending)(W':World):Prop:=
 ∃ (k m:Int) (t:ByteArray) (bb:Bool) (er:Int) (a1:Option Addr) (l1 c1:Nat) (a2:Option Addr) (l2 c2:Nat),e=.returned (.tuple #[.agg #[.int .i64 k,.int .i64 m,.string t,.bool bb,.int .i64 er,.slice a1 l1 c1,.slice a2 l2 c2],.bool o.isSome])∧Qx p W W'∧(∀ x j,o=some (x,j)→Rdg (fun b=>W.heap.size≤b) W' x (.agg #[.int .i64 k,.int .i64 m,.string t,.bool bb,.int .i64 er,.slice a1 l1 c1,.slice a2 l2 c2])∧PT W' p L b off cap j)
theorem finP{p:Nat}{L:List Wd}{b off cap:Nat}{W w3:World}(o:Option (Ex × Nat))(k m:Int)(t:ByteArray)(bb:Bool)(er:Int)(a1:Option Addr)(l1 c1:Nat)(a2:Option Addr)(l2 c2:Nat)(hp:p<W.heap.size)(hb:b<W.heap.size)(hq:Qx p W w3)(hr:∀ x j,o=some (x,j)→Rdg (fun b=>W.heap.size+1≤b) w3 x (.agg #[.int .i64 k,.int .i64 m,.string t,.bool bb,.int .i64 er,.slice a1 l1 c1,.slice a2 l2 c2])∧PT w3 p L b off cap j) :
  RepP p L b off cap W o (.returned (.tuple #[.agg #[.int .i64 k,.int .i64 m,.string t,.bool bb,.int .i64 er,.slice a1 l1 c1,.slice a2 l2 c2],.bool o.isSome])) (((((((w3.setCell ⟨W.heap.size,0,none⟩ (.int .i64 k)).setCell ⟨W.heap.size,1,none⟩ (.int .i64 m)).setCell ⟨W.heap.size,2,none⟩ (.string t)).setCell ⟨W.heap.size,3,none⟩ (.bool bb)).setCell ⟨W.heap.size,4,none⟩ (.int .i64 er)).setCell ⟨W.heap.size,5,none⟩ (.slice a1 l1 c1)).setCell ⟨W.heap.size,6,none⟩ (.slice a2 l2 c2)):=by
 have QF:Qx W.heap.size w3 (((((((w3.setCell ⟨W.heap.size,0,none⟩ (.int .i64 k)).setCell ⟨W.heap.size,1,none⟩ (.int .i64 m)).setCell ⟨W.heap.size,2,none⟩ (.string t)).setCell ⟨W.heap.size,3,none⟩ (.bool bb)).setCell ⟨W.heap.size,4,none⟩ (.int .i64 er)).setCell ⟨W.heap.size,5,none⟩ (.slice a1 l1 c1)).setCell ⟨W.heap.size,6,none⟩ (.slice a2 l2 c2)):=(((((((Qx.refl _ _).own _ _).own _ _).own _ _).own _ _).own _ _).own _ _).own _ _
 refine ⟨k,m,t,bb,er,a1,l1,c1,a2,l2,c2,rfl,?_,fun x j e=>?_⟩
 ·exact ((((((hq.new (Nat.le_refl _) _ _).new (Nat.le_refl _) _ _).new (Nat.le_refl _) _ _).new (Nat.le_refl _) _ _).new (Nat.le_refl _) _ _).new (Nat.le_refl _) _ _).new (Nat.le_refl _) _ _
 ·obtain ⟨h1,h2⟩:=hr x j e
  exact ⟨Rdg.mono (fun b hb=>by omega) _ _ (Rdg.on QF (fun b hb=>by omega) _ _ h1),h2.onx QF (by omega) (by omega) (by have:=h2.p5;omega)⟩
theorem RepP.in{p:Nat}{L:List Wd}{b off cap:Nat}{W W':World}{o:Option (Ex × Nat)}{e:Ending}(h:RepP p L b off cap W o e W'):∃ (k m:Int) (t:ByteArray) (bb:Bool) (er:Int) (a1:Option Addr) (l1 c1:Nat) (a2:Option Addr) (l2 c2:Nat),e=.returned (.tuple #[.agg #[.int .i64 k,.int .i64 m,.string t,.bool bb,.int .i64 er,.slice a1 l1 c1,.slice a2 l2 c2],.bool o.isSome])∧Qx p W W'∧(∀ x j,o=some (x,j)→Rdg (fun b=>W.heap.size≤b) W' x (.agg #[.int .i64 k,.int .i64 m,.string t,.bool bb,.int .i64 er,.slice a1 l1 c1,.slice a2 l2 c2])∧PT W' p L b off cap j):=h
theorem pahead_no(L:List Wd)(p b off cap i:Nat)(W:World)(h:PT W p L b off cap i)(hi:i<L.length)(hr:L.length≤50000)(hw:isW L i [45]=false)(o:Option (Ex × Nat))(HT:Hid (∀ W1,PT W1 p L b off cap i→Calls Tryz.prog 167 #[.pointer (some ⟨p,0,none⟩)] W1 fun e W'=>RepP p L b off cap W1 o e W')) :
  Calls Tryz.prog 142 #[.pointer (some ⟨p,0,none⟩)] W fun e W'=>RepP p L b off cap W o e W':=by
 have hlt:=h.lt;have hbW:=h.blk i hi;have HP:=hid h;have HZ:=hid (tb_new W (.int .i64 0) (.int .i64 0) (.string ⟨#[]⟩) (.bool false) (.int .i64 0) (.slice none 0 0) (.slice none 0 0) 26);have hc:=hid (fun W1 (g:PT W1 p L b off cap i)=>ptake_any W1 p L b off cap i ⟨#[45]⟩ g hi hr (by simp))
 rw [show (⟨#[45]⟩:ByteArray).data.toList=[45] from rfl,hw]at hc
 clear h;go_enter Tryz.func142,Tryz.ntmps142
 go_wp2_with (first|(go_at_call 166;refine (hc.out _ (HP.out.on (by repeat (first|with_reducible exact Q.refl _|with_reducible refine Q.drewN ?_ _|with_reducible refine Q.drew ?_|with_reducible refine Q.alloc ?_ _|with_reducible refine Q.setCell ?_ (by simp) _)))).mono ?_;rintro e w1 ⟨rfl,q1,p1⟩;have Q1:Hid (Qx p W w1):=hid (Qx.trans (by repeat (first|with_reducible exact Qx.refl _ _|with_reducible refine Qx.drewN ?_ _|with_reducible refine Qx.drew ?_|with_reducible refine Qx.alloc ?_ _|with_reducible refine Qx.own ?_ _ _|with_reducible refine Qx.new ?_ (by simp) _ _)) q1);have P1:=hid p1;have Z1:=hid (HZ.out.on q1 (by omega));have hsw:W.heap.size<w1.heap.size:=World.block_lt_of_cell? w1 ⟨W.heap.size,0,none⟩ Z1.out.g0;clear q1 p1)|(go_at_call 167;refine (HT.out _ P1.out).mono ?_;rintro e w2 h2;obtain ⟨k,m,t,bb,er,a1,l1,c1,a2,l2,c2,rfl,q2,r2⟩:=h2.in;have Q2:=hid q2;have R2:=hid r2;clear h2 q2 r2;have Z2:=hid (Z1.out.on Q2.out (by omega));have d0:=Z2.out.g0;have d1:=Z2.out.g1;have d2:=Z2.out.g2;have d3:=Z2.out.g3;have d4:=Z2.out.g4;have d5:=Z2.out.g5;have d6:=Z2.out.g6;have y0:=Z2.out.f 0;have y1:=Z2.out.f 1;have y2:=Z2.out.f 2;have y3:=Z2.out.f 3;have y4:=Z2.out.f 4;have y5:=Z2.out.f 5;have y6:=Z2.out.f 6))
 refine bodyPost_ret (v:=.tuple #[.agg #[.int .i64 k,.int .i64 m,.string t,.bool bb,.int .i64 er,.slice a1 l1 c1,.slice a2 l2 c2],.bool o.isSome]) (by simp [results,Tryz.results142,go_sem,d0,d1,d2,d3,d4,d5,d6]) rfl ?_
 exact finP o k m t bb er a1 l1 c1 a2 l2 c2 hlt hbW (Q1.out.trans Q2.out) (fun x j e=>⟨Rdg.mono (fun b hb=>by omega) _ _ (R2.out x j e).1,(R2.out x j e).2⟩)
end Go.Proofs.YtgheopdadfnilaaGreatDoor
