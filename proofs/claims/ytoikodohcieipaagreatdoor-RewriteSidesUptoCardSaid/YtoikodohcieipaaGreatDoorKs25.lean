/- ref.word of letters and digits. -/
import Derived.Test.YtoikodohcieipaaGreatDoorKs06
import Derived.Test.YtoikodohcieipaaGreatDoorKs05
import Derived.Test.YtoikodohcieipaaGreatDoorKs00
import Derived.Test.YtoikodohcieipaaGreatDoorKs24
import Derived.Test.YtoikodohcieipaaGreatDoorKs18
import Derived.Deep.RegionHeld3
import Derived.Test.YtoikodohcieipaaGreatDoorKs23
import Derived.BigQuiet
set_option linter.unusedVariables false
set_option linter.unusedSimpArgs false
set_option maxRecDepth 100000
set_option maxHeartbeats 8000000
namespace Go.Proofs.YtoikodohcieipaaGreatDoor
open Go.RowKit
def rwv(q:Nat × List UInt8 × Nat)(i:Nat):Value:=.tuple #[.agg #[.int .i64 (q.1:Int),.string ⟨q.2.1.toArray⟩,.int .i64 (if q.2.2=0 then 0 else (i:Int))],.int .i64 (q.2.2:Int)]
theorem ret_rw{q:Nat × List UInt8 × Nat}{i a n:Nat}{k m:Int}{s:ByteArray}{l:List UInt8}(h:q=(a,l,n))(hn:n≠0)(hk:k=(a:Int))(hs:s.data.toList=l)(hm:m=(n:Int)) :
  Ending.returned (.tuple #[.agg #[.int .i64 k,.string s,.int .i64 (i:Int)],.int .i64 m])=.returned (rwv q i):=by
 subst h hk hm hs;unfold rwv
 simp only [if_neg hn]
theorem ret_rbad{q:Nat × List UInt8 × Nat}{i:Nat}(h:q=bad) :
  Ending.returned (.tuple #[.agg #[.int .i64 0,.string ⟨#[]⟩,.int .i64 0],.int .i64 0])=.returned (rwv q i):=by
 subst h
 rfl
structure WB (w W:World):Prop where
 q:Q w W
 lt:w.heap.size<W.heap.size
 c0:W.cell? ⟨w.heap.size,0,none⟩=some (.int .i64 0)
 c1:W.cell? ⟨w.heap.size,1,none⟩=some (.string ⟨#[]⟩)
 c2:W.cell? ⟨w.heap.size,2,none⟩=some (.int .i64 0)
 f0:W.frozen? ⟨w.heap.size,0,none⟩=false
 f1:W.frozen? ⟨w.heap.size,1,none⟩=false
 f2:W.frozen? ⟨w.heap.size,2,none⟩=false
theorem WB.start(w:World):WB w (w.alloc (.cells #[.int .i64 0,.string ⟨#[]⟩,.int .i64 0] 78)):=by
 refine ⟨(Q.refl _).alloc _,by simp,?_,?_,?_,?_,?_,?_⟩
 all_goals simp [World.cell?_alloc_new,World.frozen?_alloc_new]
theorem WB.on{w W W':World}(h:WB w W)(q:Q W W'):WB w W':=
 ⟨h.q.trans q,q.lt h.lt,(q.cell h.lt).trans h.c0,(q.cell h.lt).trans h.c1,(q.cell h.lt).trans h.c2,
  (Below.frozen q (p:=⟨w.heap.size,0,none⟩) h.lt).trans h.f0,(Below.frozen q (p:=⟨w.heap.size,1,none⟩) h.lt).trans h.f1,(Below.frozen q (p:=⟨w.heap.size,2,none⟩) h.lt).trans h.f2⟩
structure RunAt (s:ByteArray) (i M:Nat) (T:ByteArray):Prop where
 lo:i<M
 le:M≤s.size
 eT:s.extract i M=T
 lT:T.data.toList=(s.data.toList.drop i).takeWhile joinB
 zT:T.size=M-i
 yes:∀ k (h:k<s.size),i≤k→k<M→joinB s[k]=true
 no:∀ (h:M<s.size),joinB s[M]=false
 beh:(s.data.toList.drop i).dropWhile joinB=s.data.toList.drop M
theorem run_at(s:ByteArray)(i:Nat)(h:i<s.size)(hj:joinB s[i]=true):∃ M T,RunAt s i M T∧M=i+((s.data.toList.drop i).takeWhile joinB).length:=by
 have hl:=tw_len (s.data.toList.drop i) joinB;rw [List.length_drop,len_data]at hl;have h1:0<((s.data.toList.drop i).takeWhile joinB).length:=by
  rw [drop_cons s i h,List.takeWhile_cons,if_pos hj];simp
 refine ⟨_,_,⟨by omega,by omega,rfl,?_,by simp;omega,fun k hk h2 h3=>?_,fun hk=>?_,?_⟩,rfl⟩
 ·rw [Lib.extract_data]
  simp only [Nat.add_sub_cancel_left]
  exact tw_take _ _
 ·have:=tw_in (s.data.toList.drop i) joinB (k-i) (by omega) (by rw [List.length_drop,len_data];omega)
  rw [List.getElem_drop]at this;have e:i+(k-i)=k:=by omega
  simp only [e]at this
  exact this
 ·have:=tw_out (s.data.toList.drop i) joinB (by rw [List.length_drop,len_data];omega)
  rw [List.getElem_drop]at this;exact this
 ·rw [←tw_drop,List.drop_drop]
theorem pk_pos{t:List UInt8}(h:Lib.hasPrefix t [45]=false):0≤V.pk (V.parseO t):=by
 unfold V.parseO
 rw [h]
 split
 ·unfold V.pk V.keep
  simp only
  split
  ·unfold V.sgn
   simp
  ·exact Int.le_refl _
 ·exact Int.le_refl _
theorem no_minus(T:ByteArray)(hp:0<T.size)(h:T[0]≠45):Lib.hasPrefix T.data.toList [45]=false:=by
 have:=headD_get T hp
 cases hl:T.data.toList with
 |nil=>rfl
 |cons c r=>
  rw [hl]at this;simp only [List.headD_cons]at this
  rw [←this]at h;rw [Bool.eq_false_iff];intro hx
  unfold Lib.hasPrefix at hx
  rw [List.isPrefixOf_iff_prefix,List.cons_prefix_cons]at hx;exact h hx.1.symm
theorem rword_num(s T:ByteArray)(i M:Nat)(w:World)(hs:s.size≤100000)(hi:i<s.size)(hr:RunAt s i M T)(hj:joinB s[i]=true)
  (hT0:0<T.size) (pn:Int) (HP:Hid (∀ W,Calls Tryz.prog 82 #[.string T] W fun e w'=>e=.returned (.tuple #[.int .i64 pn,.bool true])∧Q W w')) (pn0:0≤pn) (h45:((T[0].toNat:Int) == 45)=false)
  (HF:Hid (wordF (s.data.toList.drop i)=(1,T.data.toList,M-i))) :
  Calls Tryz.prog 64 #[.string s,.int .i64 (i:Int)] w fun e w'=>e=.returned (rwv (wordF (s.data.toList.drop i)) i)∧Q w w':=by
 obtain ⟨lo,le,eT,lT,zT,yes,no,beh⟩:=hr;have HY:=hid yes;have HN:=hid no;have HJ0:=hid (fun W=>solid_any s[i] W)
 rw [hj]at HJ0;have JJ:=hid (WB.start w);clear yes no lT beh hj;have hMi:(i:Int)≤(M:Int):=by omega
 have hMs:(M:Int)≤(s.size:Int):=by omega
 generalize wordF (s.data.toList.drop i)=wf at HF ⊢;go_enter Tryz.func64,Tryz.ntmps64
 go_wp2_with (go_at_call 81;refine (HJ0.out _).mono ?_;rintro e w9 ⟨rfl,h9⟩;replace h9:=h9.symm;subst h9)
 go_loop [6] (fun x=>∃ k:Nat,i≤k∧k≤M∧x=.int .i64 (k:Int)) (fun x=>s.size-(intOf x).toNat)
 case atStart=>exact ⟨i,by omega,by omega,rfl⟩
 case round=>
  obtain ⟨k,hk0,hk,rfl⟩:=hrel;by_cases hlt:k<M
  ·have hks:k<s.size:=by omega
   have HJ:=hid (fun W=>solid_any s[k] W)
   rw [HY.out k hks hk0 hlt]at HJ;go_wp2_with (go_at_call 81;refine (HJ.out _).mono ?_;rintro e w9 ⟨rfl,h9⟩;replace h9:=h9.symm;subst h9)
   go_round
   case rel=>exact ⟨k+1,by omega,by omega,by go_num⟩
   case measure=>simp [intOf];omega
  ·have e:k=M:=by omega
   subst e;clear hk hlt;by_cases hend:k<s.size
   ·have HJ:=hid (fun W=>solid_any s[k] W)
    rw [HN.out hend]at HJ;go_wp2_with (first|(go_at_call 81;refine (HJ.out _).mono ?_;rintro e w9 ⟨rfl,h9⟩;replace h9:=h9.symm;subst h9)|(go_at_call 82;refine (HP.out _).mono ?_;rintro e w1 ⟨rfl,q1⟩;have J1:=hid (JJ.out.on q1);clear q1;have d0:=J1.out.c0;have d1:=J1.out.c1;have d2:=J1.out.c2;have g0:=J1.out.f0;have g1:=J1.out.f1;have g2:=J1.out.f2))
    refine bodyPost_ret (v:=.tuple #[.agg #[.int .i64 1,.string T,.int .i64 (i:Int)],.int .i64 ((k:Int)-(i:Int))]) (by simp [results,Tryz.results64,go_sem,d0,d1,d2,g0,g1,g2]) rfl ⟨ret_rw HF.out (by omega) rfl rfl (by omega),?_⟩
    repeat' (first|with_reducible exact J1.out.q|with_reducible refine Q.setCell ?_ (Nat.le_refl _) _|with_reducible refine Q.drewN ?_ _|with_reducible refine Q.drew ?_|with_reducible refine Q.alloc ?_ _)
   ·go_wp2_with (first|(go_at_call 82;refine (HP.out _).mono ?_;rintro e w1 ⟨rfl,q1⟩;have J1:=hid (JJ.out.on q1);clear q1;have d0:=J1.out.c0;have d1:=J1.out.c1;have d2:=J1.out.c2;have g0:=J1.out.f0;have g1:=J1.out.f1;have g2:=J1.out.f2))
    refine bodyPost_ret (v:=.tuple #[.agg #[.int .i64 1,.string T,.int .i64 (i:Int)],.int .i64 ((k:Int)-(i:Int))]) (by simp [results,Tryz.results64,go_sem,d0,d1,d2,g0,g1,g2]) rfl ⟨ret_rw HF.out (by omega) rfl rfl (by omega),?_⟩
    repeat' (first|with_reducible exact J1.out.q|with_reducible refine Q.setCell ?_ (Nat.le_refl _) _|with_reducible refine Q.drewN ?_ _|with_reducible refine Q.drew ?_|with_reducible refine Q.alloc ?_ _)
def errN(t:List UInt8):Nat:=if t=enL 1 then 1 else if t=enL 2 then 2 else if t=enL 3 then 3 else if t=enL 4 then 4 else if t=enL 5 then 5 else if t=enL 6 then 6 else if t=enL 7 then 7 else 0
def namF(t:List UInt8):Bool:=decide (0<t.length)&&(decide (t.length≤20)&&(decide (¬ (t=truW∨t=flsW))&&t.all let1))
def EE:Env:={ num:=fun t=>V.pk (V.parseO t),nok:=fun t=>V.pf (V.parseO t),ref:=refT,rok:=refF,err:=errN,nam:=namF }
def KW(W:World)(p n b off cap i:Nat)(k:Int)(T:ByteArray)(q:Int):Prop:=W.cell? ⟨p,0,none⟩=some (.slice (some ⟨b,off,none⟩) n cap)∧W.cell? ⟨p,1,none⟩=some (.int .i64 (i:Int))∧W.cell? ⟨b,off+i*3,none⟩=some (.int .i64 k)∧W.cell? ⟨b,off+i*3+1,none⟩=some (.string T)∧W.cell? ⟨b,off+i*3+2,none⟩=some (.int .i64 q)
theorem KW.on{W W':World}{p n b off cap i:Nat}{k:Int}{T:ByteArray}{q:Int}(h:KW W p n b off cap i k T q)(x:Q W W'):KW W' p n b off cap i k T q:=
 ⟨(x.cell (World.block_lt_of_cell? W ⟨p,0,none⟩ h.1)).trans h.1,(x.cell (World.block_lt_of_cell? W ⟨p,1,none⟩ h.2.1)).trans h.2.1,(x.cell (World.block_lt_of_cell? W ⟨b,off+i*3,none⟩ h.2.2.1)).trans h.2.2.1,(x.cell (World.block_lt_of_cell? W ⟨b,off+i*3+1,none⟩ h.2.2.2.1)).trans h.2.2.2.1,(x.cell (World.block_lt_of_cell? W ⟨b,off+i*3+2,none⟩ h.2.2.2.2)).trans h.2.2.2.2⟩
theorem PS.kw{W:World}{p:Nat}{L:List Wd}{b off cap i:Nat}{bd:Bool}{n:Nat}(h:PS W p L b off cap i bd n)(hi:i<L.length):∃ (T:ByteArray) (q:Int),T.data.toList=tAt L i∧KW W p L.length b off cap i (kAt L i:Int) T q:=by
 have hk:=kAt_get hi;refine ⟨⟨L[i].t.toArray⟩,(L[i].p:Int),hk.2.symm,h.c0,h.c1,?_,h.sw.t i hi,h.sw.p i hi⟩
 rw [hk.1];exact h.sw.k i hi
structure Wb (W:World) (q:Nat) (c0 c1 c2:Value):Prop where
 g0:W.cell? ⟨q,0,none⟩=some c0
 g1:W.cell? ⟨q,1,none⟩=some c1
 g2:W.cell? ⟨q,2,none⟩=some c2
theorem wb_new(W:World)(c0 c1 c2:Value)(t:TypeId):Wb (W.alloc (.cells #[c0,c1,c2] t)) W.heap.size c0 c1 c2:=by
 refine ⟨?_,?_,?_⟩
 all_goals simp [World.cell?_alloc_new]
theorem Wb.on{p:Nat}{W W':World}{q:Nat}{c0 c1 c2:Value}(h:Wb W q c0 c1 c2)(x:Qx p W W')(hq:q≠p):Wb W' q c0 c1 c2:=by
 have hl:q<W.heap.size:=World.block_lt_of_cell? W ⟨q,0,none⟩ h.g0
 exact ⟨(x.cell hl hq).trans h.g0,(x.cell hl hq).trans h.g1,(x.cell hl hq).trans h.g2⟩
theorem rdg_leaf{g:Nat→Prop}{W:World}(k n:Int)(t:List UInt8)(T:ByteArray)(hT:T.data.toList=t)(b:Bool)(e:Int):Rdg g W (.mk k n t b e [] []) (.agg #[.int .i64 k,.int .i64 n,.string T,.bool b,.int .i64 e,.slice none 0 0,.slice none 0 0]):=by
 have e':T=⟨t.toArray⟩:=bytes_eq hT
 subst e';unfold Rdg
 exact ⟨_,_,rfl,⟨none,0,rfl,Nat.le_refl _,Nat.zero_le _,fun h=>absurd h (by simp)⟩,none,0,rfl,Nat.le_refl _,Nat.zero_le _,fun h=>absurd rfl h⟩
theorem first_text(L:List Wd)(p b off cap:Nat)(s:St)(W:World)(h:PS W p L b off cap s.i s.bd s.n)(hi:s.i<L.length)(hr:L.length≤50000)(hn:s.n≤s.i)(hw:isW L s.i [40]=false)(hk:kAt L s.i=2) :
  Calls Tryz.prog 86 #[.pointer (some ⟨p,0,none⟩)] W fun e W'=>Rep p L b off cap W (textE (tAt L s.i),s.on.node) e W':=by
 have hlt:=h.lt;have hbW:=h.blk hi;obtain ⟨T,q,hT,kw⟩:=h.kw hi;have HTT:=hid hT;have HK:=hid kw;rw [hk]at HK;have HP:=hid h;have hroom:(s.i:Int)+1≤9223372036854775807:=by omega
 have HZ:=hid ((tb_new W (.int .i64 0) (.int .i64 0) (.string ⟨#[]⟩) (.bool false) (.int .i64 0) (.slice none 0 0) (.slice none 0 0) 26).on (((Qx.refl p _).alloc (.cells #[.int .i64 2,.string T,.int .i64 q] 78)).drew) (by omega))
 have HB:=hid ((wb_new (W.alloc (.cells #[.int .i64 0,.int .i64 0,.string ⟨#[]⟩,.bool false,.int .i64 0,.slice none 0 0,.slice none 0 0] 26)) (.int .i64 2) (.string T) (.int .i64 q) 78).on ((Qx.refl p _).drew) (by simp;omega))
 rw [show (W.alloc (.cells #[.int .i64 0,.int .i64 0,.string ⟨#[]⟩,.bool false,.int .i64 0,.slice none 0 0,.slice none 0 0] 26)).heap.size=W.heap.size+1 by simp]at HB
 have hc:=hid (fun W1 (g:PS W1 p L b off cap s.i s.bd s.n)=>take_any W1 p L b off cap s.i s.bd s.n ⟨#[40]⟩ g hi)
 rw [show (⟨#[40]⟩:ByteArray).data.toList=[40] from rfl,hw]at hc
 clear h kw hT;go_enter Tryz.func86,Tryz.ntmps86
 go_wp2_with fail
 go_region_held3 (fun V=>V.cell? ⟨p,0,none⟩=some (.slice (some ⟨b,off,none⟩) L.length cap)∧V.cell? ⟨p,1,none⟩=some (.int .i64 (s.i:Int))∧V.cell? ⟨b,off+s.i*3,none⟩=some (.int .i64 2)∧V.cell? ⟨b,off+s.i*3+1,none⟩=some (.string T)∧V.cell? ⟨b,off+s.i*3+2,none⟩=some (.int .i64 q)) (exact HK.out.on (by repeat (first|exact Q.refl _|refine Q.drewN ?_ _|refine Q.drew ?_|refine Q.alloc ?_ _|refine Q.setCell ?_ (by simp) _))) (fail)
 go_wp2_with (first|(go_at_call 85;refine (hc.out _ (HP.out.on (by repeat (first|exact Q.refl _|refine Q.drewN ?_ _|refine Q.drew ?_|refine Q.alloc ?_ _|refine Q.setCell ?_ (by simp) _)))).mono ?_;rintro e w1 ⟨rfl,q1,p1⟩;have Q1:Hid (Qx p W w1):=hid (Qx.trans (by repeat (first|with_reducible exact Qx.refl _ _|with_reducible refine Qx.drewN ?_ _|with_reducible refine Qx.drew ?_|with_reducible refine Qx.alloc ?_ _|with_reducible refine Qx.own ?_ _ _|with_reducible refine Qx.new ?_ (by simp) _ _)) q1);have P1:=hid p1;have Z1:=hid (HZ.out.on q1 (by omega));have B1:=hid (HB.out.on q1 (by omega));clear q1 p1;have x1:=P1.out.c1;have z1:=P1.out.f1;have b0:=B1.out.g0;have b1:=B1.out.g1;have b2:=B1.out.g2)|(go_at_call 66;refine (node_any _ p L b off cap _ _ _ (P1.out.set1 (s.i+1) _ (by go_num)) (by omega) 2 0 T false 0 none 0 0 none 0 0).mono ?_;rintro e w3 ⟨rfl,q3,p3⟩;have Q3:Hid (Qx p w1 w3):=hid (Qx.trans (by repeat (first|with_reducible exact Qx.refl _ _|with_reducible refine Qx.drewN ?_ _|with_reducible refine Qx.drew ?_|with_reducible refine Qx.alloc ?_ _|with_reducible refine Qx.own ?_ _ _|with_reducible refine Qx.new ?_ (by simp) _ _)) q3);have P3:=hid p3;have Z3:=hid (Z1.out.on Q3.out (by omega));clear q3 p3;have d0:=Z3.out.g0;have d1:=Z3.out.g1;have d2:=Z3.out.g2;have d3:=Z3.out.g3;have d4:=Z3.out.g4;have d5:=Z3.out.g5;have d6:=Z3.out.g6;have y0:=Z3.out.f 0;have y1:=Z3.out.f 1;have y2:=Z3.out.f 2;have y3:=Z3.out.f 3;have y4:=Z3.out.f 4;have y5:=Z3.out.f 5;have y6:=Z3.out.f 6))
 refine bodyPost_ret (v:=.agg #[.int .i64 2,.int .i64 0,.string T,.bool false,.int .i64 0,.slice none 0 0,.slice none 0 0]) (by simp [results,Tryz.results86,go_sem,d0,d1,d2,d3,d4,d5,d6]) rfl ?_
 exact fin7 2 0 T false 0 none 0 0 none 0 0 hlt hbW (Q1.out.trans Q3.out) (rdg_leaf 2 0 (tAt L s.i) T HTT.out false 0) P3.out
theorem first_num(L:List Wd)(p b off cap:Nat)(s:St)(W:World)(h:PS W p L b off cap s.i s.bd s.n)(hi:s.i<L.length)(hr:L.length≤50000)(hn:s.n≤s.i)(hw:isW L s.i [40]=false)(hk:kAt L s.i=1)(hz:∀ i,(tAt L i).length≤1000) :
  Calls Tryz.prog 86 #[.pointer (some ⟨p,0,none⟩)] W fun e W'=>Rep p L b off cap W (numE (EE.num (tAt L s.i)),s.on.node) e W':=by
 have hlt:=h.lt;have hbW:=h.blk hi;obtain ⟨T,q,hT,kw⟩:=h.kw hi;have HTT:=hid hT;have HK:=hid kw;rw [hk]at HK;have HN:=hid (fun W1=>V.rparse_any T W1 (by have:=hz s.i;rw [←hT]at this;simp at this;omega))
 have HP:=hid h;have hroom:(s.i:Int)+1≤9223372036854775807:=by omega
 have HZ:=hid ((tb_new W (.int .i64 0) (.int .i64 0) (.string ⟨#[]⟩) (.bool false) (.int .i64 0) (.slice none 0 0) (.slice none 0 0) 26).on (((Qx.refl p _).alloc (.cells #[.int .i64 1,.string T,.int .i64 q] 78)).drew) (by omega))
 have HB:=hid ((wb_new (W.alloc (.cells #[.int .i64 0,.int .i64 0,.string ⟨#[]⟩,.bool false,.int .i64 0,.slice none 0 0,.slice none 0 0] 26)) (.int .i64 1) (.string T) (.int .i64 q) 78).on ((Qx.refl p _).drew) (by simp;omega))
 rw [show (W.alloc (.cells #[.int .i64 0,.int .i64 0,.string ⟨#[]⟩,.bool false,.int .i64 0,.slice none 0 0,.slice none 0 0] 26)).heap.size=W.heap.size+1 by simp]at HB
 have hc:=hid (fun W1 (g:PS W1 p L b off cap s.i s.bd s.n)=>take_any W1 p L b off cap s.i s.bd s.n ⟨#[40]⟩ g hi)
 rw [show (⟨#[40]⟩:ByteArray).data.toList=[40] from rfl,hw]at hc
 clear h kw hT;go_enter Tryz.func86,Tryz.ntmps86
 go_wp2_with fail
 go_region_held3 (fun V=>V.cell? ⟨p,0,none⟩=some (.slice (some ⟨b,off,none⟩) L.length cap)∧V.cell? ⟨p,1,none⟩=some (.int .i64 (s.i:Int))∧V.cell? ⟨b,off+s.i*3,none⟩=some (.int .i64 1)∧V.cell? ⟨b,off+s.i*3+1,none⟩=some (.string T)∧V.cell? ⟨b,off+s.i*3+2,none⟩=some (.int .i64 q)) (exact HK.out.on (by repeat (first|exact Q.refl _|refine Q.drewN ?_ _|refine Q.drew ?_|refine Q.alloc ?_ _|refine Q.setCell ?_ (by simp) _))) (fail)
 go_wp2_with (first|(go_at_call 85;refine (hc.out _ (HP.out.on (by repeat (first|exact Q.refl _|refine Q.drewN ?_ _|refine Q.drew ?_|refine Q.alloc ?_ _|refine Q.setCell ?_ (by simp) _)))).mono ?_;rintro e w1 ⟨rfl,q1,p1⟩;have Q1:Hid (Qx p W w1):=hid (Qx.trans (by repeat (first|with_reducible exact Qx.refl _ _|with_reducible refine Qx.drewN ?_ _|with_reducible refine Qx.drew ?_|with_reducible refine Qx.alloc ?_ _|with_reducible refine Qx.own ?_ _ _|with_reducible refine Qx.new ?_ (by simp) _ _)) q1);have P1:=hid p1;have Z1:=hid (HZ.out.on q1 (by omega));have B1:=hid (HB.out.on q1 (by omega));clear q1 p1;have x1:=P1.out.c1;have z1:=P1.out.f1;have b0:=B1.out.g0;have b1:=B1.out.g1;have b2:=B1.out.g2)|(go_at_call 82;refine (HN.out _).mono ?_;rintro e w2 ⟨h2,q2⟩;unfold V.RP at h2;subst h2;have Q2:=hid q2;clear q2)|(go_at_call 66;refine (node_any _ p L b off cap _ _ _ ((P1.out.set1 (s.i+1) _ (by go_num)).on Q2.out) (by omega) 1 (V.pk (V.parseO T.data.toList)) ⟨#[]⟩ false 0 none 0 0 none 0 0).mono ?_;rintro e w3 ⟨rfl,q3,p3⟩;have Q3:Hid (Qx p w1 w3):=hid (Qx.trans (Qx.trans (by repeat (first|with_reducible exact Qx.refl _ _|with_reducible refine Qx.drewN ?_ _|with_reducible refine Qx.drew ?_|with_reducible refine Qx.alloc ?_ _|with_reducible refine Qx.own ?_ _ _|with_reducible refine Qx.new ?_ (by simp) _ _)) (Qx.of Q2.out)) q3);have P3:=hid p3;have Z3:=hid (Z1.out.on Q3.out (by omega));clear q3 p3;have d0:=Z3.out.g0;have d1:=Z3.out.g1;have d2:=Z3.out.g2;have d3:=Z3.out.g3;have d4:=Z3.out.g4;have d5:=Z3.out.g5;have d6:=Z3.out.g6;have y0:=Z3.out.f 0;have y1:=Z3.out.f 1;have y2:=Z3.out.f 2;have y3:=Z3.out.f 3;have y4:=Z3.out.f 4;have y5:=Z3.out.f 5;have y6:=Z3.out.f 6))
 refine bodyPost_ret (v:=.agg #[.int .i64 1,.int .i64 (V.pk (V.parseO T.data.toList)),.string ⟨#[]⟩,.bool false,.int .i64 0,.slice none 0 0,.slice none 0 0]) (by simp [results,Tryz.results86,go_sem,d0,d1,d2,d3,d4,d5,d6]) rfl ?_
 have e:=rdg_leaf (g:=fun b=>W.heap.size+1≤b) (W:=w3) 1 (V.pk (V.parseO T.data.toList)) [] ⟨#[]⟩ rfl false 0
 rw [show numE (EE.num (tAt L s.i))=.mk 1 (V.pk (V.parseO T.data.toList)) [] false 0 [] [] by rw [HTT.out];rfl]
 exact fin7 1 (V.pk (V.parseO T.data.toList)) ⟨#[]⟩ false 0 none 0 0 none 0 0 hlt hbW (Q1.out.trans Q3.out) e P3.out
theorem errN_min{t:List UInt8}(h:errN t≠0):1≤errN t∧errN t≤7∧enL (errN t:Int)=t∧∀ e:Nat,1≤e→e<errN t→enL (e:Int)≠t:=by
 by_cases h1:t=enL 1
 ·have e:errN t=1:=by unfold errN;rw [if_pos h1]
  rw [e];exact ⟨by omega,by omega,h1.symm,fun e a b=>by omega⟩
 ·by_cases h2:t=enL 2
  ·have e:errN t=2:=by unfold errN;rw [if_neg h1,if_pos h2]
   rw [e];refine ⟨by omega,by omega,h2.symm,fun e a b=>?_⟩
   have:e=1:=by omega
   subst this;exact fun x=>h1 x.symm
  ·by_cases h3:t=enL 3
   ·have e:errN t=3:=by unfold errN;rw [if_neg h1,if_neg h2,if_pos h3]
    rw [e];refine ⟨by omega,by omega,h3.symm,fun e a b=>?_⟩
    have:e=1∨e=2:=by omega
    rcases this with rfl|rfl
    ·exact fun x=>h1 x.symm
    ·exact fun x=>h2 x.symm
   ·by_cases h4:t=enL 4
    ·have e:errN t=4:=by unfold errN;rw [if_neg h1,if_neg h2,if_neg h3,if_pos h4]
     rw [e];refine ⟨by omega,by omega,h4.symm,fun e a b=>?_⟩
     have:e=1∨e=2∨e=3:=by omega
     rcases this with rfl|rfl|rfl
     ·exact fun x=>h1 x.symm
     ·exact fun x=>h2 x.symm
     ·exact fun x=>h3 x.symm
    ·by_cases h5:t=enL 5
     ·have e:errN t=5:=by unfold errN;rw [if_neg h1,if_neg h2,if_neg h3,if_neg h4,if_pos h5]
      rw [e];refine ⟨by omega,by omega,h5.symm,fun e a b=>?_⟩
      have:e=1∨e=2∨e=3∨e=4:=by omega
      rcases this with rfl|rfl|rfl|rfl
      ·exact fun x=>h1 x.symm
      ·exact fun x=>h2 x.symm
      ·exact fun x=>h3 x.symm
      ·exact fun x=>h4 x.symm
     ·by_cases h6:t=enL 6
      ·have e:errN t=6:=by unfold errN;rw [if_neg h1,if_neg h2,if_neg h3,if_neg h4,if_neg h5,if_pos h6]
       rw [e];refine ⟨by omega,by omega,h6.symm,fun e a b=>?_⟩
       have:e=1∨e=2∨e=3∨e=4∨e=5:=by omega
       rcases this with rfl|rfl|rfl|rfl|rfl
       ·exact fun x=>h1 x.symm
       ·exact fun x=>h2 x.symm
       ·exact fun x=>h3 x.symm
       ·exact fun x=>h4 x.symm
       ·exact fun x=>h5 x.symm
      ·by_cases h7:t=enL 7
       ·have e:errN t=7:=by unfold errN;rw [if_neg h1,if_neg h2,if_neg h3,if_neg h4,if_neg h5,if_neg h6,if_pos h7]
        rw [e];refine ⟨by omega,by omega,h7.symm,fun e a b=>?_⟩
        have:e=1∨e=2∨e=3∨e=4∨e=5∨e=6:=by omega
        rcases this with rfl|rfl|rfl|rfl|rfl|rfl
        ·exact fun x=>h1 x.symm
        ·exact fun x=>h2 x.symm
        ·exact fun x=>h3 x.symm
        ·exact fun x=>h4 x.symm
        ·exact fun x=>h5 x.symm
        ·exact fun x=>h6 x.symm
       ·exact absurd (by unfold errN;rw [if_neg h1,if_neg h2,if_neg h3,if_neg h4,if_neg h5,if_neg h6,if_neg h7]) h
structure EI (L:List Wd) (p b off cap:Nat) (s:St) (W:World) (T:ByteArray) (q:Int) (W':World):Prop where
 qx:Qx p W W'
 st:PS W' p L b off cap (s.i+1) s.bd s.n
 zb:Tb W' W.heap.size (.int .i64 0) (.int .i64 0) (.string ⟨#[]⟩) (.bool false) (.int .i64 0) (.slice none 0 0) (.slice none 0 0)
 wb:Wb W' (W.heap.size+1) (.int .i64 5) (.string T) (.int .i64 q)
theorem EI.on{L:List Wd}{p b off cap:Nat}{s:St}{W:World}{T:ByteArray}{q:Int}{W' W2:World}(h:EI L p b off cap s W T q W')(hp:p<W.heap.size)(x:Q W' W2):EI L p b off cap s W T q W2:=
 ⟨h.qx.trans (Qx.of x),h.st.on x,h.zb.on (Qx.of (p:=p) x) (by omega),h.wb.on (Qx.of (p:=p) x) (by omega)⟩
theorem first_err(L:List Wd)(p b off cap:Nat)(s:St)(W:World)(h:PS W p L b off cap s.i s.bd s.n)(hi:s.i<L.length)(hr:L.length≤50000)(hn:s.n≤s.i)(hw:isW L s.i [40]=false)(hk:kAt L s.i=5)(he:errN (tAt L s.i)≠0) :
  Calls Tryz.prog 86 #[.pointer (some ⟨p,0,none⟩)] W fun e W'=>Rep p L b off cap W (errE (errN (tAt L s.i)),s.on.node) e W':=by
 have hlt:=h.lt;have hbW:=h.blk hi;obtain ⟨T,q,hT,kw⟩:=h.kw hi;have HTT:=hid hT;have HK:=hid kw;rw [hk]at HK;have HM:=hid (errN_min he);have hm1:=HM.out.1;have hm7:=HM.out.2.1;generalize hM:errN (tAt L s.i)=M at HM hm1 hm7 he ⊢;have HP:=hid h;have hroom:(s.i:Int)+1≤9223372036854775807:=by omega
 have HZ:=hid ((tb_new W (.int .i64 0) (.int .i64 0) (.string ⟨#[]⟩) (.bool false) (.int .i64 0) (.slice none 0 0) (.slice none 0 0) 26).on (((Qx.refl p _).alloc (.cells #[.int .i64 5,.string T,.int .i64 q] 78)).drew) (by omega))
 have HB:=hid ((wb_new (W.alloc (.cells #[.int .i64 0,.int .i64 0,.string ⟨#[]⟩,.bool false,.int .i64 0,.slice none 0 0,.slice none 0 0] 26)) (.int .i64 5) (.string T) (.int .i64 q) 78).on ((Qx.refl p _).drew) (by simp;omega))
 rw [show (W.alloc (.cells #[.int .i64 0,.int .i64 0,.string ⟨#[]⟩,.bool false,.int .i64 0,.slice none 0 0,.slice none 0 0] 26)).heap.size=W.heap.size+1 by simp]at HB
 have hc:=hid (fun W1 (g:PS W1 p L b off cap s.i s.bd s.n)=>take_any W1 p L b off cap s.i s.bd s.n ⟨#[40]⟩ g hi)
 rw [show (⟨#[40]⟩:ByteArray).data.toList=[40] from rfl,hw]at hc
 clear h kw hT;go_enter Tryz.func86,Tryz.ntmps86
 go_wp2_with fail
 go_region_held3 (fun V=>V.cell? ⟨p,0,none⟩=some (.slice (some ⟨b,off,none⟩) L.length cap)∧V.cell? ⟨p,1,none⟩=some (.int .i64 (s.i:Int))∧V.cell? ⟨b,off+s.i*3,none⟩=some (.int .i64 5)∧V.cell? ⟨b,off+s.i*3+1,none⟩=some (.string T)∧V.cell? ⟨b,off+s.i*3+2,none⟩=some (.int .i64 q)) (exact HK.out.on (by repeat (first|exact Q.refl _|refine Q.drewN ?_ _|refine Q.drew ?_|refine Q.alloc ?_ _|refine Q.setCell ?_ (by simp) _))) (fail)
 go_wp2_with (go_at_call 85;refine (hc.out _ (HP.out.on (by repeat (first|exact Q.refl _|refine Q.drewN ?_ _|refine Q.drew ?_|refine Q.alloc ?_ _|refine Q.setCell ?_ (by simp) _)))).mono ?_;rintro e w1 ⟨rfl,q1,p1⟩;have Q1:Hid (Qx p W w1):=hid (Qx.trans (by repeat (first|with_reducible exact Qx.refl _ _|with_reducible refine Qx.drewN ?_ _|with_reducible refine Qx.drew ?_|with_reducible refine Qx.alloc ?_ _|with_reducible refine Qx.own ?_ _ _|with_reducible refine Qx.new ?_ (by simp) _ _)) q1);have P1:=hid p1;have Z1:=hid (HZ.out.on q1 (by omega));have B1:=hid (HB.out.on q1 (by omega));have hsw:W.heap.size+1<w1.heap.size:=World.block_lt_of_cell? w1 ⟨W.heap.size+1,0,none⟩ B1.out.g0;clear q1 p1;have x1:=P1.out.c1;have z1:=P1.out.f1;have b0:=B1.out.g0;have b1:=B1.out.g1;have b2:=B1.out.g2)
 have HI:Hid (EI L p b off cap s W T q (w1.setCell ⟨p,1,none⟩ (.int .i64 ((s.i:Int)+1)))):=hid ⟨Q1.out.own _ _,P1.out.set1 (s.i+1) _ (by omega),Z1.out.on ((Qx.refl p _).own _ _) (by omega),B1.out.on ((Qx.refl p _).own _ _) (by omega)⟩
 go_loopw [7] (fun y W'=>∃ e:Nat,1≤e∧e≤M∧y=.int .i64 (e:Int)∧EI L p b off cap s W T q W') (fun y _=>M-(intOf y).toNat)
 case atStart=>exact ⟨1,by omega,by omega,rfl,HI.out⟩
 case round=>
  obtain ⟨e,he1,heM,rfl,hI⟩:=hrel;have HI2:=hid hI;have he7:(e:Int)≤7:=by omega
  have H1:=hid (fun W1=>V.rname_any (e:Int) W1)
  obtain ⟨N,hN,lN⟩:∃ N:ByteArray,⟨(enL (e:Int)).toArray⟩=N∧N.data.toList=enL (e:Int):=⟨_,rfl,rfl⟩;rw [hN]at H1;by_cases hlt2:e<M
  ·have e7:(N.toList == T.toList)=false:=by rw [toL,toL,lN,beq_eq_false_iff_ne,HTT.out];exact HM.out.2.2.2 e he1 hlt2
   clear hI hN lN;go_wp2_with fail
   go_region_held3 (fun V=>V.cell? ⟨W.heap.size+1,1,none⟩=some (.string T)) (first|exact HI5.out.wb.g1|exact (HI2.out.on hlt (by repeat (first|exact Q.refl _|refine Q.drewN ?_ _|refine Q.drew ?_|refine Q.alloc ?_ _|refine Q.setCell ?_ (by simp) _))).wb.g1) (first|(go_at_call 84;refine (H1.out _).mono ?_;rintro e9 w5 ⟨rfl,q5⟩;have HI5:=hid ((HI2.out.on hlt (by repeat (first|exact Q.refl _|refine Q.drewN ?_ _|refine Q.drew ?_|refine Q.alloc ?_ _|refine Q.setCell ?_ (by simp) _))).on hlt q5);clear q5))
   all_goals go_wp2_with fail
   all_goals go_roundw
   case rel=>exact ⟨e+1,by omega,by omega,by go_num,HI5.out⟩
   case measure=>simp [intOf];omega
  ·have eM:e=M:=by omega
   have e7:(N.toList == T.toList)=true:=by rw [toL,toL,lN,beq_iff_eq,HTT.out,eM];exact HM.out.2.2.1
   have EM:=hid eM;clear hI hN lN hlt2 eM;go_wp2_with fail
   go_region_held3 (fun V=>V.cell? ⟨W.heap.size+1,1,none⟩=some (.string T)) (first|exact HI5.out.wb.g1|exact (HI2.out.on hlt (by repeat (first|exact Q.refl _|refine Q.drewN ?_ _|refine Q.drew ?_|refine Q.alloc ?_ _|refine Q.setCell ?_ (by simp) _))).wb.g1) (first|(go_at_call 84;refine (H1.out _).mono ?_;rintro e9 w5 ⟨rfl,q5⟩;have HI5:=hid ((HI2.out.on hlt (by repeat (first|exact Q.refl _|refine Q.drewN ?_ _|refine Q.drew ?_|refine Q.alloc ?_ _|refine Q.setCell ?_ (by simp) _))).on hlt q5);clear q5))
   all_goals go_wp2_with (go_at_call 66;refine (node_any _ p L b off cap _ _ _ HI5.out.st (by omega) 4 0 ⟨#[]⟩ false (e:Int) none 0 0 none 0 0).mono ?_;rintro e9 w3 ⟨rfl,q3,p3⟩;have Q3:=hid q3;have P3:=hid p3;have Z3:=hid (HI5.out.zb.on Q3.out (by omega));clear q3 p3;have d0:=Z3.out.g0;have d1:=Z3.out.g1;have d2:=Z3.out.g2;have d3:=Z3.out.g3;have d4:=Z3.out.g4;have d5:=Z3.out.g5;have d6:=Z3.out.g6;have y0:=Z3.out.f 0;have y1:=Z3.out.f 1;have y2:=Z3.out.f 2;have y3:=Z3.out.f 3;have y4:=Z3.out.f 4;have y5:=Z3.out.f 5;have y6:=Z3.out.f 6)
   all_goals refine bodyPost_ret (v:=.agg #[.int .i64 4,.int .i64 0,.string ⟨#[]⟩,.bool false,.int .i64 (e:Int),.slice none 0 0,.slice none 0 0]) (by simp [results,Tryz.results86,go_sem,d0,d1,d2,d3,d4,d5,d6]) rfl ?_
   all_goals rw [←EM.out]
   all_goals exact fin7 (s':=s.on.node) 4 0 ⟨#[]⟩ false (e:Int) none 0 0 none 0 0 hlt hbW (HI5.out.qx.trans Q3.out) (rdg_leaf 4 0 [] ⟨#[]⟩ rfl false (e:Int)) P3.out
structure WdOk (x:Wd):Prop where
 k1:1≤x.k
 k6:x.k≤6
 len:x.t.length≤1000
 num:x.k=1→EE.nok x.t=true
 ref:x.k=3→EE.rok x.t=true
 err:x.k=5→EE.err x.t≠0
 nam:x.k=4→x.t=truW∨x.t=flsW∨EE.nam x.t=decide (x.t.length≤20)
theorem wdok_plain{k:Nat}{t:List UInt8}{a:Nat}(h:k=2∨k=6)(hl:t.length≤1000):WdOk ⟨k,t,a⟩:=
 ⟨by simp only;omega,by simp only;omega,hl,fun e=>by simp only at e;omega,fun e=>by simp only at e;omega,fun e=>by simp only at e;omega,fun e=>by simp only at e;omega⟩
theorem mtB_len{t:List UInt8}(h:V.mtB t=true):t.length≤1000:=by
 unfold V.mtB at h
 simp only [Bool.and_eq_true,decide_eq_true_eq]at h
 have:=h.1
 omega
theorem errN_enL{e:Int}(h:e∈([1,2,3,4,5,6,7]:List Int)):errN (enL e)≠0∧(enL e).length≤1000:=by
 simp only [List.mem_cons,List.mem_nil_iff,or_false]at h
 rcases h with rfl|rfl|rfl|rfl|rfl|rfl|rfl <;> decide
theorem wordF_ok{l:List UInt8}(h:(wordF l).2.2≠0)(hl:l.length≤1000)(a:Nat):WdOk ⟨(wordF l).1,(wordF l).2.1,a⟩:=by
 by_cases h34:l.headD 0=34
 ·have e:wordF l=quoW l:=by unfold wordF;rw [if_pos h34]
  rw [e]at h ⊢;unfold quoW at h ⊢
  cases hq:quoF (l.drop 1) [] 1 with
  |none=>rw [hq]at h;exact absurd rfl h
  |some r=>
   obtain ⟨t,n⟩:=r;rw [hq]at h;unfold quoP at h ⊢
   simp only at h ⊢
   by_cases hm:V.mtB t=true
   ·rw [if_pos hm]
    exact wdok_plain (.inl rfl) (mtB_len hm)
   ·rw [if_neg hm]at h;exact absurd rfl h
 ·by_cases h35:l.headD 0=35
  ·have e:wordF l=errW l:=by unfold wordF;rw [if_neg h34,if_pos h35]
   rw [e]at h ⊢;unfold errW at h ⊢
   cases hq:errF l with
   |none=>rw [hq]at h;exact absurd rfl h
   |some e=>
    unfold errP
    have hm:e∈([1,2,3,4,5,6,7]:List Int):=List.mem_of_find?_eq_some hq
    obtain ⟨g1,g2⟩:=errN_enL hm;exact ⟨by simp,by simp,g2,fun e=>by simp at e,fun e=>by simp at e,fun _=>g1,fun e=>by simp at e⟩
  ·by_cases hj:joinB (l.headD 0)=true
   ·have e:wordF l=joinW l:=by unfold wordF;rw [if_neg h34,if_neg h35,if_pos hj]
    rw [e]at h ⊢;unfold joinW at h ⊢
    split at h
    ·exact absurd rfl h
    ·rename_i hk
     rw [if_neg hk];have hlen:(l.takeWhile joinB).length≤1000:=Nat.le_trans (List.takeWhile_prefix _).length_le hl
     have hne:0<(l.takeWhile joinB).length:=by
      cases l with
      |nil=>simp [joinB]at hj
      |cons c r=>
       simp only [List.headD_cons]at hj
       rw [List.takeWhile_cons,if_pos hj];simp
     generalize l.takeWhile joinB=t at hk hlen hne ⊢;unfold kindJ at hk ⊢
     by_cases c1:V.pf (V.parseO t)=true
     ·rw [if_pos c1]
      exact ⟨by simp,by simp,hlen,fun _=>c1,fun e=>by simp at e,fun e=>by simp at e,fun e=>by simp at e⟩
     ·rw [if_neg c1]at hk ⊢
      by_cases c3:refF t=true
      ·rw [if_pos c3]
       exact ⟨by simp,by simp,hlen,fun e=>by simp at e,fun _=>c3,fun e=>by simp at e,fun e=>by simp at e⟩
      ·rw [if_neg c3]at hk ⊢
       by_cases c4:t=tru∨t=fls∨(Lib.hasPrefix (l.dropWhile joinB) [40]=true∧allL t=true)
       ·rw [if_pos c4]
        refine ⟨by simp,by simp,hlen,fun e=>by simp at e,fun e=>by simp at e,fun e=>by simp at e,fun _=>?_⟩
        rcases c4 with e|e|⟨_,e⟩
        ·exact .inl e
        ·exact .inr (.inl e)
        ·by_cases ht:t=truW∨t=flsW
         ·rcases ht with e'|e'
          ·exact .inl e'
          ·exact .inr (.inl e')
         ·refine .inr (.inr ?_)
          show namF t=_
          unfold namF
          rw [decide_eq_true hne,decide_eq_true ht,show t.all let1=true from e]
          simp
       ·rw [if_neg c4]at hk
        exact absurd rfl hk
   ·have e:wordF l=sigW l:=by unfold wordF;rw [if_neg h34,if_neg h35,if_neg hj]
    rw [e]at h ⊢;unfold sigW at h ⊢
    cases hq:sigF l with
    |none=>rw [hq]at h;exact absurd rfl h
    |some t=>
     unfold sigP
     have hm:t∈sgL:=List.mem_of_find?_eq_some hq
     refine wdok_plain (.inr rfl) ?_
     have:∀ t∈sgL,t.length≤1000:=by decide
     exact this t hm
theorem scanG_ok:∀ (f:Nat) (l:List UInt8) (a:Nat) (acc L:List Wd) (n:Nat),l.length≤1000→(∀ x∈acc,WdOk x)→scanG f l a acc=(some L,n)→(∀ x∈L,WdOk x)∧L.length≤acc.length+l.length:=by
 intro f
 induction f with
 |zero=>
  intro l a acc L n hl hacc h
  unfold scanG at h
  cases h
  exact ⟨hacc,by omega⟩
 |succ f ih=>
  intro l a acc L n hl hacc h
  cases l with
  |nil=>unfold scanG at h;cases h;exact ⟨hacc,by simp⟩
  |cons c r=>
   unfold scanG at h
   split at h
   ·obtain ⟨h1,h2⟩:=ih _ _ _ _ _ (by simp at hl;omega) hacc h
    exact ⟨h1,by simp;omega⟩
   ·split at h
    ·cases h
    ·rename_i hn
     have hlen:((c::r).drop (wordF (c::r)).2.2).length+1≤(c::r).length:=by rw [List.length_drop];simp;omega
     have hacc':∀ x∈acc++[(⟨(wordF (c::r)).1,(wordF (c::r)).2.1,a⟩:Wd)],WdOk x:=by
      intro x hx
      rw [List.mem_append]at hx
      rcases hx with hx|hx
      ·exact hacc x hx
      ·simp only [List.mem_singleton]at hx
       subst hx;exact wordF_ok hn hl a
     obtain ⟨h1,h2⟩:=ih _ _ _ _ _ (by omega) hacc' h
     refine ⟨h1,?_⟩
     rw [List.length_append]at h2;simp only [List.length_singleton]at h2
     omega
theorem scan_good{l:List UInt8}{L:List Wd}{n:Nat}(h:scanL l=(some L,n)):0<L.length∧L.length≤50000∧Ends L∧Good EE L∧(∀ i,i<L.length→1≤kAt L i∧kAt L i≤7)∧(∀ i,(tAt L i).length≤1000):=by
 unfold scanL at h
 split at h
 ·cases h
 ·rename_i hlen
  split at h
  ·rename_i Ls n' hs
   cases h
   obtain ⟨hok,hll⟩:=scanG_ok _ _ _ _ _ _ (by omega) (fun x hx=>by cases hx) hs
   simp only [List.length_nil,Nat.zero_add]at hll
   have hat:∀ i,i<Ls.length→∃ x,WdOk x∧kAt (Ls++[⟨7,[],l.length⟩]) i=x.k∧tAt (Ls++[⟨7,[],l.length⟩]) i=x.t:=by
    intro i hi
    refine ⟨Ls[i],hok _ (List.getElem_mem hi),?_,?_⟩
    ·unfold kAt;rw [List.getD_eq_getElem?_getD,List.getElem?_append_left hi,List.getElem?_eq_getElem hi];rfl
    ·unfold tAt;rw [List.getD_eq_getElem?_getD,List.getElem?_append_left hi,List.getElem?_eq_getElem hi];rfl
   have hend:∀ i,Ls.length≤i→kAt (Ls++[⟨7,[],l.length⟩]) i=7∧tAt (Ls++[⟨7,[],l.length⟩]) i=[]:=by
    intro i hi
    unfold kAt tAt
    rw [List.getD_eq_getElem?_getD,List.getElem?_append_right hi]
    rcases Nat.eq_zero_or_pos (i-Ls.length) with e|e
    ·rw [e];exact ⟨rfl,rfl⟩
    ·rw [List.getElem?_eq_none (by simp;omega)];exact ⟨rfl,rfl⟩
   have hL:(Ls++[(⟨7,[],l.length⟩:Wd)]).length=Ls.length+1:=by simp
   have low:∀ i,kAt (Ls++[⟨7,[],l.length⟩]) i≠7→i<Ls.length:=by
    intro i hk
    rcases Nat.lt_or_ge i Ls.length with h'|h'
    ·exact h'
    ·exact absurd (hend i h').1 hk
   refine ⟨by rw [hL];omega,by rw [hL];omega,fun i hi hk=>by have:=low i hk;omega,⟨fun i _ hk=>?_,fun i _ hk=>?_,fun i _ hk=>?_,fun i _ hk=>?_⟩,fun i _=>?_,fun i=>?_⟩
   ·obtain ⟨x,hx,e1,e2⟩:=hat i (low i (by omega))
    rw [e2];exact hx.num (by omega)
   ·obtain ⟨x,hx,e1,e2⟩:=hat i (low i (by omega))
    rw [e2];exact hx.ref (by omega)
   ·obtain ⟨x,hx,e1,e2⟩:=hat i (low i (by omega))
    rw [e2];exact hx.err (by omega)
   ·obtain ⟨x,hx,e1,e2⟩:=hat i (low i (by omega))
    rw [e2];exact hx.nam (by omega)
   ·rcases Nat.lt_or_ge i Ls.length with h'|h'
    ·obtain ⟨x,hx,e1,e2⟩:=hat i h'
     have:=hx.k1
     have:=hx.k6
     omega
    ·have:=(hend i h').1
     omega
   ·rcases Nat.lt_or_ge i Ls.length with h'|h'
    ·obtain ⟨x,hx,e1,e2⟩:=hat i h'
     rw [e2];exact hx.len
    ·rw [(hend i h').2];simp
  ·cases h
end Go.Proofs.YtoikodohcieipaaGreatDoor
namespace Go.Proofs.YtoikodohcieipaaGreatDoor
open Go.RowKit
set_option linter.unusedVariables false
set_option linter.unusedSimpArgs false
theorem rword_ref(s T:ByteArray)(i M:Nat)(w:World)(hs:s.size≤100000)(hi:i<s.size)(hr:RunAt s i M T)(hj:joinB s[i]=true)
  (pn:Int) (rv:Value) (HP:Hid (∀ W,Calls Tryz.prog 82 #[.string T] W fun e w'=>e=.returned (.tuple #[.int .i64 pn,.bool false])∧Q W w'))
  (HRf:Hid (∀ W,Calls Tryz.prog 83 #[.string T] W fun e w'=>e=.returned (.tuple #[rv,.bool true])∧Q W w'))
  (HF:Hid (wordF (s.data.toList.drop i)=(3,T.data.toList,M-i))) :
  Calls Tryz.prog 64 #[.string s,.int .i64 (i:Int)] w fun e w'=>e=.returned (rwv (wordF (s.data.toList.drop i)) i)∧Q w w':=by
 obtain ⟨lo,le,eT,lT,zT,yes,no,beh⟩:=hr;have HY:=hid yes;have HN:=hid no;have HJ0:=hid (fun W=>solid_any s[i] W)
 rw [hj]at HJ0;have JJ:=hid (WB.start w);clear yes no lT beh hj;have hT0:0<T.size:=by omega
 have hMi:(i:Int)≤(M:Int):=by omega
 have hMs:(M:Int)≤(s.size:Int):=by omega
 generalize wordF (s.data.toList.drop i)=wf at HF ⊢;go_enter Tryz.func64,Tryz.ntmps64
 go_wp2_with (go_at_call 81;refine (HJ0.out _).mono ?_;rintro e w9 ⟨rfl,h9⟩;replace h9:=h9.symm;subst h9)
 go_loop [6] (fun x=>∃ k:Nat,i≤k∧k≤M∧x=.int .i64 (k:Int)) (fun x=>s.size-(intOf x).toNat)
 case atStart=>exact ⟨i,by omega,by omega,rfl⟩
 case round=>
  obtain ⟨k,hk0,hk,rfl⟩:=hrel;by_cases hlt:k<M
  ·have hks:k<s.size:=by omega
   have HJ:=hid (fun W=>solid_any s[k] W)
   rw [HY.out k hks hk0 hlt]at HJ;go_wp2_with (go_at_call 81;refine (HJ.out _).mono ?_;rintro e w9 ⟨rfl,h9⟩;replace h9:=h9.symm;subst h9)
   go_round
   case rel=>exact ⟨k+1,by omega,by omega,by go_num⟩
   case measure=>simp [intOf];omega
  ·have e:k=M:=by omega
   subst e;clear hk hlt;by_cases hend:k<s.size
   ·have HJ:=hid (fun W=>solid_any s[k] W)
    rw [HN.out hend]at HJ;go_wp2_with (first|(go_at_call 81;refine (HJ.out _).mono ?_;rintro e w9 ⟨rfl,h9⟩;replace h9:=h9.symm;subst h9)|(go_at_call 82;refine (HP.out _).mono ?_;rintro e w1 ⟨rfl,q1⟩;have J1:=hid (JJ.out.on q1);clear q1;have d0:=J1.out.c0;have d1:=J1.out.c1;have d2:=J1.out.c2;have g0:=J1.out.f0;have g1:=J1.out.f1;have g2:=J1.out.f2)|(go_at_call 83;refine (HRf.out _).mono ?_;rintro e w2 ⟨rfl,q2⟩;have J2:=hid (J1.out.on q2);clear q2;have k0:=J2.out.c0;have k1:=J2.out.c1;have k2:=J2.out.c2;have m0:=J2.out.f0;have m1:=J2.out.f1;have m2:=J2.out.f2))
    refine bodyPost_ret (v:=.tuple #[.agg #[.int .i64 3,.string T,.int .i64 (i:Int)],.int .i64 ((k:Int)-(i:Int))]) (by simp [results,Tryz.results64,go_sem,k0,k1,k2,m0,m1,m2]) rfl ⟨ret_rw HF.out (by omega) rfl rfl (by omega),?_⟩
    repeat' (first|with_reducible exact J2.out.q|with_reducible refine Q.setCell ?_ (Nat.le_refl _) _|with_reducible refine Q.drewN ?_ _|with_reducible refine Q.drew ?_|with_reducible refine Q.alloc ?_ _)
   ·go_wp2_with (first|(go_at_call 82;refine (HP.out _).mono ?_;rintro e w1 ⟨rfl,q1⟩;have J1:=hid (JJ.out.on q1);clear q1;have d0:=J1.out.c0;have d1:=J1.out.c1;have d2:=J1.out.c2;have g0:=J1.out.f0;have g1:=J1.out.f1;have g2:=J1.out.f2)|(go_at_call 83;refine (HRf.out _).mono ?_;rintro e w2 ⟨rfl,q2⟩;have J2:=hid (J1.out.on q2);clear q2;have k0:=J2.out.c0;have k1:=J2.out.c1;have k2:=J2.out.c2;have m0:=J2.out.f0;have m1:=J2.out.f1;have m2:=J2.out.f2))
    refine bodyPost_ret (v:=.tuple #[.agg #[.int .i64 3,.string T,.int .i64 (i:Int)],.int .i64 ((k:Int)-(i:Int))]) (by simp [results,Tryz.results64,go_sem,k0,k1,k2,m0,m1,m2]) rfl ⟨ret_rw HF.out (by omega) rfl rfl (by omega),?_⟩
    repeat' (first|with_reducible exact J2.out.q|with_reducible refine Q.setCell ?_ (Nat.le_refl _) _|with_reducible refine Q.drewN ?_ _|with_reducible refine Q.drew ?_|with_reducible refine Q.alloc ?_ _)
end Go.Proofs.YtoikodohcieipaaGreatDoor
namespace Go.Proofs.YtoikodohcieipaaGreatDoor
open Go.RowKit
set_option linter.unusedVariables false
set_option linter.unusedSimpArgs false
theorem rword_n0(s T:ByteArray)(i M:Nat)(w:World)(hs:s.size≤100000)(hi:i<s.size)(hr:RunAt s i M T)(hj:joinB s[i]=true)
  (pn:Int) (rv:Value) (HP:Hid (∀ W,Calls Tryz.prog 82 #[.string T] W fun e w'=>e=.returned (.tuple #[.int .i64 pn,.bool false])∧Q W w'))
  (HRf:Hid (∀ W,Calls Tryz.prog 83 #[.string T] W fun e w'=>e=.returned (.tuple #[rv,.bool false])∧Q W w'))
  (HL:Hid (∀ W,Calls Tryz.prog 57 #[.string T] W fun e w'=>e=.returned (.bool false)∧w'=W))
  (HF:Hid (wordF (s.data.toList.drop i)=bad)) :
  Calls Tryz.prog 64 #[.string s,.int .i64 (i:Int)] w fun e w'=>e=.returned (rwv (wordF (s.data.toList.drop i)) i)∧Q w w':=by
 obtain ⟨lo,le,eT,lT,zT,yes,no,beh⟩:=hr;have HY:=hid yes;have HN:=hid no;have HJ0:=hid (fun W=>solid_any s[i] W)
 rw [hj]at HJ0;have JJ:=hid (WB.start w);clear yes no lT beh hj;have hT0:0<T.size:=by omega
 have hMi:(i:Int)≤(M:Int):=by omega
 have hMs:(M:Int)≤(s.size:Int):=by omega
 generalize wordF (s.data.toList.drop i)=wf at HF ⊢;go_enter Tryz.func64,Tryz.ntmps64
 go_wp2_with (go_at_call 81;refine (HJ0.out _).mono ?_;rintro e w9 ⟨rfl,h9⟩;replace h9:=h9.symm;subst h9)
 go_loop [6] (fun x=>∃ k:Nat,i≤k∧k≤M∧x=.int .i64 (k:Int)) (fun x=>s.size-(intOf x).toNat)
 case atStart=>exact ⟨i,by omega,by omega,rfl⟩
 case round=>
  obtain ⟨k,hk0,hk,rfl⟩:=hrel;by_cases hlt:k<M
  ·have hks:k<s.size:=by omega
   have HJ:=hid (fun W=>solid_any s[k] W)
   rw [HY.out k hks hk0 hlt]at HJ;go_wp2_with (go_at_call 81;refine (HJ.out _).mono ?_;rintro e w9 ⟨rfl,h9⟩;replace h9:=h9.symm;subst h9)
   go_round
   case rel=>exact ⟨k+1,by omega,by omega,by go_num⟩
   case measure=>simp [intOf];omega
  ·have e:k=M:=by omega
   subst e;clear hk hlt;by_cases hend:k<s.size
   ·have HJ:=hid (fun W=>solid_any s[k] W)
    rw [HN.out hend]at HJ;go_wp2_with (first|(go_at_call 81;refine (HJ.out _).mono ?_;rintro e w9 ⟨rfl,h9⟩;replace h9:=h9.symm;subst h9)|(go_at_call 82;refine (HP.out _).mono ?_;rintro e w1 ⟨rfl,q1⟩;have J1:=hid (JJ.out.on q1);clear q1;have d0:=J1.out.c0;have d1:=J1.out.c1;have d2:=J1.out.c2;have g0:=J1.out.f0;have g1:=J1.out.f1;have g2:=J1.out.f2)|(go_at_call 83;refine (HRf.out _).mono ?_;rintro e w2 ⟨rfl,q2⟩;have J2:=hid (J1.out.on q2);clear q2;have k0:=J2.out.c0;have k1:=J2.out.c1;have k2:=J2.out.c2;have m0:=J2.out.f0;have m1:=J2.out.f1;have m2:=J2.out.f2)|(go_at_call 57;refine (HL.out _).mono ?_;rintro e w9 ⟨rfl,h9⟩;replace h9:=h9.symm;subst h9))
    refine bodyPost_ret (v:=.tuple #[.agg #[.int .i64 0,.string ⟨#[]⟩,.int .i64 0],.int .i64 0]) (by simp [results,Tryz.results64,go_sem,k0,k1,k2,m0,m1,m2]) rfl ⟨ret_rbad HF.out,?_⟩
    repeat' (first|with_reducible exact J2.out.q|with_reducible refine Q.setCell ?_ (Nat.le_refl _) _|with_reducible refine Q.drewN ?_ _|with_reducible refine Q.drew ?_|with_reducible refine Q.alloc ?_ _)
   ·go_wp2_with (first|(go_at_call 82;refine (HP.out _).mono ?_;rintro e w1 ⟨rfl,q1⟩;have J1:=hid (JJ.out.on q1);clear q1;have d0:=J1.out.c0;have d1:=J1.out.c1;have d2:=J1.out.c2;have g0:=J1.out.f0;have g1:=J1.out.f1;have g2:=J1.out.f2)|(go_at_call 83;refine (HRf.out _).mono ?_;rintro e w2 ⟨rfl,q2⟩;have J2:=hid (J1.out.on q2);clear q2;have k0:=J2.out.c0;have k1:=J2.out.c1;have k2:=J2.out.c2;have m0:=J2.out.f0;have m1:=J2.out.f1;have m2:=J2.out.f2)|(go_at_call 57;refine (HL.out _).mono ?_;rintro e w9 ⟨rfl,h9⟩;replace h9:=h9.symm;subst h9))
    refine bodyPost_ret (v:=.tuple #[.agg #[.int .i64 0,.string ⟨#[]⟩,.int .i64 0],.int .i64 0]) (by simp [results,Tryz.results64,go_sem,k0,k1,k2,m0,m1,m2]) rfl ⟨ret_rbad HF.out,?_⟩
    repeat' (first|with_reducible exact J2.out.q|with_reducible refine Q.setCell ?_ (Nat.le_refl _) _|with_reducible refine Q.drewN ?_ _|with_reducible refine Q.drew ?_|with_reducible refine Q.alloc ?_ _)
theorem rword_t(s T:ByteArray)(i M:Nat)(w:World)(hs:s.size≤100000)(hi:i<s.size)(hr:RunAt s i M T)(hj:joinB s[i]=true)
  (pn:Int) (rv:Value) (HP:Hid (∀ W,Calls Tryz.prog 82 #[.string T] W fun e w'=>e=.returned (.tuple #[.int .i64 pn,.bool false])∧Q W w'))
  (HRf:Hid (∀ W,Calls Tryz.prog 83 #[.string T] W fun e w'=>e=.returned (.tuple #[rv,.bool false])∧Q W w'))
  (HL:Hid (∀ W,Calls Tryz.prog 57 #[.string T] W fun e w'=>e=.returned (.bool true)∧w'=W)) (e1:(T.toList == [84,82,85,69])=true)
  (HF:Hid (wordF (s.data.toList.drop i)=(4,T.data.toList,M-i))) :
  Calls Tryz.prog 64 #[.string s,.int .i64 (i:Int)] w fun e w'=>e=.returned (rwv (wordF (s.data.toList.drop i)) i)∧Q w w':=by
 obtain ⟨lo,le,eT,lT,zT,yes,no,beh⟩:=hr;have HY:=hid yes;have HN:=hid no;have HJ0:=hid (fun W=>solid_any s[i] W)
 rw [hj]at HJ0;have JJ:=hid (WB.start w);clear yes no lT beh hj;have hT0:0<T.size:=by omega
 have hMi:(i:Int)≤(M:Int):=by omega
 have hMs:(M:Int)≤(s.size:Int):=by omega
 generalize wordF (s.data.toList.drop i)=wf at HF ⊢;go_enter Tryz.func64,Tryz.ntmps64
 go_wp2_with (go_at_call 81;refine (HJ0.out _).mono ?_;rintro e w9 ⟨rfl,h9⟩;replace h9:=h9.symm;subst h9)
 go_loop [6] (fun x=>∃ k:Nat,i≤k∧k≤M∧x=.int .i64 (k:Int)) (fun x=>s.size-(intOf x).toNat)
 case atStart=>exact ⟨i,by omega,by omega,rfl⟩
 case round=>
  obtain ⟨k,hk0,hk,rfl⟩:=hrel;by_cases hlt:k<M
  ·have hks:k<s.size:=by omega
   have HJ:=hid (fun W=>solid_any s[k] W)
   rw [HY.out k hks hk0 hlt]at HJ;go_wp2_with (go_at_call 81;refine (HJ.out _).mono ?_;rintro e w9 ⟨rfl,h9⟩;replace h9:=h9.symm;subst h9)
   go_round
   case rel=>exact ⟨k+1,by omega,by omega,by go_num⟩
   case measure=>simp [intOf];omega
  ·have e:k=M:=by omega
   subst e;clear hk hlt;by_cases hend:k<s.size
   ·have HJ:=hid (fun W=>solid_any s[k] W)
    rw [HN.out hend]at HJ;go_wp2_with (first|(go_at_call 81;refine (HJ.out _).mono ?_;rintro e w9 ⟨rfl,h9⟩;replace h9:=h9.symm;subst h9)|(go_at_call 82;refine (HP.out _).mono ?_;rintro e w1 ⟨rfl,q1⟩;have J1:=hid (JJ.out.on q1);clear q1;have d0:=J1.out.c0;have d1:=J1.out.c1;have d2:=J1.out.c2;have g0:=J1.out.f0;have g1:=J1.out.f1;have g2:=J1.out.f2)|(go_at_call 83;refine (HRf.out _).mono ?_;rintro e w2 ⟨rfl,q2⟩;have J2:=hid (J1.out.on q2);clear q2;have k0:=J2.out.c0;have k1:=J2.out.c1;have k2:=J2.out.c2;have m0:=J2.out.f0;have m1:=J2.out.f1;have m2:=J2.out.f2)|(go_at_call 57;refine (HL.out _).mono ?_;rintro e w9 ⟨rfl,h9⟩;replace h9:=h9.symm;subst h9))
    refine bodyPost_ret (v:=.tuple #[.agg #[.int .i64 4,.string T,.int .i64 (i:Int)],.int .i64 ((k:Int)-(i:Int))]) (by simp [results,Tryz.results64,go_sem,k0,k1,k2,m0,m1,m2]) rfl ⟨ret_rw HF.out (by omega) rfl rfl (by omega),?_⟩
    repeat' (first|with_reducible exact J2.out.q|with_reducible refine Q.setCell ?_ (Nat.le_refl _) _|with_reducible refine Q.drewN ?_ _|with_reducible refine Q.drew ?_|with_reducible refine Q.alloc ?_ _)
   ·go_wp2_with (first|(go_at_call 82;refine (HP.out _).mono ?_;rintro e w1 ⟨rfl,q1⟩;have J1:=hid (JJ.out.on q1);clear q1;have d0:=J1.out.c0;have d1:=J1.out.c1;have d2:=J1.out.c2;have g0:=J1.out.f0;have g1:=J1.out.f1;have g2:=J1.out.f2)|(go_at_call 83;refine (HRf.out _).mono ?_;rintro e w2 ⟨rfl,q2⟩;have J2:=hid (J1.out.on q2);clear q2;have k0:=J2.out.c0;have k1:=J2.out.c1;have k2:=J2.out.c2;have m0:=J2.out.f0;have m1:=J2.out.f1;have m2:=J2.out.f2)|(go_at_call 57;refine (HL.out _).mono ?_;rintro e w9 ⟨rfl,h9⟩;replace h9:=h9.symm;subst h9))
    refine bodyPost_ret (v:=.tuple #[.agg #[.int .i64 4,.string T,.int .i64 (i:Int)],.int .i64 ((k:Int)-(i:Int))]) (by simp [results,Tryz.results64,go_sem,k0,k1,k2,m0,m1,m2]) rfl ⟨ret_rw HF.out (by omega) rfl rfl (by omega),?_⟩
    repeat' (first|with_reducible exact J2.out.q|with_reducible refine Q.setCell ?_ (Nat.le_refl _) _|with_reducible refine Q.drewN ?_ _|with_reducible refine Q.drew ?_|with_reducible refine Q.alloc ?_ _)
theorem rword_f(s T:ByteArray)(i M:Nat)(w:World)(hs:s.size≤100000)(hi:i<s.size)(hr:RunAt s i M T)(hj:joinB s[i]=true)
  (pn:Int) (rv:Value) (HP:Hid (∀ W,Calls Tryz.prog 82 #[.string T] W fun e w'=>e=.returned (.tuple #[.int .i64 pn,.bool false])∧Q W w'))
  (HRf:Hid (∀ W,Calls Tryz.prog 83 #[.string T] W fun e w'=>e=.returned (.tuple #[rv,.bool false])∧Q W w'))
  (HL:Hid (∀ W,Calls Tryz.prog 57 #[.string T] W fun e w'=>e=.returned (.bool true)∧w'=W)) (e1:(T.toList == [84,82,85,69])=false) (e2:(T.toList == [70,65,76,83,69])=true)
  (HF:Hid (wordF (s.data.toList.drop i)=(4,T.data.toList,M-i))) :
  Calls Tryz.prog 64 #[.string s,.int .i64 (i:Int)] w fun e w'=>e=.returned (rwv (wordF (s.data.toList.drop i)) i)∧Q w w':=by
 obtain ⟨lo,le,eT,lT,zT,yes,no,beh⟩:=hr;have HY:=hid yes;have HN:=hid no;have HJ0:=hid (fun W=>solid_any s[i] W)
 rw [hj]at HJ0;have JJ:=hid (WB.start w);clear yes no lT beh hj;have hT0:0<T.size:=by omega
 have hMi:(i:Int)≤(M:Int):=by omega
 have hMs:(M:Int)≤(s.size:Int):=by omega
 generalize wordF (s.data.toList.drop i)=wf at HF ⊢;go_enter Tryz.func64,Tryz.ntmps64
 go_wp2_with (go_at_call 81;refine (HJ0.out _).mono ?_;rintro e w9 ⟨rfl,h9⟩;replace h9:=h9.symm;subst h9)
 go_loop [6] (fun x=>∃ k:Nat,i≤k∧k≤M∧x=.int .i64 (k:Int)) (fun x=>s.size-(intOf x).toNat)
 case atStart=>exact ⟨i,by omega,by omega,rfl⟩
 case round=>
  obtain ⟨k,hk0,hk,rfl⟩:=hrel;by_cases hlt:k<M
  ·have hks:k<s.size:=by omega
   have HJ:=hid (fun W=>solid_any s[k] W)
   rw [HY.out k hks hk0 hlt]at HJ;go_wp2_with (go_at_call 81;refine (HJ.out _).mono ?_;rintro e w9 ⟨rfl,h9⟩;replace h9:=h9.symm;subst h9)
   go_round
   case rel=>exact ⟨k+1,by omega,by omega,by go_num⟩
   case measure=>simp [intOf];omega
  ·have e:k=M:=by omega
   subst e;clear hk hlt;by_cases hend:k<s.size
   ·have HJ:=hid (fun W=>solid_any s[k] W)
    rw [HN.out hend]at HJ;go_wp2_with (first|(go_at_call 81;refine (HJ.out _).mono ?_;rintro e w9 ⟨rfl,h9⟩;replace h9:=h9.symm;subst h9)|(go_at_call 82;refine (HP.out _).mono ?_;rintro e w1 ⟨rfl,q1⟩;have J1:=hid (JJ.out.on q1);clear q1;have d0:=J1.out.c0;have d1:=J1.out.c1;have d2:=J1.out.c2;have g0:=J1.out.f0;have g1:=J1.out.f1;have g2:=J1.out.f2)|(go_at_call 83;refine (HRf.out _).mono ?_;rintro e w2 ⟨rfl,q2⟩;have J2:=hid (J1.out.on q2);clear q2;have k0:=J2.out.c0;have k1:=J2.out.c1;have k2:=J2.out.c2;have m0:=J2.out.f0;have m1:=J2.out.f1;have m2:=J2.out.f2)|(go_at_call 57;refine (HL.out _).mono ?_;rintro e w9 ⟨rfl,h9⟩;replace h9:=h9.symm;subst h9))
    refine bodyPost_ret (v:=.tuple #[.agg #[.int .i64 4,.string T,.int .i64 (i:Int)],.int .i64 ((k:Int)-(i:Int))]) (by simp [results,Tryz.results64,go_sem,k0,k1,k2,m0,m1,m2]) rfl ⟨ret_rw HF.out (by omega) rfl rfl (by omega),?_⟩
    repeat' (first|with_reducible exact J2.out.q|with_reducible refine Q.setCell ?_ (Nat.le_refl _) _|with_reducible refine Q.drewN ?_ _|with_reducible refine Q.drew ?_|with_reducible refine Q.alloc ?_ _)
   ·go_wp2_with (first|(go_at_call 82;refine (HP.out _).mono ?_;rintro e w1 ⟨rfl,q1⟩;have J1:=hid (JJ.out.on q1);clear q1;have d0:=J1.out.c0;have d1:=J1.out.c1;have d2:=J1.out.c2;have g0:=J1.out.f0;have g1:=J1.out.f1;have g2:=J1.out.f2)|(go_at_call 83;refine (HRf.out _).mono ?_;rintro e w2 ⟨rfl,q2⟩;have J2:=hid (J1.out.on q2);clear q2;have k0:=J2.out.c0;have k1:=J2.out.c1;have k2:=J2.out.c2;have m0:=J2.out.f0;have m1:=J2.out.f1;have m2:=J2.out.f2)|(go_at_call 57;refine (HL.out _).mono ?_;rintro e w9 ⟨rfl,h9⟩;replace h9:=h9.symm;subst h9))
    refine bodyPost_ret (v:=.tuple #[.agg #[.int .i64 4,.string T,.int .i64 (i:Int)],.int .i64 ((k:Int)-(i:Int))]) (by simp [results,Tryz.results64,go_sem,k0,k1,k2,m0,m1,m2]) rfl ⟨ret_rw HF.out (by omega) rfl rfl (by omega),?_⟩
    repeat' (first|with_reducible exact J2.out.q|with_reducible refine Q.setCell ?_ (Nat.le_refl _) _|with_reducible refine Q.drewN ?_ _|with_reducible refine Q.drew ?_|with_reducible refine Q.alloc ?_ _)
end Go.Proofs.YtoikodohcieipaaGreatDoor
namespace Go.Proofs.YtoikodohcieipaaGreatDoor
open Go.RowKit
set_option linter.unusedVariables false
set_option linter.unusedSimpArgs false
theorem rword_c(s T:ByteArray)(i M:Nat)(w:World)(hs:s.size≤100000)(hi:i<s.size)(hr:RunAt s i M T)(hj:joinB s[i]=true)
  (pn:Int) (rv:Value) (HP:Hid (∀ W,Calls Tryz.prog 82 #[.string T] W fun e w'=>e=.returned (.tuple #[.int .i64 pn,.bool false])∧Q W w'))
  (HRf:Hid (∀ W,Calls Tryz.prog 83 #[.string T] W fun e w'=>e=.returned (.tuple #[rv,.bool false])∧Q W w'))
  (HL:Hid (∀ W,Calls Tryz.prog 57 #[.string T] W fun e w'=>e=.returned (.bool true)∧w'=W)) (e1:(T.toList == [84,82,85,69])=false) (e2:(T.toList == [70,65,76,83,69])=false) (hM:Hid (M<s.size)) (H40:Hid (∀ h:M<s.size,s[M]=40))
  (HF:Hid (wordF (s.data.toList.drop i)=(4,T.data.toList,M-i))) :
  Calls Tryz.prog 64 #[.string s,.int .i64 (i:Int)] w fun e w'=>e=.returned (rwv (wordF (s.data.toList.drop i)) i)∧Q w w':=by
 obtain ⟨lo,le,eT,lT,zT,yes,no,beh⟩:=hr;have HY:=hid yes;have HN:=hid no;have HJ0:=hid (fun W=>solid_any s[i] W)
 rw [hj]at HJ0;have JJ:=hid (WB.start w);clear yes no lT beh hj;have hT0:0<T.size:=by omega
 have hMi:(i:Int)≤(M:Int):=by omega
 have hMs:(M:Int)≤(s.size:Int):=by omega
 generalize wordF (s.data.toList.drop i)=wf at HF ⊢;go_enter Tryz.func64,Tryz.ntmps64
 go_wp2_with (go_at_call 81;refine (HJ0.out _).mono ?_;rintro e w9 ⟨rfl,h9⟩;replace h9:=h9.symm;subst h9)
 go_loop [6] (fun x=>∃ k:Nat,i≤k∧k≤M∧x=.int .i64 (k:Int)) (fun x=>s.size-(intOf x).toNat)
 case atStart=>exact ⟨i,by omega,by omega,rfl⟩
 case round=>
  obtain ⟨k,hk0,hk,rfl⟩:=hrel;by_cases hlt:k<M
  ·have hks:k<s.size:=by omega
   have HJ:=hid (fun W=>solid_any s[k] W)
   rw [HY.out k hks hk0 hlt]at HJ;go_wp2_with (go_at_call 81;refine (HJ.out _).mono ?_;rintro e w9 ⟨rfl,h9⟩;replace h9:=h9.symm;subst h9)
   go_round
   case rel=>exact ⟨k+1,by omega,by omega,by go_num⟩
   case measure=>simp [intOf];omega
  ·have e:k=M:=by omega
   subst e;clear hk hlt;by_cases hend:k<s.size
   ·have HJ:=hid (fun W=>solid_any s[k] W)
    rw [HN.out hend]at HJ;have e40:=eq_byte (n:=40) (by omega) (H40.out hend)
    go_wp2_with (first|(go_at_call 81;refine (HJ.out _).mono ?_;rintro e w9 ⟨rfl,h9⟩;replace h9:=h9.symm;subst h9)|(go_at_call 82;refine (HP.out _).mono ?_;rintro e w1 ⟨rfl,q1⟩;have J1:=hid (JJ.out.on q1);clear q1;have d0:=J1.out.c0;have d1:=J1.out.c1;have d2:=J1.out.c2;have g0:=J1.out.f0;have g1:=J1.out.f1;have g2:=J1.out.f2)|(go_at_call 83;refine (HRf.out _).mono ?_;rintro e w2 ⟨rfl,q2⟩;have J2:=hid (J1.out.on q2);clear q2;have k0:=J2.out.c0;have k1:=J2.out.c1;have k2:=J2.out.c2;have m0:=J2.out.f0;have m1:=J2.out.f1;have m2:=J2.out.f2)|(go_at_call 57;refine (HL.out _).mono ?_;rintro e w9 ⟨rfl,h9⟩;replace h9:=h9.symm;subst h9))
    refine bodyPost_ret (v:=.tuple #[.agg #[.int .i64 4,.string T,.int .i64 (i:Int)],.int .i64 ((k:Int)-(i:Int))]) (by simp [results,Tryz.results64,go_sem,k0,k1,k2,m0,m1,m2]) rfl ⟨ret_rw HF.out (by omega) rfl rfl (by omega),?_⟩
    repeat' (first|with_reducible exact J2.out.q|with_reducible refine Q.setCell ?_ (Nat.le_refl _) _|with_reducible refine Q.drewN ?_ _|with_reducible refine Q.drew ?_|with_reducible refine Q.alloc ?_ _)
   ·exact absurd hM.out hend
theorem rword_b(s T:ByteArray)(i M:Nat)(w:World)(hs:s.size≤100000)(hi:i<s.size)(hr:RunAt s i M T)(hj:joinB s[i]=true)
  (pn:Int) (rv:Value) (HP:Hid (∀ W,Calls Tryz.prog 82 #[.string T] W fun e w'=>e=.returned (.tuple #[.int .i64 pn,.bool false])∧Q W w'))
  (HRf:Hid (∀ W,Calls Tryz.prog 83 #[.string T] W fun e w'=>e=.returned (.tuple #[rv,.bool false])∧Q W w'))
  (HL:Hid (∀ W,Calls Tryz.prog 57 #[.string T] W fun e w'=>e=.returned (.bool true)∧w'=W)) (e1:(T.toList == [84,82,85,69])=false) (e2:(T.toList == [70,65,76,83,69])=false) (H40:Hid (∀ h:M<s.size,s[M]≠40))
  (HF:Hid (wordF (s.data.toList.drop i)=bad)) :
  Calls Tryz.prog 64 #[.string s,.int .i64 (i:Int)] w fun e w'=>e=.returned (rwv (wordF (s.data.toList.drop i)) i)∧Q w w':=by
 obtain ⟨lo,le,eT,lT,zT,yes,no,beh⟩:=hr;have HY:=hid yes;have HN:=hid no;have HJ0:=hid (fun W=>solid_any s[i] W)
 rw [hj]at HJ0;have JJ:=hid (WB.start w);clear yes no lT beh hj;have hT0:0<T.size:=by omega
 have hMi:(i:Int)≤(M:Int):=by omega
 have hMs:(M:Int)≤(s.size:Int):=by omega
 generalize wordF (s.data.toList.drop i)=wf at HF ⊢;go_enter Tryz.func64,Tryz.ntmps64
 go_wp2_with (go_at_call 81;refine (HJ0.out _).mono ?_;rintro e w9 ⟨rfl,h9⟩;replace h9:=h9.symm;subst h9)
 go_loop [6] (fun x=>∃ k:Nat,i≤k∧k≤M∧x=.int .i64 (k:Int)) (fun x=>s.size-(intOf x).toNat)
 case atStart=>exact ⟨i,by omega,by omega,rfl⟩
 case round=>
  obtain ⟨k,hk0,hk,rfl⟩:=hrel;by_cases hlt:k<M
  ·have hks:k<s.size:=by omega
   have HJ:=hid (fun W=>solid_any s[k] W)
   rw [HY.out k hks hk0 hlt]at HJ;go_wp2_with (go_at_call 81;refine (HJ.out _).mono ?_;rintro e w9 ⟨rfl,h9⟩;replace h9:=h9.symm;subst h9)
   go_round
   case rel=>exact ⟨k+1,by omega,by omega,by go_num⟩
   case measure=>simp [intOf];omega
  ·have e:k=M:=by omega
   subst e;clear hk hlt;by_cases hend:k<s.size
   ·have HJ:=hid (fun W=>solid_any s[k] W)
    rw [HN.out hend]at HJ;have e40:=byte_ne (n:=40) (by omega) (H40.out hend)
    go_wp2_with (first|(go_at_call 81;refine (HJ.out _).mono ?_;rintro e w9 ⟨rfl,h9⟩;replace h9:=h9.symm;subst h9)|(go_at_call 82;refine (HP.out _).mono ?_;rintro e w1 ⟨rfl,q1⟩;have J1:=hid (JJ.out.on q1);clear q1;have d0:=J1.out.c0;have d1:=J1.out.c1;have d2:=J1.out.c2;have g0:=J1.out.f0;have g1:=J1.out.f1;have g2:=J1.out.f2)|(go_at_call 83;refine (HRf.out _).mono ?_;rintro e w2 ⟨rfl,q2⟩;have J2:=hid (J1.out.on q2);clear q2;have k0:=J2.out.c0;have k1:=J2.out.c1;have k2:=J2.out.c2;have m0:=J2.out.f0;have m1:=J2.out.f1;have m2:=J2.out.f2)|(go_at_call 57;refine (HL.out _).mono ?_;rintro e w9 ⟨rfl,h9⟩;replace h9:=h9.symm;subst h9))
    refine bodyPost_ret (v:=.tuple #[.agg #[.int .i64 0,.string ⟨#[]⟩,.int .i64 0],.int .i64 0]) (by simp [results,Tryz.results64,go_sem,k0,k1,k2,m0,m1,m2]) rfl ⟨ret_rbad HF.out,?_⟩
    repeat' (first|with_reducible exact J2.out.q|with_reducible refine Q.setCell ?_ (Nat.le_refl _) _|with_reducible refine Q.drewN ?_ _|with_reducible refine Q.drew ?_|with_reducible refine Q.alloc ?_ _)
   ·go_wp2_with (first|(go_at_call 82;refine (HP.out _).mono ?_;rintro e w1 ⟨rfl,q1⟩;have J1:=hid (JJ.out.on q1);clear q1;have d0:=J1.out.c0;have d1:=J1.out.c1;have d2:=J1.out.c2;have g0:=J1.out.f0;have g1:=J1.out.f1;have g2:=J1.out.f2)|(go_at_call 83;refine (HRf.out _).mono ?_;rintro e w2 ⟨rfl,q2⟩;have J2:=hid (J1.out.on q2);clear q2;have k0:=J2.out.c0;have k1:=J2.out.c1;have k2:=J2.out.c2;have m0:=J2.out.f0;have m1:=J2.out.f1;have m2:=J2.out.f2)|(go_at_call 57;refine (HL.out _).mono ?_;rintro e w9 ⟨rfl,h9⟩;replace h9:=h9.symm;subst h9))
    refine bodyPost_ret (v:=.tuple #[.agg #[.int .i64 0,.string ⟨#[]⟩,.int .i64 0],.int .i64 0]) (by simp [results,Tryz.results64,go_sem,k0,k1,k2,m0,m1,m2]) rfl ⟨ret_rbad HF.out,?_⟩
    repeat' (first|with_reducible exact J2.out.q|with_reducible refine Q.setCell ?_ (Nat.le_refl _) _|with_reducible refine Q.drewN ?_ _|with_reducible refine Q.drew ?_|with_reducible refine Q.alloc ?_ _)
end Go.Proofs.YtoikodohcieipaaGreatDoor
namespace Go.Proofs.YtoikodohcieipaaGreatDoor
open Go.RowKit
theorem str_one(s:ByteArray)(k:Nat)(h:k<s.size):(s.extract k (k+1)).data.toList=[s[k]]:=by
 rw [Lib.extract_data,drop_cons s k h];simp
theorem cat_data(a b:ByteArray):(a++b).data.toList=a.data.toList++b.data.toList:=by simp
theorem not_open{s:ByteArray}{k:Nat}(h:s.size≤k):Lib.hasPrefix (s.data.toList.drop k) [34]=false:=by
 rw [List.drop_of_length_le (by simpa using h)];rfl
theorem not_open'{s:ByteArray}{k:Nat}(h:k<s.size)(h34:s[k]≠34):Lib.hasPrefix (s.data.toList.drop k) [34]=false:=by
 rw [drop_cons s k h,Bool.eq_false_iff];intro hx
 unfold Lib.hasPrefix at hx
 rw [List.isPrefixOf_iff_prefix,List.cons_prefix_cons]at hx;exact h34 hx.1.symm
theorem rword_quo(s:ByteArray)(i:Nat)(w:World)(hs:s.size≤100000)(hi:i<s.size)(h34:s[i]=34)
  (R:Option (List UInt8 × Nat)) (HR:Hid (quoF (s.data.toList.drop (i+1)) [] 1=R)) (HF:Hid (wordF (s.data.toList.drop i)=quoP R)) :
  Calls Tryz.prog 64 #[.string s,.int .i64 (i:Int)] w fun e w'=>e=.returned (rwv (wordF (s.data.toList.drop i)) i)∧Q w w':=by
 have HJ0:=hid (fun W=>solid_any s[i] W)
 rw [show joinB s[i]=false by rw [h34];rfl]at HJ0
 have e0:=eq_byte (n:=34) (by omega) h34
 generalize wordF (s.data.toList.drop i)=wf at HF ⊢;clear h34;go_enter Tryz.func64,Tryz.ntmps64
 go_wp2_with (go_at_call 81;refine (HJ0.out _).mono ?_;rintro e w9 ⟨rfl,h9⟩;replace h9:=h9.symm;subst h9)
 go_loop [10,11] (fun x y=>∃ (k:Nat) (A:ByteArray),i+1≤k∧k≤s.size∧x=.string A∧y=.int .i64 (k:Int)∧A.size≤k∧Hid (quoF (s.data.toList.drop k) A.data.toList (k-i)=R)) (fun _ y=>s.size-(intOf y).toNat)
 case atStart=>exact ⟨i+1,⟨#[]⟩,by omega,by omega,rfl,rfl,Nat.zero_le _,by rw [show i+1-i=1 by omega];exact HR⟩
 case round=>
  obtain ⟨k,A,hk0,hk,rfl,rfl,hA,hr⟩:=hrel;by_cases hlt:k<s.size
  ·have ed:=drop_cons s k hlt
   have hr2:=hr.out;rw [ed]at hr2;by_cases hc:s[k]=34
   ·have e34:=eq_byte (n:=34) (by omega) hc
    rw [hc]at hr2;by_cases hz:k+1<s.size
    ·by_cases hc2:s[k+1]=34
     ·have e2:=eq_byte (n:=34) (by omega) hc2
      rw [drop_cons s (k+1) hz,hc2,quoF_two]at hr2;obtain ⟨C,eC⟩:∃ C,A++(⟨#[34]⟩:ByteArray)=C:=⟨_,rfl⟩;have lC:C.data.toList=A.data.toList++[34]:=by rw [←eC,cat_data]
      have zC:C.size=A.size+1:=by rw [←len_data,lC,List.length_append,len_data];rfl
      have kC:¬ 9223372036854775807<A.size+1:=by omega
      have HR2:Hid (quoF (s.data.toList.drop (k+2)) C.data.toList (k+2-i)=R):=by
       show _=_
       rw [lC,show k+2-i=k-i+2 by omega]
       exact hr2
      clear hr hr2 lC ed;go_wp2_with fail
      go_round
      case rel=>exact ⟨_,.string C,.int .i64 ((k:Int)+1+1),⟨k+2,by omega,by omega,C,rfl,by go_num,by omega,HR2⟩,rfl,rfl,rfl⟩
      case measure=>simp [intOf];omega
     ·have e2:=byte_ne (n:=34) (by omega) hc2
      rw [quoF_end (not_open' hz hc2)]at hr2;clear hr ed;have HU:=hid (fun W=>V.utf8_any A W (by omega))
      by_cases hbig:200<A.size
      ·have HB:Hid (wf=bad):=by
        show _=_
        rw [HF.out,←hr2];simp only [quoP,V.mtB,len_data,decide_eq_false (show ¬ A.size≤200 by omega),Bool.false_and]
        rfl
       clear hr2 HF;go_wp2_with fail
       refine bodyPost_ret (v:=.tuple #[.agg #[.int .i64 0,.string ⟨#[]⟩,.int .i64 0],.int .i64 0]) (by simp [results,Tryz.results64,go_sem]) rfl ⟨ret_rbad HB.out,?_⟩
       repeat' (first|with_reducible exact Q.refl _|with_reducible refine Q.setCell ?_ (Nat.le_refl _) _|with_reducible refine Q.drewN ?_ _|with_reducible refine Q.drew ?_|with_reducible refine Q.alloc ?_ _)
      ·cases hv:Lib.validD A.data.toList
       ·rw [hv]at HU
        have HB:Hid (wf=bad):=by
         show _=_
         rw [HF.out,←hr2];simp only [quoP,V.mtB,hv,Bool.and_false]
         rfl
        clear hr2 HF hv;go_wp2_with (go_at_call 55;refine (HU.out _).mono ?_;rintro e w9 ⟨rfl,h9⟩;replace h9:=h9.symm;subst h9)
        refine bodyPost_ret (v:=.tuple #[.agg #[.int .i64 0,.string ⟨#[]⟩,.int .i64 0],.int .i64 0]) (by simp [results,Tryz.results64,go_sem]) rfl ⟨ret_rbad HB.out,?_⟩
        repeat' (first|with_reducible exact Q.refl _|with_reducible refine Q.setCell ?_ (Nat.le_refl _) _|with_reducible refine Q.drewN ?_ _|with_reducible refine Q.drew ?_|with_reducible refine Q.alloc ?_ _)
       ·rw [hv]at HU
        have HB:Hid (wf=(2,A.data.toList,k-i+1)):=by
         show _=_
         rw [HF.out,←hr2];simp only [quoP,V.mtB,hv,len_data,decide_eq_true (show A.size≤200 by omega),Bool.and_true,if_true]
        clear hr2 HF hv;go_wp2_with (go_at_call 55;refine (HU.out _).mono ?_;rintro e w9 ⟨rfl,h9⟩;replace h9:=h9.symm;subst h9)
        refine bodyPost_ret (v:=.tuple #[.agg #[.int .i64 2,.string A,.int .i64 (i:Int)],.int .i64 ((k:Int)+1-(i:Int))]) (by simp [results,Tryz.results64,go_sem]) rfl ⟨ret_rw HB.out (by omega) rfl rfl (by omega),?_⟩
        repeat' (first|with_reducible exact Q.refl _|with_reducible refine Q.setCell ?_ (Nat.le_refl _) _|with_reducible refine Q.drewN ?_ _|with_reducible refine Q.drew ?_|with_reducible refine Q.alloc ?_ _)
    ·rw [quoF_end (not_open (by omega))]at hr2
     clear hr ed;have HU:=hid (fun W=>V.utf8_any A W (by omega))
     by_cases hbig:200<A.size
     ·have HB:Hid (wf=bad):=by
       show _=_
       rw [HF.out,←hr2];simp only [quoP,V.mtB,len_data,decide_eq_false (show ¬ A.size≤200 by omega),Bool.false_and]
       rfl
      clear hr2 HF;go_wp2_with fail
      refine bodyPost_ret (v:=.tuple #[.agg #[.int .i64 0,.string ⟨#[]⟩,.int .i64 0],.int .i64 0]) (by simp [results,Tryz.results64,go_sem]) rfl ⟨ret_rbad HB.out,?_⟩
      repeat' (first|with_reducible exact Q.refl _|with_reducible refine Q.setCell ?_ (Nat.le_refl _) _|with_reducible refine Q.drewN ?_ _|with_reducible refine Q.drew ?_|with_reducible refine Q.alloc ?_ _)
     ·cases hv:Lib.validD A.data.toList
      ·rw [hv]at HU
       have HB:Hid (wf=bad):=by
        show _=_
        rw [HF.out,←hr2];simp only [quoP,V.mtB,hv,Bool.and_false]
        rfl
       clear hr2 HF hv;go_wp2_with (go_at_call 55;refine (HU.out _).mono ?_;rintro e w9 ⟨rfl,h9⟩;replace h9:=h9.symm;subst h9)
       refine bodyPost_ret (v:=.tuple #[.agg #[.int .i64 0,.string ⟨#[]⟩,.int .i64 0],.int .i64 0]) (by simp [results,Tryz.results64,go_sem]) rfl ⟨ret_rbad HB.out,?_⟩
       repeat' (first|with_reducible exact Q.refl _|with_reducible refine Q.setCell ?_ (Nat.le_refl _) _|with_reducible refine Q.drewN ?_ _|with_reducible refine Q.drew ?_|with_reducible refine Q.alloc ?_ _)
      ·rw [hv]at HU
       have HB:Hid (wf=(2,A.data.toList,k-i+1)):=by
        show _=_
        rw [HF.out,←hr2];simp only [quoP,V.mtB,hv,len_data,decide_eq_true (show A.size≤200 by omega),Bool.and_true,if_true]
       clear hr2 HF hv;go_wp2_with (go_at_call 55;refine (HU.out _).mono ?_;rintro e w9 ⟨rfl,h9⟩;replace h9:=h9.symm;subst h9)
       refine bodyPost_ret (v:=.tuple #[.agg #[.int .i64 2,.string A,.int .i64 (i:Int)],.int .i64 ((k:Int)+1-(i:Int))]) (by simp [results,Tryz.results64,go_sem]) rfl ⟨ret_rw HB.out (by omega) rfl rfl (by omega),?_⟩
       repeat' (first|with_reducible exact Q.refl _|with_reducible refine Q.setCell ?_ (Nat.le_refl _) _|with_reducible refine Q.drewN ?_ _|with_reducible refine Q.drew ?_|with_reducible refine Q.alloc ?_ _)
   ·have e34:=byte_ne (n:=34) (by omega) hc
    rw [quoF_not hc]at hr2;obtain ⟨X,eX⟩:∃ X,s.extract k (k+1)=X:=⟨_,rfl⟩;have lX:X.data.toList=[s[k]]:=by rw [←eX];exact str_one s k hlt
    have zX:X.size=1:=by rw [←len_data,lX];rfl
    obtain ⟨C,eC⟩:∃ C,A++X=C:=⟨_,rfl⟩;have lC:C.data.toList=A.data.toList++[s[k]]:=by rw [←eC,cat_data,lX]
    have zC:C.size=A.size+1:=by rw [←len_data,lC,List.length_append,len_data];rfl
    have kC:¬ 9223372036854775807<A.size+X.size:=by omega
    have HR2:Hid (quoF (s.data.toList.drop (k+1)) C.data.toList (k+1-i)=R):=by
     show _=_
     rw [lC,show k+1-i=k-i+1 by omega]
     exact hr2
    have eX':s.extract k ((k:Int)+1).toNat=X:=by rw [show ((k:Int)+1).toNat=k+1 by omega];exact eX
    clear hr hr2 lC ed lX;go_wp2_with fail
    go_round
    case rel=>exact ⟨k+1,C,by omega,by omega,rfl,by go_num,by omega,HR2⟩
    case measure=>simp [intOf];omega
  ·have hr2:=hr.out
   rw [List.drop_of_length_le (by simp;omega)]at hr2
   have HB:Hid (wf=bad):=by show _=_;rw [HF.out,←hr2];rfl
   clear hr2 hr HF;go_wp2_with fail
   refine bodyPost_ret (v:=.tuple #[.agg #[.int .i64 0,.string ⟨#[]⟩,.int .i64 0],.int .i64 0]) (by simp [results,Tryz.results64,go_sem]) rfl ⟨ret_rbad HB.out,?_⟩
   repeat' (first|with_reducible exact Q.refl _|with_reducible refine Q.setCell ?_ (Nat.le_refl _) _|with_reducible refine Q.drewN ?_ _|with_reducible refine Q.drew ?_|with_reducible refine Q.alloc ?_ _)
end Go.Proofs.YtoikodohcieipaaGreatDoor
namespace Go.Proofs.YtoikodohcieipaaGreatDoor
open Go.RowKit
set_option linter.unusedVariables false
set_option linter.unusedSimpArgs false
theorem pre_take{l p:List UInt8}:Lib.hasPrefix l p=(l.take p.length == p):=by
 unfold Lib.hasPrefix
 rw [Bool.eq_iff_iff,List.isPrefixOf_iff_prefix,beq_iff_eq]
 constructor
 ·intro h
  exact (List.prefix_iff_eq_take.1 h).symm
 ·intro h
  exact List.prefix_iff_eq_take.2 h.symm
theorem pre_part(s N:ByteArray)(i:Nat):((s.extract i (i+N.size)).toList == N.toList)=Lib.hasPrefix (s.data.toList.drop i) N.data.toList:=by
 rw [pre_take,Lib.toList_data,Lib.toList_data,Lib.extract_data,len_data,Nat.add_sub_cancel_left]
theorem pre_short{s N:ByteArray}{i:Nat}(h:s.size<i+N.size)(hi:i≤s.size):Lib.hasPrefix (s.data.toList.drop i) N.data.toList=false:=by
 rw [Bool.eq_false_iff];intro hx
 have:=prefix_len hx
 rw [List.length_drop,len_data,len_data]at this;omega
theorem rword_err(s:ByteArray)(i:Nat)(w:World)(hs:s.size≤100000)(hi:i<s.size)(h35:s[i]=35)
  (HF:Hid (wordF (s.data.toList.drop i)=errP (([1,2,3,4,5,6,7]:List Int).find? (fun e=>Lib.hasPrefix (s.data.toList.drop i) (enL e))))) :
  Calls Tryz.prog 64 #[.string s,.int .i64 (i:Int)] w fun e w'=>e=.returned (rwv (wordF (s.data.toList.drop i)) i)∧Q w w':=by
 have HJ0:=hid (fun W=>solid_any s[i] W)
 rw [show joinB s[i]=false by rw [h35];rfl]at HJ0
 have e0:((s[i].toNat:Int) == 35)=true:=eq_byte (n:=35) (by omega) h35
 have e1:((s[i].toNat:Int) == 34)=false:=byte_ne (n:=34) (c:=s[i]) (by omega) (by rw [h35];decide)
 generalize wordF (s.data.toList.drop i)=wf at HF ⊢;have HS:=hid (WB.start w);clear h35;go_enter Tryz.func64,Tryz.ntmps64
 go_wp2_with (go_at_call 81;refine (HJ0.out _).mono ?_;rintro e w9 ⟨rfl,h9⟩;replace h9:=h9.symm;subst h9)
 try simp only [e0,e1]
 go_loopw [12] (fun x W=>∃ k:Nat,k≤7∧x=.int .i64 ((k:Int)+1)∧WB w W∧Hid (wf=errP ((([1,2,3,4,5,6,7]:List Int).drop k).find? (fun e=>Lib.hasPrefix (s.data.toList.drop i) (enL e))))) (fun x _=>8-(intOf x).toNat)
 case atStart=>exact ⟨0,by omega,rfl,HS.out,HF⟩
 case round=>
  obtain ⟨k,hk,rfl,hJB,hr⟩:=hrel;have HJB:=hid hJB;clear hJB;by_cases hlt:k<7
  ·have hn:=fun W=>V.rname_any ((k:Int)+1) W
   obtain ⟨N,eN⟩:∃ N:ByteArray,⟨(enL ((k:Int)+1)).toArray⟩=N:=⟨_,rfl⟩;have lN:N.data.toList=enL ((k:Int)+1):=by rw [←eN]
   have zN:N.size≤100∧0<N.size:=by
    rw [←len_data,lN]
    rcases (by omega:k=0∨k=1∨k=2∨k=3∨k=4∨k=5∨k=6) with rfl|rfl|rfl|rfl|rfl|rfl|rfl <;> decide
   obtain ⟨zN,zN0⟩:=zN;rw [eN]at hn;have H1:=hid hn;have hr2:=hr.out;rw [err_step k hlt,List.find?_cons,←lN]at hr2;clear hn eN hr;by_cases hfit:i+N.size≤s.size
   ·obtain ⟨X,eX⟩:∃ X,s.extract i (i+N.size)=X:=⟨_,rfl⟩
    have hp:=pre_part s N i;rw [eX]at hp;have eX':s.extract i ((i:Int)+(N.size:Int)).toNat=X:=by rw [show ((i:Int)+(N.size:Int)).toNat=i+N.size by omega];exact eX
    have hfi:(i:Int)+(N.size:Int)≤(s.size:Int):=by omega
    cases hb:Lib.hasPrefix (s.data.toList.drop i) N.data.toList
    ·rw [hb]at hp hr2
     have HR:=hid hr2;clear hr2 hb lN;go_wp2_with (go_at_call 84;refine (H1.out _).mono ?_;rintro e w1 ⟨rfl,q1⟩;have J1:=hid (HJB.out.on q1);clear q1;have d0:=J1.out.c0;have d1:=J1.out.c1;have d2:=J1.out.c2;have g0:=J1.out.f0;have g1:=J1.out.f1;have g2:=J1.out.f2)
     go_roundw
     case rel=>exact ⟨k+1,by omega,by go_num,J1.out,HR⟩
     case measure=>simp [intOf];omega
    ·rw [hb]at hp hr2
     have HB:Hid (wf=(5,N.data.toList,N.size)):=by show _=_;rw [hr2,←len_data,lN];rfl
     clear hr2 hb lN;go_wp2_with (go_at_call 84;refine (H1.out _).mono ?_;rintro e w1 ⟨rfl,q1⟩;have J1:=hid (HJB.out.on q1);clear q1;have d0:=J1.out.c0;have d1:=J1.out.c1;have d2:=J1.out.c2;have g0:=J1.out.f0;have g1:=J1.out.f1;have g2:=J1.out.f2)
     refine bodyPost_ret (v:=.tuple #[.agg #[.int .i64 5,.string N,.int .i64 (i:Int)],.int .i64 (N.size:Int)]) (by simp [results,Tryz.results64,go_sem,d0,d1,d2,g0,g1,g2]) rfl ⟨ret_rw HB.out (by omega) rfl rfl rfl,?_⟩
     repeat' (first|with_reducible exact J1.out.q|with_reducible refine Q.setCell ?_ (Nat.le_refl _) _|with_reducible refine Q.drewN ?_ _|with_reducible refine Q.drew ?_|with_reducible refine Q.alloc ?_ _)
   ·rw [pre_short (by omega) (by omega)]at hr2
    have HR:=hid hr2;clear hr2 lN;go_wp2_with (go_at_call 84;refine (H1.out _).mono ?_;rintro e w1 ⟨rfl,q1⟩;have J1:=hid (HJB.out.on q1);clear q1;have d0:=J1.out.c0;have d1:=J1.out.c1;have d2:=J1.out.c2;have g0:=J1.out.f0;have g1:=J1.out.f1;have g2:=J1.out.f2)
    go_roundw
    case rel=>exact ⟨k+1,by omega,by go_num,J1.out,HR⟩
    case measure=>simp [intOf];omega
  ·have e:k=7:=by omega
   subst e;have HB:Hid (wf=bad):=hid hr.out
   have d0:=HJB.out.c0;have d1:=HJB.out.c1;have d2:=HJB.out.c2;have g0:=HJB.out.f0;have g1:=HJB.out.f1;have g2:=HJB.out.f2;clear hr;go_wp2_with fail
   refine bodyPost_ret (v:=.tuple #[.agg #[.int .i64 0,.string ⟨#[]⟩,.int .i64 0],.int .i64 0]) (by simp [results,Tryz.results64,go_sem,d0,d1,d2,g0,g1,g2]) rfl ⟨ret_rbad HB.out,?_⟩
   repeat' (first|with_reducible exact HJB.out.q|with_reducible refine Q.setCell ?_ (Nat.le_refl _) _|with_reducible refine Q.drewN ?_ _|with_reducible refine Q.drew ?_|with_reducible refine Q.alloc ?_ _)
end Go.Proofs.YtoikodohcieipaaGreatDoor
namespace Go.Proofs.YtoikodohcieipaaGreatDoor
open Go.RowKit
set_option linter.unusedVariables false
set_option linter.unusedSimpArgs false
def sgR:List (List UInt8):=[[60,62],[60,61],[62,61],[43],[45],[42],[47],[38],[61],[60],[62],[40],[41],[44],[58]]
def sgB:Array Value:=#[.string ⟨#[60,62]⟩,.string ⟨#[60,61]⟩,.string ⟨#[62,61]⟩,.string ⟨#[43]⟩,.string ⟨#[45]⟩,.string ⟨#[42]⟩,.string ⟨#[47]⟩,.string ⟨#[38]⟩,.string ⟨#[61]⟩,.string ⟨#[60]⟩,.string ⟨#[62]⟩,.string ⟨#[40]⟩,.string ⟨#[41]⟩,.string ⟨#[44]⟩,.string ⟨#[58]⟩]
theorem sgB_at(k:Nat)(h:k<15):sgB[k]?=some (.string ⟨(sgR.getD k []).toArray⟩):=by
 rcases (by omega:k=0∨k=1∨k=2∨k=3∨k=4∨k=5∨k=6∨k=7∨k=8∨k=9∨k=10∨k=11∨k=12∨k=13∨k=14) with rfl|rfl|rfl|rfl|rfl|rfl|rfl|rfl|rfl|rfl|rfl|rfl|rfl|rfl|rfl <;> rfl
theorem sgR_step(k:Nat)(h:k<15):sgR.drop k=(sgR.getD k [])::sgR.drop (k+1):=by
 rcases (by omega:k=0∨k=1∨k=2∨k=3∨k=4∨k=5∨k=6∨k=7∨k=8∨k=9∨k=10∨k=11∨k=12∨k=13∨k=14) with rfl|rfl|rfl|rfl|rfl|rfl|rfl|rfl|rfl|rfl|rfl|rfl|rfl|rfl|rfl <;> rfl
theorem sgR_len(k:Nat)(h:k<15):(sgR.getD k []).length≤2∧0<(sgR.getD k []).length:=by
 rcases (by omega:k=0∨k=1∨k=2∨k=3∨k=4∨k=5∨k=6∨k=7∨k=8∨k=9∨k=10∨k=11∨k=12∨k=13∨k=14) with rfl|rfl|rfl|rfl|rfl|rfl|rfl|rfl|rfl|rfl|rfl|rfl|rfl|rfl|rfl <;> decide
theorem hp_one(a c:UInt8)(r:List UInt8):Lib.hasPrefix (a::r) [c]=(c == a):=by
 unfold Lib.hasPrefix
 simp [List.isPrefixOf]
theorem sgR_eq(l:List UInt8):sgR.find? (fun t=>Lib.hasPrefix l t)=sgL.find? (fun t=>Lib.hasPrefix l t):=by
 cases l with
 |nil=>decide
 |cons a r=>
  unfold sgR sgL
  simp only [List.find?_cons,hp_one]
  cases Lib.hasPrefix (a::r) [60,62] <;> cases Lib.hasPrefix (a::r) [60,61] <;> cases Lib.hasPrefix (a::r) [62,61] <;> simp only []
  by_cases h1:a=60
  ·subst h1;rfl
  by_cases h2:a=62
  ·subst h2;rfl
  by_cases h3:a=61
  ·subst h3;rfl
  have n1:((60:UInt8) == a)=false:=by rw [beq_eq_false_iff_ne];exact fun e=>h1 e.symm
  have n2:((62:UInt8) == a)=false:=by rw [beq_eq_false_iff_ne];exact fun e=>h2 e.symm
  have n3:((61:UInt8) == a)=false:=by rw [beq_eq_false_iff_ne];exact fun e=>h3 e.symm
  rw [n1,n2,n3]
structure SG (w W:World):Prop where
 wb:WB w W
 lt:w.heap.size+1<W.heap.size
 c:∀ k:Nat,k<15→W.cell? ⟨w.heap.size+1,k,none⟩=some (.string ⟨(sgR.getD k []).toArray⟩)
theorem SG.on{w W W':World}(h:SG w W)(q:Q W W'):SG w W':=⟨h.wb.on q,q.lt h.lt,fun k hk=>(q.cell h.lt).trans (h.c k hk)⟩
theorem pre_take'{l p:List UInt8}:Lib.hasPrefix l p=(l.take p.length == p):=by
 unfold Lib.hasPrefix
 rw [Bool.eq_iff_iff,List.isPrefixOf_iff_prefix,beq_iff_eq]
 constructor
 ·intro h
  exact (List.prefix_iff_eq_take.1 h).symm
 ·intro h
  exact List.prefix_iff_eq_take.2 h.symm
theorem pre_part'(s N:ByteArray)(i:Nat):((s.extract i (i+N.size)).toList == N.toList)=Lib.hasPrefix (s.data.toList.drop i) N.data.toList:=by
 rw [pre_take',Lib.toList_data,Lib.toList_data,Lib.extract_data,len_data,Nat.add_sub_cancel_left]
theorem pre_short'{s N:ByteArray}{i:Nat}(h:s.size<i+N.size)(hi:i≤s.size):Lib.hasPrefix (s.data.toList.drop i) N.data.toList=false:=by
 rw [Bool.eq_false_iff];intro hx
 have:=prefix_len hx
 rw [List.length_drop,len_data,len_data]at this;omega
theorem rword_sig(s:ByteArray)(i:Nat)(w:World)(hs:s.size≤100000)(hi:i<s.size)(h34:s[i]≠34)(h35:s[i]≠35)(hj:joinB s[i]=false)
  (HF:Hid (wordF (s.data.toList.drop i)=sigP (sgR.find? (fun t=>Lib.hasPrefix (s.data.toList.drop i) t)))) :
  Calls Tryz.prog 64 #[.string s,.int .i64 (i:Int)] w fun e w'=>e=.returned (rwv (wordF (s.data.toList.drop i)) i)∧Q w w':=by
 have HJ0:=hid (fun W=>solid_any s[i] W)
 rw [hj]at HJ0;have e0:((s[i].toNat:Int) == 35)=false:=byte_ne (n:=35) (by omega) h35
 have e1:((s[i].toNat:Int) == 34)=false:=byte_ne (n:=34) (by omega) h34
 generalize wordF (s.data.toList.drop i)=wf at HF ⊢;have HS:=hid ((WB.start w).on ((Q.refl _).alloc (.cells sgB 9)));have HC:Hid (∀ (k:Nat),k<15→((w.alloc (.cells #[.int .i64 0,.string ⟨#[]⟩,.int .i64 0] 78)).alloc (.cells sgB 9)).cell? ⟨w.heap.size+1,k,none⟩=some (.string ⟨(sgR.getD k []).toArray⟩)):=hid (fun k h=>by
  have e:w.heap.size+1=(w.alloc (.cells #[.int .i64 0,.string ⟨#[]⟩,.int .i64 0] 78)).heap.size:=by simp
  rw [e,World.cell?_alloc_new];exact sgB_at k h)
 obtain ⟨W,hW⟩:∃ W,(w.alloc (.cells #[.int .i64 0,.string ⟨#[]⟩,.int .i64 0] 78)).alloc (.cells sgB 9)=W:=⟨_,rfl⟩;have hlt:w.heap.size+1<W.heap.size:=by rw [←hW];simp
 rw [hW]at HS HC;have HG:Hid (SG w W):=hid ⟨HS.out,hlt,HC.out⟩
 clear h35 h34 hj HS HC hlt;go_enter Tryz.func64,Tryz.ntmps64
 go_wp2_with (go_at_call 81;refine (HJ0.out _).mono ?_;rintro e w9 ⟨rfl,h9⟩;replace h9:=h9.symm;subst h9)
 unfold sgB at hW
 rw [hW];clear hW
 try simp only [e0,e1]
 go_loopw [15] (fun x W=>∃ k:Nat,k≤15∧x=.int .i64 (k:Int)∧SG w W∧Hid (wf=sigP ((sgR.drop k).find? (fun t=>Lib.hasPrefix (s.data.toList.drop i) t)))) (fun x _=>15-(intOf x).toNat)
 case atStart=>exact ⟨0,by omega,rfl,HG.out,HF⟩
 case round=>
  obtain ⟨k,hk,rfl,hG,hr⟩:=hrel;have HG2:=hid hG;clear hG;by_cases hlt:k<15
  ·have hc:=HG2.out.c k hlt
   obtain ⟨N,eN⟩:∃ N:ByteArray,⟨(sgR.getD k []).toArray⟩=N:=⟨_,rfl⟩;have lN:N.data.toList=sgR.getD k []:=by rw [←eN]
   have zN:=sgR_len k hlt;rw [←lN,len_data]at zN;obtain ⟨zN,zN0⟩:=zN;rw [eN]at hc;have hr2:=hr.out;rw [sgR_step k hlt,List.find?_cons,←lN]at hr2;clear eN hr lN;have hwr:IntKind.i64.wrap ((i:Int)+(N.size:Int))=(i:Int)+(N.size:Int):=by rw [IntKind.wrap_i64];omega
   by_cases hfit:i+N.size≤s.size
   ·obtain ⟨X,eX⟩:∃ X,s.extract i (i+N.size)=X:=⟨_,rfl⟩
    have hp:=pre_part' s N i;rw [eX]at hp;have eX':s.extract i ((i:Int)+(N.size:Int)).toNat=X:=by rw [show ((i:Int)+(N.size:Int)).toNat=i+N.size by omega];exact eX
    have hfi:(i:Int)+(N.size:Int)≤(s.size:Int):=by omega
    cases hb:Lib.hasPrefix (s.data.toList.drop i) N.data.toList
    ·rw [hb]at hp hr2
     have HR:=hid hr2;clear hr2 hb;go_wp2_with fail
     go_quiet (fail)
     go_wp2_with fail
     go_roundw
     case rel=>exact ⟨k+1,by omega,by go_num,HG2.out.on (by repeat (first|exact Q.refl _|refine Q.drewN ?_ _|refine Q.drew ?_)),HR⟩
     case measure=>simp [intOf];omega
    ·rw [hb]at hp hr2
     have HB:Hid (wf=(6,N.data.toList,N.data.toList.length)):=by show _=_;rw [hr2];rfl
     have d0:=HG2.out.wb.c0;have d1:=HG2.out.wb.c1;have d2:=HG2.out.wb.c2;have g0:=HG2.out.wb.f0;have g1:=HG2.out.wb.f1;have g2:=HG2.out.wb.f2;clear hr2 hb;go_wp2_with fail
     go_quiet (fail)
     go_wp2_with fail
     refine bodyPost_ret (v:=.tuple #[.agg #[.int .i64 6,.string N,.int .i64 (i:Int)],.int .i64 (N.size:Int)]) (by simp [results,Tryz.results64,go_sem,d0,d1,d2,g0,g1,g2]) rfl ⟨ret_rw HB.out (by rw [len_data];omega) rfl rfl (by rw [len_data]),?_⟩
     repeat' (first|with_reducible exact HG2.out.wb.q|with_reducible refine Q.setCell ?_ (Nat.le_refl _) _|with_reducible refine Q.drewN ?_ _|with_reducible refine Q.drew ?_|with_reducible refine Q.alloc ?_ _)
   ·rw [pre_short' (by omega) (by omega)]at hr2
    have HR:=hid hr2;have hfi:(s.size:Int)<(i:Int)+(N.size:Int):=by omega
    have hfj:decide ((i:Int)+(N.size:Int)≤(s.size:Int))=false:=by rw [decide_eq_false_iff_not];omega
    clear hr2;go_wp2_with fail
    go_quiet (fail)
    go_wp2_with fail
    go_roundw
    case rel=>exact ⟨k+1,by omega,by go_num,HG2.out.on (by repeat (first|exact Q.refl _|refine Q.drewN ?_ _|refine Q.drew ?_)),HR⟩
    case measure=>simp [intOf];omega
  ·have e:k=15:=by omega
   subst e;have HB:Hid (wf=bad):=hid hr.out
   have d0:=HG2.out.wb.c0;have d1:=HG2.out.wb.c1;have d2:=HG2.out.wb.c2;have g0:=HG2.out.wb.f0;have g1:=HG2.out.wb.f1;have g2:=HG2.out.wb.f2;clear hr;go_wp2_with fail
   refine bodyPost_ret (v:=.tuple #[.agg #[.int .i64 0,.string ⟨#[]⟩,.int .i64 0],.int .i64 0]) (by simp [results,Tryz.results64,go_sem,d0,d1,d2,g0,g1,g2]) rfl ⟨ret_rbad HB.out,?_⟩
   repeat' (first|with_reducible exact HG2.out.wb.q|with_reducible refine Q.setCell ?_ (Nat.le_refl _) _|with_reducible refine Q.drewN ?_ _|with_reducible refine Q.drew ?_|with_reducible refine Q.alloc ?_ _)
end Go.Proofs.YtoikodohcieipaaGreatDoor
