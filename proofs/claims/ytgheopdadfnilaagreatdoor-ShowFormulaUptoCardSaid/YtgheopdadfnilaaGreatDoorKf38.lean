/- show.readValue, walked; show.r. -/
import Derived.Test.YtgheopdadfnilaaGreatDoorKf37
import Derived.Test.YtgheopdadfnilaaGreatDoorKf24
set_option linter.unusedVariables false
set_option linter.unusedSimpArgs false
set_option maxRecDepth 100000
set_option maxHeartbeats 8000000
namespace Go.Proofs.YtgheopdadfnilaaGreatDoor
open Go.RowKit
theorem bytes_of(s:ByteArray):(⟨s.data.toList.toArray⟩:ByteArray)=s:=by
 apply ByteArray.ext
 simp
theorem readValue_any(s:ByteArray)(w:World)(hw:Std w)(hs:s.size≤100000):Calls Tryz.prog 42 #[.string s] w fun e w'=>e=.returned (vL (rvT s.data.toList))∧Q w w':=by
 have HZ:=hid (cb_new w [.int .i64 0,.int .i64 0,.string ⟨#[]⟩,.bool false,.int .i64 0] 37);have HW:=hid hw;have HP0:=hid (fun W=>Tryz.strings_CutPrefix s ⟨#[39]⟩ W)
 have HF:=hid (fun W' (g:Std W')=>V.parse_any s W' g (by omega))
 have HE:=hid (fun W' (g:Nam W')=>errorNamed_any s W' g)
 have HX:=hid (fun W'=>textValue_any s W' (by omega))
 have HT:=hid (fun W' (g:Std W')=>truth_text s W' g (by omega))
 clear hw;unfold vL rvT
 by_cases h0:s.data.toList=[]
 ·have f0:(s.toList == [])=true:=by rw [Lib.toList_data,h0];rfl
  rw [if_pos h0];clear h0;go_enter Tryz.func42,Tryz.ntmps42
  go_wp2_with fail
  refine bodyPost_ret (v:=.agg #[.int .i64 0,.int .i64 0,.string ⟨#[]⟩,.bool false,.int .i64 0]) (by simp [results,Tryz.results42,go_sem]) rfl ?_
  exact ⟨rfl,by repeat (first|with_reducible exact Q.refl _|with_reducible refine Q.alloc ?_ _|with_reducible refine Q.setCell ?_ (Nat.le_refl _) _)⟩
 ·have f0:(s.toList == [])=false:=by rw [Lib.toList_data,beq_eq_false_iff_ne];exact h0
  rw [if_neg h0];clear h0;by_cases hq:Lib.hasPrefix s.data.toList [39]=true
  ·have HP:Hid (∀ W,Calls Tryz.prog 40 #[.string s,.string ⟨#[39]⟩] W fun e w'=>e=.returned (.tuple #[.string ⟨(s.data.toList.drop 1).toArray⟩,.bool true])∧w'=W):=by
    intro W
    have:=HP0.out W
    rw [show (⟨#[39]⟩:ByteArray).data.toList=[39] from rfl,hq,trim_drop hq]at this
    exact this
   rw [if_pos hq];obtain ⟨T,hT⟩:∃ T:ByteArray,(⟨(s.data.toList.drop 1).toArray⟩:ByteArray)=T:=⟨_,rfl⟩;have hTs:T.size≤281474976710656:=by rw [←hT,size_mk,List.length_drop,len_data];omega
   have HX2:=hid (fun W'=>textValue_any T W' hTs)
   rw [hT]at HP;unfold vx at *
   simp only
   rw [hT];clear hT hTs hq HP0 HX HT HE HF;go_enter Tryz.func42,Tryz.ntmps42
   go_wp2_with (first|(go_at_call 40;refine (HP.out _).mono ?_;rintro e9 w9 ⟨rfl,h9⟩;replace h9:=h9.symm;subst h9)|(go_at_call 77;refine (HX2.out _).mono ?_;rintro e9 w1 ⟨rfl,q1⟩;have Z1:=hid (HZ.out.on q1);have Q1:Hid (Q w w1):=hid (((Q.refl _).alloc _).trans q1);clear q1;have d0:=Z1.out.c 0 _ rfl;have d1:=Z1.out.c 1 _ rfl;have d2:=Z1.out.c 2 _ rfl;have d3:=Z1.out.c 3 _ rfl;have d4:=Z1.out.c 4 _ rfl;have y0:=Z1.out.f 0;have y1:=Z1.out.f 1;have y2:=Z1.out.f 2;have y3:=Z1.out.f 3;have y4:=Z1.out.f 4))
   refine bodyPost_ret (v:=.agg #[.int .i64 2,.int .i64 0,.string T,.bool false,.int .i64 0]) (by simp [results,Tryz.results42,go_sem,d0,d1,d2,d3,d4]) rfl ?_
   exact ⟨rfl,Q.setCell (Q.setCell (Q.setCell (Q.setCell (Q.setCell Q1.out (Nat.le_refl _) _) (Nat.le_refl _) _) (Nat.le_refl _) _) (Nat.le_refl _) _) (Nat.le_refl _) _⟩
  ·have hq':Lib.hasPrefix s.data.toList [39]=false:=by simpa using hq
   have HP:Hid (∀ W,Calls Tryz.prog 40 #[.string s,.string ⟨#[39]⟩] W fun e w'=>e=.returned (.tuple #[.string ⟨(Lib.trimPrefix s.data.toList [39]).toArray⟩,.bool false])∧w'=W):=by
    intro W
    have:=HP0.out W
    rw [show (⟨#[39]⟩:ByteArray).data.toList=[39] from rfl,hq']at this
    exact this
   rw [if_neg hq];generalize (⟨(Lib.trimPrefix s.data.toList [39]).toArray⟩:ByteArray)=T9 at HP;clear hq hq' HP0;by_cases hn:V.pf (V.parseO s.data.toList)=true
   ·rw [hn]at HF
    rw [if_pos hn];simp only
    generalize V.pk (V.parseO s.data.toList)=pn at HF ⊢;unfold vx
    clear hn HX HT HE;go_enter Tryz.func42,Tryz.ntmps42
    go_wp2_with (first|(go_at_call 40;refine (HP.out _).mono ?_;rintro e9 w9 ⟨rfl,h9⟩;replace h9:=h9.symm;subst h9)|(go_at_call 78;refine (HF.out _ (HW.out.on ((Q.refl _).alloc _))).mono ?_;rintro e9 w1 ⟨rfl,q1⟩;have Z1:=hid (HZ.out.on q1);have Q1:Hid (Q w w1):=hid (((Q.refl _).alloc _).trans q1);clear q1;have d0:=Z1.out.c 0 _ rfl;have d1:=Z1.out.c 1 _ rfl;have d2:=Z1.out.c 2 _ rfl;have d3:=Z1.out.c 3 _ rfl;have d4:=Z1.out.c 4 _ rfl;have y0:=Z1.out.f 0;have y1:=Z1.out.f 1;have y2:=Z1.out.f 2;have y3:=Z1.out.f 3;have y4:=Z1.out.f 4))
    refine bodyPost_ret (v:=.agg #[.int .i64 1,.int .i64 pn,.string ⟨#[]⟩,.bool false,.int .i64 0]) (by simp [results,Tryz.results42,go_sem,d0,d1,d2,d3,d4]) rfl ?_
    exact ⟨rfl,Q.setCell (Q.setCell (Q.setCell (Q.setCell (Q.setCell Q1.out (Nat.le_refl _) _) (Nat.le_refl _) _) (Nat.le_refl _) _) (Nat.le_refl _) _) (Nat.le_refl _) _⟩
   ·have hn':V.pf (V.parseO s.data.toList)=false:=by simpa using hn
    rw [hn']at HF;rw [if_neg hn];generalize V.pk (V.parseO s.data.toList)=pn at HF;clear hn hn';by_cases he:errN s.data.toList≠0
    ·rw [if_pos he]
     have ne:((errN s.data.toList:Int) == 0)=false:=by rw [beq_eq_false_iff_ne];omega
     have ne2:¬ (errN s.data.toList:Int)=0:=by omega
     simp only
     generalize (errN s.data.toList:Int)=en at HE ne ne2 ⊢;unfold vx
     clear he HX HT;go_enter Tryz.func42,Tryz.ntmps42
     go_wp2_with (first|(go_at_call 40;refine (HP.out _).mono ?_;rintro e9 w9 ⟨rfl,h9⟩;replace h9:=h9.symm;subst h9)|(go_at_call 78;refine (HF.out _ (HW.out.on ((Q.refl _).alloc _))).mono ?_;rintro e9 w1 ⟨rfl,q1⟩;have Z1:=hid (HZ.out.on q1);have Q1:Hid (Q w w1):=hid (((Q.refl _).alloc _).trans q1);clear q1;have d0:=Z1.out.c 0 _ rfl;have d1:=Z1.out.c 1 _ rfl;have d2:=Z1.out.c 2 _ rfl;have d3:=Z1.out.c 3 _ rfl;have d4:=Z1.out.c 4 _ rfl;have y0:=Z1.out.f 0;have y1:=Z1.out.f 1;have y2:=Z1.out.f 2;have y3:=Z1.out.f 3;have y4:=Z1.out.f 4)|(go_at_call 79;refine (HE.out _ (HW.out.on Q1.out).nam).mono ?_;rintro e9 w9 ⟨rfl,h9⟩;replace h9:=h9.symm;subst h9))
     refine bodyPost_ret (v:=.agg #[.int .i64 4,.int .i64 0,.string ⟨#[]⟩,.bool false,.int .i64 en]) (by simp [results,Tryz.results42,go_sem,d0,d1,d2,d3,d4]) rfl ?_
     exact ⟨rfl,Q.setCell (Q.setCell (Q.setCell (Q.setCell (Q.setCell Q1.out (Nat.le_refl _) _) (Nat.le_refl _) _) (Nat.le_refl _) _) (Nat.le_refl _) _) (Nat.le_refl _) _⟩
    ·have he0:errN s.data.toList=0:=by simpa using he
     rw [if_neg he];rw [he0]at HE;clear he he0;by_cases ht:s.data.toList=truW∨s.data.toList=flsW
     ·rw [if_pos ht]
      rw [if_pos ht]at HT;simp only
      generalize decide (s.data.toList=truW)=tb at HT ⊢;unfold vx at *
      clear ht;go_enter Tryz.func42,Tryz.ntmps42
      go_wp2_with (first|(go_at_call 40;refine (HP.out _).mono ?_;rintro e9 w9 ⟨rfl,h9⟩;replace h9:=h9.symm;subst h9)|(go_at_call 78;refine (HF.out _ (HW.out.on ((Q.refl _).alloc _))).mono ?_;rintro e9 w1 ⟨rfl,q1⟩;have Z1:=hid (HZ.out.on q1);have Q1:Hid (Q w w1):=hid (((Q.refl _).alloc _).trans q1);clear q1)|(go_at_call 79;refine (HE.out _ (HW.out.on Q1.out).nam).mono ?_;rintro e9 w9 ⟨rfl,h9⟩;replace h9:=h9.symm;subst h9)|(go_at_call 77;refine (HX.out _).mono ?_;rintro e9 w2 ⟨rfl,q2⟩;have Z2:=hid (Z1.out.on q2);have Q2:Hid (Q w w2):=hid (Q1.out.trans q2);clear q2)|(go_at_call 80;refine (HT.out _ (HW.out.on (Q2.out.alloc _))).mono ?_;rintro e9 w3 ⟨rfl,q3⟩;have Z3:=hid (Z2.out.on (((Q.refl _).alloc _).trans q3));have Q3:Hid (Q w w3):=hid ((Q2.out.alloc _).trans q3);clear q3;have d0:=Z3.out.c 0 _ rfl;have d1:=Z3.out.c 1 _ rfl;have d2:=Z3.out.c 2 _ rfl;have d3:=Z3.out.c 3 _ rfl;have d4:=Z3.out.c 4 _ rfl;have y0:=Z3.out.f 0;have y1:=Z3.out.f 1;have y2:=Z3.out.f 2;have y3:=Z3.out.f 3;have y4:=Z3.out.f 4))
      refine bodyPost_ret (v:=.agg #[.int .i64 3,.int .i64 0,.string ⟨#[]⟩,.bool tb,.int .i64 0]) (by simp [results,Tryz.results42,go_sem,d0,d1,d2,d3,d4]) rfl ?_
      exact ⟨rfl,Q.setCell (Q.setCell (Q.setCell (Q.setCell (Q.setCell Q3.out (Nat.le_refl _) _) (Nat.le_refl _) _) (Nat.le_refl _) _) (Nat.le_refl _) _) (Nat.le_refl _) _⟩
     ·rw [if_neg ht]
      rw [if_neg ht]at HT;simp only
      rw [bytes_of];generalize decide (s.data.toList=truW)=tb at HT;unfold vx at *
      clear ht;go_enter Tryz.func42,Tryz.ntmps42
      go_wp2_with (first|(go_at_call 40;refine (HP.out _).mono ?_;rintro e9 w9 ⟨rfl,h9⟩;replace h9:=h9.symm;subst h9)|(go_at_call 78;refine (HF.out _ (HW.out.on ((Q.refl _).alloc _))).mono ?_;rintro e9 w1 ⟨rfl,q1⟩;have Z1:=hid (HZ.out.on q1);have Q1:Hid (Q w w1):=hid (((Q.refl _).alloc _).trans q1);clear q1)|(go_at_call 79;refine (HE.out _ (HW.out.on Q1.out).nam).mono ?_;rintro e9 w9 ⟨rfl,h9⟩;replace h9:=h9.symm;subst h9)|(go_at_call 77;refine (HX.out _).mono ?_;rintro e9 w2 ⟨rfl,q2⟩;have Z2:=hid (Z1.out.on q2);have Q2:Hid (Q w w2):=hid (Q1.out.trans q2);clear q2;have X2:=hid (cb_new w2 [.int .i64 2,.int .i64 0,.string s,.bool false,.int .i64 0] 37))|(go_at_call 80;refine (HT.out _ (HW.out.on (Q2.out.alloc _))).mono ?_;rintro e9 w3 ⟨rfl,q3⟩;have Z3:=hid (Z2.out.on (((Q.refl _).alloc _).trans q3));have X3:=hid (X2.out.on q3);have Q3:Hid (Q w w3):=hid ((Q2.out.alloc _).trans q3);clear q3;have d0:=Z3.out.c 0 _ rfl;have d1:=Z3.out.c 1 _ rfl;have d2:=Z3.out.c 2 _ rfl;have d3:=Z3.out.c 3 _ rfl;have d4:=Z3.out.c 4 _ rfl;have y0:=Z3.out.f 0;have y1:=Z3.out.f 1;have y2:=Z3.out.f 2;have y3:=Z3.out.f 3;have y4:=Z3.out.f 4;have n0:=X3.out.c 0 _ rfl;have n1:=X3.out.c 1 _ rfl;have n2:=X3.out.c 2 _ rfl;have n3:=X3.out.c 3 _ rfl;have n4:=X3.out.c 4 _ rfl))
      refine bodyPost_ret (v:=.agg #[.int .i64 2,.int .i64 0,.string s,.bool false,.int .i64 0]) (by simp [results,Tryz.results42,go_sem,d0,d1,d2,d3,d4]) rfl ?_
      exact ⟨rfl,Q.setCell (Q.setCell (Q.setCell (Q.setCell (Q.setCell Q3.out (Nat.le_refl _) _) (Nat.le_refl _) _) (Nat.le_refl _) _) (Nat.le_refl _) _) (Nat.le_refl _) _⟩
abbrev Cl:=Bool × (Int × Int × List UInt8 × Bool × Int) × Ex
def zV:Int × Int × List UInt8 × Bool × Int:=(0,0,[],false,0)
def zC:Cl:=(false,zV,zeroE)
def RdC(B:Nat)(W:World)(c:Cl)(v:Value):Prop:=∃ k m t bb er a1 l1 c1 a2 l2 c2,v=.agg #[.bool c.1,.int .i64 c.2.1.1,.int .i64 c.2.1.2.1,.string ⟨c.2.1.2.2.1.toArray⟩,.bool c.2.1.2.2.2.1,.int .i64 c.2.1.2.2.2.2,.int .i64 k,.int .i64 m,.string t,.bool bb,.int .i64 er,.slice a1 l1 c1,.slice a2 l2 c2]∧Rdg (fun b=>B≤b) W c.2.2 (.agg #[.int .i64 k,.int .i64 m,.string t,.bool bb,.int .i64 er,.slice a1 l1 c1,.slice a2 l2 c2])
theorem RdC.on{B p:Nat}{W W':World}{c:Cl}{v:Value}(h:RdC B W c v)(q:Qx p W W')(hp:p<B):RdC B W' c v:=by
 obtain ⟨k,m,t,bb,er,a1,l1,c1,a2,l2,c2,hv,hr⟩:=h;exact ⟨k,m,t,bb,er,a1,l1,c1,a2,l2,c2,hv,Rdg.on q (fun b hb=>by omega) _ _ hr⟩
theorem rdc_val(B:Nat)(W:World)(v:Int × Int × List UInt8 × Bool × Int)(b:Bool):RdC B W (b,v,zeroE) (.agg #[.bool b,.int .i64 v.1,.int .i64 v.2.1,.string ⟨v.2.2.1.toArray⟩,.bool v.2.2.2.1,.int .i64 v.2.2.2.2,.int .i64 0,.int .i64 0,.string ⟨#[]⟩,.bool false,.int .i64 0,.slice none 0 0,.slice none 0 0]):=
 ⟨0,0,⟨#[]⟩,false,0,none,0,0,none,0,0,rfl,rdz _ W⟩
def RepC(W:World)(r:Cl × Nat)(e:Ending)(W':World):Prop:=∃ v,e=.returned (.tuple #[v,.int .i64 (r.2:Int)])∧RdC W.heap.size W' r.1 v∧Q W W'
def frm(x:Ex × Nat):Cl × Nat:=if x.2=0 then ((true,zV,x.1),0) else (zC,x.2)
theorem readFormula_any(s:ByteArray)(x:Ex × Nat)(w:World)(HP:Hid (∀ W,Q w W→Calls Tryz.prog 76 #[.string s] W fun e W'=>RepR W x e W')):Calls Tryz.prog 41 #[.string s] w fun e W'=>RepC w (frm x) e W':=by
 obtain ⟨X,en⟩:=x;have HZ:=hid (cb_new w [.bool false,.int .i64 0,.int .i64 0,.string ⟨#[]⟩,.bool false,.int .i64 0,.int .i64 0,.int .i64 0,.string ⟨#[]⟩,.bool false,.int .i64 0,.slice none 0 0,.slice none 0 0] 39);by_cases h0:en=0
 ·subst h0
  rw [show frm (X,0)=((true,zV,X),0) from rfl]
  go_enter Tryz.func41,Tryz.ntmps41
  go_upto_region 4 with (go_at_call 76;refine (HP.out _ ((Q.refl _).alloc _)).mono ?_;rintro e9 w1 ⟨v9,rfl,hr,q1⟩;obtain ⟨k,m,t,bb,er,a1,l1,c1,a2,l2,c2,rfl⟩:=hr.shape;have R1:=hid hr;have hs1:w.heap.size<w1.heap.size:=(by have:=q1.size;simp at this;omega);have Z1:=hid (HZ.out.on q1);have Q1:Hid (Q w w1):=hid (((Q.refl _).alloc _).trans q1);clear hr q1)
  have Z2:=hid (Z1.out.on ((Q.refl _).alloc (.cells #[.int .i64 k,.int .i64 m,.string t,.bool bb,.int .i64 er,.slice a1 l1 c1,.slice a2 l2 c2] 26)));have X2:=hid (cb_new w1 [.int .i64 k,.int .i64 m,.string t,.bool bb,.int .i64 er,.slice a1 l1 c1,.slice a2 l2 c2] 26);have Q2:=hid (Q1.out.alloc (.cells #[.int .i64 k,.int .i64 m,.string t,.bool bb,.int .i64 er,.slice a1 l1 c1,.slice a2 l2 c2] 26));have R2:=hid (Rdg.on (p:=w.heap.size) ((Qx.refl w.heap.size w1).alloc (.cells #[.int .i64 k,.int .i64 m,.string t,.bool bb,.int .i64 er,.slice a1 l1 c1,.slice a2 l2 c2] 26)) (fun b hb=>by simp at hb;omega) _ _ R1.out)
  rw [show ([.int .i64 k,.int .i64 m,.string t,.bool bb,.int .i64 er,.slice a1 l1 c1,.slice a2 l2 c2]:List Value).toArray=#[.int .i64 k,.int .i64 m,.string t,.bool bb,.int .i64 er,.slice a1 l1 c1,.slice a2 l2 c2] from rfl]at X2
  generalize w1.alloc (.cells #[.int .i64 k,.int .i64 m,.string t,.bool bb,.int .i64 er,.slice a1 l1 c1,.slice a2 l2 c2] 26)=w2 at Z2 X2 Q2 R2 ⊢;generalize w1.heap.size=b2 at X2 ⊢;obtain ⟨b0,hb0',hb0⟩:∃ b0,w.heap.size=b0∧w.heap.size≤b0:=⟨_,rfl,Nat.le_refl _⟩;have R3:=hid (Rdg.mono (g':=fun b=>w.heap.size≤b∧b≠b0) (fun b hb=>by simp at hb;omega) _ _ R2.out)
  rw [hb0']at Z2 ⊢;have d0:=Z2.out.c 0 _ rfl;have d1:=Z2.out.c 1 _ rfl;have d2:=Z2.out.c 2 _ rfl;have d3:=Z2.out.c 3 _ rfl;have d4:=Z2.out.c 4 _ rfl;have d5:=Z2.out.c 5 _ rfl;have d6:=Z2.out.c 6 _ rfl;have d7:=Z2.out.c 7 _ rfl;have d8:=Z2.out.c 8 _ rfl;have d9:=Z2.out.c 9 _ rfl;have d10:=Z2.out.c 10 _ rfl;have d11:=Z2.out.c 11 _ rfl;have d12:=Z2.out.c 12 _ rfl;have y0:=Z2.out.f 0;have y1:=Z2.out.f 1;have y2:=Z2.out.f 2;have y3:=Z2.out.f 3;have y4:=Z2.out.f 4;have y5:=Z2.out.f 5;have y6:=Z2.out.f 6;have y7:=Z2.out.f 7;have y8:=Z2.out.f 8;have y9:=Z2.out.f 9;have y10:=Z2.out.f 10;have y11:=Z2.out.f 11;have y12:=Z2.out.f 12;have n0:=X2.out.c 0 _ rfl;have n1:=X2.out.c 1 _ rfl;have n2:=X2.out.c 2 _ rfl;have n3:=X2.out.c 3 _ rfl;have n4:=X2.out.c 4 _ rfl;have n5:=X2.out.c 5 _ rfl;have n6:=X2.out.c 6 _ rfl;go_wp2_with fail
  refine bodyPost_ret (v:=.tuple #[.agg #[.bool true,.int .i64 0,.int .i64 0,.string ⟨#[]⟩,.bool false,.int .i64 0,.int .i64 k,.int .i64 m,.string t,.bool bb,.int .i64 er,.slice a1 l1 c1,.slice a2 l2 c2],.int .i64 0]) (by simp [results,Tryz.results41,go_sem,d0,d1,d2,d3,d4,d5,d6,d7,d8,d9,d10,d11,d12]) rfl ?_
  refine ⟨_,rfl,⟨k,m,t,bb,er,a1,l1,c1,a2,l2,c2,rfl,?_⟩,by repeat (first|with_reducible exact Q2.out|with_reducible refine Q.setCell ?_ hb0 _)⟩
  exact Rdg.mono (fun b hb=>hb.1) _ _ (Rdg.on (p:=b0) (show Qx b0 w2 _ from by repeat (first|with_reducible exact Qx.refl _ _|with_reducible refine Qx.own ?_ _ _)) (fun b hb=>hb.2) _ _ R3.out)
 ·have hn:frm (X,en)=(zC,en):=by unfold frm;rw [if_neg h0]
  rw [hn];have e1:((en:Int) == 0)=false:=by rw [beq_eq_false_iff_ne];omega
  have e2:¬ (en:Int)=0:=by omega
  clear hn h0;go_enter Tryz.func41,Tryz.ntmps41
  go_upto_region 3 with (go_at_call 76;refine (HP.out _ ((Q.refl _).alloc _)).mono ?_;rintro e9 w1 ⟨v9,rfl,hr,q1⟩;obtain ⟨k,m,t,bb,er,a1,l1,c1,a2,l2,c2,rfl⟩:=hr.shape;have hs1:w.heap.size<w1.heap.size:=(by have:=q1.size;simp at this;omega);have Z1:=hid (HZ.out.on q1);have Q1:Hid (Q w w1):=hid (((Q.refl _).alloc _).trans q1);clear hr q1)
  have Z2:=hid (Z1.out.on ((Q.refl _).alloc (.cells #[.int .i64 k,.int .i64 m,.string t,.bool bb,.int .i64 er,.slice a1 l1 c1,.slice a2 l2 c2] 26)));have Q2:=hid (Q1.out.alloc (.cells #[.int .i64 k,.int .i64 m,.string t,.bool bb,.int .i64 er,.slice a1 l1 c1,.slice a2 l2 c2] 26));generalize w1.alloc (.cells #[.int .i64 k,.int .i64 m,.string t,.bool bb,.int .i64 er,.slice a1 l1 c1,.slice a2 l2 c2] 26)=w2 at Z2 Q2 ⊢;generalize w1.heap.size=b2;obtain ⟨b0,hb0',hb0⟩:∃ b0,w.heap.size=b0∧w.heap.size≤b0:=⟨_,rfl,Nat.le_refl _⟩;rw [hb0']at Z2 ⊢;have d0:=Z2.out.c 0 _ rfl;have d1:=Z2.out.c 1 _ rfl;have d2:=Z2.out.c 2 _ rfl;have d3:=Z2.out.c 3 _ rfl;have d4:=Z2.out.c 4 _ rfl;have d5:=Z2.out.c 5 _ rfl;have d6:=Z2.out.c 6 _ rfl;have d7:=Z2.out.c 7 _ rfl;have d8:=Z2.out.c 8 _ rfl;have d9:=Z2.out.c 9 _ rfl;have d10:=Z2.out.c 10 _ rfl;have d11:=Z2.out.c 11 _ rfl;have d12:=Z2.out.c 12 _ rfl;have y0:=Z2.out.f 0;have y1:=Z2.out.f 1;have y2:=Z2.out.f 2;have y3:=Z2.out.f 3;have y4:=Z2.out.f 4;have y5:=Z2.out.f 5;have y6:=Z2.out.f 6;have y7:=Z2.out.f 7;have y8:=Z2.out.f 8;have y9:=Z2.out.f 9;have y10:=Z2.out.f 10;have y11:=Z2.out.f 11;have y12:=Z2.out.f 12;go_wp2_with fail
  refine bodyPost_ret (v:=.tuple #[.agg #[.bool false,.int .i64 0,.int .i64 0,.string ⟨#[]⟩,.bool false,.int .i64 0,.int .i64 0,.int .i64 0,.string ⟨#[]⟩,.bool false,.int .i64 0,.slice none 0 0,.slice none 0 0],.int .i64 (en:Int)]) (by simp [results,Tryz.results41,go_sem,d0,d1,d2,d3,d4,d5,d6,d7,d8,d9,d10,d11,d12]) rfl ?_
  exact ⟨_,rfl,rdc_val _ _ zV false,by repeat (first|with_reducible exact Q2.out|with_reducible refine Q.setCell ?_ hb0 _)⟩
end Go.Proofs.YtgheopdadfnilaaGreatDoor
