/- The reference: Transform, of k. -/
import Derived.Test.YtoikodohcieipaaGreatDoorKs08
set_option linter.unusedVariables false
set_option linter.unusedSimpArgs false
set_option maxRecDepth 100000
set_option maxHeartbeats 8000000
namespace Go.Proofs.YtoikodohcieipaaGreatDoor.L
open Go.RowKit
theorem rtransform_k3(a t k' a' t':Int)(pr:Bool)(w:World)(hm:mayB 3 a t=true)(hm':mayB k' a' t'=true)(hs:(pr&&smB 3 a k' a')=false):Calls Tryz.prog 20 #[.agg #[.int .i64 3,.int .i64 a,.int .i64 t],.agg #[.int .i64 k',.int .i64 a',.int .i64 t'],.bool pr] w
  fun e w'=>e=.returned (trV 3 a t k' a' t' pr)∧Q w w':=by
 by_cases hk:k'=3
 ·subst hk
  by_cases ha:a'=a
  ·subst ha
   have hp:pr=false:=by cases pr;rfl;unfold smB at hs;simp at hs
   subst hp;obtain ⟨X,hX⟩:∃ X,ix 3 a' t' a'=X:=⟨_,rfl⟩;have HX:=hid (fun W=>rindex_any 3 a' t' a' W)
   rw [hX]at HX;obtain ⟨Y,hY⟩:∃ Y,gp 3 a' t' t true=Y:=⟨_,rfl⟩;have HY:=hid (fun W=>rgap_any 3 a' t' t true W)
   rw [hY]at HY;have eA:Hid (tA 3 a' t 3 a' t' false=X):=by show _=_;rw [←hX];rfl
   have eT:Hid (tT 3 a' t 3 a' t' false=Y):=by show _=_;rw [←hY];rfl
   clear hX hY;have HS:=hid hs;clear hs;by_cases hn:X<0
   ·have H:=hid (trV_x (k:=3) (a:=a') (t:=t) (k':=3) (a':=a') (t':=t') (pr:=false) (by rw [eA.out,eT.out];exact may_neg hn))
    go_enter Tryz.func20,Tryz.ntmps20
    go_wp2_with (first
    |(go_at_call 14;refine (rmay_any _ _ _ _).mono ?_;rintro e w1 ⟨rfl,rfl⟩)
    |(go_at_call 31;refine (HX.out _).mono ?_;rintro e w2 ⟨rfl,q2⟩;obtain ⟨hc,hf⟩:=bcell q2;have hz:=q2.size;simp only [World.size_alloc]at hz;have z0:w.heap.size<w2.heap.size:=(by omega);have z1:w.heap.size+1<w2.heap.size:=(by omega);have z2:w.heap.size+1+1<w2.heap.size:=(by omega);have z3:w.heap.size+1+1+1+1+1<w2.heap.size:=(by omega))
    |(go_at_call 39;refine (HY.out _).mono ?_;rintro e w3 ⟨rfl,q3⟩;obtain ⟨hc3,hf3⟩:=bcell q3;have hz3:=q3.size;simp only [World.size_alloc,World.size_setCell]at hz3;have y0:w.heap.size<w3.heap.size:=(by omega);have y1:w.heap.size+1<w3.heap.size:=(by omega);have y2:w.heap.size+1+1<w3.heap.size:=(by omega);have y3:w.heap.size+1+1+1+1+1<w3.heap.size:=(by omega)))
    refine bodyPost_ret (v:=(.tuple #[.agg #[.int .i64 0,.int .i64 0,.int .i64 0],.bool false])) (by simp [results,Tryz.results20,go_sem,hc,hf,z0,z1,z2,z3,hc3,hf3,y0,y1,y2,y3]) rfl ⟨ret_val H.out.symm,?_⟩
    repeat' (first|with_reducible exact Q.refl _|with_reducible refine Q.alloc ?_ _|with_reducible refine Q.setCell ?_ (by omega) _|with_reducible refine Q.trans ?_ (by assumption))
   ·cases hx:mayB 3 X Y
    ·have H:=hid (trV_x (k:=3) (a:=a') (t:=t) (k':=3) (a':=a') (t':=t') (pr:=false) (by rw [eA.out,eT.out];exact hx))
     go_enter Tryz.func20,Tryz.ntmps20
     go_wp2_with (first
    |(go_at_call 14;refine (rmay_any _ _ _ _).mono ?_;rintro e w1 ⟨rfl,rfl⟩)
    |(go_at_call 31;refine (HX.out _).mono ?_;rintro e w2 ⟨rfl,q2⟩;obtain ⟨hc,hf⟩:=bcell q2;have hz:=q2.size;simp only [World.size_alloc]at hz;have z0:w.heap.size<w2.heap.size:=(by omega);have z1:w.heap.size+1<w2.heap.size:=(by omega);have z2:w.heap.size+1+1<w2.heap.size:=(by omega);have z3:w.heap.size+1+1+1+1+1<w2.heap.size:=(by omega))
    |(go_at_call 39;refine (HY.out _).mono ?_;rintro e w3 ⟨rfl,q3⟩;obtain ⟨hc3,hf3⟩:=bcell q3;have hz3:=q3.size;simp only [World.size_alloc,World.size_setCell]at hz3;have y0:w.heap.size<w3.heap.size:=(by omega);have y1:w.heap.size+1<w3.heap.size:=(by omega);have y2:w.heap.size+1+1<w3.heap.size:=(by omega);have y3:w.heap.size+1+1+1+1+1<w3.heap.size:=(by omega)))
     refine bodyPost_ret (v:=(.tuple #[.agg #[.int .i64 0,.int .i64 0,.int .i64 0],.bool false])) (by simp [results,Tryz.results20,go_sem,hc,hf,z0,z1,z2,z3,hc3,hf3,y0,y1,y2,y3]) rfl ⟨ret_val H.out.symm,?_⟩
     repeat' (first|with_reducible exact Q.refl _|with_reducible refine Q.alloc ?_ _|with_reducible refine Q.setCell ?_ (by omega) _|with_reducible refine Q.trans ?_ (by assumption))
    ·have H:=hid (trV_o (k:=3) (a:=a') (t:=t) (k':=3) (a':=a') (t':=t') (pr:=false) hm hm' HS.out (by rw [eA.out,eT.out];exact hx))
     rw [eA.out,eT.out]at H;go_enter Tryz.func20,Tryz.ntmps20
     go_wp2_with (first
    |(go_at_call 14;refine (rmay_any _ _ _ _).mono ?_;rintro e w1 ⟨rfl,rfl⟩)
    |(go_at_call 31;refine (HX.out _).mono ?_;rintro e w2 ⟨rfl,q2⟩;obtain ⟨hc,hf⟩:=bcell q2;have hz:=q2.size;simp only [World.size_alloc]at hz;have z0:w.heap.size<w2.heap.size:=(by omega);have z1:w.heap.size+1<w2.heap.size:=(by omega);have z2:w.heap.size+1+1<w2.heap.size:=(by omega);have z3:w.heap.size+1+1+1+1+1<w2.heap.size:=(by omega))
    |(go_at_call 39;refine (HY.out _).mono ?_;rintro e w3 ⟨rfl,q3⟩;obtain ⟨hc3,hf3⟩:=bcell q3;have hz3:=q3.size;simp only [World.size_alloc,World.size_setCell]at hz3;have y0:w.heap.size<w3.heap.size:=(by omega);have y1:w.heap.size+1<w3.heap.size:=(by omega);have y2:w.heap.size+1+1<w3.heap.size:=(by omega);have y3:w.heap.size+1+1+1+1+1<w3.heap.size:=(by omega)))
     refine bodyPost_ret (v:=(.tuple #[.agg #[.int .i64 3,.int .i64 X,.int .i64 Y],.bool true])) (by simp [results,Tryz.results20,go_sem,hc,hf,z0,z1,z2,z3,hc3,hf3,y0,y1,y2,y3]) rfl ⟨ret_val H.out.symm,?_⟩
     repeat' (first|with_reducible exact Q.refl _|with_reducible refine Q.alloc ?_ _|with_reducible refine Q.setCell ?_ (by omega) _|with_reducible refine Q.trans ?_ (by assumption))
  ·have hb:(a' == a)=false:=by simpa using ha
   clear ha;cases pr
   ·obtain ⟨X,hX⟩:∃ X,ix 3 a' t' a=X:=⟨_,rfl⟩
    have HX:=hid (fun W=>rindex_any 3 a' t' a W)
    rw [hX]at HX;obtain ⟨Y,hY⟩:∃ Y,gp 3 a' t' t true=Y:=⟨_,rfl⟩;have HY:=hid (fun W=>rgap_any 3 a' t' t true W)
    rw [hY]at HY;have eA:Hid (tA 3 a t 3 a' t' false=X):=by show _=_;rw [←hX];rfl
    have eT:Hid (tT 3 a t 3 a' t' false=Y):=by show _=_;rw [←hY];rfl
    clear hX hY;have HS:=hid hs;clear hs;by_cases hn:X<0
    ·have H:=hid (trV_x (k:=3) (a:=a) (t:=t) (k':=3) (a':=a') (t':=t') (pr:=false) (by rw [eA.out,eT.out];exact may_neg hn))
     go_enter Tryz.func20,Tryz.ntmps20
     go_wp2_with (first
    |(go_at_call 14;refine (rmay_any _ _ _ _).mono ?_;rintro e w1 ⟨rfl,rfl⟩)
    |(go_at_call 31;refine (HX.out _).mono ?_;rintro e w2 ⟨rfl,q2⟩;obtain ⟨hc,hf⟩:=bcell q2;have hz:=q2.size;simp only [World.size_alloc]at hz;have z0:w.heap.size<w2.heap.size:=(by omega);have z1:w.heap.size+1<w2.heap.size:=(by omega);have z2:w.heap.size+1+1<w2.heap.size:=(by omega);have z3:w.heap.size+1+1+1+1+1<w2.heap.size:=(by omega))
    |(go_at_call 39;refine (HY.out _).mono ?_;rintro e w3 ⟨rfl,q3⟩;obtain ⟨hc3,hf3⟩:=bcell q3;have hz3:=q3.size;simp only [World.size_alloc,World.size_setCell]at hz3;have y0:w.heap.size<w3.heap.size:=(by omega);have y1:w.heap.size+1<w3.heap.size:=(by omega);have y2:w.heap.size+1+1<w3.heap.size:=(by omega);have y3:w.heap.size+1+1+1+1+1<w3.heap.size:=(by omega)))
     refine bodyPost_ret (v:=(.tuple #[.agg #[.int .i64 0,.int .i64 0,.int .i64 0],.bool false])) (by simp [results,Tryz.results20,go_sem,hc,hf,z0,z1,z2,z3,hc3,hf3,y0,y1,y2,y3]) rfl ⟨ret_val H.out.symm,?_⟩
     repeat' (first|with_reducible exact Q.refl _|with_reducible refine Q.alloc ?_ _|with_reducible refine Q.setCell ?_ (by omega) _|with_reducible refine Q.trans ?_ (by assumption))
    ·cases hx:mayB 3 X Y
     ·have H:=hid (trV_x (k:=3) (a:=a) (t:=t) (k':=3) (a':=a') (t':=t') (pr:=false) (by rw [eA.out,eT.out];exact hx))
      go_enter Tryz.func20,Tryz.ntmps20
      go_wp2_with (first
    |(go_at_call 14;refine (rmay_any _ _ _ _).mono ?_;rintro e w1 ⟨rfl,rfl⟩)
    |(go_at_call 31;refine (HX.out _).mono ?_;rintro e w2 ⟨rfl,q2⟩;obtain ⟨hc,hf⟩:=bcell q2;have hz:=q2.size;simp only [World.size_alloc]at hz;have z0:w.heap.size<w2.heap.size:=(by omega);have z1:w.heap.size+1<w2.heap.size:=(by omega);have z2:w.heap.size+1+1<w2.heap.size:=(by omega);have z3:w.heap.size+1+1+1+1+1<w2.heap.size:=(by omega))
    |(go_at_call 39;refine (HY.out _).mono ?_;rintro e w3 ⟨rfl,q3⟩;obtain ⟨hc3,hf3⟩:=bcell q3;have hz3:=q3.size;simp only [World.size_alloc,World.size_setCell]at hz3;have y0:w.heap.size<w3.heap.size:=(by omega);have y1:w.heap.size+1<w3.heap.size:=(by omega);have y2:w.heap.size+1+1<w3.heap.size:=(by omega);have y3:w.heap.size+1+1+1+1+1<w3.heap.size:=(by omega)))
      refine bodyPost_ret (v:=(.tuple #[.agg #[.int .i64 0,.int .i64 0,.int .i64 0],.bool false])) (by simp [results,Tryz.results20,go_sem,hc,hf,z0,z1,z2,z3,hc3,hf3,y0,y1,y2,y3]) rfl ⟨ret_val H.out.symm,?_⟩
      repeat' (first|with_reducible exact Q.refl _|with_reducible refine Q.alloc ?_ _|with_reducible refine Q.setCell ?_ (by omega) _|with_reducible refine Q.trans ?_ (by assumption))
     ·have H:=hid (trV_o (k:=3) (a:=a) (t:=t) (k':=3) (a':=a') (t':=t') (pr:=false) hm hm' HS.out (by rw [eA.out,eT.out];exact hx))
      rw [eA.out,eT.out]at H;go_enter Tryz.func20,Tryz.ntmps20
      go_wp2_with (first
    |(go_at_call 14;refine (rmay_any _ _ _ _).mono ?_;rintro e w1 ⟨rfl,rfl⟩)
    |(go_at_call 31;refine (HX.out _).mono ?_;rintro e w2 ⟨rfl,q2⟩;obtain ⟨hc,hf⟩:=bcell q2;have hz:=q2.size;simp only [World.size_alloc]at hz;have z0:w.heap.size<w2.heap.size:=(by omega);have z1:w.heap.size+1<w2.heap.size:=(by omega);have z2:w.heap.size+1+1<w2.heap.size:=(by omega);have z3:w.heap.size+1+1+1+1+1<w2.heap.size:=(by omega))
    |(go_at_call 39;refine (HY.out _).mono ?_;rintro e w3 ⟨rfl,q3⟩;obtain ⟨hc3,hf3⟩:=bcell q3;have hz3:=q3.size;simp only [World.size_alloc,World.size_setCell]at hz3;have y0:w.heap.size<w3.heap.size:=(by omega);have y1:w.heap.size+1<w3.heap.size:=(by omega);have y2:w.heap.size+1+1<w3.heap.size:=(by omega);have y3:w.heap.size+1+1+1+1+1<w3.heap.size:=(by omega)))
      refine bodyPost_ret (v:=(.tuple #[.agg #[.int .i64 3,.int .i64 X,.int .i64 Y],.bool true])) (by simp [results,Tryz.results20,go_sem,hc,hf,z0,z1,z2,z3,hc3,hf3,y0,y1,y2,y3]) rfl ⟨ret_val H.out.symm,?_⟩
      repeat' (first|with_reducible exact Q.refl _|with_reducible refine Q.alloc ?_ _|with_reducible refine Q.setCell ?_ (by omega) _|with_reducible refine Q.trans ?_ (by assumption))
   ·obtain ⟨X,hX⟩:∃ X,ix 3 a' t' a=X:=⟨_,rfl⟩
    have HX:=hid (fun W=>rindex_any 3 a' t' a W)
    rw [hX]at HX;obtain ⟨Y,hY⟩:∃ Y,gp 3 a' t' t false=Y:=⟨_,rfl⟩;have HY:=hid (fun W=>rgap_any 3 a' t' t false W)
    rw [hY]at HY;have eA:Hid (tA 3 a t 3 a' t' true=X):=by show _=_;rw [←hX];rfl
    have eT:Hid (tT 3 a t 3 a' t' true=Y):=by show _=_;rw [←hY];rfl
    clear hX hY;have HS:=hid hs;clear hs;by_cases hn:X<0
    ·have H:=hid (trV_x (k:=3) (a:=a) (t:=t) (k':=3) (a':=a') (t':=t') (pr:=true) (by rw [eA.out,eT.out];exact may_neg hn))
     go_enter Tryz.func20,Tryz.ntmps20
     go_wp2_with (first
    |(go_at_call 14;refine (rmay_any _ _ _ _).mono ?_;rintro e w1 ⟨rfl,rfl⟩)
    |(go_at_call 31;refine (HX.out _).mono ?_;rintro e w2 ⟨rfl,q2⟩;obtain ⟨hc,hf⟩:=bcell q2;have hz:=q2.size;simp only [World.size_alloc]at hz;have z0:w.heap.size<w2.heap.size:=(by omega);have z1:w.heap.size+1<w2.heap.size:=(by omega);have z2:w.heap.size+1+1<w2.heap.size:=(by omega);have z3:w.heap.size+1+1+1+1+1<w2.heap.size:=(by omega))
    |(go_at_call 39;refine (HY.out _).mono ?_;rintro e w3 ⟨rfl,q3⟩;obtain ⟨hc3,hf3⟩:=bcell q3;have hz3:=q3.size;simp only [World.size_alloc,World.size_setCell]at hz3;have y0:w.heap.size<w3.heap.size:=(by omega);have y1:w.heap.size+1<w3.heap.size:=(by omega);have y2:w.heap.size+1+1<w3.heap.size:=(by omega);have y3:w.heap.size+1+1+1+1+1<w3.heap.size:=(by omega)))
     refine bodyPost_ret (v:=(.tuple #[.agg #[.int .i64 0,.int .i64 0,.int .i64 0],.bool false])) (by simp [results,Tryz.results20,go_sem,hc,hf,z0,z1,z2,z3,hc3,hf3,y0,y1,y2,y3]) rfl ⟨ret_val H.out.symm,?_⟩
     repeat' (first|with_reducible exact Q.refl _|with_reducible refine Q.alloc ?_ _|with_reducible refine Q.setCell ?_ (by omega) _|with_reducible refine Q.trans ?_ (by assumption))
    ·cases hx:mayB 3 X Y
     ·have H:=hid (trV_x (k:=3) (a:=a) (t:=t) (k':=3) (a':=a') (t':=t') (pr:=true) (by rw [eA.out,eT.out];exact hx))
      go_enter Tryz.func20,Tryz.ntmps20
      go_wp2_with (first
    |(go_at_call 14;refine (rmay_any _ _ _ _).mono ?_;rintro e w1 ⟨rfl,rfl⟩)
    |(go_at_call 31;refine (HX.out _).mono ?_;rintro e w2 ⟨rfl,q2⟩;obtain ⟨hc,hf⟩:=bcell q2;have hz:=q2.size;simp only [World.size_alloc]at hz;have z0:w.heap.size<w2.heap.size:=(by omega);have z1:w.heap.size+1<w2.heap.size:=(by omega);have z2:w.heap.size+1+1<w2.heap.size:=(by omega);have z3:w.heap.size+1+1+1+1+1<w2.heap.size:=(by omega))
    |(go_at_call 39;refine (HY.out _).mono ?_;rintro e w3 ⟨rfl,q3⟩;obtain ⟨hc3,hf3⟩:=bcell q3;have hz3:=q3.size;simp only [World.size_alloc,World.size_setCell]at hz3;have y0:w.heap.size<w3.heap.size:=(by omega);have y1:w.heap.size+1<w3.heap.size:=(by omega);have y2:w.heap.size+1+1<w3.heap.size:=(by omega);have y3:w.heap.size+1+1+1+1+1<w3.heap.size:=(by omega)))
      refine bodyPost_ret (v:=(.tuple #[.agg #[.int .i64 0,.int .i64 0,.int .i64 0],.bool false])) (by simp [results,Tryz.results20,go_sem,hc,hf,z0,z1,z2,z3,hc3,hf3,y0,y1,y2,y3]) rfl ⟨ret_val H.out.symm,?_⟩
      repeat' (first|with_reducible exact Q.refl _|with_reducible refine Q.alloc ?_ _|with_reducible refine Q.setCell ?_ (by omega) _|with_reducible refine Q.trans ?_ (by assumption))
     ·have H:=hid (trV_o (k:=3) (a:=a) (t:=t) (k':=3) (a':=a') (t':=t') (pr:=true) hm hm' HS.out (by rw [eA.out,eT.out];exact hx))
      rw [eA.out,eT.out]at H;go_enter Tryz.func20,Tryz.ntmps20
      go_wp2_with (first
    |(go_at_call 14;refine (rmay_any _ _ _ _).mono ?_;rintro e w1 ⟨rfl,rfl⟩)
    |(go_at_call 31;refine (HX.out _).mono ?_;rintro e w2 ⟨rfl,q2⟩;obtain ⟨hc,hf⟩:=bcell q2;have hz:=q2.size;simp only [World.size_alloc]at hz;have z0:w.heap.size<w2.heap.size:=(by omega);have z1:w.heap.size+1<w2.heap.size:=(by omega);have z2:w.heap.size+1+1<w2.heap.size:=(by omega);have z3:w.heap.size+1+1+1+1+1<w2.heap.size:=(by omega))
    |(go_at_call 39;refine (HY.out _).mono ?_;rintro e w3 ⟨rfl,q3⟩;obtain ⟨hc3,hf3⟩:=bcell q3;have hz3:=q3.size;simp only [World.size_alloc,World.size_setCell]at hz3;have y0:w.heap.size<w3.heap.size:=(by omega);have y1:w.heap.size+1<w3.heap.size:=(by omega);have y2:w.heap.size+1+1<w3.heap.size:=(by omega);have y3:w.heap.size+1+1+1+1+1<w3.heap.size:=(by omega)))
      refine bodyPost_ret (v:=(.tuple #[.agg #[.int .i64 3,.int .i64 X,.int .i64 Y],.bool true])) (by simp [results,Tryz.results20,go_sem,hc,hf,z0,z1,z2,z3,hc3,hf3,y0,y1,y2,y3]) rfl ⟨ret_val H.out.symm,?_⟩
      repeat' (first|with_reducible exact Q.refl _|with_reducible refine Q.alloc ?_ _|with_reducible refine Q.setCell ?_ (by omega) _|with_reducible refine Q.trans ?_ (by assumption))
 ·have hb:(k' == 3)=false:=by simpa using hk
  clear hk;cases pr
  ·obtain ⟨X,hX⟩:∃ X,ix k' a' t' a=X:=⟨_,rfl⟩
   have HX:=hid (fun W=>rindex_any k' a' t' a W)
   rw [hX]at HX;obtain ⟨Y,hY⟩:∃ Y,gp k' a' t' t true=Y:=⟨_,rfl⟩;have HY:=hid (fun W=>rgap_any k' a' t' t true W)
   rw [hY]at HY;have eA:Hid (tA 3 a t k' a' t' false=X):=by show _=_;rw [←hX];rfl
   have eT:Hid (tT 3 a t k' a' t' false=Y):=by show _=_;rw [←hY];rfl
   clear hX hY;have HS:=hid hs;clear hs;by_cases hn:X<0
   ·have H:=hid (trV_x (k:=3) (a:=a) (t:=t) (k':=k') (a':=a') (t':=t') (pr:=false) (by rw [eA.out,eT.out];exact may_neg hn))
    go_enter Tryz.func20,Tryz.ntmps20
    go_wp2_with (first
    |(go_at_call 14;refine (rmay_any _ _ _ _).mono ?_;rintro e w1 ⟨rfl,rfl⟩)
    |(go_at_call 31;refine (HX.out _).mono ?_;rintro e w2 ⟨rfl,q2⟩;obtain ⟨hc,hf⟩:=bcell q2;have hz:=q2.size;simp only [World.size_alloc]at hz;have z0:w.heap.size<w2.heap.size:=(by omega);have z1:w.heap.size+1<w2.heap.size:=(by omega);have z2:w.heap.size+1+1<w2.heap.size:=(by omega);have z3:w.heap.size+1+1+1+1+1<w2.heap.size:=(by omega))
    |(go_at_call 39;refine (HY.out _).mono ?_;rintro e w3 ⟨rfl,q3⟩;obtain ⟨hc3,hf3⟩:=bcell q3;have hz3:=q3.size;simp only [World.size_alloc,World.size_setCell]at hz3;have y0:w.heap.size<w3.heap.size:=(by omega);have y1:w.heap.size+1<w3.heap.size:=(by omega);have y2:w.heap.size+1+1<w3.heap.size:=(by omega);have y3:w.heap.size+1+1+1+1+1<w3.heap.size:=(by omega)))
    refine bodyPost_ret (v:=(.tuple #[.agg #[.int .i64 0,.int .i64 0,.int .i64 0],.bool false])) (by simp [results,Tryz.results20,go_sem,hc,hf,z0,z1,z2,z3,hc3,hf3,y0,y1,y2,y3]) rfl ⟨ret_val H.out.symm,?_⟩
    repeat' (first|with_reducible exact Q.refl _|with_reducible refine Q.alloc ?_ _|with_reducible refine Q.setCell ?_ (by omega) _|with_reducible refine Q.trans ?_ (by assumption))
   ·cases hx:mayB 3 X Y
    ·have H:=hid (trV_x (k:=3) (a:=a) (t:=t) (k':=k') (a':=a') (t':=t') (pr:=false) (by rw [eA.out,eT.out];exact hx))
     go_enter Tryz.func20,Tryz.ntmps20
     go_wp2_with (first
    |(go_at_call 14;refine (rmay_any _ _ _ _).mono ?_;rintro e w1 ⟨rfl,rfl⟩)
    |(go_at_call 31;refine (HX.out _).mono ?_;rintro e w2 ⟨rfl,q2⟩;obtain ⟨hc,hf⟩:=bcell q2;have hz:=q2.size;simp only [World.size_alloc]at hz;have z0:w.heap.size<w2.heap.size:=(by omega);have z1:w.heap.size+1<w2.heap.size:=(by omega);have z2:w.heap.size+1+1<w2.heap.size:=(by omega);have z3:w.heap.size+1+1+1+1+1<w2.heap.size:=(by omega))
    |(go_at_call 39;refine (HY.out _).mono ?_;rintro e w3 ⟨rfl,q3⟩;obtain ⟨hc3,hf3⟩:=bcell q3;have hz3:=q3.size;simp only [World.size_alloc,World.size_setCell]at hz3;have y0:w.heap.size<w3.heap.size:=(by omega);have y1:w.heap.size+1<w3.heap.size:=(by omega);have y2:w.heap.size+1+1<w3.heap.size:=(by omega);have y3:w.heap.size+1+1+1+1+1<w3.heap.size:=(by omega)))
     refine bodyPost_ret (v:=(.tuple #[.agg #[.int .i64 0,.int .i64 0,.int .i64 0],.bool false])) (by simp [results,Tryz.results20,go_sem,hc,hf,z0,z1,z2,z3,hc3,hf3,y0,y1,y2,y3]) rfl ⟨ret_val H.out.symm,?_⟩
     repeat' (first|with_reducible exact Q.refl _|with_reducible refine Q.alloc ?_ _|with_reducible refine Q.setCell ?_ (by omega) _|with_reducible refine Q.trans ?_ (by assumption))
    ·have H:=hid (trV_o (k:=3) (a:=a) (t:=t) (k':=k') (a':=a') (t':=t') (pr:=false) hm hm' HS.out (by rw [eA.out,eT.out];exact hx))
     rw [eA.out,eT.out]at H;go_enter Tryz.func20,Tryz.ntmps20
     go_wp2_with (first
    |(go_at_call 14;refine (rmay_any _ _ _ _).mono ?_;rintro e w1 ⟨rfl,rfl⟩)
    |(go_at_call 31;refine (HX.out _).mono ?_;rintro e w2 ⟨rfl,q2⟩;obtain ⟨hc,hf⟩:=bcell q2;have hz:=q2.size;simp only [World.size_alloc]at hz;have z0:w.heap.size<w2.heap.size:=(by omega);have z1:w.heap.size+1<w2.heap.size:=(by omega);have z2:w.heap.size+1+1<w2.heap.size:=(by omega);have z3:w.heap.size+1+1+1+1+1<w2.heap.size:=(by omega))
    |(go_at_call 39;refine (HY.out _).mono ?_;rintro e w3 ⟨rfl,q3⟩;obtain ⟨hc3,hf3⟩:=bcell q3;have hz3:=q3.size;simp only [World.size_alloc,World.size_setCell]at hz3;have y0:w.heap.size<w3.heap.size:=(by omega);have y1:w.heap.size+1<w3.heap.size:=(by omega);have y2:w.heap.size+1+1<w3.heap.size:=(by omega);have y3:w.heap.size+1+1+1+1+1<w3.heap.size:=(by omega)))
     refine bodyPost_ret (v:=(.tuple #[.agg #[.int .i64 3,.int .i64 X,.int .i64 Y],.bool true])) (by simp [results,Tryz.results20,go_sem,hc,hf,z0,z1,z2,z3,hc3,hf3,y0,y1,y2,y3]) rfl ⟨ret_val H.out.symm,?_⟩
     repeat' (first|with_reducible exact Q.refl _|with_reducible refine Q.alloc ?_ _|with_reducible refine Q.setCell ?_ (by omega) _|with_reducible refine Q.trans ?_ (by assumption))
  ·obtain ⟨X,hX⟩:∃ X,ix k' a' t' a=X:=⟨_,rfl⟩
   have HX:=hid (fun W=>rindex_any k' a' t' a W)
   rw [hX]at HX;obtain ⟨Y,hY⟩:∃ Y,gp k' a' t' t false=Y:=⟨_,rfl⟩;have HY:=hid (fun W=>rgap_any k' a' t' t false W)
   rw [hY]at HY;have eA:Hid (tA 3 a t k' a' t' true=X):=by show _=_;rw [←hX];rfl
   have eT:Hid (tT 3 a t k' a' t' true=Y):=by show _=_;rw [←hY];rfl
   clear hX hY;have HS:=hid hs;clear hs;by_cases hn:X<0
   ·have H:=hid (trV_x (k:=3) (a:=a) (t:=t) (k':=k') (a':=a') (t':=t') (pr:=true) (by rw [eA.out,eT.out];exact may_neg hn))
    go_enter Tryz.func20,Tryz.ntmps20
    go_wp2_with (first
    |(go_at_call 14;refine (rmay_any _ _ _ _).mono ?_;rintro e w1 ⟨rfl,rfl⟩)
    |(go_at_call 31;refine (HX.out _).mono ?_;rintro e w2 ⟨rfl,q2⟩;obtain ⟨hc,hf⟩:=bcell q2;have hz:=q2.size;simp only [World.size_alloc]at hz;have z0:w.heap.size<w2.heap.size:=(by omega);have z1:w.heap.size+1<w2.heap.size:=(by omega);have z2:w.heap.size+1+1<w2.heap.size:=(by omega);have z3:w.heap.size+1+1+1+1+1<w2.heap.size:=(by omega))
    |(go_at_call 39;refine (HY.out _).mono ?_;rintro e w3 ⟨rfl,q3⟩;obtain ⟨hc3,hf3⟩:=bcell q3;have hz3:=q3.size;simp only [World.size_alloc,World.size_setCell]at hz3;have y0:w.heap.size<w3.heap.size:=(by omega);have y1:w.heap.size+1<w3.heap.size:=(by omega);have y2:w.heap.size+1+1<w3.heap.size:=(by omega);have y3:w.heap.size+1+1+1+1+1<w3.heap.size:=(by omega)))
    refine bodyPost_ret (v:=(.tuple #[.agg #[.int .i64 0,.int .i64 0,.int .i64 0],.bool false])) (by simp [results,Tryz.results20,go_sem,hc,hf,z0,z1,z2,z3,hc3,hf3,y0,y1,y2,y3]) rfl ⟨ret_val H.out.symm,?_⟩
    repeat' (first|with_reducible exact Q.refl _|with_reducible refine Q.alloc ?_ _|with_reducible refine Q.setCell ?_ (by omega) _|with_reducible refine Q.trans ?_ (by assumption))
   ·cases hx:mayB 3 X Y
    ·have H:=hid (trV_x (k:=3) (a:=a) (t:=t) (k':=k') (a':=a') (t':=t') (pr:=true) (by rw [eA.out,eT.out];exact hx))
     go_enter Tryz.func20,Tryz.ntmps20
     go_wp2_with (first
    |(go_at_call 14;refine (rmay_any _ _ _ _).mono ?_;rintro e w1 ⟨rfl,rfl⟩)
    |(go_at_call 31;refine (HX.out _).mono ?_;rintro e w2 ⟨rfl,q2⟩;obtain ⟨hc,hf⟩:=bcell q2;have hz:=q2.size;simp only [World.size_alloc]at hz;have z0:w.heap.size<w2.heap.size:=(by omega);have z1:w.heap.size+1<w2.heap.size:=(by omega);have z2:w.heap.size+1+1<w2.heap.size:=(by omega);have z3:w.heap.size+1+1+1+1+1<w2.heap.size:=(by omega))
    |(go_at_call 39;refine (HY.out _).mono ?_;rintro e w3 ⟨rfl,q3⟩;obtain ⟨hc3,hf3⟩:=bcell q3;have hz3:=q3.size;simp only [World.size_alloc,World.size_setCell]at hz3;have y0:w.heap.size<w3.heap.size:=(by omega);have y1:w.heap.size+1<w3.heap.size:=(by omega);have y2:w.heap.size+1+1<w3.heap.size:=(by omega);have y3:w.heap.size+1+1+1+1+1<w3.heap.size:=(by omega)))
     refine bodyPost_ret (v:=(.tuple #[.agg #[.int .i64 0,.int .i64 0,.int .i64 0],.bool false])) (by simp [results,Tryz.results20,go_sem,hc,hf,z0,z1,z2,z3,hc3,hf3,y0,y1,y2,y3]) rfl ⟨ret_val H.out.symm,?_⟩
     repeat' (first|with_reducible exact Q.refl _|with_reducible refine Q.alloc ?_ _|with_reducible refine Q.setCell ?_ (by omega) _|with_reducible refine Q.trans ?_ (by assumption))
    ·have H:=hid (trV_o (k:=3) (a:=a) (t:=t) (k':=k') (a':=a') (t':=t') (pr:=true) hm hm' HS.out (by rw [eA.out,eT.out];exact hx))
     rw [eA.out,eT.out]at H;go_enter Tryz.func20,Tryz.ntmps20
     go_wp2_with (first
    |(go_at_call 14;refine (rmay_any _ _ _ _).mono ?_;rintro e w1 ⟨rfl,rfl⟩)
    |(go_at_call 31;refine (HX.out _).mono ?_;rintro e w2 ⟨rfl,q2⟩;obtain ⟨hc,hf⟩:=bcell q2;have hz:=q2.size;simp only [World.size_alloc]at hz;have z0:w.heap.size<w2.heap.size:=(by omega);have z1:w.heap.size+1<w2.heap.size:=(by omega);have z2:w.heap.size+1+1<w2.heap.size:=(by omega);have z3:w.heap.size+1+1+1+1+1<w2.heap.size:=(by omega))
    |(go_at_call 39;refine (HY.out _).mono ?_;rintro e w3 ⟨rfl,q3⟩;obtain ⟨hc3,hf3⟩:=bcell q3;have hz3:=q3.size;simp only [World.size_alloc,World.size_setCell]at hz3;have y0:w.heap.size<w3.heap.size:=(by omega);have y1:w.heap.size+1<w3.heap.size:=(by omega);have y2:w.heap.size+1+1<w3.heap.size:=(by omega);have y3:w.heap.size+1+1+1+1+1<w3.heap.size:=(by omega)))
     refine bodyPost_ret (v:=(.tuple #[.agg #[.int .i64 3,.int .i64 X,.int .i64 Y],.bool true])) (by simp [results,Tryz.results20,go_sem,hc,hf,z0,z1,z2,z3,hc3,hf3,y0,y1,y2,y3]) rfl ⟨ret_val H.out.symm,?_⟩
     repeat' (first|with_reducible exact Q.refl _|with_reducible refine Q.alloc ?_ _|with_reducible refine Q.setCell ?_ (by omega) _|with_reducible refine Q.trans ?_ (by assumption))
end Go.Proofs.YtoikodohcieipaaGreatDoor.L
