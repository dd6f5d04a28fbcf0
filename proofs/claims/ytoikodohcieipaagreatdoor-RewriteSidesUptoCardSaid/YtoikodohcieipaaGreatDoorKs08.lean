/- The reference: Gap: where a ga. -/
import Derived.Test.YtoikodohcieipaaGreatDoorKs03
import Derived.Deep.QuietTactic
import Derived.BigQuiet
set_option linter.unusedVariables false
set_option linter.unusedSimpArgs false
set_option maxRecDepth 100000
set_option maxHeartbeats 8000000
namespace Go.Proofs.YtoikodohcieipaaGreatDoor.L
open Go.RowKit
theorem rgap_any(k a t i:Int)(b:Bool)(w:World):Calls Tryz.prog 39 #[.agg #[.int .i64 k,.int .i64 a,.int .i64 t],.int .i64 i,.bool b] w fun e w'=>e=.returned (.int .i64 (gp k a t i b))∧Q w w':=by
 cases hm:mayB k a t
 ·have H:=hid (gp_no (i:=i) (b:=b) hm)
  go_enter Tryz.func39,Tryz.ntmps39
  go_wp2_with (first|(go_at_call 14;refine (rmay_any _ _ _ _).mono ?_;rintro e w1 ⟨rfl,rfl⟩))
  go_ret
  exact ⟨ret_int H.out,((Q.refl _).alloc _).alloc _⟩
 ·cases hp:plB i
  ·have H:=hid (gp_far (k:=k) (a:=a) (t:=t) (b:=b) hp)
   go_enter Tryz.func39,Tryz.ntmps39
   go_wp2_with (first|(go_at_call 14;refine (rmay_any _ _ _ _).mono ?_;rintro e w1 ⟨rfl,rfl⟩)|(go_at_call 58;refine (out_any _ _).mono ?_;rintro e w1 ⟨rfl,rfl⟩))
   go_ret
   exact ⟨ret_int H.out,((Q.refl _).alloc _).alloc _⟩
  ·have HY:=hid (gp_yes (b:=b) hm hp)
   obtain ⟨p0,p1⟩:=pl_bd hp;obtain ⟨⟨a0,a1⟩,⟨t0,t1⟩,-⟩:=may_bd hm
   rcases may_k hm with rfl|rfl|rfl
   ·have HG:=hid ((gap1 a t i b).trans HY.out.symm)
    by_cases h:a<i
    ·have H:Hid (i+1=gp 1 a t i b):=by show _=_;rw [←HG.out];unfold og;simp [h]
     go_enter Tryz.func39,Tryz.ntmps39
     go_wp2_with (first|(go_at_call 14;refine (rmay_any _ _ _ _).mono ?_;rintro e w1 ⟨rfl,rfl⟩)|(go_at_call 58;refine (out_any _ _).mono ?_;rintro e w1 ⟨rfl,rfl⟩))
     go_ret
     exact ⟨ret_int H.out,((Q.refl _).alloc _).alloc _⟩
    ·by_cases h2:i=a
     ·subst h2
      cases b
      ·have H:Hid (i=gp 1 i t i false):=by show _=_;rw [←HG.out];unfold og;simp
       go_enter Tryz.func39,Tryz.ntmps39
       go_wp2_with (first|(go_at_call 14;refine (rmay_any _ _ _ _).mono ?_;rintro e w1 ⟨rfl,rfl⟩)|(go_at_call 58;refine (out_any _ _).mono ?_;rintro e w1 ⟨rfl,rfl⟩))
       go_ret
       exact ⟨ret_int H.out,((Q.refl _).alloc _).alloc _⟩
      ·have H:Hid (i+1=gp 1 i t i true):=by show _=_;rw [←HG.out];unfold og;simp
       go_enter Tryz.func39,Tryz.ntmps39
       go_wp2_with (first|(go_at_call 14;refine (rmay_any _ _ _ _).mono ?_;rintro e w1 ⟨rfl,rfl⟩)|(go_at_call 58;refine (out_any _ _).mono ?_;rintro e w1 ⟨rfl,rfl⟩))
       go_ret
       exact ⟨ret_int H.out,((Q.refl _).alloc _).alloc _⟩
     ·have H:Hid (i=gp 1 a t i b):=by show _=_;rw [←HG.out];unfold og;simp [h,h2]
      have h3:(i == a)=false:=by simpa using h2
      clear h2;go_enter Tryz.func39,Tryz.ntmps39
      go_wp2_with (first|(go_at_call 14;refine (rmay_any _ _ _ _).mono ?_;rintro e w1 ⟨rfl,rfl⟩)|(go_at_call 58;refine (out_any _ _).mono ?_;rintro e w1 ⟨rfl,rfl⟩))
      go_ret
      exact ⟨ret_int H.out,((Q.refl _).alloc _).alloc _⟩
   ·have H:=hid ((gap2 a t i b).trans HY.out.symm)
    go_enter Tryz.func39,Tryz.ntmps39
    go_wp2_with (first|(go_at_call 14;refine (rmay_any _ _ _ _).mono ?_;rintro e w1 ⟨rfl,rfl⟩)|(go_at_call 58;refine (out_any _ _).mono ?_;rintro e w1 ⟨rfl,rfl⟩)|(go_at_call 59;refine (left_any _ _ _ (by omega) (by omega)).mono ?_;rintro e w1 ⟨rfl,rfl⟩))
    go_ret
    exact ⟨ret_int H.out,((Q.refl _).alloc _).alloc _⟩
   ·have HG:=hid ((gap3 a t i b).trans HY.out.symm)
    have b1:=lf_bd p0 a0;by_cases h:Ax.lf t a<Ax.lf i a
    ·have H:Hid (Ax.lf i a+1=gp 3 a t i b):=by show _=_;rw [←HG.out];unfold og;simp [h]
     go_enter Tryz.func39,Tryz.ntmps39
     go_wp2_with (first|(go_at_call 14;refine (rmay_any _ _ _ _).mono ?_;rintro e w1 ⟨rfl,rfl⟩)|(go_at_call 58;refine (out_any _ _).mono ?_;rintro e w1 ⟨rfl,rfl⟩))
     go_quiet ((go_at_call 59;exact Calls.quiet_of_same (left_any _ _ _ (by omega) (by omega))))
     all_goals go_wp2
     all_goals go_ret
     all_goals exact ⟨ret_int H.out,by first|exact (((Q.refl _).alloc _).alloc _).drew|exact (((Q.refl _).alloc _).alloc _).drewN _⟩
    ·by_cases h2:Ax.lf i a=Ax.lf t a
     ·have h3:(Ax.lf i a == Ax.lf t a)=true:=by simpa using h2
      cases b
      ·have H:Hid (Ax.lf i a=gp 3 a t i false):=by show _=_;rw [←HG.out];unfold og;simp [h]
       clear h2;go_enter Tryz.func39,Tryz.ntmps39
       go_wp2_with (first|(go_at_call 14;refine (rmay_any _ _ _ _).mono ?_;rintro e w1 ⟨rfl,rfl⟩)|(go_at_call 58;refine (out_any _ _).mono ?_;rintro e w1 ⟨rfl,rfl⟩))
       go_quiet ((go_at_call 59;exact Calls.quiet_of_same (left_any _ _ _ (by omega) (by omega))))
       all_goals go_wp2
       all_goals go_ret
       all_goals exact ⟨ret_int H.out,by first|exact (((Q.refl _).alloc _).alloc _).drew|exact (((Q.refl _).alloc _).alloc _).drewN _⟩
      ·have H:Hid (Ax.lf i a+1=gp 3 a t i true):=by show _=_;rw [←HG.out];unfold og;simp [h2]
       clear h2;go_enter Tryz.func39,Tryz.ntmps39
       go_wp2_with (first|(go_at_call 14;refine (rmay_any _ _ _ _).mono ?_;rintro e w1 ⟨rfl,rfl⟩)|(go_at_call 58;refine (out_any _ _).mono ?_;rintro e w1 ⟨rfl,rfl⟩))
       go_quiet ((go_at_call 59;exact Calls.quiet_of_same (left_any _ _ _ (by omega) (by omega))))
       all_goals go_wp2
       all_goals go_ret
       all_goals exact ⟨ret_int H.out,by first|exact (((Q.refl _).alloc _).alloc _).drew|exact (((Q.refl _).alloc _).alloc _).drewN _⟩
     ·have H:Hid (Ax.lf i a=gp 3 a t i b):=by show _=_;rw [←HG.out];unfold og;simp [h,h2]
      have h3:(Ax.lf i a == Ax.lf t a)=false:=by simpa using h2
      clear h2;go_enter Tryz.func39,Tryz.ntmps39
      go_wp2_with (first|(go_at_call 14;refine (rmay_any _ _ _ _).mono ?_;rintro e w1 ⟨rfl,rfl⟩)|(go_at_call 58;refine (out_any _ _).mono ?_;rintro e w1 ⟨rfl,rfl⟩))
      go_quiet ((go_at_call 59;exact Calls.quiet_of_same (left_any _ _ _ (by omega) (by omega))))
      all_goals go_wp2
      all_goals go_ret
      all_goals exact ⟨ret_int H.out,by first|exact (((Q.refl _).alloc _).alloc _).drew|exact (((Q.refl _).alloc _).alloc _).drewN _⟩
theorem may_neg{k X Y:Int}(h:X<0):mayB k X Y=false:=by unfold mayB;simp;omega
theorem may_t0{k a t:Int}(h:mayB k a t=true)(hk:k≠3):t=0:=by
 have:=(Ax.okB_iff k a t).1 (may_bd h).2.2
 unfold Ax.ok at this
 omega
theorem rtransform_no(k a t k' a' t':Int)(pr:Bool)(w:World)(h:mayB k a t=false∨mayB k a t=true∧mayB k' a' t'=false):Calls Tryz.prog 20 #[.agg #[.int .i64 k,.int .i64 a,.int .i64 t],.agg #[.int .i64 k',.int .i64 a',.int .i64 t'],.bool pr] w
  fun e w'=>e=.returned (trV k a t k' a' t' pr)∧Q w w':=by
 rcases h with hm|⟨hm,hm'⟩
 ·have H:=hid (trV_m (k':=k') (a':=a') (t':=t') (pr:=pr) hm)
  go_enter Tryz.func20,Tryz.ntmps20
  go_wp2_with (go_at_call 14;refine (rmay_any _ _ _ _).mono ?_;rintro e w1 ⟨rfl,rfl⟩)
  refine bodyPost_ret (v:=(.tuple #[.agg #[.int .i64 0,.int .i64 0,.int .i64 0],.bool false])) (by simp [results,Tryz.results20,go_sem]) rfl ⟨ret_val H.out.symm,?_⟩
  repeat' (first|with_reducible exact Q.refl _|with_reducible refine Q.alloc ?_ _|with_reducible refine Q.setCell ?_ (by omega) _|with_reducible refine Q.trans ?_ (by assumption))
 ·have H:=hid (trV_m' (k:=k) (a:=a) (t:=t) (pr:=pr) hm')
  go_enter Tryz.func20,Tryz.ntmps20
  go_wp2_with (go_at_call 14;refine (rmay_any _ _ _ _).mono ?_;rintro e w1 ⟨rfl,rfl⟩)
  refine bodyPost_ret (v:=(.tuple #[.agg #[.int .i64 0,.int .i64 0,.int .i64 0],.bool false])) (by simp [results,Tryz.results20,go_sem]) rfl ⟨ret_val H.out.symm,?_⟩
  repeat' (first|with_reducible exact Q.refl _|with_reducible refine Q.alloc ?_ _|with_reducible refine Q.setCell ?_ (by omega) _|with_reducible refine Q.trans ?_ (by assumption))
theorem rtransform_same(a t t':Int)(pr:Bool)(w:World)(hm:mayB 3 a t=true)(hm':mayB 3 a t'=true)(hp:pr=true):Calls Tryz.prog 20 #[.agg #[.int .i64 3,.int .i64 a,.int .i64 t],.agg #[.int .i64 3,.int .i64 a,.int .i64 t'],.bool pr] w
  fun e w'=>e=.returned (trV 3 a t 3 a t' pr)∧Q w w':=by
 subst hp;have H:=hid (trV_s (k:=3) (a:=a) (k':=3) (a':=a) (t:=t) (t':=t') (pr:=true) (by unfold smB;simp))
 go_enter Tryz.func20,Tryz.ntmps20
 go_wp2_with (go_at_call 14;refine (rmay_any _ _ _ _).mono ?_;rintro e w1 ⟨rfl,rfl⟩)
 refine bodyPost_ret (v:=(.tuple #[.agg #[.int .i64 0,.int .i64 0,.int .i64 0],.bool false])) (by simp [results,Tryz.results20,go_sem]) rfl ⟨ret_val H.out.symm,?_⟩
 repeat' (first|with_reducible exact Q.refl _|with_reducible refine Q.alloc ?_ _|with_reducible refine Q.setCell ?_ (by omega) _|with_reducible refine Q.trans ?_ (by assumption))
theorem rtransform_k1(a t k' a' t':Int)(pr:Bool)(w:World)(hm:mayB 1 a t=true)(hm':mayB k' a' t'=true)(hs:(pr&&smB 1 a k' a')=false):Calls Tryz.prog 20 #[.agg #[.int .i64 1,.int .i64 a,.int .i64 t],.agg #[.int .i64 k',.int .i64 a',.int .i64 t'],.bool pr] w
  fun e w'=>e=.returned (trV 1 a t k' a' t' pr)∧Q w w':=by
 obtain rfl:=may_t0 hm (by decide)
 cases pr
 ·obtain ⟨X,hX⟩:∃ X,gp k' a' t' a true=X:=⟨_,rfl⟩
  have HX:=hid (fun W=>rgap_any k' a' t' a true W)
  rw [hX]at HX;have eA:Hid (tA 1 a 0 k' a' t' false=X):=by show _=_;rw [←hX];rfl
  have eT:Hid (tT 1 a 0 k' a' t' false=0):=by show _=_;rfl
  clear hX;have HS:=hid hs;clear hs;by_cases hn:X<0
  ·have H:=hid (trV_x (k:=1) (a:=a) (t:=0) (k':=k') (a':=a') (t':=t') (pr:=false) (by rw [eA.out,eT.out];exact may_neg hn))
   go_enter Tryz.func20,Tryz.ntmps20
   go_wp2_with (first
    |(go_at_call 14;refine (rmay_any _ _ _ _).mono ?_;rintro e w1 ⟨rfl,rfl⟩)
    |(go_at_call 39;refine (HX.out _).mono ?_;rintro e w2 ⟨rfl,q2⟩;obtain ⟨hc,hf⟩:=bcell q2;have hz:=q2.size;simp only [World.size_alloc]at hz;have z0:w.heap.size<w2.heap.size:=(by omega);have z1:w.heap.size+1<w2.heap.size:=(by omega);have z2:w.heap.size+1+1<w2.heap.size:=(by omega);have z3:w.heap.size+1+1+1+1+1<w2.heap.size:=(by omega)))
   refine bodyPost_ret (v:=(.tuple #[.agg #[.int .i64 0,.int .i64 0,.int .i64 0],.bool false])) (by simp [results,Tryz.results20,go_sem,hc,hf,z0,z1,z2,z3]) rfl ⟨ret_val H.out.symm,?_⟩
   repeat' (first|with_reducible exact Q.refl _|with_reducible refine Q.alloc ?_ _|with_reducible refine Q.setCell ?_ (by omega) _|with_reducible refine Q.trans ?_ (by assumption))
  ·cases hx:mayB 1 X 0
   ·have H:=hid (trV_x (k:=1) (a:=a) (t:=0) (k':=k') (a':=a') (t':=t') (pr:=false) (by rw [eA.out,eT.out];exact hx))
    go_enter Tryz.func20,Tryz.ntmps20
    go_wp2_with (first
    |(go_at_call 14;refine (rmay_any _ _ _ _).mono ?_;rintro e w1 ⟨rfl,rfl⟩)
    |(go_at_call 39;refine (HX.out _).mono ?_;rintro e w2 ⟨rfl,q2⟩;obtain ⟨hc,hf⟩:=bcell q2;have hz:=q2.size;simp only [World.size_alloc]at hz;have z0:w.heap.size<w2.heap.size:=(by omega);have z1:w.heap.size+1<w2.heap.size:=(by omega);have z2:w.heap.size+1+1<w2.heap.size:=(by omega);have z3:w.heap.size+1+1+1+1+1<w2.heap.size:=(by omega)))
    refine bodyPost_ret (v:=(.tuple #[.agg #[.int .i64 0,.int .i64 0,.int .i64 0],.bool false])) (by simp [results,Tryz.results20,go_sem,hc,hf,z0,z1,z2,z3]) rfl ⟨ret_val H.out.symm,?_⟩
    repeat' (first|with_reducible exact Q.refl _|with_reducible refine Q.alloc ?_ _|with_reducible refine Q.setCell ?_ (by omega) _|with_reducible refine Q.trans ?_ (by assumption))
   ·have H:=hid (trV_o (k:=1) (a:=a) (t:=0) (k':=k') (a':=a') (t':=t') (pr:=false) hm hm' HS.out (by rw [eA.out,eT.out];exact hx))
    rw [eA.out,eT.out]at H;go_enter Tryz.func20,Tryz.ntmps20
    go_wp2_with (first
    |(go_at_call 14;refine (rmay_any _ _ _ _).mono ?_;rintro e w1 ⟨rfl,rfl⟩)
    |(go_at_call 39;refine (HX.out _).mono ?_;rintro e w2 ⟨rfl,q2⟩;obtain ⟨hc,hf⟩:=bcell q2;have hz:=q2.size;simp only [World.size_alloc]at hz;have z0:w.heap.size<w2.heap.size:=(by omega);have z1:w.heap.size+1<w2.heap.size:=(by omega);have z2:w.heap.size+1+1<w2.heap.size:=(by omega);have z3:w.heap.size+1+1+1+1+1<w2.heap.size:=(by omega)))
    refine bodyPost_ret (v:=(.tuple #[.agg #[.int .i64 1,.int .i64 X,.int .i64 0],.bool true])) (by simp [results,Tryz.results20,go_sem,hc,hf,z0,z1,z2,z3]) rfl ⟨ret_val H.out.symm,?_⟩
    repeat' (first|with_reducible exact Q.refl _|with_reducible refine Q.alloc ?_ _|with_reducible refine Q.setCell ?_ (by omega) _|with_reducible refine Q.trans ?_ (by assumption))
 ·obtain ⟨X,hX⟩:∃ X,gp k' a' t' a false=X:=⟨_,rfl⟩
  have HX:=hid (fun W=>rgap_any k' a' t' a false W)
  rw [hX]at HX;have eA:Hid (tA 1 a 0 k' a' t' true=X):=by show _=_;rw [←hX];rfl
  have eT:Hid (tT 1 a 0 k' a' t' true=0):=by show _=_;rfl
  clear hX;have HS:=hid hs;clear hs;by_cases hn:X<0
  ·have H:=hid (trV_x (k:=1) (a:=a) (t:=0) (k':=k') (a':=a') (t':=t') (pr:=true) (by rw [eA.out,eT.out];exact may_neg hn))
   go_enter Tryz.func20,Tryz.ntmps20
   go_wp2_with (first
    |(go_at_call 14;refine (rmay_any _ _ _ _).mono ?_;rintro e w1 ⟨rfl,rfl⟩)
    |(go_at_call 39;refine (HX.out _).mono ?_;rintro e w2 ⟨rfl,q2⟩;obtain ⟨hc,hf⟩:=bcell q2;have hz:=q2.size;simp only [World.size_alloc]at hz;have z0:w.heap.size<w2.heap.size:=(by omega);have z1:w.heap.size+1<w2.heap.size:=(by omega);have z2:w.heap.size+1+1<w2.heap.size:=(by omega);have z3:w.heap.size+1+1+1+1+1<w2.heap.size:=(by omega)))
   refine bodyPost_ret (v:=(.tuple #[.agg #[.int .i64 0,.int .i64 0,.int .i64 0],.bool false])) (by simp [results,Tryz.results20,go_sem,hc,hf,z0,z1,z2,z3]) rfl ⟨ret_val H.out.symm,?_⟩
   repeat' (first|with_reducible exact Q.refl _|with_reducible refine Q.alloc ?_ _|with_reducible refine Q.setCell ?_ (by omega) _|with_reducible refine Q.trans ?_ (by assumption))
  ·cases hx:mayB 1 X 0
   ·have H:=hid (trV_x (k:=1) (a:=a) (t:=0) (k':=k') (a':=a') (t':=t') (pr:=true) (by rw [eA.out,eT.out];exact hx))
    go_enter Tryz.func20,Tryz.ntmps20
    go_wp2_with (first
    |(go_at_call 14;refine (rmay_any _ _ _ _).mono ?_;rintro e w1 ⟨rfl,rfl⟩)
    |(go_at_call 39;refine (HX.out _).mono ?_;rintro e w2 ⟨rfl,q2⟩;obtain ⟨hc,hf⟩:=bcell q2;have hz:=q2.size;simp only [World.size_alloc]at hz;have z0:w.heap.size<w2.heap.size:=(by omega);have z1:w.heap.size+1<w2.heap.size:=(by omega);have z2:w.heap.size+1+1<w2.heap.size:=(by omega);have z3:w.heap.size+1+1+1+1+1<w2.heap.size:=(by omega)))
    refine bodyPost_ret (v:=(.tuple #[.agg #[.int .i64 0,.int .i64 0,.int .i64 0],.bool false])) (by simp [results,Tryz.results20,go_sem,hc,hf,z0,z1,z2,z3]) rfl ⟨ret_val H.out.symm,?_⟩
    repeat' (first|with_reducible exact Q.refl _|with_reducible refine Q.alloc ?_ _|with_reducible refine Q.setCell ?_ (by omega) _|with_reducible refine Q.trans ?_ (by assumption))
   ·have H:=hid (trV_o (k:=1) (a:=a) (t:=0) (k':=k') (a':=a') (t':=t') (pr:=true) hm hm' HS.out (by rw [eA.out,eT.out];exact hx))
    rw [eA.out,eT.out]at H;go_enter Tryz.func20,Tryz.ntmps20
    go_wp2_with (first
    |(go_at_call 14;refine (rmay_any _ _ _ _).mono ?_;rintro e w1 ⟨rfl,rfl⟩)
    |(go_at_call 39;refine (HX.out _).mono ?_;rintro e w2 ⟨rfl,q2⟩;obtain ⟨hc,hf⟩:=bcell q2;have hz:=q2.size;simp only [World.size_alloc]at hz;have z0:w.heap.size<w2.heap.size:=(by omega);have z1:w.heap.size+1<w2.heap.size:=(by omega);have z2:w.heap.size+1+1<w2.heap.size:=(by omega);have z3:w.heap.size+1+1+1+1+1<w2.heap.size:=(by omega)))
    refine bodyPost_ret (v:=(.tuple #[.agg #[.int .i64 1,.int .i64 X,.int .i64 0],.bool true])) (by simp [results,Tryz.results20,go_sem,hc,hf,z0,z1,z2,z3]) rfl ⟨ret_val H.out.symm,?_⟩
    repeat' (first|with_reducible exact Q.refl _|with_reducible refine Q.alloc ?_ _|with_reducible refine Q.setCell ?_ (by omega) _|with_reducible refine Q.trans ?_ (by assumption))
theorem rtransform_k2(a t k' a' t':Int)(pr:Bool)(w:World)(hm:mayB 2 a t=true)(hm':mayB k' a' t'=true)(hs:(pr&&smB 2 a k' a')=false):Calls Tryz.prog 20 #[.agg #[.int .i64 2,.int .i64 a,.int .i64 t],.agg #[.int .i64 k',.int .i64 a',.int .i64 t'],.bool pr] w
  fun e w'=>e=.returned (trV 2 a t k' a' t' pr)∧Q w w':=by
 obtain rfl:=may_t0 hm (by decide)
 cases pr
 ·obtain ⟨X,hX⟩:∃ X,ix k' a' t' a=X:=⟨_,rfl⟩
  have HX:=hid (fun W=>rindex_any k' a' t' a W)
  rw [hX]at HX;have eA:Hid (tA 2 a 0 k' a' t' false=X):=by show _=_;rw [←hX];rfl
  have eT:Hid (tT 2 a 0 k' a' t' false=0):=by show _=_;rfl
  clear hX;have HS:=hid hs;clear hs;by_cases hn:X<0
  ·have H:=hid (trV_x (k:=2) (a:=a) (t:=0) (k':=k') (a':=a') (t':=t') (pr:=false) (by rw [eA.out,eT.out];exact may_neg hn))
   go_enter Tryz.func20,Tryz.ntmps20
   go_wp2_with (first
    |(go_at_call 14;refine (rmay_any _ _ _ _).mono ?_;rintro e w1 ⟨rfl,rfl⟩)
    |(go_at_call 31;refine (HX.out _).mono ?_;rintro e w2 ⟨rfl,q2⟩;obtain ⟨hc,hf⟩:=bcell q2;have hz:=q2.size;simp only [World.size_alloc]at hz;have z0:w.heap.size<w2.heap.size:=(by omega);have z1:w.heap.size+1<w2.heap.size:=(by omega);have z2:w.heap.size+1+1<w2.heap.size:=(by omega);have z3:w.heap.size+1+1+1+1+1<w2.heap.size:=(by omega)))
   refine bodyPost_ret (v:=(.tuple #[.agg #[.int .i64 0,.int .i64 0,.int .i64 0],.bool false])) (by simp [results,Tryz.results20,go_sem,hc,hf,z0,z1,z2,z3]) rfl ⟨ret_val H.out.symm,?_⟩
   repeat' (first|with_reducible exact Q.refl _|with_reducible refine Q.alloc ?_ _|with_reducible refine Q.setCell ?_ (by omega) _|with_reducible refine Q.trans ?_ (by assumption))
  ·cases hx:mayB 2 X 0
   ·have H:=hid (trV_x (k:=2) (a:=a) (t:=0) (k':=k') (a':=a') (t':=t') (pr:=false) (by rw [eA.out,eT.out];exact hx))
    go_enter Tryz.func20,Tryz.ntmps20
    go_wp2_with (first
    |(go_at_call 14;refine (rmay_any _ _ _ _).mono ?_;rintro e w1 ⟨rfl,rfl⟩)
    |(go_at_call 31;refine (HX.out _).mono ?_;rintro e w2 ⟨rfl,q2⟩;obtain ⟨hc,hf⟩:=bcell q2;have hz:=q2.size;simp only [World.size_alloc]at hz;have z0:w.heap.size<w2.heap.size:=(by omega);have z1:w.heap.size+1<w2.heap.size:=(by omega);have z2:w.heap.size+1+1<w2.heap.size:=(by omega);have z3:w.heap.size+1+1+1+1+1<w2.heap.size:=(by omega)))
    refine bodyPost_ret (v:=(.tuple #[.agg #[.int .i64 0,.int .i64 0,.int .i64 0],.bool false])) (by simp [results,Tryz.results20,go_sem,hc,hf,z0,z1,z2,z3]) rfl ⟨ret_val H.out.symm,?_⟩
    repeat' (first|with_reducible exact Q.refl _|with_reducible refine Q.alloc ?_ _|with_reducible refine Q.setCell ?_ (by omega) _|with_reducible refine Q.trans ?_ (by assumption))
   ·have H:=hid (trV_o (k:=2) (a:=a) (t:=0) (k':=k') (a':=a') (t':=t') (pr:=false) hm hm' HS.out (by rw [eA.out,eT.out];exact hx))
    rw [eA.out,eT.out]at H;go_enter Tryz.func20,Tryz.ntmps20
    go_wp2_with (first
    |(go_at_call 14;refine (rmay_any _ _ _ _).mono ?_;rintro e w1 ⟨rfl,rfl⟩)
    |(go_at_call 31;refine (HX.out _).mono ?_;rintro e w2 ⟨rfl,q2⟩;obtain ⟨hc,hf⟩:=bcell q2;have hz:=q2.size;simp only [World.size_alloc]at hz;have z0:w.heap.size<w2.heap.size:=(by omega);have z1:w.heap.size+1<w2.heap.size:=(by omega);have z2:w.heap.size+1+1<w2.heap.size:=(by omega);have z3:w.heap.size+1+1+1+1+1<w2.heap.size:=(by omega)))
    refine bodyPost_ret (v:=(.tuple #[.agg #[.int .i64 2,.int .i64 X,.int .i64 0],.bool true])) (by simp [results,Tryz.results20,go_sem,hc,hf,z0,z1,z2,z3]) rfl ⟨ret_val H.out.symm,?_⟩
    repeat' (first|with_reducible exact Q.refl _|with_reducible refine Q.alloc ?_ _|with_reducible refine Q.setCell ?_ (by omega) _|with_reducible refine Q.trans ?_ (by assumption))
 ·obtain ⟨X,hX⟩:∃ X,ix k' a' t' a=X:=⟨_,rfl⟩
  have HX:=hid (fun W=>rindex_any k' a' t' a W)
  rw [hX]at HX;have eA:Hid (tA 2 a 0 k' a' t' true=X):=by show _=_;rw [←hX];rfl
  have eT:Hid (tT 2 a 0 k' a' t' true=0):=by show _=_;rfl
  clear hX;have HS:=hid hs;clear hs;by_cases hn:X<0
  ·have H:=hid (trV_x (k:=2) (a:=a) (t:=0) (k':=k') (a':=a') (t':=t') (pr:=true) (by rw [eA.out,eT.out];exact may_neg hn))
   go_enter Tryz.func20,Tryz.ntmps20
   go_wp2_with (first
    |(go_at_call 14;refine (rmay_any _ _ _ _).mono ?_;rintro e w1 ⟨rfl,rfl⟩)
    |(go_at_call 31;refine (HX.out _).mono ?_;rintro e w2 ⟨rfl,q2⟩;obtain ⟨hc,hf⟩:=bcell q2;have hz:=q2.size;simp only [World.size_alloc]at hz;have z0:w.heap.size<w2.heap.size:=(by omega);have z1:w.heap.size+1<w2.heap.size:=(by omega);have z2:w.heap.size+1+1<w2.heap.size:=(by omega);have z3:w.heap.size+1+1+1+1+1<w2.heap.size:=(by omega)))
   refine bodyPost_ret (v:=(.tuple #[.agg #[.int .i64 0,.int .i64 0,.int .i64 0],.bool false])) (by simp [results,Tryz.results20,go_sem,hc,hf,z0,z1,z2,z3]) rfl ⟨ret_val H.out.symm,?_⟩
   repeat' (first|with_reducible exact Q.refl _|with_reducible refine Q.alloc ?_ _|with_reducible refine Q.setCell ?_ (by omega) _|with_reducible refine Q.trans ?_ (by assumption))
  ·cases hx:mayB 2 X 0
   ·have H:=hid (trV_x (k:=2) (a:=a) (t:=0) (k':=k') (a':=a') (t':=t') (pr:=true) (by rw [eA.out,eT.out];exact hx))
    go_enter Tryz.func20,Tryz.ntmps20
    go_wp2_with (first
    |(go_at_call 14;refine (rmay_any _ _ _ _).mono ?_;rintro e w1 ⟨rfl,rfl⟩)
    |(go_at_call 31;refine (HX.out _).mono ?_;rintro e w2 ⟨rfl,q2⟩;obtain ⟨hc,hf⟩:=bcell q2;have hz:=q2.size;simp only [World.size_alloc]at hz;have z0:w.heap.size<w2.heap.size:=(by omega);have z1:w.heap.size+1<w2.heap.size:=(by omega);have z2:w.heap.size+1+1<w2.heap.size:=(by omega);have z3:w.heap.size+1+1+1+1+1<w2.heap.size:=(by omega)))
    refine bodyPost_ret (v:=(.tuple #[.agg #[.int .i64 0,.int .i64 0,.int .i64 0],.bool false])) (by simp [results,Tryz.results20,go_sem,hc,hf,z0,z1,z2,z3]) rfl ⟨ret_val H.out.symm,?_⟩
    repeat' (first|with_reducible exact Q.refl _|with_reducible refine Q.alloc ?_ _|with_reducible refine Q.setCell ?_ (by omega) _|with_reducible refine Q.trans ?_ (by assumption))
   ·have H:=hid (trV_o (k:=2) (a:=a) (t:=0) (k':=k') (a':=a') (t':=t') (pr:=true) hm hm' HS.out (by rw [eA.out,eT.out];exact hx))
    rw [eA.out,eT.out]at H;go_enter Tryz.func20,Tryz.ntmps20
    go_wp2_with (first
    |(go_at_call 14;refine (rmay_any _ _ _ _).mono ?_;rintro e w1 ⟨rfl,rfl⟩)
    |(go_at_call 31;refine (HX.out _).mono ?_;rintro e w2 ⟨rfl,q2⟩;obtain ⟨hc,hf⟩:=bcell q2;have hz:=q2.size;simp only [World.size_alloc]at hz;have z0:w.heap.size<w2.heap.size:=(by omega);have z1:w.heap.size+1<w2.heap.size:=(by omega);have z2:w.heap.size+1+1<w2.heap.size:=(by omega);have z3:w.heap.size+1+1+1+1+1<w2.heap.size:=(by omega)))
    refine bodyPost_ret (v:=(.tuple #[.agg #[.int .i64 2,.int .i64 X,.int .i64 0],.bool true])) (by simp [results,Tryz.results20,go_sem,hc,hf,z0,z1,z2,z3]) rfl ⟨ret_val H.out.symm,?_⟩
    repeat' (first|with_reducible exact Q.refl _|with_reducible refine Q.alloc ?_ _|with_reducible refine Q.setCell ?_ (by omega) _|with_reducible refine Q.trans ?_ (by assumption))
end Go.Proofs.YtoikodohcieipaaGreatDoor.L
