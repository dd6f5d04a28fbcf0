/- Package axis: Index: where a l. -/
import Derived.Test.YtoikodohcieipaaGreatDoorKs03
set_option linter.unusedVariables false
set_option linter.unusedSimpArgs false
set_option maxRecDepth 100000
set_option maxHeartbeats 8000000
namespace Go.Proofs.YtoikodohcieipaaGreatDoor.L
open Go.RowKit
theorem index_any(k a t i:Int)(w:World):Calls Tryz.prog 53 #[.agg #[.int .i64 k,.int .i64 a,.int .i64 t],.int .i64 i] w fun e w'=>e=.returned (.int .i64 (ix k a t i))∧Q w w':=by
 cases hm:mayB k a t
 ·have H:=hid (ix_no (i:=i) hm)
  go_enter Tryz.func53,Tryz.ntmps53
  go_wp2_with (go_at_call 25;refine (may_any _ _ _ _).mono ?_;rintro e w1 ⟨rfl,rfl⟩)
  go_ret
  exact ⟨ret_int H.out,((Q.refl _).alloc _).alloc _⟩
 ·cases hp:plB i
  ·have H:=hid (ix_far (k:=k) (a:=a) (t:=t) hp)
   go_enter Tryz.func53,Tryz.ntmps53
   go_wp2_with (first|(go_at_call 25;refine (may_any _ _ _ _).mono ?_;rintro e w1 ⟨rfl,rfl⟩)|(go_at_call 74;refine (mayPlace_any _ _).mono ?_;rintro e w1 ⟨rfl,rfl⟩))
   go_ret
   exact ⟨ret_int H.out,((Q.refl _).alloc _).alloc _⟩
  ·have HY:=hid (ix_yes hm hp)
   obtain ⟨p0,p1⟩:=pl_bd hp;obtain ⟨⟨a0,a1⟩,⟨t0,t1⟩,-⟩:=may_bd hm
   rcases may_k hm with rfl|rfl|rfl
   ·have H:=hid ((idx1 a t i).trans HY.out.symm)
    go_enter Tryz.func53,Tryz.ntmps53
    go_wp2_with (first|(go_at_call 25;refine (may_any _ _ _ _).mono ?_;rintro e w1 ⟨rfl,rfl⟩)|(go_at_call 74;refine (mayPlace_any _ _).mono ?_;rintro e w1 ⟨rfl,rfl⟩)|(go_at_call 75;refine (opened_any _ _ _ (by omega) (by omega)).mono ?_;rintro e w1 ⟨rfl,rfl⟩))
    go_ret
    exact ⟨ret_int H.out,((Q.refl _).alloc _).alloc _⟩
   ·by_cases hi:i=a
    ·subst hi
     have H:=hid ((idx2e (a:=i) (t:=t)).trans HY.out.symm);go_enter Tryz.func53,Tryz.ntmps53
     go_wp2_with (first|(go_at_call 25;refine (may_any _ _ _ _).mono ?_;rintro e w1 ⟨rfl,rfl⟩)|(go_at_call 74;refine (mayPlace_any _ _).mono ?_;rintro e w1 ⟨rfl,rfl⟩))
     go_ret
     exact ⟨ret_int H.out,((Q.refl _).alloc _).alloc _⟩
    ·have hi':(i == a)=false:=by simpa using hi
     have H:=hid ((idx2 (t:=t) hi).trans HY.out.symm);clear hi;go_enter Tryz.func53,Tryz.ntmps53
     go_wp2_with (first|(go_at_call 25;refine (may_any _ _ _ _).mono ?_;rintro e w1 ⟨rfl,rfl⟩)|(go_at_call 74;refine (mayPlace_any _ _).mono ?_;rintro e w1 ⟨rfl,rfl⟩)|(go_at_call 76;refine (closed_any _ _ _ (by omega) (by omega)).mono ?_;rintro e w1 ⟨rfl,rfl⟩))
     go_ret
     exact ⟨ret_int H.out,((Q.refl _).alloc _).alloc _⟩
   ·by_cases hi:i=a
    ·subst hi
     have H:=hid ((idx3e (a:=i) (t:=t)).trans HY.out.symm);go_enter Tryz.func53,Tryz.ntmps53
     go_wp2_with (first|(go_at_call 25;refine (may_any _ _ _ _).mono ?_;rintro e w1 ⟨rfl,rfl⟩)|(go_at_call 74;refine (mayPlace_any _ _).mono ?_;rintro e w1 ⟨rfl,rfl⟩)|(go_at_call 77;refine (landing_any _ _ _ _ (by omega) (by omega)).mono ?_;rintro e w1 ⟨rfl,rfl⟩))
     go_ret
     exact ⟨ret_int H.out,(((Q.refl _).alloc _).alloc _).alloc _⟩
    ·have hi':(i == a)=false:=by simpa using hi
     have H:=hid ((idx3 (t:=t) hi).trans HY.out.symm);have b1:=lf_bd p0 a0;clear hi;go_enter Tryz.func53,Tryz.ntmps53
     go_wp2_with (first|(go_at_call 25;refine (may_any _ _ _ _).mono ?_;rintro e w1 ⟨rfl,rfl⟩)|(go_at_call 74;refine (mayPlace_any _ _).mono ?_;rintro e w1 ⟨rfl,rfl⟩))
     go_region_with (first|(go_at_call 76;refine (closed_any _ _ _ (by omega) (by omega)).mono ?_;rintro e w1 ⟨rfl,rfl⟩)|(go_at_call 77;refine (landing_any _ _ _ _ (by omega) (by omega)).mono ?_;rintro e w1 ⟨rfl,rfl⟩)|(go_at_call 75;refine (opened_any _ _ _ (by omega) (by omega)).mono ?_;rintro e w1 ⟨rfl,rfl⟩))
     all_goals go_wp2
     all_goals go_ret
     all_goals exact ⟨ret_int H.out,by first|exact ((((Q.refl _).alloc _).alloc _).drew).alloc _|exact ((((Q.refl _).alloc _).alloc _).drewN _).alloc _⟩
end Go.Proofs.YtoikodohcieipaaGreatDoor.L
