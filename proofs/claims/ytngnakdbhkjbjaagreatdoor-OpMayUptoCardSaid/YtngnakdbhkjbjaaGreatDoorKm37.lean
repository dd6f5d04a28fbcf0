/- counterpaneref10.May of format. -/
import Derived.Test.YtngnakdbhkjbjaaGreatDoorKm00
import Derived.Test.YtngnakdbhkjbjaaGreatDoorKm10
import Derived.Deep.DrawnRows
set_option linter.unusedVariables false
set_option linter.unusedSimpArgs false
set_option maxRecDepth 100000
set_option maxHeartbeats 8000000
namespace Go.Proofs.YtngnakdbhkjbjaaGreatDoor
open Go.RowKit
set_option linter.unusedVariables false
set_option linter.unusedSimpArgs false
attribute [local go_sem ↓] Go.wp_at_zero Go.wp_at_succ
theorem rm_g6(sh:ByteArray)(x4 x5 x6 x7 x8 x9 x10 x11 x12 x13 x14 x15 x16:Value)(ra:Option Addr)(rc:Nat)(rl:Nat)(fm:Int)(w:World)(l:List R.Rg.Rc)(HNm:Hid (∀ V,Q w V→Calls Tryz.prog 31 #[.slice ra rl rc] V fun e V'=>∃ ao1 n1 c1,e=.returned (.slice ao1 n1 c1)∧R.Sl R.rc 4 V' (.slice ao1 n1 c1) l∧Q V V'))(HEq:Hid (∀ V ao1 n1 c1,Q w V→R.Sl R.rc 4 V (.slice ao1 n1 c1) l→Calls Tryz.prog 30 #[.slice ra rl rc,.slice ao1 n1 c1] V fun e V'=>e=.returned (.bool true)∧Q V V'))(na:Int)(HAr:Hid (∀ V,Q w V→Calls Tryz.prog 32 #[.slice ra rl rc,.int .i64 257] V fun e V'=>e=.returned (.int .i64 na)∧Q V V'))(gna:decide (na≤256)=false)(g0:0≤fm)(g1:fm≤255)(g2:(1:Int)≤(rl:Int))(g3:(rl:Int)≤256)(HI:Hid (∀ V,Calls Tryz.prog 26 #[.string sh] V fun e V'=>e=.returned (.bool true)∧V'=V))(HC:Hid (∀ V,Q w V→Calls Tryz.prog 27 #[.agg #[x4,x5,x6,x7,x8,x9,x10,x11,x12,x13,x14,x15,x16],.agg #[.bool false,.int .i64 0,.int .i64 0,.string ⟨#[]⟩,.bool false,.int .i64 0,.int .i64 0,.int .i64 0,.string ⟨#[]⟩,.bool false,.int .i64 0,.slice none 0 0,.slice none 0 0]] V fun e V'=>e=.returned (.bool true)∧Q V V')):Calls Tryz.prog 9 #[.agg #[.int .i64 4,.string sh,.int .i64 0,.int .i64 0,x4,x5,x6,x7,x8,x9,x10,x11,x12,x13,x14,x15,x16,.int .i64 0,.int .i64 0,.int .i64 0,.slice ra rl rc,.int .i64 fm,.string ⟨#[]⟩]] w fun e V'=>e=.returned (.bool false)∧Q w V':=by
 go_enter Tryz.func9,Tryz.ntmps9
 go_upto_region 1 with fail
 have Z1:=hid (cq_new w [.int .i64 4,.string sh,.int .i64 0,.int .i64 0,x4,x5,x6,x7,x8,x9,x10,x11,x12,x13,x14,x15,x16,.int .i64 0,.int .i64 0,.int .i64 0,.slice ra rl rc,.int .i64 fm,.string ⟨#[]⟩]);rw [show ([.int .i64 4,.string sh,.int .i64 0,.int .i64 0,x4,x5,x6,x7,x8,x9,x10,x11,x12,x13,x14,x15,x16,.int .i64 0,.int .i64 0,.int .i64 0,.slice ra rl rc,.int .i64 fm,.string ⟨#[]⟩]:List Value).toArray=#[.int .i64 4,.string sh,.int .i64 0,.int .i64 0,x4,x5,x6,x7,x8,x9,x10,x11,x12,x13,x14,x15,x16,.int .i64 0,.int .i64 0,.int .i64 0,.slice ra rl rc,.int .i64 fm,.string ⟨#[]⟩] from rfl]at Z1
 have QA:Hid (Q w (w.alloc (.cells #[.int .i64 4,.string sh,.int .i64 0,.int .i64 0,x4,x5,x6,x7,x8,x9,x10,x11,x12,x13,x14,x15,x16,.int .i64 0,.int .i64 0,.int .i64 0,.slice ra rl rc,.int .i64 fm,.string ⟨#[]⟩] 35))):=hid ((Q.refl w).alloc _)
 generalize w.alloc (.cells #[.int .i64 4,.string sh,.int .i64 0,.int .i64 0,x4,x5,x6,x7,x8,x9,x10,x11,x12,x13,x14,x15,x16,.int .i64 0,.int .i64 0,.int .i64 0,.slice ra rl rc,.int .i64 fm,.string ⟨#[]⟩] 35)=w1 at Z1 QA ⊢;generalize w.heap.size=b0 at Z1 ⊢;have d0:=Z1.out.c 0 _ rfl;have d1:=Z1.out.c 1 _ rfl;have d2:=Z1.out.c 2 _ rfl;have d3:=Z1.out.c 3 _ rfl;have d4:=Z1.out.c 4 _ rfl;have d5:=Z1.out.c 5 _ rfl;have d6:=Z1.out.c 6 _ rfl;have d7:=Z1.out.c 7 _ rfl;have d8:=Z1.out.c 8 _ rfl;have d9:=Z1.out.c 9 _ rfl;have d10:=Z1.out.c 10 _ rfl;have d11:=Z1.out.c 11 _ rfl;have d12:=Z1.out.c 12 _ rfl;have d13:=Z1.out.c 13 _ rfl;have d14:=Z1.out.c 14 _ rfl;have d15:=Z1.out.c 15 _ rfl;have d16:=Z1.out.c 16 _ rfl;have d17:=Z1.out.c 17 _ rfl;have d18:=Z1.out.c 18 _ rfl;have d19:=Z1.out.c 19 _ rfl;have d20:=Z1.out.c 20 _ rfl;have d21:=Z1.out.c 21 _ rfl;have d22:=Z1.out.c 22 _ rfl;go_upto_region 17 with (first|(go_at_call 26;refine (HI.out _).mono ?_;rintro e9 v9 ⟨rfl,h9⟩;replace h9:=h9.symm;subst h9)|(go_at_call 27;refine (HC.out _ QA.out).mono ?_;rintro e9 v0 ⟨rfl,q9⟩;have Q0:Hid (Q w v0):=hid (QA.out.trans q9);have Z10:=hid (Z1.out.on q9);clear q9;have c17:=Z10.out.c 17 _ rfl;have c18:=Z10.out.c 18 _ rfl;have c19:=Z10.out.c 19 _ rfl;have c20:=Z10.out.c 20 _ rfl;have c21:=Z10.out.c 21 _ rfl;have c22:=Z10.out.c 22 _ rfl))
 have Q0D:Hid (Q w v0.drew):=hid (Q0.out.drew)
 have Z1D:=hid (Z10.out.on (Q.refl _).drew);have t0_20:=Z1D.out.c 20 _ rfl;have t0_21:=Z1D.out.c 21 _ rfl;refine wp_region_any (by kernel_rfl) ?_
 change wpAny _ _ _ _ _ _ _ (World.drew _)
 generalize v0.drew=v0d at Q0D Z1D t0_20 t0_21 ⊢;refine wpAny_ready (rs:=[0]) (by kernel_rfl) (by simp) ?_
 refine AllReady.cons rfl (fun K hK=>?_) AllReady.nil
 go_simp
 refine hK _ _ ?_
 clear hK K;refine wpAny_ready (rs:=[1]) (by kernel_rfl) (by simp) ?_
 refine AllReady.cons rfl (fun K hK=>?_) AllReady.nil
 go_simp
 refine hK _ _ ?_
 clear hK K;refine wpAny_ready (rs:=[2]) (by kernel_rfl) (by simp) ?_
 refine AllReady.cons rfl (fun K hK=>?_) AllReady.nil
 go_simp
 refine hK _ _ ?_
 clear hK K;refine wpAny_ready (rs:=[3]) (by kernel_rfl) (by simp) ?_
 refine AllReady.cons rfl (fun K hK=>?_) AllReady.nil
 go_simp
 refine hK _ _ ?_
 clear hK K;refine wpAny_ready (rs:=[4]) (by kernel_rfl) (by simp) ?_
 refine AllReady.cons rfl (fun K hK=>?_) AllReady.nil
 go_simp
 refine hK _ _ ?_
 clear hK K;refine wpAny_ready (rs:=[5]) (by kernel_rfl) (by simp) ?_
 refine AllReady.cons rfl (fun K hK=>?_) AllReady.nil
 go_simp
 refine hK _ _ ?_
 clear hK K;refine wpAny_ready (rs:=[6]) (by kernel_rfl) (by simp) ?_
 refine AllReady.cons rfl (fun K hK=>?_) AllReady.nil
 go_simp
 refine hK _ _ ?_
 clear hK K;refine wpAny_ready (rs:=[7]) (by kernel_rfl) (by simp) ?_
 refine AllReady.cons rfl (fun K hK=>?_) AllReady.nil
 go_simp
 refine hK _ _ ?_
 clear hK K;refine wpAny_ready (rs:=[8]) (by kernel_rfl) (by simp) ?_
 refine AllReady.cons rfl (fun K hK=>?_) AllReady.nil
 go_simp
 refine hK _ _ ?_
 clear hK K;refine wpAny_ready (rs:=[9]) (by kernel_rfl) (by simp) ?_
 refine AllReady.cons rfl (fun K hK=>?_) AllReady.nil
 go_simp
 refine hK _ _ ?_
 clear hK K;refine wpAny_ready (rs:=[10]) (by kernel_rfl) (by simp) ?_
 refine AllReady.cons rfl (fun K hK=>?_) AllReady.nil
 go_simp
 refine hK _ _ ?_
 clear hK K;refine wpAny_ready (rs:=[11]) (by kernel_rfl) (by simp) ?_
 refine AllReady.cons rfl (fun K hK=>?_) AllReady.nil
 go_simp
 refine hK _ _ ?_
 clear hK K;refine wpAny_ready (rs:=[12]) (by kernel_rfl) (by simp) ?_
 refine AllReady.cons rfl (fun K hK=>?_) AllReady.nil
 go_simp
 refine hK _ _ ?_
 clear hK K;refine wpAny_ready (rs:=[13]) (by kernel_rfl) (by simp) ?_
 refine AllReady.cons rfl (fun K hK=>?_) AllReady.nil
 go_simp
 refine hK _ _ ?_
 clear hK K;refine wpAny_ready (rs:=[14]) (by kernel_rfl) (by simp) ?_
 refine AllReady.cons rfl (fun K hK=>?_) AllReady.nil
 go_simp
 refine hK _ _ ?_
 clear hK K;refine wpAny_ready (rs:=[15]) (by kernel_rfl) (by simp) ?_
 refine AllReady.cons rfl (fun K hK=>?_) AllReady.nil
 go_simp
 refine hK _ _ ?_
 clear hK K;refine wpAny_ready (rs:=[16]) (by kernel_rfl) (by simp) ?_
 refine AllReady.cons rfl (fun K hK=>?_) AllReady.nil
 go_simp
 refine hK _ _ ?_
 clear hK K;refine wpAny_ready (rs:=[17]) (by kernel_rfl) (by simp) ?_
 refine AllReady.cons rfl (fun K hK=>?_) AllReady.nil
 go_simp
 refine hK _ _ ?_
 clear hK K;refine wpAny_ready (rs:=[18]) (by kernel_rfl) (by simp) ?_
 refine AllReady.cons rfl (fun K hK=>?_) AllReady.nil
 go_simp
 refine hK _ _ ?_
 clear hK K;refine wpAny_ready (rs:=[19]) (by kernel_rfl) (by simp) ?_
 refine AllReady.cons rfl (fun K hK=>?_) AllReady.nil
 go_simp
 refine hK _ _ ?_
 clear hK K;refine wpAny_ready (rs:=[20]) (by kernel_rfl) (by simp) ?_
 refine AllReady.cons rfl (fun K hK=>?_) AllReady.nil
 go_simp
 refine hK _ _ ?_
 clear hK K;refine wpAny_ready (rs:=[21,23]) (by kernel_rfl) (by simp) ?_
 refine AllReady.cons rfl (fun K hK=>?_) (AllReady.cons rfl (fun K hK=>?_) AllReady.nil)
 go_simp
 refine hK _ _ ?_
 clear hK K;refine wpAny_ready (rs:=[22,23]) (by kernel_rfl) (by simp) ?_
 refine AllReady.cons rfl (fun K hK=>?_) (AllReady.cons rfl (fun K hK=>?_) AllReady.nil)
 go_simp
 refine hK _ _ ?_
 clear hK K;refine wpAny_ready (rs:=[23]) (by kernel_rfl) (by simp) ?_
 refine AllReady.cons rfl (fun K hK=>?_) AllReady.nil
 go_simp
 refine hK _ _ ?_
 clear hK K;refine wpAny_ready (rs:=[24]) (by kernel_rfl) (by simp) ?_
 refine AllReady.cons rfl (fun K hK=>?_) AllReady.nil
 go_simp
 refine hK _ _ ?_
 clear hK K;refine wpAny_ready (rs:=[25]) (by kernel_rfl) (by simp) ?_
 refine AllReady.cons rfl (fun K hK=>?_) AllReady.nil
 go_simp
 refine (HNm.out _ Q0D.out).mono ?_
 rintro e9 y1 ⟨ao1,n1,c1,rfl,hs1,q9⟩
 have QY1:Hid (Q w y1):=hid (Q0D.out.trans q9)
 have ZY1:=hid (Z1D.out.on q9);have HS1:=hid hs1;clear q9 hs1;have t1_20:=ZY1.out.c 20 _ rfl;refine hK _ _ ?_
 clear hK K
 rotate_left
 go_simp
 refine hK _ _ ?_
 clear hK K;refine wpAny_ready (rs:=[22,24]) (by kernel_rfl) (by simp) ?_
 refine AllReady.cons rfl (fun K hK=>?_) (AllReady.cons rfl (fun K hK=>?_) AllReady.nil)
 go_simp
 refine hK _ _ ?_
 clear hK K;refine wpAny_ready (rs:=[24]) (by kernel_rfl) (by simp) ?_
 refine AllReady.cons rfl (fun K hK=>?_) AllReady.nil
 go_simp
 refine hK _ _ ?_
 clear hK K;refine wpAny_ready (rs:=[25]) (by kernel_rfl) (by simp) ?_
 refine AllReady.cons rfl (fun K hK=>?_) AllReady.nil
 go_simp
 refine (HNm.out _ Q0D.out).mono ?_
 rintro e9 y1 ⟨ao1,n1,c1,rfl,hs1,q9⟩
 have QY1:Hid (Q w y1):=hid (Q0D.out.trans q9)
 have ZY1:=hid (Z1D.out.on q9);have HS1:=hid hs1;clear q9 hs1;have t1_20:=ZY1.out.c 20 _ rfl;refine hK _ _ ?_
 clear hK K
 rotate_left
 go_simp
 refine hK _ _ ?_
 clear hK K;refine wpAny_ready (rs:=[22,25]) (by kernel_rfl) (by simp) ?_
 refine AllReady.cons rfl (fun K hK=>?_) (AllReady.cons rfl (fun K hK=>?_) AllReady.nil)
 go_simp
 refine hK _ _ ?_
 clear hK K;refine wpAny_ready (rs:=[25]) (by kernel_rfl) (by simp) ?_
 refine AllReady.cons rfl (fun K hK=>?_) AllReady.nil
 go_simp
 refine (HNm.out _ Q0D.out).mono ?_
 rintro e9 y1 ⟨ao1,n1,c1,rfl,hs1,q9⟩
 have QY1:Hid (Q w y1):=hid (Q0D.out.trans q9)
 have ZY1:=hid (Z1D.out.on q9);have HS1:=hid hs1;clear q9 hs1;have t1_20:=ZY1.out.c 20 _ rfl;refine hK _ _ ?_
 clear hK K
 rotate_left
 go_simp
 refine (HNm.out _ Q0D.out).mono ?_
 rintro e9 y1 ⟨ao1,n1,c1,rfl,hs1,q9⟩
 have QY1:Hid (Q w y1):=hid (Q0D.out.trans q9)
 have ZY1:=hid (Z1D.out.on q9);have HS1:=hid hs1;clear q9 hs1;have t1_20:=ZY1.out.c 20 _ rfl;refine hK _ _ ?_
 clear hK K;refine wpAny_ready (rs:=[22]) (by kernel_rfl) (by simp) ?_
 refine AllReady.cons rfl (fun K hK=>?_) AllReady.nil
 go_simp
 refine hK _ _ ?_
 clear hK K
 rotate_left
 go_simp
 refine hK _ _ ?_
 clear hK K;refine wpAny_ready (rs:=[21,24]) (by kernel_rfl) (by simp) ?_
 refine AllReady.cons rfl (fun K hK=>?_) (AllReady.cons rfl (fun K hK=>?_) AllReady.nil)
 go_simp
 refine hK _ _ ?_
 clear hK K;refine wpAny_ready (rs:=[22,24]) (by kernel_rfl) (by simp) ?_
 refine AllReady.cons rfl (fun K hK=>?_) (AllReady.cons rfl (fun K hK=>?_) AllReady.nil)
 go_simp
 refine hK _ _ ?_
 clear hK K;refine wpAny_ready (rs:=[24]) (by kernel_rfl) (by simp) ?_
 refine AllReady.cons rfl (fun K hK=>?_) AllReady.nil
 go_simp
 refine hK _ _ ?_
 clear hK K;refine wpAny_ready (rs:=[25]) (by kernel_rfl) (by simp) ?_
 refine AllReady.cons rfl (fun K hK=>?_) AllReady.nil
 go_simp
 refine (HNm.out _ Q0D.out).mono ?_
 rintro e9 y1 ⟨ao1,n1,c1,rfl,hs1,q9⟩
 have QY1:Hid (Q w y1):=hid (Q0D.out.trans q9)
 have ZY1:=hid (Z1D.out.on q9);have HS1:=hid hs1;clear q9 hs1;have t1_20:=ZY1.out.c 20 _ rfl;refine hK _ _ ?_
 clear hK K
 rotate_left
 go_simp
 refine hK _ _ ?_
 clear hK K;refine wpAny_ready (rs:=[22,25]) (by kernel_rfl) (by simp) ?_
 refine AllReady.cons rfl (fun K hK=>?_) (AllReady.cons rfl (fun K hK=>?_) AllReady.nil)
 go_simp
 refine hK _ _ ?_
 clear hK K;refine wpAny_ready (rs:=[25]) (by kernel_rfl) (by simp) ?_
 refine AllReady.cons rfl (fun K hK=>?_) AllReady.nil
 go_simp
 refine (HNm.out _ Q0D.out).mono ?_
 rintro e9 y1 ⟨ao1,n1,c1,rfl,hs1,q9⟩
 have QY1:Hid (Q w y1):=hid (Q0D.out.trans q9)
 have ZY1:=hid (Z1D.out.on q9);have HS1:=hid hs1;clear q9 hs1;have t1_20:=ZY1.out.c 20 _ rfl;refine hK _ _ ?_
 clear hK K
 rotate_left
 go_simp
 refine (HNm.out _ Q0D.out).mono ?_
 rintro e9 y1 ⟨ao1,n1,c1,rfl,hs1,q9⟩
 have QY1:Hid (Q w y1):=hid (Q0D.out.trans q9)
 have ZY1:=hid (Z1D.out.on q9);have HS1:=hid hs1;clear q9 hs1;have t1_20:=ZY1.out.c 20 _ rfl;refine hK _ _ ?_
 clear hK K;refine wpAny_ready (rs:=[22]) (by kernel_rfl) (by simp) ?_
 refine AllReady.cons rfl (fun K hK=>?_) AllReady.nil
 go_simp
 refine hK _ _ ?_
 clear hK K
 rotate_left
 go_simp
 refine hK _ _ ?_
 clear hK K;refine wpAny_ready (rs:=[21,25]) (by kernel_rfl) (by simp) ?_
 refine AllReady.cons rfl (fun K hK=>?_) (AllReady.cons rfl (fun K hK=>?_) AllReady.nil)
 go_simp
 refine hK _ _ ?_
 clear hK K;refine wpAny_ready (rs:=[22,25]) (by kernel_rfl) (by simp) ?_
 refine AllReady.cons rfl (fun K hK=>?_) (AllReady.cons rfl (fun K hK=>?_) AllReady.nil)
 go_simp
 refine hK _ _ ?_
 clear hK K;refine wpAny_ready (rs:=[25]) (by kernel_rfl) (by simp) ?_
 refine AllReady.cons rfl (fun K hK=>?_) AllReady.nil
 go_simp
 refine (HNm.out _ Q0D.out).mono ?_
 rintro e9 y1 ⟨ao1,n1,c1,rfl,hs1,q9⟩
 have QY1:Hid (Q w y1):=hid (Q0D.out.trans q9)
 have ZY1:=hid (Z1D.out.on q9);have HS1:=hid hs1;clear q9 hs1;have t1_20:=ZY1.out.c 20 _ rfl;refine hK _ _ ?_
 clear hK K
 rotate_left
 go_simp
 refine (HNm.out _ Q0D.out).mono ?_
 rintro e9 y1 ⟨ao1,n1,c1,rfl,hs1,q9⟩
 have QY1:Hid (Q w y1):=hid (Q0D.out.trans q9)
 have ZY1:=hid (Z1D.out.on q9);have HS1:=hid hs1;clear q9 hs1;have t1_20:=ZY1.out.c 20 _ rfl;refine hK _ _ ?_
 clear hK K;refine wpAny_ready (rs:=[22]) (by kernel_rfl) (by simp) ?_
 refine AllReady.cons rfl (fun K hK=>?_) AllReady.nil
 go_simp
 refine hK _ _ ?_
 clear hK K
 rotate_left
 go_simp
 refine (HNm.out _ Q0D.out).mono ?_
 rintro e9 y1 ⟨ao1,n1,c1,rfl,hs1,q9⟩
 have QY1:Hid (Q w y1):=hid (Q0D.out.trans q9)
 have ZY1:=hid (Z1D.out.on q9);have HS1:=hid hs1;clear q9 hs1;have t1_20:=ZY1.out.c 20 _ rfl;refine hK _ _ ?_
 clear hK K;refine wpAny_ready (rs:=[21]) (by kernel_rfl) (by simp) ?_
 refine AllReady.cons rfl (fun K hK=>?_) AllReady.nil
 go_simp
 refine hK _ _ ?_
 clear hK K;refine wpAny_ready (rs:=[22]) (by kernel_rfl) (by simp) ?_
 refine AllReady.cons rfl (fun K hK=>?_) AllReady.nil
 go_simp
 refine hK _ _ ?_
 clear hK K
 rotate_left
 all_goals (
  refine wpAny_ready (rs:=[26]) (by kernel_rfl) (by simp) ?_
  refine AllReady.cons rfl (fun K hK=>?_) AllReady.nil
  go_simp
  refine (HEq.out _ _ _ _ QY1.out HS1.out).mono ?_
  rintro e9 y2 ⟨rfl,q9⟩
  have QY2:Hid (Q w y2):=hid (QY1.out.trans q9)
  have ZY2:=hid (ZY1.out.on q9);clear q9;have t2_20:=ZY2.out.c 20 _ rfl;refine hK _ _ ?_
  clear hK K;refine wpAny_ready (rs:=[27]) (by kernel_rfl) (by simp) ?_
  refine AllReady.cons rfl (fun K hK=>?_) AllReady.nil
  go_simp
  refine hK _ _ ?_
  clear hK K;refine wpAny_ready (rs:=[28]) (by kernel_rfl) (by simp) ?_
  refine AllReady.cons rfl (fun K hK=>?_) AllReady.nil
  go_simp
  refine hK _ _ ?_
  clear hK K;refine wpAny_ready (rs:=[29]) (by kernel_rfl) (by simp) ?_
  refine AllReady.cons rfl (fun K hK=>?_) AllReady.nil
  go_simp
  refine hK _ _ ?_
  clear hK K;refine wpAny_ready (rs:=[30]) (by kernel_rfl) (by simp) ?_
  refine AllReady.cons rfl (fun K hK=>?_) AllReady.nil
  go_simp
  refine hK _ _ ?_
  clear hK K;refine wpAny_ready (rs:=[31]) (by kernel_rfl) (by simp) ?_
  refine AllReady.cons rfl (fun K hK=>?_) AllReady.nil
  go_simp
  refine (HAr.out _ QY2.out).mono ?_
  rintro e9 y3 ⟨rfl,q9⟩
  have QY3:Hid (Q w y3):=hid (QY2.out.trans q9)
  clear q9;refine hK _ _ ?_
  clear hK K;refine wpAny_ready (rs:=[32]) (by kernel_rfl) (by simp) ?_
  refine AllReady.cons rfl (fun K hK=>?_) AllReady.nil
  go_simp
  refine hK _ _ ?_
  clear hK K;refine wpAny_ready (rs:=[33]) (by kernel_rfl) (by simp) ?_
  refine AllReady.cons rfl (fun K hK=>?_) AllReady.nil
  go_simp
  refine hK _ _ ?_
  clear hK K;refine wpAny_ready (rs:=[34]) (by kernel_rfl) (by simp) ?_
  refine AllReady.cons rfl (fun K hK=>?_) AllReady.nil
  go_simp
  refine hK _ _ ?_
  clear hK K;refine wpAny_ready (rs:=[35]) (by kernel_rfl) (by simp) ?_
  refine AllReady.cons rfl (fun K hK=>?_) AllReady.nil
  go_simp
  refine hK _ _ ?_
  clear hK K;refine wpAny_ready (rs:=[36]) (by kernel_rfl) (by simp) ?_
  refine AllReady.cons rfl (fun K hK=>?_) AllReady.nil
  go_simp
  refine hK _ _ ?_
  clear hK K;refine wpAny_ready (rs:=[37]) (by kernel_rfl) (by simp) ?_
  refine AllReady.cons rfl (fun K hK=>?_) AllReady.nil
  go_simp
  refine hK _ _ ?_
  clear hK K;refine wpAny_ready (rs:=[38]) (by kernel_rfl) (by simp) ?_
  refine AllReady.cons rfl (fun K hK=>?_) AllReady.nil
  go_simp
  refine hK _ _ ?_
  clear hK K;refine wpAny_ready (rs:=[39]) (by kernel_rfl) (by simp) ?_
  refine AllReady.cons rfl (fun K hK=>?_) AllReady.nil
  go_simp
  refine hK _ _ ?_
  clear hK K;refine wpAny_done (by kernel_rfl) ?_ _
  go_wp2_with fail
  go_ret
  exact ⟨rfl,QY3.out⟩)
end Go.Proofs.YtngnakdbhkjbjaaGreatDoor
