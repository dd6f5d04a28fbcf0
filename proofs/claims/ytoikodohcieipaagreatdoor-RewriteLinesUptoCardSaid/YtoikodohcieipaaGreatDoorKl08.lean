/- counterpaneref1.times, walked:. -/
import Derived.Test.YtoikodohcieipaaGreatDoorKl04
set_option linter.unusedVariables false
set_option linter.unusedSimpArgs false
set_option maxRecDepth 100000
set_option maxHeartbeats 8000000
namespace Go.Proofs.YtoikodohcieipaaGreatDoor.V
open Go.RowKit
theorem row_new(W:World)(t:TypeId)(r0 r1 r2 r3 r4 r5:Int):Row (W.alloc (.cells #[.int .u64 r0,.int .u64 r1,.int .u64 r2,.int .u64 r3,.int .u64 r4,.int .u64 r5] t)) W.heap.size r0 r1 r2 r3 r4 r5:=by
 constructor
 all_goals simp [World.cell?_alloc_new,World.frozen?_alloc_new]
theorem times_any(a0 a1 a2 a3 a4 a5 a n:Int)(w:World)(ha:Dg a0 a1 a2 a3 a4 a5 a)(n0:0≤n)(n1:n<18446744073709551616)(hlt:a*n<6277101735386680763835789423207666416102355444464034512896) :
  Calls Tryz.prog 97 #[.agg #[.int .u64 a0,.int .u64 a1,.int .u64 a2,.int .u64 a3,.int .u64 a4,.int .u64 a5],.int .u64 n] w fun e w'=>WR (a*n) e∧Q w w':=by
 obtain ⟨b0,eb0⟩:∃ b,n % 4294967296=b:=⟨_,rfl⟩;obtain ⟨b1,eb1⟩:∃ b,n / 4294967296=b:=⟨_,rfl⟩;have Bb0:Hid (0≤b0∧b0<4294967296):=by show _∧_;omega
 have Bb1:Hid (0≤b1∧b1<4294967296):=by show _∧_;omega
 have en:Hid (n=b0+b1*4294967296):=by show _=_;omega
 have HT:Hid (a*n=tsum 6 (a0*n) (a1*n) (a2*n) (a3*n) (a4*n) (a5*n)):=by
  show _=_
  rw [prod_all a0 a1 a2 a3 a4 a5 a n ha.e];simp only [tsum]
  omega
 have HN:Hid (0≤a0*n∧0≤a1*n∧0≤a2*n∧0≤a3*n∧0≤a4*n∧0≤a5*n):=
  ⟨Int.mul_nonneg ha.l0 n0,Int.mul_nonneg ha.l1 n0,Int.mul_nonneg ha.l2 n0,Int.mul_nonneg ha.l3 n0,Int.mul_nonneg ha.l4 n0,Int.mul_nonneg ha.l5 n0⟩
 have HA:=hid ha;have HL:=hid hlt;clear hlt ha;go_enter Tryz.func97,Tryz.ntmps97
 go_wp2_with (go_at_call 99;refine (one_exact n _ n0 n1).mono ?_;rintro e w1 ⟨rfl,o1,o2,rfl⟩)
 go_loopw [7] (fun i W=>∃ (k:Nat) (r0 r1 r2 r3 r4 r5:Int),k≤6∧i=.int .i64 k∧Q w W∧Row W (w.heap.size) a0 a1 a2 a3 a4 a5∧Row W (w.heap.size+1) 0 0 0 0 0 0∧Row W (w.heap.size+1+1+1+1) b0 b1 0 0 0 0∧Row W (w.heap.size+1+1+1+1+1) r0 r1 r2 r3 r4 r5∧TI k (a0*n) (a1*n) (a2*n) (a3*n) (a4*n) (a5*n) r0 r1 r2 r3 r4 r5) (fun i _=>6-(intOf i).toNat)
 case atStart=>
  refine ⟨0,0,0,0,0,0,0,by omega,rfl,?_,?_,?_,?_,?_,?_⟩
  ·repeat (first|exact Q.refl _|refine Q.drew ?_|refine Q.alloc ?_ _)
  ·exact (row_new w 139 a0 a1 a2 a3 a4 a5).on (by repeat (first|exact Q.refl _|refine Q.drew ?_|refine Q.alloc ?_ _))
  ·have h:=row_new (w.alloc (.cells #[.int .u64 a0,.int .u64 a1,.int .u64 a2,.int .u64 a3,.int .u64 a4,.int .u64 a5] 139)) 139 0 0 0 0 0 0
   rw [World.size_alloc]at h;exact h.on (by repeat (first|exact Q.refl _|refine Q.drew ?_|refine Q.alloc ?_ _))
  ·have h:=row_new ((((w.alloc (.cells #[.int .u64 a0,.int .u64 a1,.int .u64 a2,.int .u64 a3,.int .u64 a4,.int .u64 a5] 139)).alloc (.cells #[.int .u64 0,.int .u64 0,.int .u64 0,.int .u64 0,.int .u64 0,.int .u64 0] 139)).alloc o1).alloc o2) 139 b0 b1 0 0 0 0
   simp only [World.size_alloc]at h
   exact h.on (by repeat (first|exact Q.refl _|refine Q.drew ?_|refine Q.alloc ?_ _))
  ·have h:=row_new (((((w.alloc (.cells #[.int .u64 a0,.int .u64 a1,.int .u64 a2,.int .u64 a3,.int .u64 a4,.int .u64 a5] 139)).alloc (.cells #[.int .u64 0,.int .u64 0,.int .u64 0,.int .u64 0,.int .u64 0,.int .u64 0] 139)).alloc o1).alloc o2).alloc (.cells #[.int .u64 b0,.int .u64 b1,.int .u64 0,.int .u64 0,.int .u64 0,.int .u64 0] 139)) 139 0 0 0 0 0 0
   simp only [World.size_alloc]at h
   exact h.on (by repeat (first|exact Q.refl _|refine Q.drew ?_|refine Q.alloc ?_ _))
  ·constructor
   all_goals first|omega|(intro _;rfl)|(simp only [tsum];omega)
 case round=>
  obtain ⟨k,r0,r1,r2,r3,r4,r5,hk,rfl,hq,RA,RZ,RB,RR,ti⟩:=hrel;have TT:=hid ti;clear ti;have hks:k=0∨k=1∨k=2∨k=3∨k=4∨k=5∨k=6:=by omega
  clear hk
  rcases hks with rfl|rfl|rfl|rfl|rfl|rfl|rfl
  ·have hp:=prod_bound a0 b0 HA.out.l0 HA.out.h0 Bb0.out.1 Bb0.out.2
   have hpq:=prod_bound a0 b1 HA.out.l0 HA.out.h0 Bb1.out.1 Bb1.out.2;have hN:Hid (a0*n=a0*b0+a0*b1*4294967296):=prod_split a0 b0 b1 n en.out
   obtain ⟨p,ep⟩:∃ p,a0*b0=p:=⟨_,rfl⟩;obtain ⟨q,epq⟩:∃ q,a0*b1=q:=⟨_,rfl⟩;rw [ep]at hp hN;rw [epq]at hpq hN;have eP:IntKind.u64.wrap (a0*b0)=p:=by rw [ep];exact wrap_in hp
   have eQ:IntKind.u64.wrap (a0*b1)=q:=by rw [epq];exact wrap_in hpq
   obtain ⟨x,c,ex,ec,lx,ux,lc,uc,qx⟩:=step_of (r0+p) (room2 hp TT.out.l0 TT.out.u0);obtain ⟨y,d,ey,ed,ly,uy,ld,ud,qy⟩:=step_of (c+(r1+q)) (room3 hpq TT.out.l1 TT.out.u1 lc uc);have TN:=hid (ti_next0 _ _ _ _ _ _ r0 r1 r2 r3 r4 r5 x p q c y d (a*n) TT.out qx lx ux lc qy ly uy ld ud hN.out hpq.1 HT.out HL.out HN.out.1 HN.out.2.1 HN.out.2.2.1 HN.out.2.2.2.1 HN.out.2.2.2.2.1 HN.out.2.2.2.2.2);obtain ⟨pl,pu⟩:=hp;obtain ⟨ql,qu⟩:=hpq;have ca:=RA.c0;have cb0:=RB.c0;have cb1:=RB.c1;have cr0:=RR.c0;have fr0:=RR.f0;have lr0:=TT.out.l0;have ur0:=TT.out.u0;have cr1:=RR.c1;have fr1:=RR.f1;have lr1:=TT.out.l1;have ur1:=TT.out.u1;have cr2:=RR.c2;have fr2:=RR.f2;have lr2:=TT.out.l2;have ur2:r2≤0:=by have:=TT.out.z2 (by omega);omega
   clear qx ep epq qy;go_wp2
   refine wp_loop_rounds 3 ?_
   rw [rounds_succ];go_wp2
   go_region
   go_wp2
   rw [rounds_succ];go_wp2
   go_region
   go_wp2
   rw [rounds_succ];go_wp2
   refine ⟨⟨1,x,y,(r2+d),r3,r4,r5,by omega,by go_num,?_,(((RA.far (by omega)).far (by omega)).far (by omega)).drew.drew,(((RZ.far (by omega)).far (by omega)).far (by omega)).drew.drew,(((RB.far (by omega)).far (by omega)).far (by omega)).drew.drew,RR.set0.set1.set2.drew.drew,TN.out⟩,by simp [intOf]⟩
   repeat (first|(with_reducible exact hq)|(with_reducible refine Q.drew ?_)|(with_reducible refine Q.setCell ?_ (by omega) _))
  ·have hp:=prod_bound a1 b0 HA.out.l1 HA.out.h1 Bb0.out.1 Bb0.out.2
   have hpq:=prod_bound a1 b1 HA.out.l1 HA.out.h1 Bb1.out.1 Bb1.out.2;have hN:Hid (a1*n=a1*b0+a1*b1*4294967296):=prod_split a1 b0 b1 n en.out
   obtain ⟨p,ep⟩:∃ p,a1*b0=p:=⟨_,rfl⟩;obtain ⟨q,epq⟩:∃ q,a1*b1=q:=⟨_,rfl⟩;rw [ep]at hp hN;rw [epq]at hpq hN;have eP:IntKind.u64.wrap (a1*b0)=p:=by rw [ep];exact wrap_in hp
   have eQ:IntKind.u64.wrap (a1*b1)=q:=by rw [epq];exact wrap_in hpq
   obtain ⟨x,c,ex,ec,lx,ux,lc,uc,qx⟩:=step_of (r1+p) (room2 hp TT.out.l1 TT.out.u1);obtain ⟨y,d,ey,ed,ly,uy,ld,ud,qy⟩:=step_of (c+(r2+q)) (room3 hpq TT.out.l2 TT.out.u2 lc uc);have TN:=hid (ti_next1 _ _ _ _ _ _ r0 r1 r2 r3 r4 r5 x p q c y d (a*n) TT.out qx lx ux lc qy ly uy ld ud hN.out hpq.1 HT.out HL.out HN.out.1 HN.out.2.1 HN.out.2.2.1 HN.out.2.2.2.1 HN.out.2.2.2.2.1 HN.out.2.2.2.2.2);obtain ⟨pl,pu⟩:=hp;obtain ⟨ql,qu⟩:=hpq;have ca:=RA.c1;have cb0:=RB.c0;have cb1:=RB.c1;have cr0:=RR.c1;have fr0:=RR.f1;have lr0:=TT.out.l1;have ur0:=TT.out.u1;have cr1:=RR.c2;have fr1:=RR.f2;have lr1:=TT.out.l2;have ur1:=TT.out.u2;have cr2:=RR.c3;have fr2:=RR.f3;have lr2:=TT.out.l3;have ur2:r3≤0:=by have:=TT.out.z3 (by omega);omega
   clear qx ep epq qy;go_wp2
   refine wp_loop_rounds 3 ?_
   rw [rounds_succ];go_wp2
   go_region
   go_wp2
   rw [rounds_succ];go_wp2
   go_region
   go_wp2
   rw [rounds_succ];go_wp2
   refine ⟨⟨2,r0,x,y,(r3+d),r4,r5,by omega,by go_num,?_,(((RA.far (by omega)).far (by omega)).far (by omega)).drew.drew,(((RZ.far (by omega)).far (by omega)).far (by omega)).drew.drew,(((RB.far (by omega)).far (by omega)).far (by omega)).drew.drew,RR.set1.set2.set3.drew.drew,TN.out⟩,by simp [intOf]⟩
   repeat (first|(with_reducible exact hq)|(with_reducible refine Q.drew ?_)|(with_reducible refine Q.setCell ?_ (by omega) _))
  ·have hp:=prod_bound a2 b0 HA.out.l2 HA.out.h2 Bb0.out.1 Bb0.out.2
   have hpq:=prod_bound a2 b1 HA.out.l2 HA.out.h2 Bb1.out.1 Bb1.out.2;have hN:Hid (a2*n=a2*b0+a2*b1*4294967296):=prod_split a2 b0 b1 n en.out
   obtain ⟨p,ep⟩:∃ p,a2*b0=p:=⟨_,rfl⟩;obtain ⟨q,epq⟩:∃ q,a2*b1=q:=⟨_,rfl⟩;rw [ep]at hp hN;rw [epq]at hpq hN;have eP:IntKind.u64.wrap (a2*b0)=p:=by rw [ep];exact wrap_in hp
   have eQ:IntKind.u64.wrap (a2*b1)=q:=by rw [epq];exact wrap_in hpq
   obtain ⟨x,c,ex,ec,lx,ux,lc,uc,qx⟩:=step_of (r2+p) (room2 hp TT.out.l2 TT.out.u2);obtain ⟨y,d,ey,ed,ly,uy,ld,ud,qy⟩:=step_of (c+(r3+q)) (room3 hpq TT.out.l3 TT.out.u3 lc uc);have TN:=hid (ti_next2 _ _ _ _ _ _ r0 r1 r2 r3 r4 r5 x p q c y d (a*n) TT.out qx lx ux lc qy ly uy ld ud hN.out hpq.1 HT.out HL.out HN.out.1 HN.out.2.1 HN.out.2.2.1 HN.out.2.2.2.1 HN.out.2.2.2.2.1 HN.out.2.2.2.2.2);obtain ⟨pl,pu⟩:=hp;obtain ⟨ql,qu⟩:=hpq;have ca:=RA.c2;have cb0:=RB.c0;have cb1:=RB.c1;have cr0:=RR.c2;have fr0:=RR.f2;have lr0:=TT.out.l2;have ur0:=TT.out.u2;have cr1:=RR.c3;have fr1:=RR.f3;have lr1:=TT.out.l3;have ur1:=TT.out.u3;have cr2:=RR.c4;have fr2:=RR.f4;have lr2:=TT.out.l4;have ur2:r4≤0:=by have:=TT.out.z4 (by omega);omega
   clear qx ep epq qy;go_wp2
   refine wp_loop_rounds 3 ?_
   rw [rounds_succ];go_wp2
   go_region
   go_wp2
   rw [rounds_succ];go_wp2
   go_region
   go_wp2
   rw [rounds_succ];go_wp2
   refine ⟨⟨3,r0,r1,x,y,(r4+d),r5,by omega,by go_num,?_,(((RA.far (by omega)).far (by omega)).far (by omega)).drew.drew,(((RZ.far (by omega)).far (by omega)).far (by omega)).drew.drew,(((RB.far (by omega)).far (by omega)).far (by omega)).drew.drew,RR.set2.set3.set4.drew.drew,TN.out⟩,by simp [intOf]⟩
   repeat (first|(with_reducible exact hq)|(with_reducible refine Q.drew ?_)|(with_reducible refine Q.setCell ?_ (by omega) _))
  ·have hp:=prod_bound a3 b0 HA.out.l3 HA.out.h3 Bb0.out.1 Bb0.out.2
   have hpq:=prod_bound a3 b1 HA.out.l3 HA.out.h3 Bb1.out.1 Bb1.out.2;have hN:Hid (a3*n=a3*b0+a3*b1*4294967296):=prod_split a3 b0 b1 n en.out
   obtain ⟨p,ep⟩:∃ p,a3*b0=p:=⟨_,rfl⟩;obtain ⟨q,epq⟩:∃ q,a3*b1=q:=⟨_,rfl⟩;rw [ep]at hp hN;rw [epq]at hpq hN;have eP:IntKind.u64.wrap (a3*b0)=p:=by rw [ep];exact wrap_in hp
   have eQ:IntKind.u64.wrap (a3*b1)=q:=by rw [epq];exact wrap_in hpq
   obtain ⟨x,c,ex,ec,lx,ux,lc,uc,qx⟩:=step_of (r3+p) (room2 hp TT.out.l3 TT.out.u3);obtain ⟨y,d,ey,ed,ly,uy,ld,ud,qy⟩:=step_of (c+(r4+q)) (room3 hpq TT.out.l4 TT.out.u4 lc uc);have TN:=hid (ti_next3 _ _ _ _ _ _ r0 r1 r2 r3 r4 r5 x p q c y d (a*n) TT.out qx lx ux lc qy ly uy ld ud hN.out hpq.1 HT.out HL.out HN.out.1 HN.out.2.1 HN.out.2.2.1 HN.out.2.2.2.1 HN.out.2.2.2.2.1 HN.out.2.2.2.2.2);obtain ⟨pl,pu⟩:=hp;obtain ⟨ql,qu⟩:=hpq;have ca:=RA.c3;have cb0:=RB.c0;have cb1:=RB.c1;have cr0:=RR.c3;have fr0:=RR.f3;have lr0:=TT.out.l3;have ur0:=TT.out.u3;have cr1:=RR.c4;have fr1:=RR.f4;have lr1:=TT.out.l4;have ur1:=TT.out.u4;have cr2:=RR.c5;have fr2:=RR.f5;have lr2:=TT.out.l5;have ur2:r5≤0:=by have:=TT.out.z5 (by omega);omega
   clear qx ep epq qy;go_wp2
   refine wp_loop_rounds 3 ?_
   rw [rounds_succ];go_wp2
   go_region
   go_wp2
   rw [rounds_succ];go_wp2
   go_region
   go_wp2
   rw [rounds_succ];go_wp2
   refine ⟨⟨4,r0,r1,r2,x,y,(r5+d),by omega,by go_num,?_,(((RA.far (by omega)).far (by omega)).far (by omega)).drew.drew,(((RZ.far (by omega)).far (by omega)).far (by omega)).drew.drew,(((RB.far (by omega)).far (by omega)).far (by omega)).drew.drew,RR.set3.set4.set5.drew.drew,TN.out⟩,by simp [intOf]⟩
   repeat (first|(with_reducible exact hq)|(with_reducible refine Q.drew ?_)|(with_reducible refine Q.setCell ?_ (by omega) _))
  ·have hp:=prod_bound a4 b0 HA.out.l4 HA.out.h4 Bb0.out.1 Bb0.out.2
   have hpq:=prod_bound a4 b1 HA.out.l4 HA.out.h4 Bb1.out.1 Bb1.out.2;have hN:Hid (a4*n=a4*b0+a4*b1*4294967296):=prod_split a4 b0 b1 n en.out
   obtain ⟨p,ep⟩:∃ p,a4*b0=p:=⟨_,rfl⟩;obtain ⟨q,epq⟩:∃ q,a4*b1=q:=⟨_,rfl⟩;rw [ep]at hp hN;rw [epq]at hpq hN;have eP:IntKind.u64.wrap (a4*b0)=p:=by rw [ep];exact wrap_in hp
   have eQ:IntKind.u64.wrap (a4*b1)=q:=by rw [epq];exact wrap_in hpq
   obtain ⟨x,c,ex,ec,lx,ux,lc,uc,qx⟩:=step_of (r4+p) (room2 hp TT.out.l4 TT.out.u4);obtain ⟨y,d,ey,ed,ly,uy,ld,ud,qy⟩:=step_of (c+(r5+q)) (room3 hpq TT.out.l5 TT.out.u5 lc uc);have TN:=hid (ti_next4 _ _ _ _ _ _ r0 r1 r2 r3 r4 r5 x p q c y d (a*n) TT.out qx lx ux lc qy ly uy ld ud hN.out hpq.1 HT.out HL.out HN.out.1 HN.out.2.1 HN.out.2.2.1 HN.out.2.2.2.1 HN.out.2.2.2.2.1 HN.out.2.2.2.2.2);obtain ⟨pl,pu⟩:=hp;obtain ⟨ql,qu⟩:=hpq;have ca:=RA.c4;have cb0:=RB.c0;have cb1:=RB.c1;have cr0:=RR.c4;have fr0:=RR.f4;have lr0:=TT.out.l4;have ur0:=TT.out.u4;have cr1:=RR.c5;have fr1:=RR.f5;have lr1:=TT.out.l5;have ur1:=TT.out.u5;clear qx ep epq qy;go_wp2
   refine wp_loop_rounds 3 ?_
   rw [rounds_succ];go_wp2
   go_region
   go_wp2
   rw [rounds_succ];go_wp2
   go_region
   go_wp2
   rw [rounds_succ];go_wp2
   refine ⟨⟨5,r0,r1,r2,r3,x,y,by omega,by go_num,?_,((RA.far (by omega)).far (by omega)).drew.drew,((RZ.far (by omega)).far (by omega)).drew.drew,((RB.far (by omega)).far (by omega)).drew.drew,RR.set4.set5.drew.drew,TN.out⟩,by simp [intOf]⟩
   repeat (first|(with_reducible exact hq)|(with_reducible refine Q.drew ?_)|(with_reducible refine Q.setCell ?_ (by omega) _))
  ·have hp:=prod_bound a5 b0 HA.out.l5 HA.out.h5 Bb0.out.1 Bb0.out.2
   have hpq:=prod_bound a5 b1 HA.out.l5 HA.out.h5 Bb1.out.1 Bb1.out.2;have hN:Hid (a5*n=a5*b0+a5*b1*4294967296):=prod_split a5 b0 b1 n en.out
   obtain ⟨p,ep⟩:∃ p,a5*b0=p:=⟨_,rfl⟩;obtain ⟨q,epq⟩:∃ q,a5*b1=q:=⟨_,rfl⟩;rw [ep]at hp hN;rw [epq]at hpq hN;have eP:IntKind.u64.wrap (a5*b0)=p:=by rw [ep];exact wrap_in hp
   have eQ:IntKind.u64.wrap (a5*b1)=q:=by rw [epq];exact wrap_in hpq
   obtain ⟨x,c,ex,ec,lx,ux,lc,uc,qx⟩:=step_of (r5+p) (room2 hp TT.out.l5 TT.out.u5);have TN:=hid (ti_next5 _ _ _ _ _ _ r0 r1 r2 r3 r4 r5 x p q c (a*n) TT.out qx lx ux lc hN.out hpq.1 HT.out HL.out HN.out.1 HN.out.2.1 HN.out.2.2.1 HN.out.2.2.2.1 HN.out.2.2.2.2.1 HN.out.2.2.2.2.2);obtain ⟨pl,pu⟩:=hp;obtain ⟨ql,qu⟩:=hpq;have ca:=RA.c5;have cb0:=RB.c0;have cb1:=RB.c1;have cr0:=RR.c5;have fr0:=RR.f5;have lr0:=TT.out.l5;have ur0:=TT.out.u5;clear qx ep epq;go_wp2
   refine wp_loop_rounds 3 ?_
   rw [rounds_succ];go_wp2
   go_region
   go_wp2
   rw [rounds_succ];go_wp2
   refine ⟨⟨6,r0,r1,r2,r3,r4,x,by omega,by go_num,?_,(RA.far (by omega)).drew,(RZ.far (by omega)).drew,(RB.far (by omega)).drew,RR.set5.drew,TN.out⟩,by simp [intOf]⟩
   repeat (first|(with_reducible exact hq)|(with_reducible refine Q.drew ?_)|(with_reducible refine Q.setCell ?_ (by omega) _))
  ·have HD:Hid (Dg r0 r1 r2 r3 r4 r5 (a*n)):=by
    have h:=TT.out;have e:=h.e;refine ⟨h.l0,h.u0,h.l1,h.u1,h.l2,h.u2,h.l3,h.u3,h.l4,h.u4,h.l5,h.u5,?_⟩
    rw [HT.out,←e]
   go_wp2
   go_loopw [10] (fun i W=>∃ (k:Nat),k≤5∧i=.int .i64 k∧Q w W∧Row W (w.heap.size+1) 0 0 0 0 0 0∧Row W (w.heap.size+1+1+1+1+1) r0 r1 r2 r3 r4 r5) (fun i _=>5-(intOf i).toNat)
   case atStart=>exact ⟨0,by omega,rfl,hq,RZ,RR⟩
   case round=>
    clear RA RB RR RZ hq;obtain ⟨k,hk,rfl,hq,RZ,RR⟩:=hrel;have hks:k=0∨k=1∨k=2∨k=3∨k=4∨k=5:=by omega
    clear hk
    rcases hks with rfl|rfl|rfl|rfl|rfl|rfl
    ·have c0:=RR.c0
     have c1:=RR.c1;have f0:=RR.f0;have f1:=RR.f1;have z0:r0 / 4294967296=0:=Int.ediv_eq_zero_of_lt HD.out.l0 HD.out.h0
     have m0:r0 % 4294967296=r0:=Int.emod_eq_of_lt HD.out.l0 HD.out.h0
     have l0:=HD.out.l0;have u0:=HD.out.h0;have l1:=HD.out.l1;have u1:=HD.out.h1;go_wp2
     go_region
     go_wp2
     go_roundw
     case rel=>exact ⟨1,by omega,by go_num,by repeat (first|(with_reducible exact hq)|(with_reducible refine Q.drew ?_)|(with_reducible refine Q.setCell ?_ (by omega) _)),((RZ.far (by omega)).far (by omega)).drew,RR.set1.set0.drew⟩
     case measure=>simp [intOf]
    ·have c0:=RR.c1
     have c1:=RR.c2;have f0:=RR.f1;have f1:=RR.f2;have z0:r1 / 4294967296=0:=Int.ediv_eq_zero_of_lt HD.out.l1 HD.out.h1
     have m0:r1 % 4294967296=r1:=Int.emod_eq_of_lt HD.out.l1 HD.out.h1
     have l0:=HD.out.l1;have u0:=HD.out.h1;have l1:=HD.out.l2;have u1:=HD.out.h2;go_wp2
     go_region
     go_wp2
     go_roundw
     case rel=>exact ⟨2,by omega,by go_num,by repeat (first|(with_reducible exact hq)|(with_reducible refine Q.drew ?_)|(with_reducible refine Q.setCell ?_ (by omega) _)),((RZ.far (by omega)).far (by omega)).drew,RR.set2.set1.drew⟩
     case measure=>simp [intOf]
    ·have c0:=RR.c2
     have c1:=RR.c3;have f0:=RR.f2;have f1:=RR.f3;have z0:r2 / 4294967296=0:=Int.ediv_eq_zero_of_lt HD.out.l2 HD.out.h2
     have m0:r2 % 4294967296=r2:=Int.emod_eq_of_lt HD.out.l2 HD.out.h2
     have l0:=HD.out.l2;have u0:=HD.out.h2;have l1:=HD.out.l3;have u1:=HD.out.h3;go_wp2
     go_region
     go_wp2
     go_roundw
     case rel=>exact ⟨3,by omega,by go_num,by repeat (first|(with_reducible exact hq)|(with_reducible refine Q.drew ?_)|(with_reducible refine Q.setCell ?_ (by omega) _)),((RZ.far (by omega)).far (by omega)).drew,RR.set3.set2.drew⟩
     case measure=>simp [intOf]
    ·have c0:=RR.c3
     have c1:=RR.c4;have f0:=RR.f3;have f1:=RR.f4;have z0:r3 / 4294967296=0:=Int.ediv_eq_zero_of_lt HD.out.l3 HD.out.h3
     have m0:r3 % 4294967296=r3:=Int.emod_eq_of_lt HD.out.l3 HD.out.h3
     have l0:=HD.out.l3;have u0:=HD.out.h3;have l1:=HD.out.l4;have u1:=HD.out.h4;go_wp2
     go_region
     go_wp2
     go_roundw
     case rel=>exact ⟨4,by omega,by go_num,by repeat (first|(with_reducible exact hq)|(with_reducible refine Q.drew ?_)|(with_reducible refine Q.setCell ?_ (by omega) _)),((RZ.far (by omega)).far (by omega)).drew,RR.set4.set3.drew⟩
     case measure=>simp [intOf]
    ·have c0:=RR.c4
     have c1:=RR.c5;have f0:=RR.f4;have f1:=RR.f5;have z0:r4 / 4294967296=0:=Int.ediv_eq_zero_of_lt HD.out.l4 HD.out.h4
     have m0:r4 % 4294967296=r4:=Int.emod_eq_of_lt HD.out.l4 HD.out.h4
     have l0:=HD.out.l4;have u0:=HD.out.h4;have l1:=HD.out.l5;have u1:=HD.out.h5;go_wp2
     go_region
     go_wp2
     go_roundw
     case rel=>exact ⟨5,by omega,by go_num,by repeat (first|(with_reducible exact hq)|(with_reducible refine Q.drew ?_)|(with_reducible refine Q.setCell ?_ (by omega) _)),((RZ.far (by omega)).far (by omega)).drew,RR.set5.set4.drew⟩
     case measure=>simp [intOf]
    ·have c0:=RR.c0
     have c1:=RR.c1;have c2:=RR.c2;have c3:=RR.c3;have c4:=RR.c4;have c5:=RR.c5;have g0:=RZ.f0;have g1:=RZ.f1;have g2:=RZ.f2;have g3:=RZ.f3;have g4:=RZ.f4;have g5:=RZ.f5;have d0:=RZ.c0;have d1:=RZ.c1;have d2:=RZ.c2;have d3:=RZ.c3;have d4:=RZ.c4;have d5:=RZ.c5;go_wp2
     have hr:=RZ.set0 (v:=r0) |>.set1 (v:=r1) |>.set2 (v:=r2) |>.set3 (v:=r3) |>.set4 (v:=r4) |>.set5 (v:=r5)
     refine bodyPost_ret (v:=.agg #[.int .u64 r0,.int .u64 r1,.int .u64 r2,.int .u64 r3,.int .u64 r4,.int .u64 r5]) (by simp [results,Tryz.results97,go_sem,hr.c0,hr.c1,hr.c2,hr.c3,hr.c4,hr.c5]) rfl ⟨⟨_,_,_,_,_,_,rfl,HD.out⟩,(((((hq.setCell (by omega) _).setCell (by omega) _).setCell (by omega) _).setCell (by omega) _).setCell (by omega) _).setCell (by omega) _⟩
end Go.Proofs.YtoikodohcieipaaGreatDoor.V
