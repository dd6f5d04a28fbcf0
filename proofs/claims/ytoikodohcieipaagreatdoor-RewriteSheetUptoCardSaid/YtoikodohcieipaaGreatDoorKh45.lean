/- RewriteSheet, walked: a sheet . -/
import Derived.Test.YtoikodohcieipaaGreatDoorKh44
set_option linter.unusedVariables false
set_option linter.unusedSimpArgs false
set_option maxRecDepth 100000
set_option maxHeartbeats 8000000
namespace Go.Proofs.YtoikodohcieipaaGreatDoor
open Go.RowKit
theorem shlaw_yes(x:Ex)(v:Value)(home gone:ByteArray)(W:World)(hg:Gd W)(hr:RdI W x v)(hs:Sm (cutE x 1 220).1)(hn:Sn (cutE x 1 220).1)(hm:(fitB (cutE x 1 220).1&&mall mayN (cutE x 1 220).1)=true)(hgo:(sh20 gone).data.toList≠[]) :
  Calls Tryz.prog 4 #[v,.string home,.string gone] W fun e W'=>e=.returned (.bool true)∧Q W W':=by
 have HBG:=hid (fun w (q:Q W w)=>begun_any w (hg.on q))
 have HCU:=hid (fun w (q:Q W w)=>cutx_any x v W w hr q)
 obtain ⟨k0,n0,t0,b0,e0,a1,l1,c1,a2,l2,c2,rfl⟩:=hr.shape;have hk:=cut_220 x;have hrl:=cut_rfs x 1 220;obtain ⟨y,hy⟩:∃ y,(cutE x 1 220).1=y:=⟨_,rfl⟩;rw [hy]at HCU hs hn hk hrl hm;obtain ⟨ya,h1,h2,hla⟩:=law_sheet (sh20 home) (sh20 gone) hg hs hn hk;have HSO:=hid (fun s w=>short20 s w)
 have HSH:=hid hla;have HNB:=hid (nd_new W (.int .i64 k0) (.int .i64 n0) (.string t0) (.bool b0) (.int .i64 e0) (.slice a1 l1 c1) (.slice a2 l2 c2) 26);have HMY:=hid (fun w v (r:Rd w y v)=>rmayexpr_any y v w hs r)
 rw [hm]at HMY;have HRL:Hid ((rfs y).length≤1000000):=hid (by omega)
 have HR1:=hid (fun w v (r:Rd w y v)=>refs_any y v w r hn (by omega) (by omega))
 have HRF:=hid (fun w v (r:Rd w y v)=>rrefs_any _ y v w (Nat.le_refl _) r HRL.out)
 have hroom:(rfs y).length≤9223372036854775807:=by have:=HRL.out;omega
 have hgn:((sh20 gone).toList == [])=false:=by rw [(hid (toL (sh20 gone))).out,beq_eq_false_iff_ne];exact hgo
 obtain rfl:=h2 hm hgo;have HRS:=hid (fun w v (r:Rd w y v)=>rsheet_any y v (sh20 home) (sh20 gone) w hgo hn r)
 obtain ⟨ya,hya⟩:∃ ya,chg (sh20 home).data.toList (sh20 gone).data.toList noB noR y=ya:=⟨_,rfl⟩;rw [hya]at HSH HRS;have HEQ:=hid (fun w v v' (r:Rd w ya v) (r':Rd w ya v')=>eqexpr_any _ ya ya v v' w (Nat.le_refl _) r r')
 clear hya;clear hg hr hs hn hy hk hrl h1 h2 hla hm;go_enter Tryz.func4,Tryz.ntmps4
 go_wp2_with (first
  |(go_at_call 8;refine (HBG.out _ ((Q.refl _).alloc _)).mono ?_;rintro e9 w1 ⟨rfl,q1⟩;have Q1:Hid (Q W w1):=hid (((Q.refl _).alloc _).trans q1);have N1:=hid (HNB.out.on q1);clear q1;obtain ⟨y0,y1,y2,y3,y4,y5,y6,_⟩:=N1.out;simp only [Nat.zero_add]at y0 y1 y2 y3 y4 y5 y6)
  |(go_at_call 9;refine (HCU.out _ Q1.out).mono ?_;rintro e9 w2 ⟨v2,rfl,r2,q2⟩;obtain ⟨k2,n2,t2,b2,e2,a3,l3,c3,a4,l4,c4,rfl⟩:=r2.shape;have N2:=hid (N1.out.on q2);have E2:=hid (bv_store Q1.out q2 (Nat.le_refl _) N1.out.pl.lt N2.out r2);clear r2 q2 y0 y1 y2 y3 y4 y5 y6;obtain ⟨y0,y1,y2,y3,y4,y5,y6,yp⟩:=N2.out;have f0:=yp.frozen 0;have f1:=yp.frozen 1;have f2:=yp.frozen 2;have f3:=yp.frozen 3;have f4:=yp.frozen 4;have f5:=yp.frozen 5;have f6:=yp.frozen 6;clear yp;simp only [Nat.zero_add]at y0 y1 y2 y3 y4 y5 y6)
  |(go_at_call 10;refine (HSO.out _ _).mono ?_;rintro e9 w9 ⟨rfl,h9⟩;replace h9:=h9.symm;subst h9)
  |(go_at_call 16;refine (HSH.out _ _ E2.out.q E2.out.tree).mono ?_;rintro e9 w5 ⟨v5,rfl,q5,lo5,hi5,h51,h52,ow5⟩;obtain ⟨k5,n5,t5,b5,e5,a5,l5,c5,a6,l6,c6,rfl⟩:=ow5.shape;have E5:=hid (E2.out.on q5);have X5:=hid (bv_new E5.out.q ow5 h52);clear q5 h51 h52 ow5 y0 y1 y2 y3 y4 y5 y6 f0 f1 f2 f3 f4 f5 f6;obtain ⟨z0,z1,z2,z3,z4,z5,z6,zp⟩:=E5.out.nd;have zl:=zp.lt;clear zp;simp only [Nat.zero_add]at z0 z1 z2 z3 z4 z5 z6)
  |(go_at_call 17;refine (HR1.out _ _ (E5.out.on ((Q.refl _).alloc _)).tree).mono ?_;rintro e9 w6 ⟨v6,rfl,o6,q6⟩;have E6:=hid ((E5.out.on ((Q.refl _).alloc _)).on q6);have X6:=hid (X5.out.on q6);have O6:=hid o6;obtain ⟨ao6,co6,hv6,hc6,hd6⟩:=(o6.sl rf_len (by omega)).len;subst hv6;clear o6 q6;clear z0 z1 z2 z3 z4 z5 z6 zl;obtain ⟨z0,z1,z2,z3,z4,z5,z6,zp⟩:=E6.out.nd;have zl:=zp.lt;clear zp;simp only [Nat.zero_add]at z0 z1 z2 z3 z4 z5 z6)
  |(go_at_call 12;refine (HMY.out _ _ E6.out.tree).mono ?_;rintro e9 w7 ⟨rfl,q7⟩;have E7:=hid (E6.out.on q7);have X7:=hid (X6.out.on q7);have O7:=hid (O6.out.on q7);clear q7;clear z0 z1 z2 z3 z4 z5 z6 zl;obtain ⟨z0,z1,z2,z3,z4,z5,z6,zp⟩:=E7.out.nd;have zl:=zp.lt;clear zp;simp only [Nat.zero_add]at z0 z1 z2 z3 z4 z5 z6;obtain ⟨p0,p1,p2,p3,p4,p5,p6,pp⟩:=X7.out.nd;have pl:=pp.lt;clear pp;simp only [Nat.zero_add]at p0 p1 p2 p3 p4 p5 p6)
  |(go_at_call 18;refine (HRF.out _ _ E7.out.tree).mono ?_;rintro e9 w8 ⟨v8,rfl,o8,q8⟩;obtain ⟨ao8,co8,hv8,hc8,hd8⟩:=(o8.sl rf_len (by omega)).len;subst hv8;have L8:=hid (Lr.mk (E7.out.on q8) (X7.out.on q8) (O7.out.on q8) o8);clear o8 q8;clear z0 z1 z2 z3 z4 z5 z6 zl p0 p1 p2 p3 p4 p5 p6 pl))
 go_loopw [11] (fun z W'=>∃ i:Nat,i≤(rfs y).length∧z=.int .i64 (i:Int)∧Hid (Lr W W' y ya W.heap.size w2.heap.size w5.heap.size w5.heap.size (.int .i64 k2) (.int .i64 n2) (.string t2) (.bool b2) (.int .i64 e2) (.slice a3 l3 c3) (.slice a4 l4 c4) (.int .i64 k5) (.int .i64 n5) (.string t5) (.bool b5) (.int .i64 e5) (.slice a5 l5 c5) (.slice a6 l6 c6) (w5.heap.size+1) w7.heap.size (.slice ao6 (rfs y).length co6) (.slice ao8 (rfs y).length co8))) (fun z _=>(rfs y).length-(intOf z).toNat)
 case atStart=>exact ⟨0,Nat.zero_le _,rfl,by first|exact L8|(have h:=L8.out;simp at h ⊢;exact h)⟩
 case round=>
  obtain ⟨i,hik,rfl,hL⟩:=hrel;by_cases hlt:i<(rfs y).length
  ·obtain ⟨g5,cg5,hvv,_⟩:=hL.out.o.shape (by omega)
   simp only [Value.slice.injEq]at hvv
   obtain ⟨rfl,_,rfl⟩:=hvv;obtain ⟨g6,cg6,hvv,_⟩:=hL.out.o'.shape (by omega)
   simp only [Value.slice.injEq]at hvv
   obtain ⟨rfl,_,rfl⟩:=hvv;have hcl:=hL.out.o.cell rf_len hlt;have c1:=hcl 0 _ rfl;have c2:=hcl 1 _ rfl;have c3:=hcl 2 _ rfl;clear hcl;have hcl:=hL.out.o'.cell rf_len hlt;have c4:=hcl 0 _ rfl;have c5:=hcl 1 _ rfl;have c6:=hcl 2 _ rfl;clear hcl;simp only [Nat.add_zero,Nat.zero_add]at c1 c2 c3 c4 c5 c6
   generalize (rfs y)[i]=r1 at c1 c2 c3 c4 c5 c6;obtain ⟨T,hT⟩:∃ T,r1.1=T:=⟨_,rfl⟩;obtain ⟨R,hR⟩:∃ R,r1.2.1=R:=⟨_,rfl⟩;obtain ⟨C,hC⟩:∃ C,r1.2.2.1=C:=⟨_,rfl⟩;rw [hT]at c1 c4;rw [hR]at c2 c5;rw [hC]at c3 c6;clear hT hR hC;go_wp2_with fail
   go_quiet (fail)
   rename_i nq
   go_wp2_with fail
   go_roundw
   case rel=>exact ⟨i+1,by omega,by go_num,hid (hL.out.on (by repeat (first|with_reducible exact Q.refl _|with_reducible refine Q.drewN ?_ _|with_reducible refine Q.drew ?_)))⟩
   case measure=>simp [intOf];omega
  ·have HE:=hid hL.out.e
   have HX:=hid hL.out.x;clear hL;obtain ⟨z0,z1,z2,z3,z4,z5,z6,zp⟩:=HE.out.nd;have zl:=zp.lt;clear zp;simp only [Nat.zero_add]at z0 z1 z2 z3 z4 z5 z6
   obtain ⟨p0,p1,p2,p3,p4,p5,p6,pp⟩:=HX.out.nd;have pl:=pp.lt;clear pp;simp only [Nat.zero_add]at p0 p1 p2 p3 p4 p5 p6
   go_wp2_with fail
   go_region_with (first
    |(go_at_call 19;refine (HRS.out _ _ (HE.out.on (by repeat (first|with_reducible exact Q.refl _|with_reducible refine Q.drewN ?_ _|with_reducible refine Q.drew ?_))).tree).mono ?_;rintro e9 w9 ⟨v9,rfl,r9,q9⟩;obtain ⟨k9,n9,t9,b9,e99,a9,l9,c9,a10,l10,c10,rfl⟩:=(rd_rdi _ _ r9).shape;have R9:=hid r9;have Q9:Hid (Q wr w9):=hid (Q.trans (by repeat (first|with_reducible exact Q.refl _|with_reducible refine Q.drewN ?_ _|with_reducible refine Q.drew ?_)) q9);have X9:=hid (HX.out.on Q9.out);clear r9 q9;obtain ⟨s0,s1,s2,s3,s4,s5,s6,sp⟩:=X9.out.nd;have sl:=sp.lt;clear sp;simp only [Nat.zero_add]at s0 s1 s2 s3 s4 s5 s6)
    |(go_at_call 13;refine (HEQ.out _ _ _ (X9.out.on (by repeat (first|with_reducible exact Q.refl _|with_reducible refine Q.drewN ?_ _|with_reducible refine Q.drew ?_))).tree (Rd.on (by repeat (first|with_reducible exact Q.refl _|with_reducible refine Q.drewN ?_ _|with_reducible refine Q.drew ?_)) _ _ R9.out)).mono ?_;rintro e9 w10 ⟨⟨r10,rfl,h10⟩,q10⟩;obtain rfl:r10=true:=h10.2 (by trivial);have Q10:=hid (X9.out.q.trans (Q.trans (by repeat (first|with_reducible exact Q.refl _|with_reducible refine Q.drewN ?_ _|with_reducible refine Q.drew ?_)) q10));clear q10 h10))
   all_goals go_wp2_with fail
   all_goals go_ret
   all_goals exact ⟨rfl,Q10.out⟩
end Go.Proofs.YtoikodohcieipaaGreatDoor
