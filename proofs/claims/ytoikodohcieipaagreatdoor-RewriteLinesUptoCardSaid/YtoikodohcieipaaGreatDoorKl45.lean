/- RewriteLines, walked: trees an. -/
import Derived.Test.YtoikodohcieipaaGreatDoorKl40
import Derived.Test.YtoikodohcieipaaGreatDoorKl44
set_option linter.unusedVariables false
set_option linter.unusedSimpArgs false
set_option maxRecDepth 100000
set_option maxHeartbeats 8000000
namespace Go.Proofs.YtoikodohcieipaaGreatDoor
open Go.RowKit
theorem lilaw_in(x:Ex)(v:Value)(home on:ByteArray)(rows:Bool)(lk la lt:Int)(W:World)(hg:Gd W)(hr:RdI W x v)(hs:Sm (cutE x 1 220).1)(hn:Sn (cutE x 1 220).1)(hm:(fitB (cutE x 1 220).1&&mall mayN (cutE x 1 220).1)=true)(hmay:L.mayB lk la lt=true) :
  Calls Tryz.prog 3 #[v,.string home,.string on,.bool rows,.agg #[.int .i64 lk,.int .i64 la,.int .i64 lt]] W fun e W'=>e=.returned (.bool true)∧Q W W':=by
 have HBG:=hid (fun w (q:Q W w)=>begun_any w (hg.on q))
 have HCU:=hid (fun w (q:Q W w)=>cutx_any x v W w hr q)
 obtain ⟨k0,n0,t0,b0,e0,a1,l1,c1,a2,l2,c2,rfl⟩:=hr.shape;have hk:=cut_220 x;obtain ⟨y,hy⟩:∃ y,(cutE x 1 220).1=y:=⟨_,rfl⟩;rw [hy]at HCU hs hn hk hm;obtain ⟨ya,h1,h2,hla⟩:=law_lines (sx20 home) (sx20 on) rows lk la lt hg hs hn hk;have HSO:=hid (fun s w=>shortx s w)
 have HLI:=hid hla;obtain ⟨HNB,HLA⟩:=lines_begin W k0 n0 t0 b0 e0 a1 l1 c1 a2 l2 c2 lk la lt
 replace HNB:=hid HNB
 replace HLA:=hid HLA
 have HMY:=hid (fun w v (r:Rd w y v)=>rmayexpr_any y v w hs r)
 rw [hm]at HMY;have HML:Hid (∀ w,Calls Tryz.prog 14 #[.agg #[.int .i64 lk,.int .i64 la,.int .i64 lt]] w fun e w'=>e=.returned (.bool true)∧Q w w'):=hid (fun w=>(L.rmay_any lk la lt w).mono fun e w' h=>⟨h.1.trans (by rw [hmay]),by rw [h.2];exact (Q.refl _).alloc _⟩)
 have hgx:Gx y:=⟨hn,hs,hm⟩
 have hya:=h2 hm;have hgy:Gx ya:=by rw [hya];exact hgx.ln _ _ _ _ _ _
 have hyb:ya=chg (sx20 home).data.toList (sx20 on).data.toList (mvB rows lk la lt) (mvR rows lk la lt) y:=by rw [hya];unfold lnE;rw [if_pos hmay]
 have HRS:=hid (fun w v (r:Rd w y v)=>rlines_any y v (sx20 home) (sx20 on) rows lk la lt w hn (Bool.and_eq_true_iff.1 hm).2 r)
 rw [←hyb]at HRS;have HEQ:=hid (fun w v v' (r:Rd w ya v) (r':Rd w ya v')=>eqexpr_any _ ya ya v v' w (Nat.le_refl _) r r')
 have HMX:=hid (fun w v (r:Rd w ya v)=>rmayexpr_any ya v w hgy.sm r)
 rw [hgy.may]at HMX;clear hg hr hs hn hy hk h1 h2 hla hm hmay hgx hya hgy hyb;go_enter Tryz.func3,Tryz.ntmps3
 go_wp2_with (first
  |(go_at_call 8;refine (HBG.out _ (((Q.refl _).alloc _).alloc _)).mono ?_;rintro e9 w1 ⟨rfl,q1⟩;have Q1:Hid (Q W w1):=hid ((((Q.refl _).alloc _).alloc _).trans q1);have N1:=hid (HNB.out.on q1);have La1:=hid (HLA.out.on q1);clear q1;obtain ⟨y0,y1,y2,y3,y4,y5,y6,_⟩:=N1.out;simp only [Nat.zero_add]at y0 y1 y2 y3 y4 y5 y6)
  |(go_at_call 9;refine (HCU.out _ Q1.out).mono ?_;rintro e9 w2 ⟨v2,rfl,r2,q2⟩;obtain ⟨k2,n2,t2,b2,e2,a3,l3,c3,a4,l4,c4,rfl⟩:=r2.shape;have N2:=hid (N1.out.on q2);have E2:=hid (bv_store Q1.out q2 (Nat.le_refl _) N1.out.pl.lt N2.out r2);have La2:=hid ((La1.out.on q2).qx (set7_qx w2 W.heap.size (.int .i64 k2) (.int .i64 n2) (.string t2) (.bool b2) (.int .i64 e2) (.slice a3 l3 c3) (.slice a4 l4 c4)) (by omega));obtain ⟨x0,x1,x2⟩:=La1.out.on q2;have hl1:W.heap.size+1<w2.heap.size:=(La1.out.on q2).lt;clear r2 q2 y0 y1 y2 y3 y4 y5 y6;obtain ⟨y0,y1,y2,y3,y4,y5,y6,yp⟩:=N2.out;have f0:=yp.frozen 0;have f1:=yp.frozen 1;have f2:=yp.frozen 2;have f3:=yp.frozen 3;have f4:=yp.frozen 4;have f5:=yp.frozen 5;have f6:=yp.frozen 6;clear yp;simp only [Nat.zero_add]at y0 y1 y2 y3 y4 y5 y6)
  |(go_at_call 10;refine (HSO.out _ _).mono ?_;rintro e9 w9 ⟨rfl,h9⟩;replace h9:=h9.symm;subst h9)
  |(go_at_call 11;refine (HLI.out _ _ E2.out.q E2.out.tree).mono ?_;rintro e9 w5 ⟨v5,rfl,q5,lo5,hi5,h51,h52,ow5⟩;obtain ⟨k5,n5,t5,b5,e5,a5,l5,c5,a6,l6,c6,rfl⟩:=ow5.shape;have E5:=hid (E2.out.on q5);have X5:=hid (bv_new E5.out.q ow5 h52);have La5:=hid (La2.out.on q5);clear q5 h51 h52 ow5 y0 y1 y2 y3 y4 y5 y6 f0 f1 f2 f3 f4 f5 f6 x0 x1 x2 hl1;obtain ⟨z0,z1,z2,z3,z4,z5,z6,zp⟩:=E5.out.nd;have zl:=zp.lt;clear zp;simp only [Nat.zero_add]at z0 z1 z2 z3 z4 z5 z6)
  |(go_at_call 12;refine (HMY.out _ _ (E5.out.on ((Q.refl _).alloc _)).tree).mono ?_;rintro e9 w7 ⟨rfl,q7⟩;have E7:=hid ((E5.out.on ((Q.refl _).alloc _)).on q7);have X7:=hid (X5.out.on q7);have La7:=hid ((La5.out.on ((Q.refl _).alloc _)).on q7);clear q7 HMY;clear z0 z1 z2 z3 z4 z5 z6 zl;obtain ⟨z0,z1,z2,z3,z4,z5,z6,zp⟩:=E7.out.nd;have zl:=zp.lt;clear zp;simp only [Nat.zero_add]at z0 z1 z2 z3 z4 z5 z6;obtain ⟨p0,p1,p2,p3,p4,p5,p6,pp⟩:=X7.out.nd;have pl:=pp.lt;clear pp;simp only [Nat.zero_add]at p0 p1 p2 p3 p4 p5 p6;obtain ⟨x0,x1,x2⟩:=La7.out;have hl1:W.heap.size+1<w7.heap.size:=La7.out.lt)
  |(go_at_call 14;refine (HML.out _).mono ?_;rintro e9 w8 ⟨rfl,q8⟩;have E8:=hid (E7.out.on q8);have X8:=hid (X7.out.on q8);have La8:=hid (La7.out.on q8);clear q8 x0 x1 x2 hl1;clear z0 z1 z2 z3 z4 z5 z6 zl;clear p0 p1 p2 p3 p4 p5 p6 pl;obtain ⟨z0,z1,z2,z3,z4,z5,z6,zp⟩:=E8.out.nd;have zl:=zp.lt;clear zp;simp only [Nat.zero_add]at z0 z1 z2 z3 z4 z5 z6;obtain ⟨p0,p1,p2,p3,p4,p5,p6,pp⟩:=X8.out.nd;have pl:=pp.lt;clear pp;simp only [Nat.zero_add]at p0 p1 p2 p3 p4 p5 p6;obtain ⟨x0,x1,x2⟩:=La8.out;have hl1:W.heap.size+1<w8.heap.size:=La8.out.lt))
 go_region_with (first
  |(go_at_call 15;refine (HRS.out _ _ (E8.out.on (by repeat (first|with_reducible exact Q.refl _|with_reducible refine Q.drewN ?_ _|with_reducible refine Q.drew ?_))).tree).mono ?_;rintro e9 w9 ⟨v9,rfl,r9,q9⟩;obtain ⟨k9,n9,t9,b9,e99,a9,l9,c9,a10,l10,c10,rfl⟩:=(rd_rdi _ _ r9).shape;have R9:=hid r9;have Q9:Hid (Q w8 w9):=hid (Q.trans (by repeat (first|with_reducible exact Q.refl _|with_reducible refine Q.drewN ?_ _|with_reducible refine Q.drew ?_)) q9);have X9:=hid (X8.out.on Q9.out);clear r9 q9;obtain ⟨s0,s1,s2,s3,s4,s5,s6,sp⟩:=X9.out.nd;have sl:=sp.lt;clear sp;simp only [Nat.zero_add]at s0 s1 s2 s3 s4 s5 s6)
  |(go_at_call 13;refine (HEQ.out _ _ _ (X9.out.on (by repeat (first|with_reducible exact Q.refl _|with_reducible refine Q.drewN ?_ _|with_reducible refine Q.drew ?_))).tree (Rd.on (by repeat (first|with_reducible exact Q.refl _|with_reducible refine Q.drewN ?_ _|with_reducible refine Q.drew ?_)) _ _ R9.out)).mono ?_;rintro e9 w10 ⟨⟨r10,rfl,h10⟩,q10⟩;obtain rfl:r10=true:=h10.2 (by trivial);have X10:=hid (X9.out.on (Q.trans (by repeat (first|with_reducible exact Q.refl _|with_reducible refine Q.drewN ?_ _|with_reducible refine Q.drew ?_)) q10));clear q10 h10;obtain ⟨u0,u1,u2,u3,u4,u5,u6,up⟩:=X10.out.nd;have ul:=up.lt;clear up;simp only [Nat.zero_add]at u0 u1 u2 u3 u4 u5 u6)
  |(go_at_call 12;refine (HMX.out _ _ (X10.out.on (by repeat (first|with_reducible exact Q.refl _|with_reducible refine Q.drewN ?_ _|with_reducible refine Q.drew ?_))).tree).mono ?_;rintro e9 w11 ⟨rfl,q11⟩;have Q11:=hid (X10.out.q.trans (Q.trans (by repeat (first|with_reducible exact Q.refl _|with_reducible refine Q.drewN ?_ _|with_reducible refine Q.drew ?_)) q11));clear q11))
 all_goals go_wp2_with fail
 all_goals go_ret
 all_goals exact ⟨rfl,by first|exact Q11.out|exact Q.trans Q11.out (by repeat (first|with_reducible exact Q.refl _|with_reducible refine Q.drewN ?_ _|with_reducible refine Q.drew ?_))⟩
theorem lilaw_any(x:Ex)(v:Value)(home on:ByteArray)(rows:Bool)(lk la lt:Int)(W:World)(hg:Gd W)(hr:RdI W x v)(hs:Sm (cutE x 1 220).1)(hn:Sn (cutE x 1 220).1) :
  Calls Tryz.prog 3 #[v,.string home,.string on,.bool rows,.agg #[.int .i64 lk,.int .i64 la,.int .i64 lt]] W fun e W'=>e=.returned (.bool true)∧Q W W':=by
 cases hm:(fitB (cutE x 1 220).1&&mall mayN (cutE x 1 220).1)
 ·exact lilaw_no x v home on rows lk la lt W hg hr hs hn hm
 ·cases hl:L.mayB lk la lt
  ·exact lilaw_out x v home on rows lk la lt W hg hr hs hn hm hl
  ·exact lilaw_in x v home on rows lk la lt W hg hr hs hn hm hl
end Go.Proofs.YtoikodohcieipaaGreatDoor
