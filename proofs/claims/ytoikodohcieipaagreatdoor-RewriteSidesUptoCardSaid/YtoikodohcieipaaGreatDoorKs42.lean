/- RewriteSides, walked: the rest. -/
import Derived.Test.YtoikodohcieipaaGreatDoorKs41
set_option linter.unusedVariables false
set_option linter.unusedSimpArgs false
set_option maxRecDepth 100000
set_option maxHeartbeats 8000000
namespace Go.Proofs.YtoikodohcieipaaGreatDoor
open Go.RowKit
theorem sides_m01(x:Ex)(v:Value)(rows:Bool)(k a t k' a' t':Int)(W:World)(hg:Gd W)(hr:RdI W x v)(hs:Sm (cutE x 1 220).1)(h1:(fitB (cutE x 1 220).1&&mall mayN (cutE x 1 220).1)=true)(h2:L.mayB k a t=true)(h3:L.mayB k' a' t'=true)(g0:a≤1099511627776)(g1:t≤1099511627776)(g2:a'≤1099511627776)(g3:t'≤1099511627776)(hyb:L.trB k' a' t' k a t false=false)(hxb:L.trB k a t k' a' t' true=true) :
  Calls Tryz.prog 5 #[v,.bool rows,.agg #[.int .i64 k,.int .i64 a,.int .i64 t],.agg #[.int .i64 k',.int .i64 a',.int .i64 t']] W fun e W'=>e=.returned (.bool true)∧Q W W':=by
 have HBG:=hid (fun w (q:Q W w)=>begun_any w (hg.on q))
 have HCU:=hid (fun w (q:Q W w)=>cutx_any x v W w hr q)
 obtain ⟨k0,n0,t0,b0,e0,a1,l1,c1,a2,l2,c2,rfl⟩:=hr.shape;obtain ⟨y,hy⟩:∃ y,(cutE x 1 220).1=y:=⟨_,rfl⟩;rw [hy]at HCU hs h1;have HMY:=hid (fun w v (r:Rd w y v)=>rmayexpr_any y v w hs r)
 have HMA:=hid (fun w=>L.rmay_any k a t w)
 have HMB:=hid (fun w=>L.rmay_any k' a' t' w)
 have HGD:=hid hg;have HSB:=sides_begin W k0 n0 t0 b0 e0 a1 l1 c1 a2 l2 c2 k a t k' a' t';have HNB:=hid HSB.1;have HLA:=hid HSB.2.1;have HLB:=hid HSB.2.2;have HSM:=hid hs;have HGX:=hid (gx_of HSM.out h1);rw [h1]at HMY;rw [h2]at HMA;rw [h3]at HMB;have HSD:=hid (fun hr=>sides_tree HGX.out.1 (⟨#[99,48,110,48]⟩:ByteArray).data.toList (⟨#[99,48,110,48]⟩:ByteArray).data.toList rows k a t k' a' t' h2 h3 g0 g1 g2 g3 hr)
 have HT1:=hid (fun w=>L.rtransform_any k a t k' a' t' true w)
 have HT2:=hid (fun w=>L.rtransform_any k' a' t' k a t false w)
 simp only [L.trV]at HT1 HT2
 rw [hxb]at HT1 HSD;rw [hyb]at HT2 HSD;obtain ⟨xk,hxk⟩:∃ xk,L.trK k a t k' a' t' true=xk:=⟨_,rfl⟩;obtain ⟨xa,hxa⟩:∃ xa,L.trA k a t k' a' t' true=xa:=⟨_,rfl⟩;obtain ⟨xt,hxt⟩:∃ xt,L.trT k a t k' a' t' true=xt:=⟨_,rfl⟩;obtain ⟨yk,hyk⟩:∃ yk,L.trK k' a' t' k a t false=yk:=⟨_,rfl⟩;obtain ⟨ya,hya⟩:∃ ya,L.trA k' a' t' k a t false=ya:=⟨_,rfl⟩;obtain ⟨yt,hyt⟩:∃ yt,L.trT k' a' t' k a t false=yt:=⟨_,rfl⟩;rw [hxk,hxa,hxt]at HT1 HSD;rw [hyk,hya,hyt]at HT2 HSD;have HRF:=hid (fun w v (r:Rd w y v)=>rrefs_any _ y v w (Nat.le_refl _) r HGX.out.2)
 have HL1:=hid (fun w v (q:Q W w) (r:Rd w y v)=>lines_any y v ⟨#[99,48,110,48]⟩ ⟨#[99,48,110,48]⟩ rows k a t w (HGD.out.on q) r HGX.out.1.sn HGX.out.1.sm HGX.out.1.nodes HGX.out.1.may)
 have HL3:=hid (fun w v (q:Q W w) (r:Rd w y v)=>lines_any y v ⟨#[99,48,110,48]⟩ ⟨#[99,48,110,48]⟩ rows k' a' t' w (HGD.out.on q) r HGX.out.1.sn HGX.out.1.sm HGX.out.1.nodes HGX.out.1.may)
 have ha1:=HGX.out.1.ln (⟨#[99,48,110,48]⟩:ByteArray).data.toList (⟨#[99,48,110,48]⟩:ByteArray).data.toList rows k a t;have hb1:=HGX.out.1.ln (⟨#[99,48,110,48]⟩:ByteArray).data.toList (⟨#[99,48,110,48]⟩:ByteArray).data.toList rows k' a' t';obtain ⟨pa,hpa⟩:∃ pa,lnE (⟨#[99,48,110,48]⟩:ByteArray).data.toList (⟨#[99,48,110,48]⟩:ByteArray).data.toList rows k a t y=pa:=⟨_,rfl⟩;obtain ⟨pb,hpb⟩:∃ pb,lnE (⟨#[99,48,110,48]⟩:ByteArray).data.toList (⟨#[99,48,110,48]⟩:ByteArray).data.toList rows k' a' t' y=pb:=⟨_,rfl⟩;rw [hpa]at HL1 ha1 HSD;rw [hpb]at HL3 hb1 HSD;have HL4:=hid (fun w v (q:Q W w) (r:Rd w pb v)=>lines_any pb v ⟨#[99,48,110,48]⟩ ⟨#[99,48,110,48]⟩ rows xk xa xt w (HGD.out.on q) r hb1.sn hb1.sm hb1.nodes hb1.may)
 obtain ⟨qb,hqb⟩:∃ qb,lnE (⟨#[99,48,110,48]⟩:ByteArray).data.toList (⟨#[99,48,110,48]⟩:ByteArray).data.toList rows xk xa xt pb=qb:=⟨_,rfl⟩;rw [hqb]at HL4 HSD;simp only [Bool.false_eq_true,if_true,if_false]at HSD
 have HEQ:=hid (fun w v v' (r:Rd w pa v) (r':Rd w qb v')=>eqexpr_any _ pa qb v v' w (Nat.le_refl _) r r')
 have HRL:=hid HGX.out.2;clear hg hr hs hy HSB h1 h2 h3 hyb hxb hxk hxa hxt hyk hya hyt hpa hpb ha1 hb1 hqb;go_enter Tryz.func5,Tryz.ntmps5
 go_wp2_with (first
  |(go_at_call 8;refine (HBG.out _ ((((Q.refl _).alloc _).alloc _).alloc _)).mono ?_;rintro e9 w1 ⟨rfl,q1⟩;have Q1:Hid (Q W w1):=hid (((((Q.refl _).alloc _).alloc _).alloc _).trans q1);have N1:=hid (HNB.out.on q1);have La1:=hid (HLA.out.on q1);have Lb1:=hid (HLB.out.on q1);clear q1;obtain ⟨y0,y1,y2,y3,y4,y5,y6,_⟩:=N1.out;simp only [Nat.zero_add]at y0 y1 y2 y3 y4 y5 y6)
  |(go_at_call 9;refine (HCU.out _ Q1.out).mono ?_;rintro e9 w2 ⟨v2,rfl,r2,q2⟩;obtain ⟨k2,n2,t2,b2,e2,a3,l3,c3,a4,l4,c4,rfl⟩:=r2.shape;have N2:=hid (N1.out.on q2);have E2:=hid (bv_store Q1.out q2 (Nat.le_refl _) N1.out.pl.lt N2.out r2);have La2:=hid ((La1.out.on q2).qx (set7_qx w2 W.heap.size (.int .i64 k2) (.int .i64 n2) (.string t2) (.bool b2) (.int .i64 e2) (.slice a3 l3 c3) (.slice a4 l4 c4)) (by omega));have Lb2:=hid ((Lb1.out.on q2).qx (set7_qx w2 W.heap.size (.int .i64 k2) (.int .i64 n2) (.string t2) (.bool b2) (.int .i64 e2) (.slice a3 l3 c3) (.slice a4 l4 c4)) (by omega));clear r2 q2 y0 y1 y2 y3 y4 y5 y6;obtain ⟨y0,y1,y2,y3,y4,y5,y6,yp⟩:=N2.out;have f0:=yp.frozen 0;have f1:=yp.frozen 1;have f2:=yp.frozen 2;have f3:=yp.frozen 3;have f4:=yp.frozen 4;have f5:=yp.frozen 5;have f6:=yp.frozen 6;clear yp;simp only [Nat.zero_add]at y0 y1 y2 y3 y4 y5 y6)
  |(go_at_call 12;refine (HMY.out _ _ E2.out.tree).mono ?_;rintro e9 w4 ⟨rfl,q4⟩;have E4:=hid (E2.out.on q4);have La4:=hid (La2.out.on q4);have Lb4:=hid (Lb2.out.on q4);clear q4;obtain ⟨z0,z1,z2,z3,z4,z5,z6,_⟩:=E4.out.nd;obtain ⟨x0,x1,x2⟩:=La4.out;obtain ⟨x3,x4,x5⟩:=Lb4.out;simp only [Nat.zero_add]at z0 z1 z2 z3 z4 z5 z6)
  |(go_at_call 14;refine (HMA.out _).mono ?_;rintro e9 w5 ⟨rfl,h5⟩;have q5:Q w4 w5:=(by rw [h5];exact (Q.refl _).alloc _);clear h5 HMA;have E5:=hid (E4.out.on q5);have La5:=hid (La4.out.on q5);have Lb5:=hid (Lb4.out.on q5);clear q5;clear z0 z1 z2 z3 z4 z5 z6 x0 x1 x2 x3 x4 x5;obtain ⟨z0,z1,z2,z3,z4,z5,z6,_⟩:=E5.out.nd;obtain ⟨x0,x1,x2⟩:=La5.out;obtain ⟨x3,x4,x5⟩:=Lb5.out;simp only [Nat.zero_add]at z0 z1 z2 z3 z4 z5 z6)
  |(go_at_call 14;refine (HMB.out _).mono ?_;rintro e9 w6 ⟨rfl,h6⟩;have q6:Q w5 w6:=(by rw [h6];exact (Q.refl _).alloc _);clear h6 HMB;have E6:=hid (E5.out.on q6);have La6:=hid (La5.out.on q6);have Lb6:=hid (Lb5.out.on q6);clear q6;clear z0 z1 z2 z3 z4 z5 z6 x0 x1 x2 x3 x4 x5;obtain ⟨z0,z1,z2,z3,z4,z5,z6,_⟩:=E6.out.nd;obtain ⟨x0,x1,x2⟩:=La6.out;obtain ⟨x3,x4,x5⟩:=Lb6.out;simp only [Nat.zero_add]at z0 z1 z2 z3 z4 z5 z6)
  |(go_at_call 18;refine (HRF.out _ _ E6.out.tree).mono ?_;rintro e9 w7 ⟨v7,rfl,o7,q7⟩;have E7:=hid (E6.out.on q7);have La7:=hid (La6.out.on q7);have Lb7:=hid (Lb6.out.on q7);have O7:=hid o7;obtain ⟨ao7,co7,hv7,hc7,hd7⟩:=(o7.sl rf_len (by omega)).len;subst hv7;clear o7 q7;clear z0 z1 z2 z3 z4 z5 z6 x0 x1 x2 x3 x4 x5;obtain ⟨z0,z1,z2,z3,z4,z5,z6,_⟩:=E7.out.nd;obtain ⟨x0,x1,x2⟩:=La7.out;obtain ⟨x3,x4,x5⟩:=Lb7.out;simp only [Nat.zero_add]at z0 z1 z2 z3 z4 z5 z6))
 have hroom:(rfs y).length≤9223372036854775807:=by have:=HRL.out;omega
 go_loopw [11] (fun z W'=>∃ i:Nat,i≤(rfs y).length∧z=.int .i64 (i:Int)∧W'=w7∧Hid (∀ r∈(rfs y).take i,r.2.1≤1099511627776∧r.2.2.1≤1099511627776)) (fun z _=>(rfs y).length-(intOf z).toNat)
 case atStart=>exact ⟨0,Nat.zero_le _,rfl,rfl,hid (fun r hr=>absurd hr (by simp))⟩
 case round=>
  obtain ⟨i,hik,rfl,rfl,hA⟩:=hrel;by_cases hlt:i<(rfs y).length
  ·obtain ⟨g5,cg5,hvv,_⟩:=O7.out.shape (by omega)
   simp only [Value.slice.injEq]at hvv
   obtain ⟨rfl,_,rfl⟩:=hvv;have hcl:=O7.out.cell rf_len hlt;have u1:=hcl 1 _ rfl;have u2:=hcl 2 _ rfl;have HRR:=hid (List.take_succ_eq_append_getElem hlt);obtain ⟨r1,hr1⟩:∃ r1,(rfs y)[i]=r1:=⟨_,rfl⟩;rw [hr1]at u1 u2 HRR;clear hcl hr1
   rcases Int.lt_or_le 1099511627776 r1.2.1 with hrow|hrow
   ·go_wp2_with fail
    go_ret
    exact ⟨rfl,E7.out.q⟩
   ·rcases Int.lt_or_le 1099511627776 r1.2.2.1 with hcol|hcol
    ·go_wp2_with fail
     go_ret
     exact ⟨rfl,E7.out.q⟩
    ·go_wp2_with fail
     go_roundw
     case rel=>exact ⟨i+1,by omega,by go_num,by first|rfl|trivial,hid (fun r hr=>by
      rw [HRR.out]at hr
      rcases List.mem_append.1 hr with hr|hr
      ·exact hA.out r hr
      ·simp at hr;subst hr;exact ⟨hrow,hcol⟩)⟩
     case measure=>simp [intOf];omega
  ·have HB2:=hid (HSD.out (fun r hr=>hA.out r (by rw [List.take_of_length_le (by omega)];exact hr)))
   clear hA HSD;go_wp2_with (first
    |(go_at_call 20;refine (HT1.out _).mono ?_;rintro e9 w8 ⟨rfl,q8⟩;have E8:=hid (E7.out.on q8);have La8:=hid (La7.out.on q8);have Lb8:=hid (Lb7.out.on q8);have hl80:W.heap.size<w8.heap.size:=E8.out.nd.pl.lt;have hl81:W.heap.size+1<w8.heap.size:=La8.out.lt;have hl82:W.heap.size+1+1<w8.heap.size:=Lb8.out.lt;clear q8 HT1;clear z0 z1 z2 z3 z4 z5 z6 x0 x1 x2 x3 x4 x5;obtain ⟨z0,z1,z2,z3,z4,z5,z6,_⟩:=E8.out.nd;obtain ⟨x0,x1,x2⟩:=La8.out;obtain ⟨x3,x4,x5⟩:=Lb8.out;simp only [Nat.zero_add]at z0 z1 z2 z3 z4 z5 z6)
    |(go_at_call 20;refine (HT2.out _).mono ?_;rintro e9 w9 ⟨rfl,q9⟩;have q89:Q w8 w9:=((Q.refl _).alloc _).trans q9;have E9:=hid (E8.out.on q89);have La9:=hid (La8.out.on q89);have Lb9:=hid (Lb8.out.on q89);have X9:=hid ((t3_new w8 xk xa xt 28).on q9);have hl90:W.heap.size<w9.heap.size:=E9.out.nd.pl.lt;have hl91:W.heap.size+1<w9.heap.size:=La9.out.lt;have hl92:W.heap.size+1+1<w9.heap.size:=Lb9.out.lt;clear q9 q89 HT2;clear z0 z1 z2 z3 z4 z5 z6 x0 x1 x2 x3 x4 x5;obtain ⟨z0,z1,z2,z3,z4,z5,z6,_⟩:=E9.out.nd;obtain ⟨x0,x1,x2⟩:=La9.out;obtain ⟨x3,x4,x5⟩:=Lb9.out;simp only [Nat.zero_add]at z0 z1 z2 z3 z4 z5 z6)
    |(go_at_call 11;refine (HL1.out _ _ (E9.out.q.alloc _) (E9.out.on ((Q.refl _).alloc _)).tree).mono ?_;rintro e9 w10 ⟨v10,rfl,q10,lo10,hi10,hlo10,hhi10,ow10⟩;obtain ⟨k10,n10,t10,b10,e10,a10,l10,c10,a11,l11,c11,rfl⟩:=ow10.shape;have q910:Q w9 w10:=((Q.refl _).alloc _).trans q10;have E10:=hid (E9.out.on q910);have La10:=hid (La9.out.on q910);have Lb10:=hid (Lb9.out.on q910);have X10:=hid (X9.out.on q910);have Y10:=hid ((t3_new w9 yk ya yt 28).on q10);have P10:=hid (bv_new E10.out.q ow10 hhi10);have hx10:w8.heap.size<w10.heap.size:=X10.out.lt;have hy10:w9.heap.size<w10.heap.size:=Y10.out.lt;have hl100:W.heap.size<w10.heap.size:=E10.out.nd.pl.lt;have hl101:W.heap.size+1<w10.heap.size:=La10.out.lt;have hl102:W.heap.size+1+1<w10.heap.size:=Lb10.out.lt;clear ow10 hlo10 hhi10 q10 q910 HL1;clear z0 z1 z2 z3 z4 z5 z6 x0 x1 x2 x3 x4 x5;obtain ⟨z0,z1,z2,z3,z4,z5,z6,_⟩:=E10.out.nd;obtain ⟨x0,x1,x2⟩:=La10.out;obtain ⟨x3,x4,x5⟩:=Lb10.out;simp only [Nat.zero_add]at z0 z1 z2 z3 z4 z5 z6;obtain ⟨y10a,y10b,y10c⟩:=Y10.out)
    |(go_at_call 11;refine (HL3.out _ _ (E10.out.q.alloc _) (E10.out.on ((Q.refl _).alloc _)).tree).mono ?_;rintro e9 w14 ⟨v14,rfl,q14,lo14,hi14,hlo14,hhi14,ow14⟩;obtain ⟨k14,n14,t14,b14,e14,a14,l14,c14,a15,l15,c15,rfl⟩:=ow14.shape;have q1014:Q w10 w14:=((Q.refl _).alloc _).trans q14;have E14:=hid (E10.out.on q1014);have La14:=hid (La10.out.on q1014);have Lb14:=hid (Lb10.out.on q1014);have X14:=hid (X10.out.on q1014);have P14:=hid (P10.out.on q14);have R14:=hid (bv_new E14.out.q ow14 hhi14);have hx14:w8.heap.size<w14.heap.size:=X14.out.lt;have hp14:w10.heap.size<w14.heap.size:=P14.out.nd.pl.lt;have hl140:W.heap.size<w14.heap.size:=E14.out.nd.pl.lt;have hl141:W.heap.size+1<w14.heap.size:=La14.out.lt;have hl142:W.heap.size+1+1<w14.heap.size:=Lb14.out.lt;clear ow14 hlo14 hhi14 q14 q1014 HL3 y10a y10b y10c;clear z0 z1 z2 z3 z4 z5 z6 x0 x1 x2 x3 x4 x5;obtain ⟨z0,z1,z2,z3,z4,z5,z6,_⟩:=E14.out.nd;obtain ⟨x0,x1,x2⟩:=La14.out;obtain ⟨x3,x4,x5⟩:=Lb14.out;simp only [Nat.zero_add]at z0 z1 z2 z3 z4 z5 z6;obtain ⟨x14a,x14b,x14c⟩:=X14.out;obtain ⟨p0,p1,p2,p3,p4,p5,p6,_⟩:=P14.out.nd;simp only [Nat.zero_add]at p0 p1 p2 p3 p4 p5 p6)
    |(go_at_call 11;refine (HL4.out _ _ R14.out.q R14.out.tree).mono ?_;rintro e9 w16 ⟨v16,rfl,q16,lo16,hi16,hlo16,hhi16,ow16⟩;obtain ⟨k16,n16,t16,b16,e16,a16,l16,c16,a17,l17,c17,rfl⟩:=ow16.shape;have q1416:Q w14 w16:=((Q.refl _).alloc _).trans q16;have RN:=hid (R14.out.nd.on q16);have R16:=hid (bv_store R14.out.q q16 (by omega) (by simp) RN.out (Ow.rdg (g:=fun b=>b<W.heap.size∨(w14.alloc (.cells #[.int .i64 k14,.int .i64 n14,.string t14,.bool b14,.int .i64 e14,.slice a14 l14 c14,.slice a15 l15 c15] 26)).heap.size≤b) _ _ _ _ (fun i h _=>.inr (by omega)) ow16));have hset:=set7_qx w16 w14.heap.size (.int .i64 k16) (.int .i64 n16) (.string t16) (.bool b16) (.int .i64 e16) (.slice a16 l16 c16) (.slice a17 l17 c17);have P16:=hid ((P14.out.on q1416).qx hset (by omega) (by omega) P14.out.mx);clear hset;have PM:=hid ((P14.out.on q1416).nd);obtain ⟨r0,r1,r2,r3,r4,r5,r6,rp⟩:=RN.out;have f0:=rp.frozen 0;have f1:=rp.frozen 1;have f2:=rp.frozen 2;have f3:=rp.frozen 3;have f4:=rp.frozen 4;have f5:=rp.frozen 5;have f6:=rp.frozen 6;simp only [Nat.zero_add]at r0 r1 r2 r3 r4 r5 r6;have nep:w14.heap.size≠w10.heap.size:=(by omega);clear ow16 hlo16 hhi16 q16 q1416 rp HL4 p0 p1 p2 p3 p4 p5 p6 x14a x14b x14c;obtain ⟨p0,p1,p2,p3,p4,p5,p6,_⟩:=PM.out;simp only [Nat.zero_add]at p0 p1 p2 p3 p4 p5 p6)
    |(go_at_call 13;refine (HEQ.out _ _ _ P16.out.tree R16.out.tree).mono ?_;rintro e9 w18 ⟨⟨r18,rfl,h18⟩,q18⟩;obtain rfl:r18=true:=h18.2 HB2.out;have Q18:=hid (P16.out.q.trans q18);clear q18 h18))
   go_ret
   exact ⟨rfl,Q18.out⟩
end Go.Proofs.YtoikodohcieipaaGreatDoor
