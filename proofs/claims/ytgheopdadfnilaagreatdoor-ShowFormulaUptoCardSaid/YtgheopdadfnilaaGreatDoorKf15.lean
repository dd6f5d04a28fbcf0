/- The program's reader: tree; Th. -/
import Derived.Test.YtgheopdadfnilaaGreatDoorKf14
set_option linter.unusedVariables false
set_option linter.unusedSimpArgs false
set_option maxRecDepth 100000
set_option maxHeartbeats 8000000
namespace Go.Proofs.YtgheopdadfnilaaGreatDoor
open Go.RowKit
theorem stg_sgn(L:List Wd)(i:Nat):stg L i=lvl (sgnL L i):=by
 unfold stg sgnL
 split
 ·rfl
 ·rfl
theorem pfar_of{W:World}{p:Nat}{L:List Wd}{b off cap i:Nat}(h:PT W p L b off cap i):far p W=i:=by
 unfold far
 rw [h.c1];simp
def mzP(n p:Nat)(v:Value)(W:World):Nat:=match v with
 |.bool true=>n+1-far p W
 |_=>0
theorem pl_go{E:Env}{L:List Wd}{f lv j:Nat}{x:Ex}{R:Option (Ex × Nat)}(h:lv≤stg L j)(e:ptF.plF E L f lv x j=some R):∃ g o,f=g+1∧ptF E L g (stg L j+1) (j+1)=some o∧(o=none→R=none)∧(∀ r,o=some r→ptF.plF E L g lv (binE (tAt L j) x r.1) r.2=some R):=by
 cases f with
 |zero=>unfold ptF.plF at e;cases e
 |succ f=>
  rw [ptF.plF,if_pos h]at e;obtain ⟨o,h1,h2⟩:=Option.bind_eq_some_iff.1 e;refine ⟨f,o,rfl,h1,fun ho=>?_,fun r ho=>?_⟩
  ·subst ho;exact (Option.some.inj h2).symm
  ·subst ho;exact h2
theorem pl_stop{E:Env}{L:List Wd}{f lv j:Nat}{x:Ex}{R:Option (Ex × Nat)}(h:¬ lv≤stg L j)(e:ptF.plF E L f lv x j=some R):R=some (x,j):=by
 cases f with
 |zero=>unfold ptF.plF at e;cases e
 |succ f=>rw [ptF.plF,if_neg h]at e;exact (Option.some.inj e).symm
structure LP (L:List Wd) (p b off cap lv:Nat) (W:World) (X0:Nat) (R:Option (Ex × Nat)) (ok:Bool) (W':World) (f':Nat) (k m:Int) (t:ByteArray) (bb:Bool) (er:Int) (a1:Option Addr) (l1 c1:Nat) (a2:Option Addr) (l2 c2:Nat):Prop where
 xb:Tb W' X0 (.int .i64 k) (.int .i64 m) (.string t) (.bool bb) (.int .i64 er) (.slice a1 l1 c1) (.slice a2 l2 c2)
 zb:Tb W' W.heap.size (.int .i64 0) (.int .i64 0) (.string ⟨#[]⟩) (.bool false) (.int .i64 0) (.slice none 0 0) (.slice none 0 0)
 qx:Qx p W W'
 no:ok=false→R=none
 yes:ok=true→∃ y j,j<L.length∧PT W' p L b off cap j∧ptF.plF EE L f' lv y j=some R∧Rdg (fun b=>W.heap.size+1≤b∧b≠X0) W' y (.agg #[.int .i64 k,.int .i64 m,.string t,.bool bb,.int .i64 er,.slice a1 l1 c1,.slice a2 l2 c2])
theorem ptree_step(L:List Wd)(hE:Ends L)(p b off cap lv i:Nat)(W:World)(h:PT W p L b off cap i)(hi:i<L.length)(hr:L.length≤50000)(hv0:1≤lv)(hv:lv≤5)(oa R:Option (Ex × Nat))(f0:Nat)(HRn:oa=none→R=none)(HRy:Hid (∀ r,oa=some r→ptF.plF EE L f0 lv r.1 r.2=some R∧r.2<L.length))
  (HA:Hid (∀ W1,PT W1 p L b off cap i→Calls Tryz.prog 142 #[.pointer (some ⟨p,0,none⟩)] W1 fun e W'=>RepP p L b off cap W1 oa e W'))
  (HT2:Hid (∀ f' lv' j o W1,f'<f0→1≤lv'→lv'≤5→ptF EE L f' lv' j=some o→PT W1 p L b off cap j→j<L.length→Calls Tryz.prog 108 #[.pointer (some ⟨p,0,none⟩),.int .i64 (lv':Int)] W1 fun e W'=>RepP p L b off cap W1 o e W')) :
  Calls Tryz.prog 108 #[.pointer (some ⟨p,0,none⟩),.int .i64 (lv:Int)] W fun e W'=>RepP p L b off cap W R e W':=by
 have hlt:=h.lt;have hbW:=h.blk i hi;have HP0:=hid (h.on ((Q.refl _).alloc (.cells #[.int .i64 0,.int .i64 0,.string ⟨#[]⟩,.bool false,.int .i64 0,.slice none 0 0,.slice none 0 0] 26)));have HZ:=hid (tb_new W (.int .i64 0) (.int .i64 0) (.string ⟨#[]⟩) (.bool false) (.int .i64 0) (.slice none 0 0) (.slice none 0 0) 26);have HN:=hid HRn;clear h HRn;go_enter Tryz.func108,Tryz.ntmps108
 go_wp2_with (go_at_call 142;refine (HA.out _ HP0.out).mono ?_;rintro e w2 h2;obtain ⟨k,m,t,bb,er,a1,l1,c1,a2,l2,c2,rfl,q2,r2⟩:=h2.in;have Q2:=hid q2;have R2:=hid r2;clear h2 q2 r2;have Z2:=hid (HZ.out.on Q2.out (by omega)))
 have hsz:W.heap.size+1≤w2.heap.size:=by have:=Q2.out.size;simp at this;omega
 have HI:Hid (LP L p b off cap lv W w2.heap.size R oa.isSome (w2.alloc (.cells #[.int .i64 k,.int .i64 m,.string t,.bool bb,.int .i64 er,.slice a1 l1 c1,.slice a2 l2 c2] 26)) f0 k m t bb er a1 l1 c1 a2 l2 c2):=by
  refine hid ⟨tb_new _ _ _ _ _ _ _ _ _,Z2.out.on ((Qx.refl p _).alloc _) (by omega),(((Qx.refl p W).alloc _).trans Q2.out).alloc _,fun e=>HN.out (by simpa using e),fun e=>?_⟩
  obtain ⟨⟨y,j⟩,ho⟩:=Option.isSome_iff_exists.1 e;obtain ⟨r1,r2⟩:=R2.out y j ho;obtain ⟨e1,e2⟩:=HRy.out _ ho;exact ⟨y,j,e2,r2.on ((Q.refl _).alloc _),e1,Rdg.on ((Qx.refl p _).alloc _) (fun b hb=>by omega) _ _ (Rdg.mono (fun b hb=>by simp at hb;omega) _ _ (Rdg.in _ _ r1))⟩
 generalize oa.isSome=ok0 at HI ⊢;clear HN HRy HA R2;go_loopw [7,8,9] (fun u _ _ W'=>∃ (ok:Bool) (f':Nat) (k m:Int) (t:ByteArray) (bb:Bool) (er:Int) (a1:Option Addr) (l1 c1:Nat) (a2:Option Addr) (l2 c2:Nat),u=.bool ok∧f'≤f0∧LP L p b off cap lv W w2.heap.size R ok W' f' k m t bb er a1 l1 c1 a2 l2 c2) (fun u _ _ W'=>mzP L.length p u W')
 case atStart=>exact ⟨ok0,f0,k,m,t,bb,er,a1,l1,c1,a2,l2,c2,rfl,Nat.le_refl _,HI.out⟩
 case round=>
  obtain ⟨ok,f',k,m,t,bb,er,a1,l1,c1,a2,l2,c2,rfl,hf',hI⟩:=hrel;have HI2:=hid hI;have xg0:=hI.xb.g0;have xg1:=hI.xb.g1;have xg2:=hI.xb.g2;have xg3:=hI.xb.g3;have xg4:=hI.xb.g4;have xg5:=hI.xb.g5;have xg6:=hI.xb.g6;have hXr:w2.heap.size<wr.heap.size:=World.block_lt_of_cell? wr ⟨w2.heap.size,0,none⟩ xg0
  cases ok
  ·have eR:=hI.no rfl
   subst eR;have zg0:=hI.zb.g0;have zg1:=hI.zb.g1;have zg2:=hI.zb.g2;have zg3:=hI.zb.g3;have zg4:=hI.zb.g4;have zg5:=hI.zb.g5;have zg6:=hI.zb.g6;have zf0:=hI.zb.f 0;have zf1:=hI.zb.f 1;have zf2:=hI.zb.f 2;have zf3:=hI.zb.f 3;have zf4:=hI.zb.f 4;have zf5:=hI.zb.f 5;have zf6:=hI.zb.f 6;have hXz:w2.heap.size≠W.heap.size:=by omega
   clear hI;go_wp2_with fail
   refine bodyPost_ret (v:=.tuple #[.agg #[.int .i64 k,.int .i64 m,.string t,.bool bb,.int .i64 er,.slice a1 l1 c1,.slice a2 l2 c2],.bool false]) (by simp [results,Tryz.results108,go_sem,zg0,zg1,zg2,zg3,zg4,zg5,zg6]) rfl ?_
   exact finP none k m t bb er a1 l1 c1 a2 l2 c2 hlt hbW HI2.out.qx (fun x j e=>by cases e)
  ·obtain ⟨y,j,hj,pj,ej,rj⟩:=hI.yes rfl
   have PJ:=hid pj;have RJ:=hid rj;have HSG:=hid (fun W1 (g:PT W1 p L b off cap j)=>psign_any W1 p L b off cap j g hj hr)
   obtain ⟨T,hT,lT⟩:∃ T:ByteArray,⟨(sgnL L j).toArray⟩=T∧T.data.toList=sgnL L j:=⟨_,rfl,rfl⟩;rw [hT]at HSG;have HST:=hid (fun W=>strength_any T W)
   rw [lT,←stg_sgn]at HST;have LT:=hid lT;have hsl:=stg_le L j;by_cases hgo:lv≤stg L j
   ·obtain ⟨g,o,rfl,hpt,hon,hoy⟩:=pl_go hgo ej
    have k6:kAt L j=6:=stg_six (by omega)
    have hj1:j+1<L.length:=hE j hj (by omega)
    have ge:(lv:Int)≤(stg L j:Int):=by omega
    have HTR:=hid (fun W1 (g1:PT W1 p L b off cap (j+1))=>HT2.out g (stg L j+1) (j+1) o W1 (by omega) (by omega) (by omega) hpt g1 hj1)
    rw [show (((stg L j+1:Nat):Int))=(stg L j:Int)+1 by omega]at HTR
    have HON:=hid hon;have HOY:=hid hoy;have HPT:=hid hpt;have hsl2:(stg L j:Int)≤4:=by omega
    generalize (stg L j:Int)=sv at HST ge HTR hsl2;clear hI hT lT pj rj ej hon hoy hpt;clear xg0 xg1 xg2 xg3 xg4 xg5 xg6;go_upto_region 7 with (first|(go_at_call 108;refine (HTR.out _ ((P5.out.set1 (j+1) _ (by go_num)).on ((Q.refl _).alloc _))).mono ?_;rintro e w6 h6;obtain ⟨k3,m3,t3,bb3,er3,a13,l13,c13,a23,l23,c23,rfl,q6,r6⟩:=h6.in;have B6:=hid ((tb_new (w5.setCell ⟨p,1,none⟩ (.int .i64 ((j:Int)+1))) (.int .i64 0) (.int .i64 0) (.string ⟨#[]⟩) (.bool false) (.int .i64 0) (.slice none 0 0) (.slice none 0 0) 26).on q6 (by simp [World.setCell];omega));have Q6:Hid (Qx p wr w6):=hid (((((Qx.of Q5.out).own 1 (.int .i64 ((j:Int)+1))).alloc _)).trans q6);have R6:=hid r6;have X6:=hid (HI2.out.xb.on Q6.out (by omega));clear h6 q6 r6;rw [hz5]at B6;have s0:=B6.out.g0;have s1:=B6.out.g1;have s2:=B6.out.g2;have s3:=B6.out.g3;have s4:=B6.out.g4;have s5:=B6.out.g5;have s6:=B6.out.g6;have u0:=B6.out.f 0;have u1:=B6.out.f 1;have u2:=B6.out.f 2;have u3:=B6.out.f 3;have u4:=B6.out.f 4;have u5:=B6.out.f 5;have u6:=B6.out.f 6)|(go_at_call 143;refine (HSG.out _ P4.out).mono ?_;rintro e w5 ⟨rfl,q5⟩;have Q5:Hid (Q wr w5):=hid (Q4.out.trans q5);have P5:=hid (P4.out.on q5);clear q5;have a1':=P5.out.c1;have a2':=P5.out.f1;have hs5:wr.heap.size≤w5.heap.size:=Q5.out.size;have hX5:w2.heap.size≠w5.heap.size:=(by omega);have hp5:p≠w5.heap.size:=(by omega);have hz5:∀ v,(w5.setCell ⟨p,1,none⟩ v).heap.size=w5.heap.size:=(fun v=>by simp [World.setCell]))|(go_at_call 143;refine (HSG.out _ PJ.out).mono ?_;rintro e w4 ⟨rfl,q4⟩;have Q4:=hid q4;have P4:=hid (PJ.out.on q4);clear q4)|(go_at_call 125;refine (HST.out _).mono ?_;rintro e w9 ⟨rfl,h9⟩;replace h9:=h9.symm;subst h9))
    have hs6:w5.heap.size+1≤w6.heap.size:=World.block_lt_of_cell? w6 ⟨w5.heap.size,0,none⟩ B6.out.g0
    have QB:Qx w5.heap.size w6 (((((((w6.setCell ⟨w5.heap.size,0,none⟩ (.int .i64 k3)).setCell ⟨w5.heap.size,1,none⟩ (.int .i64 m3)).setCell ⟨w5.heap.size,2,none⟩ (.string t3)).setCell ⟨w5.heap.size,3,none⟩ (.bool bb3)).setCell ⟨w5.heap.size,4,none⟩ (.int .i64 er3)).setCell ⟨w5.heap.size,5,none⟩ (.slice a13 l13 c13)).setCell ⟨w5.heap.size,6,none⟩ (.slice a23 l23 c23)):=(((((((Qx.refl _ _).own _ _).own _ _).own _ _).own _ _).own _ _).own _ _).own _ _
    have z7:(((((((w6.setCell ⟨w5.heap.size,0,none⟩ (.int .i64 k3)).setCell ⟨w5.heap.size,1,none⟩ (.int .i64 m3)).setCell ⟨w5.heap.size,2,none⟩ (.string t3)).setCell ⟨w5.heap.size,3,none⟩ (.bool bb3)).setCell ⟨w5.heap.size,4,none⟩ (.int .i64 er3)).setCell ⟨w5.heap.size,5,none⟩ (.slice a13 l13 c13)).setCell ⟨w5.heap.size,6,none⟩ (.slice a23 l23 c23)).heap.size=w6.heap.size:=by simp [World.setCell]
    have X7:=X6.out.on QB hX5;have B7:=B6.out.put (.int .i64 k3) (.int .i64 m3) (.string t3) (.bool bb3) (.int .i64 er3) (.slice a13 l13 c13) (.slice a23 l23 c23);have Z7:=(HI2.out.zb.on Q6.out (by omega)).on QB (by omega)
    have hWr:=HI2.out.qx.size;have hqw:Qx p W (((((((w6.setCell ⟨w5.heap.size,0,none⟩ (.int .i64 k3)).setCell ⟨w5.heap.size,1,none⟩ (.int .i64 m3)).setCell ⟨w5.heap.size,2,none⟩ (.string t3)).setCell ⟨w5.heap.size,3,none⟩ (.bool bb3)).setCell ⟨w5.heap.size,4,none⟩ (.int .i64 er3)).setCell ⟨w5.heap.size,5,none⟩ (.slice a13 l13 c13)).setCell ⟨w5.heap.size,6,none⟩ (.slice a23 l23 c23)):=by
     have q0:Qx p W w6:=HI2.out.qx.trans Q6.out
     have hw5:W.heap.size≤w5.heap.size:=by omega
     exact ((((((q0.new hw5 _ _).new hw5 _ _).new hw5 _ _).new hw5 _ _).new hw5 _ _).new hw5 _ _).new hw5 _ _
    have hy:o.isSome=true→∃ r,o=some r∧PT (((((((w6.setCell ⟨w5.heap.size,0,none⟩ (.int .i64 k3)).setCell ⟨w5.heap.size,1,none⟩ (.int .i64 m3)).setCell ⟨w5.heap.size,2,none⟩ (.string t3)).setCell ⟨w5.heap.size,3,none⟩ (.bool bb3)).setCell ⟨w5.heap.size,4,none⟩ (.int .i64 er3)).setCell ⟨w5.heap.size,5,none⟩ (.slice a13 l13 c13)).setCell ⟨w5.heap.size,6,none⟩ (.slice a23 l23 c23)) p L b off cap r.2∧ptF.plF EE L g lv (binE (tAt L j) y r.1) r.2=some R∧Rdg (fun b=>W.heap.size+1≤b∧b≠w2.heap.size) (((((((w6.setCell ⟨w5.heap.size,0,none⟩ (.int .i64 k3)).setCell ⟨w5.heap.size,1,none⟩ (.int .i64 m3)).setCell ⟨w5.heap.size,2,none⟩ (.string t3)).setCell ⟨w5.heap.size,3,none⟩ (.bool bb3)).setCell ⟨w5.heap.size,4,none⟩ (.int .i64 er3)).setCell ⟨w5.heap.size,5,none⟩ (.slice a13 l13 c13)).setCell ⟨w5.heap.size,6,none⟩ (.slice a23 l23 c23)) y (.agg #[.int .i64 k,.int .i64 m,.string t,.bool bb,.int .i64 er,.slice a1 l1 c1,.slice a2 l2 c2])∧Rdg (fun b=>W.heap.size+1≤b∧b≠w2.heap.size) (((((((w6.setCell ⟨w5.heap.size,0,none⟩ (.int .i64 k3)).setCell ⟨w5.heap.size,1,none⟩ (.int .i64 m3)).setCell ⟨w5.heap.size,2,none⟩ (.string t3)).setCell ⟨w5.heap.size,3,none⟩ (.bool bb3)).setCell ⟨w5.heap.size,4,none⟩ (.int .i64 er3)).setCell ⟨w5.heap.size,5,none⟩ (.slice a13 l13 c13)).setCell ⟨w5.heap.size,6,none⟩ (.slice a23 l23 c23)) r.1 (.agg #[.int .i64 k3,.int .i64 m3,.string t3,.bool bb3,.int .i64 er3,.slice a13 l13 c13,.slice a23 l23 c23])∧j+1<r.2∧r.2<L.length:=by
     intro e
     obtain ⟨⟨x',j'⟩,ho⟩:=Option.isSome_iff_exists.1 e;obtain ⟨r1,r2⟩:=R6.out x' j' ho;have hpos:=(pfwd_all EE L hE g).1 _ _ _ _ (by omega) hj1 (ho ▸ HPT.out)
     refine ⟨_,ho,r2.onx QB hp5 (by omega) (by have:=r2.p5;omega),HOY.out _ ho,?_,?_,hpos⟩
     ·exact Rdg.mono (fun b hb=>hb.1) _ _ (Rdg.on QB (fun b hb=>by omega) _ _ (Rdg.on Q6.out (fun b hb=>by omega) _ _ (Rdg.in _ _ RJ.out)))
     ·have r1':Rdg (fun b=>w5.heap.size+1≤b) w6 x' _:=Rdg.mono (fun b hb=>by simp [World.setCell]at hb;exact hb) _ _ r1
      exact Rdg.mono (fun b hb=>⟨by omega,by omega⟩) _ _ (Rdg.on QB (fun b hb=>by omega) _ _ r1')
    have ok8:(lv:Int)≤5:=by omega
    generalize (((((((w6.setCell ⟨w5.heap.size,0,none⟩ (.int .i64 k3)).setCell ⟨w5.heap.size,1,none⟩ (.int .i64 m3)).setCell ⟨w5.heap.size,2,none⟩ (.string t3)).setCell ⟨w5.heap.size,3,none⟩ (.bool bb3)).setCell ⟨w5.heap.size,4,none⟩ (.int .i64 er3)).setCell ⟨w5.heap.size,5,none⟩ (.slice a13 l13 c13)).setCell ⟨w5.heap.size,6,none⟩ (.slice a23 l23 c23))=V7w at *;clear QB s0 s1 s2 s3 s4 s5 s6 u0 u1 u2 u3 u4 u5 u6;have x0:=X7.g0;have x1:=X7.g1;have x2:=X7.g2;have x3:=X7.g3;have x4:=X7.g4;have x5:=X7.g5;have x6:=X7.g6;have X8:=X7.on ((Qx.refl p _).alloc (.cells #[.int .i64 k,.int .i64 m,.string t,.bool bb,.int .i64 er,.slice a1 l1 c1,.slice a2 l2 c2,.int .i64 k3,.int .i64 m3,.string t3,.bool bb3,.int .i64 er3,.slice a13 l13 c13,.slice a23 l23 c23] 26)) (by omega)
    have y0:=X8.f 0;have y1:=X8.f 1;have y2:=X8.f 2;have y3:=X8.f 3;have y4:=X8.f 4;have y5:=X8.f 5;have y6:=X8.f 6;have w0x:=X8.g0;have w1x:=X8.g1;have w2x:=X8.g2;have w3x:=X8.g3;have w4x:=X8.g4;have w5x:=X8.g5;have w6x:=X8.g6;have n0:=B7.g0;have n1:=B7.g1;have n2:=B7.g2;have n3:=B7.g3;have n4:=B7.g4;have n5:=B7.g5;have n6:=B7.g6;have v0x:=X7.f 0;have v1x:=X7.f 1;have v2x:=X7.f 2;have v3x:=X7.f 3;have v4x:=X7.f 4;have v5x:=X7.f 5;have v6x:=X7.f 6;have X7h:=hid X7;have Z7h:=hid Z7;have HYh:=hid hy;have HQW:=hid hqw;have hXv:w2.heap.size<V7w.heap.size:=World.block_lt_of_cell? V7w ⟨w2.heap.size,0,none⟩ X7.g0
    have hs7:w5.heap.size+1≤V7w.heap.size:=by omega
    clear X7 X8 Z7 hy hqw B7;have Z7s:=hid z7;clear z7;go_wp2_with fail
    have QF:Qx w2.heap.size V7w (((((((V7w.setCell ⟨w2.heap.size,0,none⟩ (.int .i64 8)).setCell ⟨w2.heap.size,1,none⟩ (.int .i64 0)).setCell ⟨w2.heap.size,2,none⟩ (.string T)).setCell ⟨w2.heap.size,3,none⟩ (.bool false)).setCell ⟨w2.heap.size,4,none⟩ (.int .i64 0)).setCell ⟨w2.heap.size,5,none⟩ (.slice none 0 0)).setCell ⟨w2.heap.size,6,none⟩ (.slice (some ⟨V7w.heap.size,0,none⟩) 2 2)):=(((((((Qx.refl _ _).own _ _).own _ _).own _ _).own _ _).own _ _).own _ _).own _ _
    have zS:(((((((V7w.setCell ⟨w2.heap.size,0,none⟩ (.int .i64 8)).setCell ⟨w2.heap.size,1,none⟩ (.int .i64 0)).setCell ⟨w2.heap.size,2,none⟩ (.string T)).setCell ⟨w2.heap.size,3,none⟩ (.bool false)).setCell ⟨w2.heap.size,4,none⟩ (.int .i64 0)).setCell ⟨w2.heap.size,5,none⟩ (.slice none 0 0)).setCell ⟨w2.heap.size,6,none⟩ (.slice (some ⟨V7w.heap.size,0,none⟩) 2 2)).heap.size=V7w.heap.size:=by simp [World.setCell]
    have hptf:∀ r,o=some r→PT ((((((((V7w.setCell ⟨w2.heap.size,0,none⟩ (.int .i64 8)).setCell ⟨w2.heap.size,1,none⟩ (.int .i64 0)).setCell ⟨w2.heap.size,2,none⟩ (.string T)).setCell ⟨w2.heap.size,3,none⟩ (.bool false)).setCell ⟨w2.heap.size,4,none⟩ (.int .i64 0)).setCell ⟨w2.heap.size,5,none⟩ (.slice none 0 0)).setCell ⟨w2.heap.size,6,none⟩ (.slice (some ⟨V7w.heap.size,0,none⟩) 2 2)).alloc (.cells #[.int .i64 k,.int .i64 m,.string t,.bool bb,.int .i64 er,.slice a1 l1 c1,.slice a2 l2 c2,.int .i64 k3,.int .i64 m3,.string t3,.bool bb3,.int .i64 er3,.slice a13 l13 c13,.slice a23 l23 c23] 26)) p L b off cap r.2:=by
     intro r ho
     obtain ⟨r',ho',pt,_⟩:=HYh.out (by rw [ho];rfl)
     rw [ho]at ho';cases ho'
     exact (pt.onx QF (by omega) (by omega) (by have:=pt.p5;omega)).on ((Q.refl _).alloc _)
    have HL:LP L p b off cap lv W w2.heap.size R o.isSome ((((((((V7w.setCell ⟨w2.heap.size,0,none⟩ (.int .i64 8)).setCell ⟨w2.heap.size,1,none⟩ (.int .i64 0)).setCell ⟨w2.heap.size,2,none⟩ (.string T)).setCell ⟨w2.heap.size,3,none⟩ (.bool false)).setCell ⟨w2.heap.size,4,none⟩ (.int .i64 0)).setCell ⟨w2.heap.size,5,none⟩ (.slice none 0 0)).setCell ⟨w2.heap.size,6,none⟩ (.slice (some ⟨V7w.heap.size,0,none⟩) 2 2)).alloc (.cells #[.int .i64 k,.int .i64 m,.string t,.bool bb,.int .i64 er,.slice a1 l1 c1,.slice a2 l2 c2,.int .i64 k3,.int .i64 m3,.string t3,.bool bb3,.int .i64 er3,.slice a13 l13 c13,.slice a23 l23 c23] 26)) g 8 0 T false 0 none 0 0 (some ⟨V7w.heap.size,0,none⟩) 2 2:=by
     have hws:W.heap.size≤w2.heap.size:=by omega
     have hq8:Qx p W V7w:=HQW.out
     refine ⟨(X7h.out.put _ _ _ _ _ _ _).on ((Qx.refl p _).alloc _) (by omega),(Z7h.out.on QF (by omega)).on ((Qx.refl p _).alloc _) (by omega),(((((((hq8.new hws _ _).new hws _ _).new hws _ _).new hws _ _).new hws _ _).new hws _ _).new hws _ _).alloc _,fun e=>HON.out (by simpa using e),fun e=>?_⟩
     obtain ⟨r,ho,pt,hpl,ry,rr,_,hrl⟩:=HYh.out e;refine ⟨_,r.2,hrl,hptf r ho,hpl,?_⟩
     have K6:=tw_new (((((((V7w.setCell ⟨w2.heap.size,0,none⟩ (.int .i64 8)).setCell ⟨w2.heap.size,1,none⟩ (.int .i64 0)).setCell ⟨w2.heap.size,2,none⟩ (.string T)).setCell ⟨w2.heap.size,3,none⟩ (.bool false)).setCell ⟨w2.heap.size,4,none⟩ (.int .i64 0)).setCell ⟨w2.heap.size,5,none⟩ (.slice none 0 0)).setCell ⟨w2.heap.size,6,none⟩ (.slice (some ⟨V7w.heap.size,0,none⟩) 2 2)) (.int .i64 k) (.int .i64 m) (.string t) (.bool bb) (.int .i64 er) (.slice a1 l1 c1) (.slice a2 l2 c2) (.int .i64 k3) (.int .i64 m3) (.string t3) (.bool bb3) (.int .i64 er3) (.slice a13 l13 c13) (.slice a23 l23 c23) 26;rw [zS]at K6;have P6:=pl_new (((((((V7w.setCell ⟨w2.heap.size,0,none⟩ (.int .i64 8)).setCell ⟨w2.heap.size,1,none⟩ (.int .i64 0)).setCell ⟨w2.heap.size,2,none⟩ (.string T)).setCell ⟨w2.heap.size,3,none⟩ (.bool false)).setCell ⟨w2.heap.size,4,none⟩ (.int .i64 0)).setCell ⟨w2.heap.size,5,none⟩ (.slice none 0 0)).setCell ⟨w2.heap.size,6,none⟩ (.slice (some ⟨V7w.heap.size,0,none⟩) 2 2)) #[.int .i64 k,.int .i64 m,.string t,.bool bb,.int .i64 er,.slice a1 l1 c1,.slice a2 l2 c2,.int .i64 k3,.int .i64 m3,.string t3,.bool bb3,.int .i64 er3,.slice a13 l13 c13,.slice a23 l23 c23] 26;rw [zS]at P6;exact rdg_kids 8 (tAt L j) T (by rw [LT.out];unfold sgnL;rw [if_pos k6]) [y,r.1] V7w.heap.size 2 ⟨by omega,by omega⟩ (by simp) (by unfold maxLen;omega) P6 (K6.two (Rdg.on ((Qx.refl p _).alloc _) (fun b hb=>by omega) _ _ (Rdg.on QF (fun b hb=>hb.2) _ _ ry)) (Rdg.on ((Qx.refl p _).alloc _) (fun b hb=>by omega) _ _ (Rdg.on QF (fun b hb=>hb.2) _ _ rr)))
    go_roundw
    case rel=>exact ⟨o.isSome,g,8,0,T,false,0,none,0,0,some ⟨V7w.heap.size,0,none⟩,2,2,rfl,by omega,HL⟩
    case measure=>
     show mzP L.length p (.bool o.isSome) _<mzP L.length p (.bool true) wr
     have e1:mzP L.length p (.bool true) wr=L.length+1-j:=by unfold mzP;simp only;rw [pfar_of PJ.out]
     rw [e1];cases ho:o.isSome
     ·show 0<_
      omega
     ·obtain ⟨r,ho',_,_,_,_,hlt',_⟩:=HYh.out ho
      have e2:∀ {Wf:World} {jj:Nat},PT Wf p L b off cap jj→mzP L.length p (.bool true) Wf=L.length+1-jj:=fun g1=>by unfold mzP;simp only;rw [pfar_of g1]
      rw [e2 (hptf r ho')];omega
   ·have eR:=pl_stop hgo ej
    have ge:¬ (lv:Int)≤(stg L j:Int):=by omega
    generalize (stg L j:Int)=sv at HST ge;clear hI hT lT pj rj ej;go_wp2_with (first|(go_at_call 143;refine (HSG.out _ PJ.out).mono ?_;rintro e w4 ⟨rfl,q4⟩;have Q4:=hid q4;have P4:=hid (PJ.out.on q4);have X4:=hid (HI2.out.xb.on (Qx.of (p:=p) q4) (by omega));have Z4:=hid (HI2.out.zb.on (Qx.of (p:=p) q4) (by omega));clear q4;have n0:=X4.out.g0;have n1:=X4.out.g1;have n2:=X4.out.g2;have n3:=X4.out.g3;have n4:=X4.out.g4;have n5:=X4.out.g5;have n6:=X4.out.g6;have d0:=Z4.out.g0;have d1:=Z4.out.g1;have d2:=Z4.out.g2;have d3:=Z4.out.g3;have d4:=Z4.out.g4;have d5:=Z4.out.g5;have d6:=Z4.out.g6;have y0:=Z4.out.f 0;have y1:=Z4.out.f 1;have y2:=Z4.out.f 2;have y3:=Z4.out.f 3;have y4:=Z4.out.f 4;have y5:=Z4.out.f 5;have y6:=Z4.out.f 6;have hXz:w2.heap.size≠W.heap.size:=(by omega))|(go_at_call 125;refine (HST.out _).mono ?_;rintro e w9 ⟨rfl,h9⟩;replace h9:=h9.symm;subst h9))
    refine bodyPost_ret (v:=.tuple #[.agg #[.int .i64 k,.int .i64 m,.string t,.bool bb,.int .i64 er,.slice a1 l1 c1,.slice a2 l2 c2],.bool true]) (by simp [results,Tryz.results108,go_sem,d0,d1,d2,d3,d4,d5,d6]) rfl ?_
    rw [eR];refine finP (some (y,j)) k m t bb er a1 l1 c1 a2 l2 c2 hlt hbW (HI2.out.qx.trans (Qx.of Q4.out)) (fun x' j' e=>?_)
    cases e
    exact ⟨Rdg.mono (fun b hb=>hb.1) _ _ (Rdg.on (Qx.of (p:=p) Q4.out) (fun b hb=>by omega) _ _ RJ.out),P4.out⟩
theorem pfirst_text(L:List Wd)(p b off cap i:Nat)(W:World)(h:PT W p L b off cap i)(hi:i<L.length)(hr:L.length≤50000)(hw:isW L i [40]=false)(hk:kAt L i=2) :
  Calls Tryz.prog 167 #[.pointer (some ⟨p,0,none⟩)] W fun e W'=>RepP p L b off cap W (some (textE (tAt L i),i+1)) e W':=by
 have hlt:=h.lt;have hbW:=h.blk i hi;have HP:=hid h;have HZ:=hid (tb_new W (.int .i64 0) (.int .i64 0) (.string ⟨#[]⟩) (.bool false) (.int .i64 0) (.slice none 0 0) (.slice none 0 0) 26);have hc:=hid (fun W1 (g:PT W1 p L b off cap i)=>ptake_any W1 p L b off cap i ⟨#[40]⟩ g hi hr (by simp))
 rw [show (⟨#[40]⟩:ByteArray).data.toList=[40] from rfl,hw]at hc
 obtain ⟨T,hT,lT⟩:∃ T:ByteArray,T=⟨(tAt L i).toArray⟩∧T.data.toList=tAt L i:=⟨_,rfl,rfl⟩;have HWd:=hid (fun W1 (g:PT W1 p L b off cap i)=>word_any W1 p L.length b off cap i _ _ _ (g.kw hi) hi hr)
 rw [←hT]at HWd;generalize ((L.getD i ⟨7,[],0⟩).p:Int)=q at HWd;have HTT:=hid lT;clear hT lT;rw [hk]at HWd;clear h;go_enter Tryz.func167,Tryz.ntmps167
 go_upto_region 6 with (first|(go_at_call 166;refine (hc.out _ (HP.out.on (by repeat (first|with_reducible exact Q.refl _|with_reducible refine Q.drewN ?_ _|with_reducible refine Q.drew ?_|with_reducible refine Q.alloc ?_ _|with_reducible refine Q.setCell ?_ (by simp) _)))).mono ?_;rintro e w1 ⟨rfl,q1,p1⟩;have Q1:Hid (Qx p W w1):=hid (Qx.trans (by repeat (first|with_reducible exact Qx.refl _ _|with_reducible refine Qx.drewN ?_ _|with_reducible refine Qx.drew ?_|with_reducible refine Qx.alloc ?_ _|with_reducible refine Qx.own ?_ _ _|with_reducible refine Qx.new ?_ (by simp) _ _)) q1);have P1:=hid p1;have Z1:=hid (HZ.out.on q1 (by omega));have hsw:W.heap.size<w1.heap.size:=World.block_lt_of_cell? w1 ⟨W.heap.size,0,none⟩ Z1.out.g0;clear q1 p1)|(go_at_call 109;refine (HWd.out _ P1.out).mono ?_;rintro e w2 ⟨rfl,q2⟩;have Q2:=hid q2;have hs2:w1.heap.size≤w2.heap.size:=q2.size;have hp2:p≠w2.heap.size:=(by omega);have P2:=hid ((P1.out.on q2).on ((Q.refl _).alloc (.cells #[.int .i64 2,.string T,.int .i64 q] 141)));clear q2;have c12:=P2.out.c1;have f12:=P2.out.f1))
 obtain ⟨Vq,hV,PV,ZV,BV,QV⟩:∃ Vq,Vq=(w2.alloc (.cells #[.int .i64 2,.string T,.int .i64 q] 141)).setCell ⟨p,1,none⟩ (.int .i64 ((i:Int)+1))∧PT Vq p L b off cap (i+1)∧Tb Vq W.heap.size (.int .i64 0) (.int .i64 0) (.string ⟨#[]⟩) (.bool false) (.int .i64 0) (.slice none 0 0) (.slice none 0 0)∧Wb Vq w2.heap.size (.int .i64 2) (.string T) (.int .i64 q)∧Qx p W Vq:=
  ⟨_,rfl,P2.out.set1 (i+1) _ (by omega),((Z1.out.on (Qx.of (p:=p) Q2.out) (by omega)).on ((Qx.refl p _).alloc _) (by omega)).on ((Qx.refl p _).own _ _) (by omega),(wb_new _ _ _ _ _).on ((Qx.refl p _).own _ _) (by omega),((Q1.out.trans (Qx.of Q2.out)).alloc _).own _ _⟩
 rw [←hV];have PVh:=hid PV;have ZVh:=hid ZV;have BVh:=hid BV;have QVh:=hid QV;have b0:=BV.g0;have b1:=BV.g1;have b2:=BV.g2;clear hV PV ZV BV QV c12 f12;have d0:=ZVh.out.g0;have d1:=ZVh.out.g1;have d2:=ZVh.out.g2;have d3:=ZVh.out.g3;have d4:=ZVh.out.g4;have d5:=ZVh.out.g5;have d6:=ZVh.out.g6;have y0:=ZVh.out.f 0;have y1:=ZVh.out.f 1;have y2:=ZVh.out.f 2;have y3:=ZVh.out.f 3;have y4:=ZVh.out.f 4;have y5:=ZVh.out.f 5;have y6:=ZVh.out.f 6;go_wp2_with fail
 refine bodyPost_ret (v:=.tuple #[.agg #[.int .i64 2,.int .i64 0,.string T,.bool false,.int .i64 0,.slice none 0 0,.slice none 0 0],.bool true]) (by simp [results,Tryz.results167,go_sem,d0,d1,d2,d3,d4,d5,d6]) rfl ?_
 refine finP (some (textE (tAt L i),i+1)) 2 0 T false 0 none 0 0 none 0 0 hlt hbW QVh.out (fun x j e=>?_)
 cases e
 exact ⟨rdg_leaf 2 0 (tAt L i) T HTT.out false 0,PVh.out⟩
theorem pfirst_num(L:List Wd)(p b off cap i:Nat)(W:World)(h:PT W p L b off cap i)(hi:i<L.length)(hr:L.length≤50000)(hw:isW L i [40]=false)(hk:kAt L i=1)(hz:∀ i,(tAt L i).length≤1000)(hok:EE.nok (tAt L i)=true)(hs:Std W)(h5:6≤p) :
  Calls Tryz.prog 167 #[.pointer (some ⟨p,0,none⟩)] W fun e W'=>RepP p L b off cap W (some (numE (EE.num (tAt L i)),i+1)) e W':=by
 have hlt:=h.lt;have hbW:=h.blk i hi;have HP:=hid h;have HZ:=hid (tb_new W (.int .i64 0) (.int .i64 0) (.string ⟨#[]⟩) (.bool false) (.int .i64 0) (.slice none 0 0) (.slice none 0 0) 26);have hc:=hid (fun W1 (g:PT W1 p L b off cap i)=>ptake_any W1 p L b off cap i ⟨#[40]⟩ g hi hr (by simp))
 rw [show (⟨#[40]⟩:ByteArray).data.toList=[40] from rfl,hw]at hc
 obtain ⟨T,hT,lT⟩:∃ T:ByteArray,T=⟨(tAt L i).toArray⟩∧T.data.toList=tAt L i:=⟨_,rfl,rfl⟩;have HWd:=hid (fun W1 (g:PT W1 p L b off cap i)=>word_any W1 p L.length b off cap i _ _ _ (g.kw hi) hi hr)
 rw [←hT]at HWd;generalize ((L.getD i ⟨7,[],0⟩).p:Int)=q at HWd;have HTT:=hid lT;clear hT lT;rw [hk]at HWd;have hsz:T.size≤1000:=by have:=hz i;rw [←HTT.out]at this;simpa using this
 have HN:=hid (fun W1 (g:Std W1)=>V.parse_any T W1 g (by omega))
 rw [show V.pf (V.parseO T.data.toList)=true by rw [HTT.out];exact hok]at HN
 have HS:=hid hs;clear hs hok hz;clear h;go_enter Tryz.func167,Tryz.ntmps167
 go_upto_region 6 with (first|(go_at_call 166;refine (hc.out _ (HP.out.on (by repeat (first|with_reducible exact Q.refl _|with_reducible refine Q.drewN ?_ _|with_reducible refine Q.drew ?_|with_reducible refine Q.alloc ?_ _|with_reducible refine Q.setCell ?_ (by simp) _)))).mono ?_;rintro e w1 ⟨rfl,q1,p1⟩;have Q1:Hid (Qx p W w1):=hid (Qx.trans (by repeat (first|with_reducible exact Qx.refl _ _|with_reducible refine Qx.drewN ?_ _|with_reducible refine Qx.drew ?_|with_reducible refine Qx.alloc ?_ _|with_reducible refine Qx.own ?_ _ _|with_reducible refine Qx.new ?_ (by simp) _ _)) q1);have P1:=hid p1;have Z1:=hid (HZ.out.on q1 (by omega));have hsw:W.heap.size<w1.heap.size:=World.block_lt_of_cell? w1 ⟨W.heap.size,0,none⟩ Z1.out.g0;clear q1 p1)|(go_at_call 109;refine (HWd.out _ P1.out).mono ?_;rintro e w2 ⟨rfl,q2⟩;have Q2:=hid q2;have hs2:w1.heap.size≤w2.heap.size:=q2.size;have hp2:p≠w2.heap.size:=(by omega);have P2:=hid ((P1.out.on q2).on ((Q.refl _).alloc (.cells #[.int .i64 1,.string T,.int .i64 q] 141)));clear q2;have c12:=P2.out.c1;have f12:=P2.out.f1))
 obtain ⟨Vq,hV,PV,ZV,BV,QV⟩:∃ Vq,Vq=(w2.alloc (.cells #[.int .i64 1,.string T,.int .i64 q] 141)).setCell ⟨p,1,none⟩ (.int .i64 ((i:Int)+1))∧PT Vq p L b off cap (i+1)∧Tb Vq W.heap.size (.int .i64 0) (.int .i64 0) (.string ⟨#[]⟩) (.bool false) (.int .i64 0) (.slice none 0 0) (.slice none 0 0)∧Wb Vq w2.heap.size (.int .i64 1) (.string T) (.int .i64 q)∧Qx p W Vq:=
  ⟨_,rfl,P2.out.set1 (i+1) _ (by omega),((Z1.out.on (Qx.of (p:=p) Q2.out) (by omega)).on ((Qx.refl p _).alloc _) (by omega)).on ((Qx.refl p _).own _ _) (by omega),(wb_new _ _ _ _ _).on ((Qx.refl p _).own _ _) (by omega),((Q1.out.trans (Qx.of Q2.out)).alloc _).own _ _⟩
 rw [←hV];have PVh:=hid PV;have ZVh:=hid ZV;have BVh:=hid BV;have QVh:=hid QV;have b0:=BV.g0;have b1:=BV.g1;have b2:=BV.g2;clear hV PV ZV BV QV c12 f12;have SV:=hid (HS.out.onx QVh.out h5);go_wp2_with (go_at_call 78;refine (HN.out _ SV.out).mono ?_;rintro e w4 ⟨rfl,q4⟩;have Q4:=hid q4;have Z4:=hid (ZVh.out.on (Qx.of (p:=p) q4) (by omega));clear q4;have d0:=Z4.out.g0;have d1:=Z4.out.g1;have d2:=Z4.out.g2;have d3:=Z4.out.g3;have d4:=Z4.out.g4;have d5:=Z4.out.g5;have d6:=Z4.out.g6;have y0:=Z4.out.f 0;have y1:=Z4.out.f 1;have y2:=Z4.out.f 2;have y3:=Z4.out.f 3;have y4:=Z4.out.f 4;have y5:=Z4.out.f 5;have y6:=Z4.out.f 6)
 refine bodyPost_ret (v:=.tuple #[.agg #[.int .i64 1,.int .i64 (V.pk (V.parseO T.data.toList)),.string ⟨#[]⟩,.bool false,.int .i64 0,.slice none 0 0,.slice none 0 0],.bool true]) (by simp [results,Tryz.results167,go_sem,d0,d1,d2,d3,d4,d5,d6]) rfl ?_
 rw [show numE (EE.num (tAt L i))=.mk 1 (V.pk (V.parseO T.data.toList)) [] false 0 [] [] by rw [HTT.out];rfl]
 refine finP (some (.mk 1 (V.pk (V.parseO T.data.toList)) [] false 0 [] [],i+1)) 1 (V.pk (V.parseO T.data.toList)) ⟨#[]⟩ false 0 none 0 0 none 0 0 hlt hbW (QVh.out.trans (Qx.of Q4.out)) (fun x j e=>?_)
 cases e
 exact ⟨rdg_leaf 1 (V.pk (V.parseO T.data.toList)) [] ⟨#[]⟩ rfl false 0,PVh.out.on Q4.out⟩
theorem pfirst_ref(L:List Wd)(p b off cap i:Nat)(W:World)(h:PT W p L b off cap i)(hi:i<L.length)(hr:L.length≤50000)(hw:isW L i [40]=false)(hk:kAt L i=3)(o:Option (Ex × Nat))(HH:Hid (∀ W1 (T:ByteArray),T.data.toList=tAt L i→Qx p W W1→PT W1 p L b off cap (i+1)→Calls Tryz.prog 186 #[.pointer (some ⟨p,0,none⟩),.string T] W1 fun e W'=>RepP p L b off cap W1 o e W')) :
  Calls Tryz.prog 167 #[.pointer (some ⟨p,0,none⟩)] W fun e W'=>RepP p L b off cap W o e W':=by
 have hlt:=h.lt;have hbW:=h.blk i hi;have HP:=hid h;have HZ:=hid (tb_new W (.int .i64 0) (.int .i64 0) (.string ⟨#[]⟩) (.bool false) (.int .i64 0) (.slice none 0 0) (.slice none 0 0) 26);have hc:=hid (fun W1 (g:PT W1 p L b off cap i)=>ptake_any W1 p L b off cap i ⟨#[40]⟩ g hi hr (by simp))
 rw [show (⟨#[40]⟩:ByteArray).data.toList=[40] from rfl,hw]at hc
 obtain ⟨T,hT,lT⟩:∃ T:ByteArray,T=⟨(tAt L i).toArray⟩∧T.data.toList=tAt L i:=⟨_,rfl,rfl⟩;have HWd:=hid (fun W1 (g:PT W1 p L b off cap i)=>word_any W1 p L.length b off cap i _ _ _ (g.kw hi) hi hr)
 rw [←hT]at HWd;generalize ((L.getD i ⟨7,[],0⟩).p:Int)=q at HWd;have HTT:=hid lT;clear hT lT;rw [hk]at HWd;clear h;go_enter Tryz.func167,Tryz.ntmps167
 go_upto_region 6 with (first|(go_at_call 166;refine (hc.out _ (HP.out.on (by repeat (first|with_reducible exact Q.refl _|with_reducible refine Q.drewN ?_ _|with_reducible refine Q.drew ?_|with_reducible refine Q.alloc ?_ _|with_reducible refine Q.setCell ?_ (by simp) _)))).mono ?_;rintro e w1 ⟨rfl,q1,p1⟩;have Q1:Hid (Qx p W w1):=hid (Qx.trans (by repeat (first|with_reducible exact Qx.refl _ _|with_reducible refine Qx.drewN ?_ _|with_reducible refine Qx.drew ?_|with_reducible refine Qx.alloc ?_ _|with_reducible refine Qx.own ?_ _ _|with_reducible refine Qx.new ?_ (by simp) _ _)) q1);have P1:=hid p1;have Z1:=hid (HZ.out.on q1 (by omega));have hsw:W.heap.size<w1.heap.size:=World.block_lt_of_cell? w1 ⟨W.heap.size,0,none⟩ Z1.out.g0;clear q1 p1)|(go_at_call 109;refine (HWd.out _ P1.out).mono ?_;rintro e w2 ⟨rfl,q2⟩;have Q2:=hid q2;have hs2:w1.heap.size≤w2.heap.size:=q2.size;have hp2:p≠w2.heap.size:=(by omega);have P2:=hid ((P1.out.on q2).on ((Q.refl _).alloc (.cells #[.int .i64 3,.string T,.int .i64 q] 141)));clear q2;have c12:=P2.out.c1;have f12:=P2.out.f1))
 obtain ⟨Vq,hV,PV,ZV,BV,QV⟩:∃ Vq,Vq=(w2.alloc (.cells #[.int .i64 3,.string T,.int .i64 q] 141)).setCell ⟨p,1,none⟩ (.int .i64 ((i:Int)+1))∧PT Vq p L b off cap (i+1)∧Tb Vq W.heap.size (.int .i64 0) (.int .i64 0) (.string ⟨#[]⟩) (.bool false) (.int .i64 0) (.slice none 0 0) (.slice none 0 0)∧Wb Vq w2.heap.size (.int .i64 3) (.string T) (.int .i64 q)∧Qx p W Vq:=
  ⟨_,rfl,P2.out.set1 (i+1) _ (by omega),((Z1.out.on (Qx.of (p:=p) Q2.out) (by omega)).on ((Qx.refl p _).alloc _) (by omega)).on ((Qx.refl p _).own _ _) (by omega),(wb_new _ _ _ _ _).on ((Qx.refl p _).own _ _) (by omega),((Q1.out.trans (Qx.of Q2.out)).alloc _).own _ _⟩
 rw [←hV];have PVh:=hid PV;have ZVh:=hid ZV;have BVh:=hid BV;have QVh:=hid QV;have b0:=BV.g0;have b1:=BV.g1;have b2:=BV.g2;clear hV PV ZV BV QV c12 f12;have hsV:W.heap.size<Vq.heap.size:=World.block_lt_of_cell? Vq ⟨W.heap.size,0,none⟩ ZVh.out.g0
 go_wp2_with (go_at_call 186;refine (HH.out _ T HTT.out QVh.out PVh.out).mono ?_;rintro e w4 h2;obtain ⟨k,m,t,bb,er,a1,l1,c1,a2,l2,c2,rfl,q2,r2⟩:=h2.in;have Q4:=hid q2;have R4:=hid r2;clear h2 q2 r2;have Z4:=hid (ZVh.out.on Q4.out (by omega));have d0:=Z4.out.g0;have d1:=Z4.out.g1;have d2:=Z4.out.g2;have d3:=Z4.out.g3;have d4:=Z4.out.g4;have d5:=Z4.out.g5;have d6:=Z4.out.g6;have y0:=Z4.out.f 0;have y1:=Z4.out.f 1;have y2:=Z4.out.f 2;have y3:=Z4.out.f 3;have y4:=Z4.out.f 4;have y5:=Z4.out.f 5;have y6:=Z4.out.f 6)
 refine bodyPost_ret (v:=.tuple #[.agg #[.int .i64 k,.int .i64 m,.string t,.bool bb,.int .i64 er,.slice a1 l1 c1,.slice a2 l2 c2],.bool o.isSome]) (by simp [results,Tryz.results167,go_sem,d0,d1,d2,d3,d4,d5,d6]) rfl ?_
 exact finP o k m t bb er a1 l1 c1 a2 l2 c2 hlt hbW (QVh.out.trans Q4.out) (fun x j e=>⟨Rdg.mono (fun b hb=>by omega) _ _ (R4.out x j e).1,(R4.out x j e).2⟩)
theorem pfirst_other(L:List Wd)(p b off cap i:Nat)(W:World)(h:PT W p L b off cap i)(hi:i<L.length)(hr:L.length≤50000)(hw:isW L i [40]=false)(hk:kAt L i=6∨kAt L i=7) :
  Calls Tryz.prog 167 #[.pointer (some ⟨p,0,none⟩)] W fun e W'=>RepP p L b off cap W none e W':=by
 have hlt:=h.lt;have hbW:=h.blk i hi;have HP:=hid h;have HZ:=hid (tb_new W (.int .i64 0) (.int .i64 0) (.string ⟨#[]⟩) (.bool false) (.int .i64 0) (.slice none 0 0) (.slice none 0 0) 26);have hc:=hid (fun W1 (g:PT W1 p L b off cap i)=>ptake_any W1 p L b off cap i ⟨#[40]⟩ g hi hr (by simp))
 rw [show (⟨#[40]⟩:ByteArray).data.toList=[40] from rfl,hw]at hc
 obtain ⟨T,hT,lT⟩:∃ T:ByteArray,T=⟨(tAt L i).toArray⟩∧T.data.toList=tAt L i:=⟨_,rfl,rfl⟩;have HWd:=hid (fun W1 (g:PT W1 p L b off cap i)=>word_any W1 p L.length b off cap i _ _ _ (g.kw hi) hi hr)
 rw [←hT]at HWd;generalize ((L.getD i ⟨7,[],0⟩).p:Int)=q at HWd;have HTT:=hid lT;clear hT lT;have k1:((kAt L i:Int) == 1)=false:=by rw [beq_eq_false_iff_ne];omega
 have k2:((kAt L i:Int) == 2)=false:=by rw [beq_eq_false_iff_ne];omega
 have k5:((kAt L i:Int) == 5)=false:=by rw [beq_eq_false_iff_ne];omega
 have k3:((kAt L i:Int) == 3)=false:=by rw [beq_eq_false_iff_ne];omega
 have k4:((kAt L i:Int) == 4)=false:=by rw [beq_eq_false_iff_ne];omega
 generalize (kAt L i:Int)=kk at HWd k1 k2 k3 k4 k5;clear h;go_enter Tryz.func167,Tryz.ntmps167
 go_upto_region 6 with (first|(go_at_call 166;refine (hc.out _ (HP.out.on (by repeat (first|with_reducible exact Q.refl _|with_reducible refine Q.drewN ?_ _|with_reducible refine Q.drew ?_|with_reducible refine Q.alloc ?_ _|with_reducible refine Q.setCell ?_ (by simp) _)))).mono ?_;rintro e w1 ⟨rfl,q1,p1⟩;have Q1:Hid (Qx p W w1):=hid (Qx.trans (by repeat (first|with_reducible exact Qx.refl _ _|with_reducible refine Qx.drewN ?_ _|with_reducible refine Qx.drew ?_|with_reducible refine Qx.alloc ?_ _|with_reducible refine Qx.own ?_ _ _|with_reducible refine Qx.new ?_ (by simp) _ _)) q1);have P1:=hid p1;have Z1:=hid (HZ.out.on q1 (by omega));have hsw:W.heap.size<w1.heap.size:=World.block_lt_of_cell? w1 ⟨W.heap.size,0,none⟩ Z1.out.g0;clear q1 p1)|(go_at_call 109;refine (HWd.out _ P1.out).mono ?_;rintro e w2 ⟨rfl,q2⟩;have Q2:=hid q2;have hs2:w1.heap.size≤w2.heap.size:=q2.size;have hp2:p≠w2.heap.size:=(by omega);have P2:=hid ((P1.out.on q2).on ((Q.refl _).alloc (.cells #[.int .i64 kk,.string T,.int .i64 q] 141)));clear q2;have c12:=P2.out.c1;have f12:=P2.out.f1))
 obtain ⟨Vq,hV,PV,ZV,BV,QV⟩:∃ Vq,Vq=(w2.alloc (.cells #[.int .i64 kk,.string T,.int .i64 q] 141)).setCell ⟨p,1,none⟩ (.int .i64 ((i:Int)+1))∧PT Vq p L b off cap (i+1)∧Tb Vq W.heap.size (.int .i64 0) (.int .i64 0) (.string ⟨#[]⟩) (.bool false) (.int .i64 0) (.slice none 0 0) (.slice none 0 0)∧Wb Vq w2.heap.size (.int .i64 kk) (.string T) (.int .i64 q)∧Qx p W Vq:=
  ⟨_,rfl,P2.out.set1 (i+1) _ (by omega),((Z1.out.on (Qx.of (p:=p) Q2.out) (by omega)).on ((Qx.refl p _).alloc _) (by omega)).on ((Qx.refl p _).own _ _) (by omega),(wb_new _ _ _ _ _).on ((Qx.refl p _).own _ _) (by omega),((Q1.out.trans (Qx.of Q2.out)).alloc _).own _ _⟩
 rw [←hV];have PVh:=hid PV;have ZVh:=hid ZV;have BVh:=hid BV;have QVh:=hid QV;have b0:=BV.g0;have b1:=BV.g1;have b2:=BV.g2;clear hV PV ZV BV QV c12 f12;have d0:=ZVh.out.g0;have d1:=ZVh.out.g1;have d2:=ZVh.out.g2;have d3:=ZVh.out.g3;have d4:=ZVh.out.g4;have d5:=ZVh.out.g5;have d6:=ZVh.out.g6;have y0:=ZVh.out.f 0;have y1:=ZVh.out.f 1;have y2:=ZVh.out.f 2;have y3:=ZVh.out.f 3;have y4:=ZVh.out.f 4;have y5:=ZVh.out.f 5;have y6:=ZVh.out.f 6;go_wp2_with fail
 refine bodyPost_ret (v:=.tuple #[.agg #[.int .i64 0,.int .i64 0,.string ⟨#[]⟩,.bool false,.int .i64 0,.slice none 0 0,.slice none 0 0],.bool false]) (by simp [results,Tryz.results167,go_sem,d0,d1,d2,d3,d4,d5,d6]) rfl ?_
 exact finP none 0 0 ⟨#[]⟩ false 0 none 0 0 none 0 0 hlt hbW QVh.out (fun x j e=>by cases e)
end Go.Proofs.YtgheopdadfnilaaGreatDoor
