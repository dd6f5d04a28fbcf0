/- The reference's Lines, walked:. -/
import Derived.Test.YtoikodohcieipaaGreatDoorKl40
set_option linter.unusedVariables false
set_option linter.unusedSimpArgs false
set_option maxRecDepth 100000
set_option maxHeartbeats 8000000
namespace Go.Proofs.YtoikodohcieipaaGreatDoor
open Go.RowKit
theorem rln_col(W0:World)(home on:ByteArray)(lk la lt:Int)(k n:Int)(t:ByteArray)(b:Bool)(e:Int)(rs:List Rf)(ks:List Ex)(a1:Option Addr)(c1:Nat)(ao:Option Addr)(cap:Nat)(W:World)
  (hsl:Hid (Sl rf 5 W0 (.slice a1 rs.length c1) rs)) (hcap:Hid (ks.length≤cap∧cap≤maxLen)) (hkd:Hid (ks≠[]→∃ b' off,ao=some ⟨b',off,none⟩∧RdI.RdIL W0 ks b' off))
  (hq:Hid (Q W0 W)) (hkl:ks.length≤1000) (hrl:rs.length≤1000)
  (IH:Hid (∀ i (hi:i<ks.length) (v:Value) (W:World),RdI W0 ks[i] v→Q W0 W→Calls Tryz.prog 15 #[v,.string home,.string on,.bool false,.agg #[.int .i64 lk,.int .i64 la,.int .i64 lt]] W fun e W'=>RepT W0 W (chg home.data.toList on.data.toList (mvB false lk la lt) (mvR false lk la lt) ks[i]) e W'))
  (HHT:Hid (hit home.data.toList on.data.toList rs=true)) (FT:List UInt8) (HFT:Hid (∀ h:0<rs.length,orT (rs[0]).1 home.data.toList=FT)) (HFO:Hid (FT=on.data.toList)) (HMY:Hid (∀ r∈rs,mayRf r=true∧r.1.length≤2000000)) :
  Calls Tryz.prog 15 #[.agg #[.int .i64 k,.int .i64 n,.string t,.bool b,.int .i64 e,.slice a1 rs.length c1,.slice ao ks.length cap],.string home,.string on,.bool false,.agg #[.int .i64 lk,.int .i64 la,.int .i64 lt]] W fun e' W'=>RepT W0 W (chg home.data.toList on.data.toList (mvB false lk la lt) (mvR false lk la lt) (.mk k n t.data.toList b e rs ks)) e' W':=by
 have hw0:W0.heap.size≤W.heap.size:=hq.out.size
 obtain ⟨_,cr,hrv,hr1,hr2,hr3⟩:=slx hsl.out;simp only [Value.slice.injEq]at hrv
 obtain ⟨rfl,_,rfl⟩:=hrv;have HR3:=hid hr3;have hrroom:rs.length≤9223372036854775807:=by omega
 obtain ⟨i0,hi0,hz0,hz1,hz2⟩:=inf_of info23r;clear hr3;go_enter Tryz.func15,Tryz.ntmps15
 go_wp2_with fail
 obtain ⟨V0,hV0⟩:∃ V0,V0=((((W.alloc (.cells #[.int .i64 k,.int .i64 n,.string t,.bool b,.int .i64 e,.slice a1 rs.length c1,.slice ao ks.length cap] 26)).alloc (.cells #[.int .i64 lk,.int .i64 la,.int .i64 lt] 28)).alloc (.cells #[.int .i64 0,.int .i64 0,.string ⟨#[]⟩,.bool false,.int .i64 0,.slice none 0 0,.slice none 0 0] 26)).alloc (.cells #[.int .i64 k,.int .i64 n,.string t,.bool b,.int .i64 e,.slice none 0 0,.slice none 0 0] 26)):=⟨_,rfl⟩;have HI0:Hid (SK1 W lk la lt k n t b e (.slice a1 rs.length c1) (.slice ao ks.length cap) V0 [] (.slice none 0 0)):=by
  rw [hV0];exact hid (sk1_start _ _ _ _ _ _ _ _ _ _ _ _ _ _ _)
 rw [←hV0];clear hV0;go_loopw [12,13] (fun y z wr=>∃ (i:Nat) (rv:Value) (f:ByteArray),i≤rs.length∧y=.string f∧z=.int .i64 (i:Int)∧Hid (SK1 W lk la lt k n t b e (.slice a1 rs.length c1) (.slice ao ks.length cap) wr ((rs.take i).map (mvR false lk la lt)) rv)∧Hid ((rs.take i).all (mvB false lk la lt)=true)∧Hid ((i=0→f=home)∧(0<i→f.data.toList=FT))) (fun _ z _=>rs.length-(intOf z).toNat)
 case atStart=>exact ⟨0,_,_,Nat.zero_le _,rfl,rfl,hid (by rw [List.take_zero];exact HI0.out),hid (by rfl),hid ⟨fun _=>rfl,fun h=>absurd h (by omega)⟩⟩
 case round=>
  obtain ⟨i,rv,f,hir,rfl,rfl,HS,HV,HFF⟩:=hrel;clear HI0;have HQ0:Hid (Q W0 wr):=hid (hq.out.trans HS.out.q)
  obtain ⟨e5,e6,lb,_,xb,_,_,hsz⟩:=HS.out;obtain ⟨l0,l1,l2⟩:=lb;have x5:wr.cell? ⟨W.heap.size+1+1+1,5,none⟩=some rv:=xb.g5
  clear xb;by_cases hlt:i<rs.length
  ·obtain ⟨rb,ro,rfl,hat0⟩:=HR3.out (by omega)
   obtain ⟨s0,s1,s2,s3,s4⟩:=rf5 ((hat0 i hlt).on HQ0.out);have HTK:=hid (List.take_succ_eq_append_getElem hlt);have hrb:rb<W0.heap.size:=World.block_lt_of_cell? W0 ⟨rb,ro+i*5,none⟩ (rf5 (hat0 i hlt)).1
   have hrb2:rb<wr.heap.size:=by omega
   have hrb3:rb≠wr.heap.size:=by omega
   have HMX:Hid (mayRf (mvR false lk la lt rs[i])=mvB false lk la lt rs[i]):=hid (mv_conv false lk la lt rs[i] (HMY.out _ (List.getElem_mem hlt)).1)
   have HLT:Hid ((rs[i]).1.length≤2000000):=hid (HMY.out _ (List.getElem_mem hlt)).2
   have HVI:Hid (mvB false lk la lt rs[i]=false→rs.all (mvB false lk la lt)=false):=hid (fun h=>by cases ha:rs.all (mvB false lk la lt);rfl;exact absurd (List.all_eq_true.mp ha _ (List.getElem_mem hlt)) (by rw [h];simp))
   obtain ⟨r,hr⟩:∃ r,rs[i]=r:=⟨_,rfl⟩;rw [hr]at s0 s1 s2 s3 s4 HTK HMX HLT HVI;have HR0:Hid (i=0→orT r.1 home.data.toList=FT):=hid (fun h=>by subst h;rw [←hr];exact HFT.out hlt)
   clear hr hat0;obtain ⟨T,R,C,ra,ca⟩:=r;simp only at s0 s1 s2 s3 s4
   have hn3:W.heap.size+1+1+1<wr.heap.size:=by omega
   have hn0:W.heap.size<wr.heap.size:=by omega
   have hn1:W.heap.size+1<wr.heap.size:=by omega
   have hn2:W.heap.size+1+1<wr.heap.size:=by omega
   have hlt':(i:Int)<(rs.length:Int):=by omega
   have HIX:=hid (fun (j:Int) W=>L.rindex_any lk la lt j W)
   have HLO:=hid (fun W=>lost_any W)
   rcases Nat.eq_zero_or_pos i with rfl|hip
   ·have hff:=(HFF.out.1 rfl).symm
    subst hff;simp only [Nat.zero_mul,Nat.add_zero]at s0 s1 s2 s3 s4
    by_cases hT:T=[]
    ·subst hT
     have hFT:FT=home.data.toList:=by rw [←HR0.out rfl];unfold orT;rw [if_pos rfl]
     have hf:(home.toList == on.toList)=true:=by rw [(hid (toL on)).out,(hid (toL home)).out,←hFT,HFO.out];exact beq_self_eq_true _
     cases hb:mvB false lk la lt ([],R,C,ra,ca)
     ·rw [hb]at HMX
      have HMR:Hid (∀ V,Calls Tryz.prog 32 #[.agg #[.string ⟨List.toArray []⟩,.int .i64 (R),.int .i64 (L.ix lk la lt C),.bool ra,.bool ca]] V fun e w'=>e=.returned (.bool false)∧Q V w'):=hid (fun V=>mre_at HMX.out HLT.out V)
      have HW:Hid (chg home.data.toList on.data.toList (mvB false lk la lt) (mvR false lk la lt) (.mk k n t.data.toList b e rs ks)=lostE):=hid (chg_gone HHT.out (HVI.out hb))
      go_wp2_with (first
       |(go_at_call 31;refine (HIX.out _ _).mono ?_;rintro e9 w1 ⟨rfl,q1⟩;have Q1:Hid (Q wr w1):=hid (((Q.refl _).alloc _).trans q1);have B1:=hid ((b5_new wr (.string ⟨List.toArray []⟩) (.int .i64 R) (.int .i64 C) (.bool ra) (.bool ca) 40).on q1);obtain ⟨b0,b1,b2,b3,b4,bf⟩:=B1.out;have bf1:=bf 2;have hb1:=B1.out.lt;clear q1 bf)
       |(go_at_call 32;refine (HMR.out _).mono ?_;rintro e9 w2 ⟨rfl,q2⟩;have Q2:Hid (Q wr w2):=hid ((q_over Q1.out ((Qx.refl wr.heap.size w1).own 2 (.int .i64 (L.ix lk la lt C))) (Nat.le_refl _)).trans q2);have B2:=hid ((B1.out.put2 (.int .i64 (L.ix lk la lt C))).on q2);obtain ⟨d0,d1,d2,d3,d4,_⟩:=B2.out;have hd:=B2.out.lt;have hw2:wr.heap.size≤w2.heap.size:=Q2.out.size;clear q2 b0 b1 b2 b3 b4 bf1 hb1;have x52:w2.cell? ⟨W.heap.size+1+1+1,5,none⟩=some rv:=(Q2.out.cell hn3).trans x5;have hn4:W.heap.size+1+1+1<w2.heap.size:=(by omega);have hn5:wr.heap.size<w2.heap.size:=(by omega))
       |(go_at_call 33;refine (HLO.out _).mono ?_;rintro e9 w9 ⟨rfl,q9⟩;have Q9:Hid (Q W w9):=hid ((HS.out.q.trans Q2.out).trans q9);have T9:=hid (((HS.out.call Q2.out).rb).on (Qx.of (p:=W.heap.size) q9) (by omega));clear q9;have z0:w9.cell? ⟨W.heap.size+1+1,0,none⟩=some (.int .i64 0):=T9.out.g0;have y0:w9.frozen? ⟨W.heap.size+1+1,0,none⟩=false:=T9.out.f 0;have z1:w9.cell? ⟨W.heap.size+1+1,1,none⟩=some (.int .i64 0):=T9.out.g1;have y1:w9.frozen? ⟨W.heap.size+1+1,1,none⟩=false:=T9.out.f 1;have z2:w9.cell? ⟨W.heap.size+1+1,2,none⟩=some (.string ⟨#[]⟩):=T9.out.g2;have y2:w9.frozen? ⟨W.heap.size+1+1,2,none⟩=false:=T9.out.f 2;have z3:w9.cell? ⟨W.heap.size+1+1,3,none⟩=some (.bool false):=T9.out.g3;have y3:w9.frozen? ⟨W.heap.size+1+1,3,none⟩=false:=T9.out.f 3;have z4:w9.cell? ⟨W.heap.size+1+1,4,none⟩=some (.int .i64 0):=T9.out.g4;have y4:w9.frozen? ⟨W.heap.size+1+1,4,none⟩=false:=T9.out.f 4;have z5:w9.cell? ⟨W.heap.size+1+1,5,none⟩=some (.slice none 0 0):=T9.out.g5;have y5:w9.frozen? ⟨W.heap.size+1+1,5,none⟩=false:=T9.out.f 5;have z6:w9.cell? ⟨W.heap.size+1+1,6,none⟩=some (.slice none 0 0):=T9.out.g6;have y6:w9.frozen? ⟨W.heap.size+1+1,6,none⟩=false:=T9.out.f 6))
      refine bodyPost_ret (v:=.agg #[.int .i64 4,.int .i64 0,.string ⟨#[]⟩,.bool false,.int .i64 1,.slice none 0 0,.slice none 0 0]) (by simp [results,Tryz.results15,go_sem,z0,z1,z2,z3,z4,z5,z6]) rfl ?_
      rw [HW.out];refine ⟨_,rfl,lost_rdg _ _,?_⟩
      refine q_over (p:=W.heap.size+1+1) Q9.out ?_ (by omega)
      exact (((((((Qx.refl _ _).own _ _).own _ _).own _ _).own _ _).own _ _).own _ _).own _ _
     ·rw [hb]at HMX
      have HMR:Hid (∀ V,Calls Tryz.prog 32 #[.agg #[.string ⟨List.toArray []⟩,.int .i64 (R),.int .i64 (L.ix lk la lt C),.bool ra,.bool ca]] V fun e w'=>e=.returned (.bool true)∧Q V w'):=hid (fun V=>mre_at HMX.out HLT.out V)
      go_wp2_with (first
       |(go_at_call 31;refine (HIX.out _ _).mono ?_;rintro e9 w1 ⟨rfl,q1⟩;have Q1:Hid (Q wr w1):=hid (((Q.refl _).alloc _).trans q1);have B1:=hid ((b5_new wr (.string ⟨List.toArray []⟩) (.int .i64 R) (.int .i64 C) (.bool ra) (.bool ca) 40).on q1);obtain ⟨b0,b1,b2,b3,b4,bf⟩:=B1.out;have bf1:=bf 2;have hb1:=B1.out.lt;clear q1 bf)
       |(go_at_call 32;refine (HMR.out _).mono ?_;rintro e9 w2 ⟨rfl,q2⟩;have Q2:Hid (Q wr w2):=hid ((q_over Q1.out ((Qx.refl wr.heap.size w1).own 2 (.int .i64 (L.ix lk la lt C))) (Nat.le_refl _)).trans q2);have B2:=hid ((B1.out.put2 (.int .i64 (L.ix lk la lt C))).on q2);obtain ⟨d0,d1,d2,d3,d4,_⟩:=B2.out;have hd:=B2.out.lt;have hw2:wr.heap.size≤w2.heap.size:=Q2.out.size;clear q2 b0 b1 b2 b3 b4 bf1 hb1;have x52:w2.cell? ⟨W.heap.size+1+1+1,5,none⟩=some rv:=(Q2.out.cell hn3).trans x5;have hn4:W.heap.size+1+1+1<w2.heap.size:=(by omega);have hn5:wr.heap.size<w2.heap.size:=(by omega))
       |(at_builtin;refine wpList_append_own_at _ rfl _ _ 23 rfl (W.heap.size+4) 40 i0 (.agg #[.string ⟨#[]⟩,.int .i64 0,.int .i64 0,.bool false,.bool false]) 5 40 Tryz.underlying23 hi0 hz0 hz1 hz2 rfl (by decide) _ _ _ rfl ((HS.out.call Q2.out).ow.alloc _) ⟨w2.heap.size,0,none⟩ 1 1 (rf ([],R,L.ix lk la lt C,ra,ca)) rfl rfl (news_l w2 [] (R) (L.ix lk la lt C) ra ca) (rf_one _) (by simp <;> unfold maxLen <;> omega) (by simp <;> omega) (by simp <;> omega) ?_;intro v1 w1 o1 g1 _ p1;obtain ⟨g2,k2,hv2⟩:=row_shape o1 (by omega);rw [show (List.map (mvR false lk la lt) (List.take 0 rs)).length+1=1 by simp <;> omega]at hv2;subst hv2;have O1:=hid (own_snoc' (x:=(([],R,L.ix lk la lt C,ra,ca):Rf)) o1 (by simp));have G1:=hid g1;have hj1:some (W.heap.size+1+1+1)≠Value.ownBlock rv:=(fun e=>by have:=HS.out.ow.blk _ e.symm;omega);have x51:=(g1.cell_far ⟨W.heap.size+1+1+1,5,none⟩ (by simp;omega) hj1).trans ((Q.cell ((Q2.out).alloc _) (by omega)).trans x5);have f51:=(g1.frozen_far ⟨W.heap.size+1+1+1,5,none⟩ (by simp;omega) hj1).trans ((HS.out.xb.on (Qx.of (p:=W.heap.size) ((Q2.out).alloc _)) (by omega)).f 5);clear o1 g1 p1))
      go_roundw
      case rel=>exact ⟨0+1,_,_,by omega,rfl,by go_num,hid (by rw [HTK.out,List.map_append];exact (HS.out.call Q2.out).app ([],R,L.ix lk la lt C,ra,ca) _ G1.out O1.out),hid (by rw [HTK.out,List.all_append,HV.out,Bool.true_and,List.all_cons,hb];rfl),hid ⟨fun h=>absurd h (by omega),fun _=>by first|exact hFT.symm|exact hFT⟩⟩
      case measure=>simp [intOf];omega
    ·have hTn:(T == [])=false:=by rw [beq_eq_false_iff_ne];exact hT
     have hFT:FT=T:=by rw [←HR0.out rfl];unfold orT;rw [if_neg hT]
     have hf:(T == on.toList)=true:=by rw [(hid (toL on)).out,←hFT,HFO.out];exact beq_self_eq_true _
     cases hb:mvB false lk la lt (T,R,C,ra,ca)
     ·rw [hb]at HMX
      have HMR:Hid (∀ V,Calls Tryz.prog 32 #[.agg #[.string ⟨List.toArray T⟩,.int .i64 (R),.int .i64 (L.ix lk la lt C),.bool ra,.bool ca]] V fun e w'=>e=.returned (.bool false)∧Q V w'):=hid (fun V=>mre_at HMX.out HLT.out V)
      have HW:Hid (chg home.data.toList on.data.toList (mvB false lk la lt) (mvR false lk la lt) (.mk k n t.data.toList b e rs ks)=lostE):=hid (chg_gone HHT.out (HVI.out hb))
      go_wp2_with (first
       |(go_at_call 31;refine (HIX.out _ _).mono ?_;rintro e9 w1 ⟨rfl,q1⟩;have Q1:Hid (Q wr w1):=hid (((Q.refl _).alloc _).trans q1);have B1:=hid ((b5_new wr (.string ⟨List.toArray T⟩) (.int .i64 R) (.int .i64 C) (.bool ra) (.bool ca) 40).on q1);obtain ⟨b0,b1,b2,b3,b4,bf⟩:=B1.out;have bf1:=bf 2;have hb1:=B1.out.lt;clear q1 bf)
       |(go_at_call 32;refine (HMR.out _).mono ?_;rintro e9 w2 ⟨rfl,q2⟩;have Q2:Hid (Q wr w2):=hid ((q_over Q1.out ((Qx.refl wr.heap.size w1).own 2 (.int .i64 (L.ix lk la lt C))) (Nat.le_refl _)).trans q2);have B2:=hid ((B1.out.put2 (.int .i64 (L.ix lk la lt C))).on q2);obtain ⟨d0,d1,d2,d3,d4,_⟩:=B2.out;have hd:=B2.out.lt;have hw2:wr.heap.size≤w2.heap.size:=Q2.out.size;clear q2 b0 b1 b2 b3 b4 bf1 hb1;have x52:w2.cell? ⟨W.heap.size+1+1+1,5,none⟩=some rv:=(Q2.out.cell hn3).trans x5;have hn4:W.heap.size+1+1+1<w2.heap.size:=(by omega);have hn5:wr.heap.size<w2.heap.size:=(by omega))
       |(go_at_call 33;refine (HLO.out _).mono ?_;rintro e9 w9 ⟨rfl,q9⟩;have Q9:Hid (Q W w9):=hid ((HS.out.q.trans Q2.out).trans q9);have T9:=hid (((HS.out.call Q2.out).rb).on (Qx.of (p:=W.heap.size) q9) (by omega));clear q9;have z0:w9.cell? ⟨W.heap.size+1+1,0,none⟩=some (.int .i64 0):=T9.out.g0;have y0:w9.frozen? ⟨W.heap.size+1+1,0,none⟩=false:=T9.out.f 0;have z1:w9.cell? ⟨W.heap.size+1+1,1,none⟩=some (.int .i64 0):=T9.out.g1;have y1:w9.frozen? ⟨W.heap.size+1+1,1,none⟩=false:=T9.out.f 1;have z2:w9.cell? ⟨W.heap.size+1+1,2,none⟩=some (.string ⟨#[]⟩):=T9.out.g2;have y2:w9.frozen? ⟨W.heap.size+1+1,2,none⟩=false:=T9.out.f 2;have z3:w9.cell? ⟨W.heap.size+1+1,3,none⟩=some (.bool false):=T9.out.g3;have y3:w9.frozen? ⟨W.heap.size+1+1,3,none⟩=false:=T9.out.f 3;have z4:w9.cell? ⟨W.heap.size+1+1,4,none⟩=some (.int .i64 0):=T9.out.g4;have y4:w9.frozen? ⟨W.heap.size+1+1,4,none⟩=false:=T9.out.f 4;have z5:w9.cell? ⟨W.heap.size+1+1,5,none⟩=some (.slice none 0 0):=T9.out.g5;have y5:w9.frozen? ⟨W.heap.size+1+1,5,none⟩=false:=T9.out.f 5;have z6:w9.cell? ⟨W.heap.size+1+1,6,none⟩=some (.slice none 0 0):=T9.out.g6;have y6:w9.frozen? ⟨W.heap.size+1+1,6,none⟩=false:=T9.out.f 6))
      refine bodyPost_ret (v:=.agg #[.int .i64 4,.int .i64 0,.string ⟨#[]⟩,.bool false,.int .i64 1,.slice none 0 0,.slice none 0 0]) (by simp [results,Tryz.results15,go_sem,z0,z1,z2,z3,z4,z5,z6]) rfl ?_
      rw [HW.out];refine ⟨_,rfl,lost_rdg _ _,?_⟩
      refine q_over (p:=W.heap.size+1+1) Q9.out ?_ (by omega)
      exact (((((((Qx.refl _ _).own _ _).own _ _).own _ _).own _ _).own _ _).own _ _).own _ _
     ·rw [hb]at HMX
      have HMR:Hid (∀ V,Calls Tryz.prog 32 #[.agg #[.string ⟨List.toArray T⟩,.int .i64 (R),.int .i64 (L.ix lk la lt C),.bool ra,.bool ca]] V fun e w'=>e=.returned (.bool true)∧Q V w'):=hid (fun V=>mre_at HMX.out HLT.out V)
      go_wp2_with (first
       |(go_at_call 31;refine (HIX.out _ _).mono ?_;rintro e9 w1 ⟨rfl,q1⟩;have Q1:Hid (Q wr w1):=hid (((Q.refl _).alloc _).trans q1);have B1:=hid ((b5_new wr (.string ⟨List.toArray T⟩) (.int .i64 R) (.int .i64 C) (.bool ra) (.bool ca) 40).on q1);obtain ⟨b0,b1,b2,b3,b4,bf⟩:=B1.out;have bf1:=bf 2;have hb1:=B1.out.lt;clear q1 bf)
       |(go_at_call 32;refine (HMR.out _).mono ?_;rintro e9 w2 ⟨rfl,q2⟩;have Q2:Hid (Q wr w2):=hid ((q_over Q1.out ((Qx.refl wr.heap.size w1).own 2 (.int .i64 (L.ix lk la lt C))) (Nat.le_refl _)).trans q2);have B2:=hid ((B1.out.put2 (.int .i64 (L.ix lk la lt C))).on q2);obtain ⟨d0,d1,d2,d3,d4,_⟩:=B2.out;have hd:=B2.out.lt;have hw2:wr.heap.size≤w2.heap.size:=Q2.out.size;clear q2 b0 b1 b2 b3 b4 bf1 hb1;have x52:w2.cell? ⟨W.heap.size+1+1+1,5,none⟩=some rv:=(Q2.out.cell hn3).trans x5;have hn4:W.heap.size+1+1+1<w2.heap.size:=(by omega);have hn5:wr.heap.size<w2.heap.size:=(by omega))
       |(at_builtin;refine wpList_append_own_at _ rfl _ _ 23 rfl (W.heap.size+4) 40 i0 (.agg #[.string ⟨#[]⟩,.int .i64 0,.int .i64 0,.bool false,.bool false]) 5 40 Tryz.underlying23 hi0 hz0 hz1 hz2 rfl (by decide) _ _ _ rfl ((HS.out.call Q2.out).ow.alloc _) ⟨w2.heap.size,0,none⟩ 1 1 (rf (T,R,L.ix lk la lt C,ra,ca)) rfl rfl (news_l w2 T (R) (L.ix lk la lt C) ra ca) (rf_one _) (by simp <;> unfold maxLen <;> omega) (by simp <;> omega) (by simp <;> omega) ?_;intro v1 w1 o1 g1 _ p1;obtain ⟨g2,k2,hv2⟩:=row_shape o1 (by omega);rw [show (List.map (mvR false lk la lt) (List.take 0 rs)).length+1=1 by simp <;> omega]at hv2;subst hv2;have O1:=hid (own_snoc' (x:=((T,R,L.ix lk la lt C,ra,ca):Rf)) o1 (by simp));have G1:=hid g1;have hj1:some (W.heap.size+1+1+1)≠Value.ownBlock rv:=(fun e=>by have:=HS.out.ow.blk _ e.symm;omega);have x51:=(g1.cell_far ⟨W.heap.size+1+1+1,5,none⟩ (by simp;omega) hj1).trans ((Q.cell ((Q2.out).alloc _) (by omega)).trans x5);have f51:=(g1.frozen_far ⟨W.heap.size+1+1+1,5,none⟩ (by simp;omega) hj1).trans ((HS.out.xb.on (Qx.of (p:=W.heap.size) ((Q2.out).alloc _)) (by omega)).f 5);clear o1 g1 p1))
      go_roundw
      case rel=>exact ⟨0+1,_,_,by omega,rfl,by go_num,hid (by rw [HTK.out,List.map_append];exact (HS.out.call Q2.out).app (T,R,L.ix lk la lt C,ra,ca) _ G1.out O1.out),hid (by rw [HTK.out,List.all_append,HV.out,Bool.true_and,List.all_cons,hb];rfl),hid ⟨fun h=>absurd h (by omega),fun _=>by first|exact hFT.symm|exact hFT⟩⟩
      case measure=>simp [intOf];omega
   ·have hi0':((i:Int) == 0)=false:=by rw [beq_eq_false_iff_ne];omega
    have hine:¬ (i:Int)=0:=by omega
    have hFT:f.data.toList=FT:=HFF.out.2 hip
    have hf:(f.toList == on.toList)=true:=by rw [(hid (toL on)).out,(hid (toL f)).out,hFT,HFO.out];exact beq_self_eq_true _
    cases hb:mvB false lk la lt (T,R,C,ra,ca)
    ·rw [hb]at HMX
     have HMR:Hid (∀ V,Calls Tryz.prog 32 #[.agg #[.string ⟨List.toArray T⟩,.int .i64 (R),.int .i64 (L.ix lk la lt C),.bool ra,.bool ca]] V fun e w'=>e=.returned (.bool false)∧Q V w'):=hid (fun V=>mre_at HMX.out HLT.out V)
     have HW:Hid (chg home.data.toList on.data.toList (mvB false lk la lt) (mvR false lk la lt) (.mk k n t.data.toList b e rs ks)=lostE):=hid (chg_gone HHT.out (HVI.out hb))
     go_wp2_with (first
      |(go_at_call 31;refine (HIX.out _ _).mono ?_;rintro e9 w1 ⟨rfl,q1⟩;have Q1:Hid (Q wr w1):=hid (((Q.refl _).alloc _).trans q1);have B1:=hid ((b5_new wr (.string ⟨List.toArray T⟩) (.int .i64 R) (.int .i64 C) (.bool ra) (.bool ca) 40).on q1);obtain ⟨b0,b1,b2,b3,b4,bf⟩:=B1.out;have bf1:=bf 2;have hb1:=B1.out.lt;clear q1 bf)
      |(go_at_call 32;refine (HMR.out _).mono ?_;rintro e9 w2 ⟨rfl,q2⟩;have Q2:Hid (Q wr w2):=hid ((q_over Q1.out ((Qx.refl wr.heap.size w1).own 2 (.int .i64 (L.ix lk la lt C))) (Nat.le_refl _)).trans q2);have B2:=hid ((B1.out.put2 (.int .i64 (L.ix lk la lt C))).on q2);obtain ⟨d0,d1,d2,d3,d4,_⟩:=B2.out;have hd:=B2.out.lt;have hw2:wr.heap.size≤w2.heap.size:=Q2.out.size;clear q2 b0 b1 b2 b3 b4 bf1 hb1;have x52:w2.cell? ⟨W.heap.size+1+1+1,5,none⟩=some rv:=(Q2.out.cell hn3).trans x5;have hn4:W.heap.size+1+1+1<w2.heap.size:=(by omega);have hn5:wr.heap.size<w2.heap.size:=(by omega))
      |(go_at_call 33;refine (HLO.out _).mono ?_;rintro e9 w9 ⟨rfl,q9⟩;have Q9:Hid (Q W w9):=hid ((HS.out.q.trans Q2.out).trans q9);have T9:=hid (((HS.out.call Q2.out).rb).on (Qx.of (p:=W.heap.size) q9) (by omega));clear q9;have z0:w9.cell? ⟨W.heap.size+1+1,0,none⟩=some (.int .i64 0):=T9.out.g0;have y0:w9.frozen? ⟨W.heap.size+1+1,0,none⟩=false:=T9.out.f 0;have z1:w9.cell? ⟨W.heap.size+1+1,1,none⟩=some (.int .i64 0):=T9.out.g1;have y1:w9.frozen? ⟨W.heap.size+1+1,1,none⟩=false:=T9.out.f 1;have z2:w9.cell? ⟨W.heap.size+1+1,2,none⟩=some (.string ⟨#[]⟩):=T9.out.g2;have y2:w9.frozen? ⟨W.heap.size+1+1,2,none⟩=false:=T9.out.f 2;have z3:w9.cell? ⟨W.heap.size+1+1,3,none⟩=some (.bool false):=T9.out.g3;have y3:w9.frozen? ⟨W.heap.size+1+1,3,none⟩=false:=T9.out.f 3;have z4:w9.cell? ⟨W.heap.size+1+1,4,none⟩=some (.int .i64 0):=T9.out.g4;have y4:w9.frozen? ⟨W.heap.size+1+1,4,none⟩=false:=T9.out.f 4;have z5:w9.cell? ⟨W.heap.size+1+1,5,none⟩=some (.slice none 0 0):=T9.out.g5;have y5:w9.frozen? ⟨W.heap.size+1+1,5,none⟩=false:=T9.out.f 5;have z6:w9.cell? ⟨W.heap.size+1+1,6,none⟩=some (.slice none 0 0):=T9.out.g6;have y6:w9.frozen? ⟨W.heap.size+1+1,6,none⟩=false:=T9.out.f 6))
     refine bodyPost_ret (v:=.agg #[.int .i64 4,.int .i64 0,.string ⟨#[]⟩,.bool false,.int .i64 1,.slice none 0 0,.slice none 0 0]) (by simp [results,Tryz.results15,go_sem,z0,z1,z2,z3,z4,z5,z6]) rfl ?_
     rw [HW.out];refine ⟨_,rfl,lost_rdg _ _,?_⟩
     refine q_over (p:=W.heap.size+1+1) Q9.out ?_ (by omega)
     exact (((((((Qx.refl _ _).own _ _).own _ _).own _ _).own _ _).own _ _).own _ _).own _ _
    ·rw [hb]at HMX
     have HMR:Hid (∀ V,Calls Tryz.prog 32 #[.agg #[.string ⟨List.toArray T⟩,.int .i64 (R),.int .i64 (L.ix lk la lt C),.bool ra,.bool ca]] V fun e w'=>e=.returned (.bool true)∧Q V w'):=hid (fun V=>mre_at HMX.out HLT.out V)
     go_wp2_with (first
      |(go_at_call 31;refine (HIX.out _ _).mono ?_;rintro e9 w1 ⟨rfl,q1⟩;have Q1:Hid (Q wr w1):=hid (((Q.refl _).alloc _).trans q1);have B1:=hid ((b5_new wr (.string ⟨List.toArray T⟩) (.int .i64 R) (.int .i64 C) (.bool ra) (.bool ca) 40).on q1);obtain ⟨b0,b1,b2,b3,b4,bf⟩:=B1.out;have bf1:=bf 2;have hb1:=B1.out.lt;clear q1 bf)
      |(go_at_call 32;refine (HMR.out _).mono ?_;rintro e9 w2 ⟨rfl,q2⟩;have Q2:Hid (Q wr w2):=hid ((q_over Q1.out ((Qx.refl wr.heap.size w1).own 2 (.int .i64 (L.ix lk la lt C))) (Nat.le_refl _)).trans q2);have B2:=hid ((B1.out.put2 (.int .i64 (L.ix lk la lt C))).on q2);obtain ⟨d0,d1,d2,d3,d4,_⟩:=B2.out;have hd:=B2.out.lt;have hw2:wr.heap.size≤w2.heap.size:=Q2.out.size;clear q2 b0 b1 b2 b3 b4 bf1 hb1;have x52:w2.cell? ⟨W.heap.size+1+1+1,5,none⟩=some rv:=(Q2.out.cell hn3).trans x5;have hn4:W.heap.size+1+1+1<w2.heap.size:=(by omega);have hn5:wr.heap.size<w2.heap.size:=(by omega))
      |(at_builtin;refine wpList_append_own_at _ rfl _ _ 23 rfl (W.heap.size+4) 40 i0 (.agg #[.string ⟨#[]⟩,.int .i64 0,.int .i64 0,.bool false,.bool false]) 5 40 Tryz.underlying23 hi0 hz0 hz1 hz2 rfl (by decide) _ _ _ rfl ((HS.out.call Q2.out).ow.alloc _) ⟨w2.heap.size,0,none⟩ 1 1 (rf (T,R,L.ix lk la lt C,ra,ca)) rfl rfl (news_l w2 T (R) (L.ix lk la lt C) ra ca) (rf_one _) (by simp <;> unfold maxLen <;> omega) (by simp <;> omega) (by simp <;> omega) ?_;intro v1 w1 o1 g1 _ p1;obtain ⟨g2,k2,hv2⟩:=row_shape o1 (by omega);rw [show (List.map (mvR false lk la lt) (List.take i rs)).length+1=i+1 by simp <;> omega]at hv2;subst hv2;have O1:=hid (own_snoc' (x:=((T,R,L.ix lk la lt C,ra,ca):Rf)) o1 (by simp));have G1:=hid g1;have hj1:some (W.heap.size+1+1+1)≠Value.ownBlock rv:=(fun e=>by have:=HS.out.ow.blk _ e.symm;omega);have x51:=(g1.cell_far ⟨W.heap.size+1+1+1,5,none⟩ (by simp;omega) hj1).trans ((Q.cell ((Q2.out).alloc _) (by omega)).trans x5);have f51:=(g1.frozen_far ⟨W.heap.size+1+1+1,5,none⟩ (by simp;omega) hj1).trans ((HS.out.xb.on (Qx.of (p:=W.heap.size) ((Q2.out).alloc _)) (by omega)).f 5);clear o1 g1 p1))
     go_roundw
     case rel=>exact ⟨i+1,_,_,by omega,rfl,by go_num,hid (by rw [HTK.out,List.map_append];exact (HS.out.call Q2.out).app (T,R,L.ix lk la lt C,ra,ca) _ G1.out O1.out),hid (by rw [HTK.out,List.all_append,HV.out,Bool.true_and,List.all_cons,hb];rfl),hid ⟨fun h=>absurd h (by omega),fun _=>by first|exact hFT.symm|exact hFT⟩⟩
     case measure=>simp [intOf];omega
  ·have hex:¬ (i:Int)<(rs.length:Int):=by omega
   obtain ⟨M,hM⟩:∃ M,M=wr.heap.size:=⟨_,rfl⟩;have HI2:Hid (SK2 W0 W M lk la lt k n t b e (.slice ao ks.length cap) ((rs.take i).map (mvR false lk la lt)) rv wr [] [] (.slice none 0 0)):=hid (by rw [hM];exact HS.out.two)
   obtain ⟨Rz,hRz⟩:∃ Rz,(rs.take i).map (mvR false lk la lt)=Rz:=⟨_,rfl⟩;have HFZ:Hid (chg home.data.toList on.data.toList (mvB false lk la lt) (mvR false lk la lt) (.mk k n t.data.toList b e rs ks)=.mk k n t.data.toList b e Rz (ks.map (chg home.data.toList on.data.toList (mvB false lk la lt) (mvR false lk la lt)))):=hid (by rw [←hRz,List.take_of_length_le (by omega)];rw [chg_hit HHT.out (by have h:=HV.out;rw [List.take_of_length_le (by omega)]at h;exact h)])
   rw [hRz]at HI2;obtain ⟨az,cz,hrz,_⟩:=HI2.out.sl.sl.len;subst hrz;obtain ⟨lz,hlz⟩:∃ lz,Rz.length=lz:=⟨_,rfl⟩;rw [hlz]at HI2;clear HS HV hM hRz hlz e6 l0 l1 l2 x5 HQ0 HFF;go_wp2_with fail
   go_loopw [15] (fun z wr=>∃ (i:Nat) (ks2:List Ex) (Ls:List V7) (kv:Value),i≤ks.length∧z=.int .i64 (i:Int)∧SK2 W0 W M lk la lt k n t b e (.slice ao ks.length cap) Rz (.slice az lz cz) wr ks2 Ls kv∧Hid (ks2=(ks.take i).map (chg home.data.toList on.data.toList (mvB false lk la lt) (mvR false lk la lt)))∧Hid (Ls.length≤i)) (fun z _=>ks.length-(intOf z).toNat)
   case atStart=>exact ⟨0,[],[],_,Nat.zero_le _,rfl,HI2.out,hid (by simp),hid (by simp)⟩
   case round=>
    obtain ⟨i,ks2,Ls,kv,hi,rfl,hS,HC,HLN⟩:=hrel;clear HI2;have HS:=hid hS;have e6:=hS.eb6;obtain ⟨l0,l1,l2⟩:=hS.lb;have hsz:=hS.sz;have hmm:=hS.mm;have HQ0:Hid (Q W0 wr):=hid (hq.out.trans hS.q)
    have hroom:ks.length≤9223372036854775807:=by omega
    by_cases hlt:i<ks.length
    ·have i1:(i:Int)<(ks.length:Int):=by omega
     have hne:ks≠[]:=by intro h;rw [h]at hlt;simp at hlt
     obtain ⟨bb,off,rfl,hrl⟩:=hkd.out hne;obtain ⟨d0,d1,d2,d3,d4,d5,d6,hk0⟩:=hrl.kid i hlt;obtain ⟨g0,g1,g2,g3,g4,g5,g6⟩:=hk0.cells HQ0.out;have x6:wr.cell? ⟨W.heap.size+1+1+1,6,none⟩=some kv:=hS.xb.g6
     have HKP:Hid (∀ V,Q wr V→(V.cell? ⟨W.heap.size,6,none⟩=some (.slice (some ⟨bb,off,none⟩) ks.length cap)∧V.cell? ⟨W.heap.size+1+1+1,6,none⟩=some kv∧V.cell? ⟨bb,off+i*7,none⟩=some d0∧V.cell? ⟨bb,off+i*7+1,none⟩=some d1∧V.cell? ⟨bb,off+i*7+2,none⟩=some d2∧V.cell? ⟨bb,off+i*7+3,none⟩=some d3∧V.cell? ⟨bb,off+i*7+4,none⟩=some d4∧V.cell? ⟨bb,off+i*7+5,none⟩=some d5∧V.cell? ⟨bb,off+i*7+6,none⟩=some d6)):=hid (fun V q=>ks_on q ⟨e6,x6,g0,g1,g2,g3,g4,g5,g6⟩)
     have HIK:Hid (∀ V,Q wr V→Calls Tryz.prog 15 #[.agg #[d0,d1,d2,d3,d4,d5,d6],.string home,.string on,.bool false,.agg #[.int .i64 lk,.int .i64 la,.int .i64 lt]] V fun e W'=>RepT W0 V (chg home.data.toList on.data.toList (mvB false lk la lt) (mvR false lk la lt) ks[i]) e W'):=hid (fun V q=>IH.out i hlt (.agg #[d0,d1,d2,d3,d4,d5,d6]) V hk0.rd (HQ0.out.trans q))
     have hbb:bb<W0.heap.size:=World.block_lt_of_cell? W0 ⟨bb,off+i*7,none⟩ hk0.g0
     have hkb:=HS.out.ow.blk;have hkE:some W.heap.size≠kv.ownBlock:=fun e=>by have:=hkb _ e.symm;omega
     have hkX:some (W.heap.size+1+1+1)≠kv.ownBlock:=fun e=>by have:=hkb _ e.symm;omega
     have hkB:some bb≠kv.ownBlock:=fun e=>by have:=hkb _ e.symm;omega
     have hLL:Ls.length≤1000:=by have:=HLN.out;omega
     obtain ⟨j0,hj0,hy0,hy1,hy2⟩:=inf_of info28;obtain ⟨s1,s2,s3,s4,s5,s6,s7,s8,s9,s10,s11,hsh⟩:=hk0.rd.shape;simp only [Value.agg.injEq,Array.mk.injEq,List.cons.injEq,and_true]at hsh
     obtain ⟨rfl,rfl,rfl,rfl,rfl,rfl,rfl⟩:=hsh;clear hS;go_wp2_with fail
     go_region_law (first|(refine step_append_lies _ (by rfl) _ _ _ (by rfl) M 26 j0 (.agg #[.int .i64 0,.int .i64 0,.string ⟨#[]⟩,.bool false,.int .i64 0,.slice none 0 0,.slice none 0 0]) 7 96 Tryz.underlying24 hj0 hy0 hy1 hy2 rfl (by decide) kv Ls.length (flat enc7 Ls) (by rfl) (((HS.out.ow.on Q8.out).alloc _).on (by repeat (first|with_reducible exact Q.refl _|with_reducible refine Q.drewN ?_ _|with_reducible refine Q.drew ?_))) ⟨w8.heap.size,0,none⟩ 1 1 [.int .i64 k8,.int .i64 m8,.string t8,.bool bb8,.int .i64 er8,.slice a18 l18 c18,.slice a28 l28 c28] (by rfl) (by rfl) (World.news_of_block (cs:=#[.int .i64 k8,.int .i64 m8,.string t8,.bool bb8,.int .i64 er8,.slice a18 l18 c18,.slice a28 l28 c28]) (t:=26) (fr:=(0,0)) (MapKept.heap_alloc w8 _).1) (one7 _ _ _ _ _ _ _ _ _ _ _) (by omega) (by unfold maxLen;omega) (by omega) (by simp;omega) (w8.heap.size+1) (by simp) ?_;intro g9 cap9 w9 hown9 hgrow9 hat9 hlt9;have HZ9:=hid hown9;have HG9:=hid hgrow9;have HA9:=hid hat9;have HK9:=hid (ks_grown hgrow9 hkE hkX hkB (HK8.out _ ((Q.refl _).alloc _)));have x69:w9.cell? ⟨W.heap.size+1+1+1,6,none⟩=some kv:=HK9.out.2.1;have f69:w9.frozen? ⟨W.heap.size+1+1+1,6,none⟩=false:=(hgrow9.frozen_far ⟨W.heap.size+1+1+1,6,none⟩ (by simp;omega) hkX).trans ((T8.out.on ((Qx.refl W.heap.size _).alloc _) (by omega)).f 6);clear hown9 hgrow9 hat9)|(go_simp;refine (HIK.out _ (by repeat (first|with_reducible exact Q.refl _|with_reducible refine Q.drewN ?_ _|with_reducible refine Q.drew ?_))).mono ?_;rintro e8 w8 ⟨v8,rfl,hr8,q8⟩;obtain ⟨k8,m8,t8,bb8,er8,a18,l18,c18,a28,l28,c28,rfl⟩:=hr8.shape;have R8:=hid (Rdg.mono (g':=fun b=>b<W0.heap.size∨wr.heap.size≤b) (fun b hb=>hb) _ _ hr8);have Q8:Hid (Q wr w8):=hid (Q.trans (by repeat (first|with_reducible exact Q.refl _|with_reducible refine Q.drewN ?_ _|with_reducible refine Q.drew ?_)) q8);have HK8:Hid (∀ V,Q w8 V→_):=hid (fun V q=>HKP.out V (Q8.out.trans q));have T8:=hid (HS.out.xb.on (Qx.of (p:=W.heap.size) Q8.out) (by omega));obtain ⟨y1,y2,y3,y4,y5,y6,y7,y8,y9⟩:=HK8.out _ (Q.refl _);have hw8:wr.heap.size≤w8.heap.size:=Q8.out.size;have hlx:W.heap.size+1+1+1<w8.heap.size:=(by omega);have hlE:W.heap.size<w8.heap.size:=(by omega);clear hr8 q8))
     all_goals go_wp2_with fail
     all_goals go_roundw
     all_goals first
      |(simp [intOf];omega)
      |exact ⟨i+1,ks2++[chg home.data.toList on.data.toList (mvB false lk la lt) (mvR false lk la lt) ks[i]],Ls++[⟨.int .i64 k8,.int .i64 m8,.string t8,.bool bb8,.int .i64 er8,.slice a18 l18 c18,.slice a28 l28 c28⟩],.slice (some ⟨g9,0,none⟩) (Ls.length+1) cap9,by omega,by go_num,(HS.out.call hw0 Q8.out).app hw0 hsz HS.out.ow.lt _ ⟨.int .i64 k8,.int .i64 m8,.string t8,.bool bb8,.int .i64 er8,.slice a18 l18 c18,.slice a28 l28 c28⟩ R8.out _ HG9.out (own_snoc' (x:=(⟨.int .i64 k8,.int .i64 m8,.string t8,.bool bb8,.int .i64 er8,.slice a18 l18 c18,.slice a28 l28 c28⟩:V7)) HZ9.out rfl) (lies_of HA9.out (by simp)),hid (by rw [HC.out,List.take_succ_eq_append_getElem hlt,List.map_append];rfl),hid (by have:=HLN.out;simp;omega)⟩
    ·obtain ⟨ak,ck,hkv,_⟩:=(hS.ow.sl enc7_len (by have:=HLN.out;omega)).len
     subst hkv;have HF:Hid (chg home.data.toList on.data.toList (mvB false lk la lt) (mvR false lk la lt) (.mk k n t.data.toList b e rs ks)=.mk k n t.data.toList b e Rz ks2):=hid (by rw [HFZ.out,HC.out,List.take_of_length_le (by omega)])
     have x0:wr.cell? ⟨W.heap.size+1+1+1,0,none⟩=some (.int .i64 k):=hS.xb.g0
     have x1:wr.cell? ⟨W.heap.size+1+1+1,1,none⟩=some (.int .i64 n):=hS.xb.g1
     have x2:wr.cell? ⟨W.heap.size+1+1+1,2,none⟩=some (.string t):=hS.xb.g2
     have x3:wr.cell? ⟨W.heap.size+1+1+1,3,none⟩=some (.bool b):=hS.xb.g3
     have x4:wr.cell? ⟨W.heap.size+1+1+1,4,none⟩=some (.int .i64 e):=hS.xb.g4
     have x5:wr.cell? ⟨W.heap.size+1+1+1,5,none⟩=some (.slice az lz cz):=hS.xb.g5
     have x6:wr.cell? ⟨W.heap.size+1+1+1,6,none⟩=some (.slice ak Ls.length ck):=hS.xb.g6
     have z0:wr.cell? ⟨W.heap.size+1+1,0,none⟩=some (.int .i64 0):=hS.rb.g0
     have y0:wr.frozen? ⟨W.heap.size+1+1,0,none⟩=false:=hS.rb.f 0
     have z1:wr.cell? ⟨W.heap.size+1+1,1,none⟩=some (.int .i64 0):=hS.rb.g1
     have y1:wr.frozen? ⟨W.heap.size+1+1,1,none⟩=false:=hS.rb.f 1
     have z2:wr.cell? ⟨W.heap.size+1+1,2,none⟩=some (.string ⟨#[]⟩):=hS.rb.g2
     have y2:wr.frozen? ⟨W.heap.size+1+1,2,none⟩=false:=hS.rb.f 2
     have z3:wr.cell? ⟨W.heap.size+1+1,3,none⟩=some (.bool false):=hS.rb.g3
     have y3:wr.frozen? ⟨W.heap.size+1+1,3,none⟩=false:=hS.rb.f 3
     have z4:wr.cell? ⟨W.heap.size+1+1,4,none⟩=some (.int .i64 0):=hS.rb.g4
     have y4:wr.frozen? ⟨W.heap.size+1+1,4,none⟩=false:=hS.rb.f 4
     have z5:wr.cell? ⟨W.heap.size+1+1,5,none⟩=some (.slice none 0 0):=hS.rb.g5
     have y5:wr.frozen? ⟨W.heap.size+1+1,5,none⟩=false:=hS.rb.f 5
     have z6:wr.cell? ⟨W.heap.size+1+1,6,none⟩=some (.slice none 0 0):=hS.rb.g6
     have y6:wr.frozen? ⟨W.heap.size+1+1,6,none⟩=false:=hS.rb.f 6
     have i1:¬ (i:Int)<(ks.length:Int):=by omega
     clear HC hS;go_wp2_with fail
     refine bodyPost_ret (v:=.agg #[.int .i64 k,.int .i64 n,.string t,.bool b,.int .i64 e,.slice az lz cz,.slice ak Ls.length ck]) (by simp [results,Tryz.results15,go_sem,z0,z1,z2,z3,z4,z5,z6]) rfl ?_
     rw [HF.out];exact sk_end HS.out rfl hw0
end Go.Proofs.YtoikodohcieipaaGreatDoor
