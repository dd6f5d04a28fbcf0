/- rewrite.change: references tha. -/
import Derived.Test.YtoikodohcieipaaGreatDoorKh35
import Derived.Test.YtoikodohcieipaaGreatDoorKh01
import Derived.Test.YtoikodohcieipaaGreatDoorKh19
set_option linter.unusedVariables false
set_option linter.unusedSimpArgs false
set_option maxRecDepth 100000
set_option maxHeartbeats 8000000
namespace Go.Proofs.YtoikodohcieipaaGreatDoor
open Go.RowKit
theorem change_h0(home on:ByteArray)(pr pl:Nat)(rows:Bool)(k a t:Int)
  (k' n':Int) (t':List UInt8) (b':Bool) (e':Int) (rs:List Rf) (ks:List Ex) (W:World) (p o lo hi m:Nat) (rv:Value) (ao:Option Addr) (cap:Nat)
  (HN:Hid (Nd W p o (.int .i64 k') (.int .i64 n') (.string ⟨t'.toArray⟩) (.bool b') (.int .i64 e') rv (.slice ao ks.length cap))) (HR:Hid (OwR W rv rs lo m)) (HM:Hid (m≤hi)) (HC:Hid (ks.length≤cap∧cap≤maxLen))
  (HSZ:Hid (hi≤W.heap.size)) (HPO:Hid (p<lo∨hi≤p)) (HLV:Hid (Lv W pr pl rows k a t)) (HPP:Hid ((pr<lo∨hi≤pr)∧(pl<lo∨hi≤pl)∧pr≠p∧pl≠p))
  (r0:Rf) (rs':List Rf) (HRS:Hid (rs=r0::rs'))
  (HH:Hid (orT r0.1 home.data.toList=on.data.toList))
  (hks:ks=[]) :
  Calls Tryz.prog 26 #[.pointer (some ⟨p,o,none⟩),.string home,.string on,.func (.func 27) #[] #[.pointer (some ⟨pr,0,none⟩),.pointer (some ⟨pl,0,none⟩)]] W fun e W'=>(∃ u,e=.returned u)∧Cd home.data.toList on.data.toList (mvB rows k a t) (mvR rows k a t) W W' (.mk k' n' t' b' e' rs ks) p o lo hi:=by
 subst hks;obtain ⟨_,ar,cr,hrv,hr1,hr2,hr3⟩:=HR.out;subst hrv;have hpos:(0:Int)<(rs.length:Int):=by rw [HRS.out,List.length_cons];omega
 obtain ⟨g,rfl,hg1,hg2,hg3,hg4⟩:=hr3 (by omega)
 have hs0:W.cell? ⟨g,0,none⟩=some (.string ⟨r0.1.toArray⟩):=by
  have h0:=hg4 0 (by omega) 0 (.string ⟨r0.1.toArray⟩) (by
   have:rs[0]'(by omega)=r0:=by
    have h:=HRS.out;subst h
    rfl
   rw [this]
   rfl)
  simpa using h0
 have HG:Hid (lo≤g∧g<m∧m≤hi∧lo≤m):=hid ⟨hg1,hg2,HM.out,HR.out.1⟩
 have HO:=hid (fun b W=>or_any b ⟨r0.1.toArray⟩ home W)
 have hroomr:rs.length≤9223372036854775807:=by unfold maxLen at hr2;omega
 obtain ⟨g0,g1,g2,g3,g4,g5,g6,_⟩:=HN.out;have hplt:p<W.heap.size:=HN.out.pl.lt
 have hglt:g<W.heap.size:=hg3.lt
 have qa:Q W (W.alloc (.cells #[.string ⟨r0.1.toArray⟩,.string home] 9)):=(Q.refl _).alloc _
 have HNA:=hid (HN.out.on qa);have HLA:=hid (HLV.out.blk (Q.block qa HLV.out.lt.1) (Q.block qa HLV.out.lt.2));have HCA:Hid (Chd W (W.alloc (.cells #[.string ⟨r0.1.toArray⟩,.string home] 9)) p o lo hi):=hid ⟨Qp.of qa,fun j _=>qa.cell HN.out.pl.lt⟩
 have HE:Hid (cap≤maxLen∧m≤hi):=hid ⟨HC.out.2,HM.out⟩
 have hf:(orT r0.1 home.data.toList == on.toList)=true:=by rw [(hid (toL on)).out,HH.out];exact beq_self_eq_true _
 have HHT:Hid (hit home.data.toList on.data.toList rs=true):=hid (by rw [HRS.out];simp only [hit];exact decide_eq_true HH.out)
 have HR0:Hid (Rfc (mvR rows k a t) (W.alloc (.cells #[.string ⟨r0.1.toArray⟩,.string home] 9)) (W.alloc (.cells #[.string ⟨r0.1.toArray⟩,.string home] 9)) rs 0 g):=hid ⟨by rw [List.take_zero,List.map_nil,List.nil_append,List.drop_zero];exact Rl.on ⟨hg3,hg4⟩ qa,Qp.refl _ _⟩
 obtain ⟨T,hT⟩:∃ T,orT r0.1 home.data.toList=T:=⟨_,rfl⟩;rw [hT]at hf;have HT:Hid ((⟨T.toArray⟩:ByteArray)=⟨(orT (⟨r0.1.toArray⟩:ByteArray).data.toList home.data.toList).toArray⟩):=hid (by rw [←hT])
 have HQA:=hid qa;clear hg3 hg4 hr3 qa hT;go_enter Tryz.func26,Tryz.ntmps26
 go_wp2_with (go_at_call 52;refine (HO.out W.heap.size _ (by simp) (by simp)).mono ?_;rintro e9 w9 ⟨rfl,rfl⟩;rw [←HT.out])
 go_loopw [35,8] (fun x _ V=>∃ i:Nat,i≤rs.length∧x=.int .i64 (i:Int)∧Hid (Rfc (mvR rows k a t) (W.alloc (.cells #[.string ⟨r0.1.toArray⟩,.string home] 9)) V rs i g)∧Hid ((rs.take i).all (mvB rows k a t)=true)) (fun x _ _=>rs.length-(intOf x).toNat)
 case atStart=>exact ⟨0,Nat.zero_le _,rfl,HR0,hid (by rw [List.take_zero];rfl)⟩
 case round=>
  obtain ⟨i,hir,rfl,hR,hA⟩:=hrel;obtain ⟨V1,hV1⟩:∃ V1,V1=wr:=⟨wr,rfl⟩;subst hV1;have HBL:Hid (∀ j,j<W.heap.size→j≠g→V1.heap[j]?=W.heap[j]?):=hid (fun j hj hne=>(hR.out.q.block j (Q.lt HQA.out hj) hne).trans (Q.block HQA.out hj))
  have hpg:p≠g:=by have:=HG.out;have:=HPO.out;omega
  have HN1:=hid (HN.out.blk (HBL.out p HN.out.pl.lt hpg));have HLV1:=hid (HLV.out.blk (HBL.out pr HLV.out.lt.1 (by have:=HG.out;have:=HPP.out;omega)) (HBL.out pl HLV.out.lt.2 (by have:=HG.out;have:=HPP.out;omega)))
  have HC1:Hid (Chd W V1 p o lo hi):=hid ⟨HCA.out.q.after hR.out.q (fun j _ e=>.inr (by have:=HG.out;omega)),fun j hj=>World.cell?_of_block (HBL.out p HN.out.pl.lt hpg)⟩
  obtain ⟨z0,z1,z2,z3,z4,z5,z6,_⟩:=HN1.out;by_cases hlt:i<rs.length
  ·have HTO:=hid (to_any pr pl g (i*5) rs[i] rows k a t V1 HLV1.out hR.out.rl.pl (hR.out.at_ hlt))
   cases hb:mvB rows k a t rs[i]
   ·rw [hb]at HTO
    have HL:Hid ((hit home.data.toList on.data.toList rs&&!rs.all (mvB rows k a t))=true):=hid (by
     rw [HHT.out,Bool.true_and,Bool.not_eq_true'];rw [List.all_eq_false];exact ⟨rs[i],List.getElem_mem hlt,by rw [hb];simp⟩)
    clear hA hb;go_wp2_with (go_at_call 27;refine HTO.out.mono ?_;rintro e9 w9 ⟨rfl,m9⟩;have N9:=hid (HN1.out.blk (m9.q.block p HN1.out.pl.lt hpg));have C9:Hid (Chd W w9 p o lo hi):=hid ⟨HC1.out.q.after m9.q (fun j _ e=>.inr (by have:=HG.out;omega)),fun j hj=>(World.cell?_of_block (m9.q.block p HN1.out.pl.lt hpg)).trans (HC1.out.c j hj)⟩;clear m9;obtain ⟨v0,v1,v2,v3,v4,v5,v6,vp⟩:=N9.out;have y0:=vp.frozen o;have y1:=vp.frozen (o+1);have y2:=vp.frozen (o+2);have y3:=vp.frozen (o+3);have y4:=vp.frozen (o+4);have y5:=vp.frozen (o+5);have y6:=vp.frozen (o+6);clear vp)
    refine bodyPost_ret (v:=.tuple #[]) (by simp [results,Tryz.results26,go_sem]) rfl ?_
    exact ⟨⟨_,rfl⟩,cd_lost C9.out N9.out HL.out (by have:=HG.out;omega)⟩
   ·rw [hb]at HTO
    have HA2:Hid ((rs.take (i+1)).all (mvB rows k a t)=true):=hid (by rw [List.take_succ_eq_append_getElem hlt,List.all_append,hA.out];simp [hb])
    clear hA hb;go_wp2_with (go_at_call 27;refine HTO.out.mono ?_;rintro e9 w9 ⟨rfl,m9⟩;have R9:=hid (hR.out.step hlt m9);clear m9)
    go_roundw
    case rel=>exact ⟨i+1,by omega,by go_num,R9,HA2⟩
    case measure=>simp [intOf];omega
  ·skip
   have hi2:i=rs.length:=by omega
   subst hi2;have HNV:=HN1;have HLVV:=HLV1;have HCV:=HC1;have HL:Hid ((hit home.data.toList on.data.toList rs&&!rs.all (mvB rows k a t))=false):=hid (by
    have h:=hA.out;rw [List.take_length]at h;rw [h];simp)
   have HRV:Hid (OwR V1 (.slice (some ⟨g,0,none⟩) rs.length cr) (if hit home.data.toList on.data.toList rs=true then rs.map (mvR rows k a t) else rs) lo m):=hid (by
    rw [if_pos HHT.out];have h:=hR.out.rl;rw [List.take_length,List.drop_length,List.append_nil]at h;refine ⟨HG.out.2.2.2,some ⟨g,0,none⟩,cr,by rw [List.length_map],by rw [List.length_map];exact hr1,hr2,fun _=>⟨g,rfl,HG.out.1,HG.out.2.1,h.pl,h.at_⟩⟩)
   clear hR hA HBL;go_wp2_with fail
   go_loopw [56,9] (fun x _ V'=>x=.int .i64 0∧V'=V1) (fun _ _ _=>0)
   case atStart=>exact ⟨rfl,rfl⟩
   case round=>
    obtain ⟨rfl,rfl⟩:=hrel;obtain ⟨z0,z1,z2,z3,z4,z5,z6,_⟩:=HNV.out;go_wp2_with fail
    refine bodyPost_end (v:=.tuple #[]) (by simp [results,Tryz.results26,go_sem]) rfl ?_
    exact ⟨⟨_,rfl⟩,cd_leaf HCV.out HNV.out HE.out.1 HL.out HRV.out HE.out.2⟩
theorem change_hk(home on:ByteArray)(pr pl:Nat)(rows:Bool)(k a t:Int)
  (k' n':Int) (t':List UInt8) (b':Bool) (e':Int) (rs:List Rf) (ks:List Ex) (W:World) (p o lo hi m:Nat) (rv:Value) (ao:Option Addr) (cap:Nat)
  (HN:Hid (Nd W p o (.int .i64 k') (.int .i64 n') (.string ⟨t'.toArray⟩) (.bool b') (.int .i64 e') rv (.slice ao ks.length cap))) (HR:Hid (OwR W rv rs lo m)) (HM:Hid (m≤hi)) (HC:Hid (ks.length≤cap∧cap≤maxLen))
  (HSZ:Hid (hi≤W.heap.size)) (HPO:Hid (p<lo∨hi≤p)) (HLV:Hid (Lv W pr pl rows k a t)) (HPP:Hid ((pr<lo∨hi≤pr)∧(pl<lo∨hi≤pl)∧pr≠p∧pl≠p))
  (gk mk':Nat) (hao:ao=some ⟨gk,0,none⟩) (HKL:Hid (m≤gk∧gk<mk'∧mk'≤hi∧Pl W gk∧Ow.OwL W ks gk 0 mk' hi))
  (IH:Hid (∀ (i:Nat) (h:i<ks.length) (W:World) (p o:Nat) (c0 c1 c2 c3 c4 c5 c6:Value) (lo hi:Nat),Nd W p o c0 c1 c2 c3 c4 c5 c6→Ow W ks[i] (.agg #[c0,c1,c2,c3,c4,c5,c6]) lo hi→hi≤W.heap.size→(p<lo∨hi≤p)→Lv W pr pl rows k a t→(pr<lo∨hi≤pr)→(pl<lo∨hi≤pl)→pr≠p→pl≠p →
   Calls Tryz.prog 26 #[.pointer (some ⟨p,o,none⟩),.string home,.string on,.func (.func 27) #[] #[.pointer (some ⟨pr,0,none⟩),.pointer (some ⟨pl,0,none⟩)]] W fun e W'=>(∃ u,e=.returned u)∧Cd home.data.toList on.data.toList (mvB rows k a t) (mvR rows k a t) W W' ks[i] p o lo hi))
  (r0:Rf) (rs':List Rf) (HRS:Hid (rs=r0::rs'))
  (HH:Hid (orT r0.1 home.data.toList=on.data.toList)) :
  Calls Tryz.prog 26 #[.pointer (some ⟨p,o,none⟩),.string home,.string on,.func (.func 27) #[] #[.pointer (some ⟨pr,0,none⟩),.pointer (some ⟨pl,0,none⟩)]] W fun e W'=>(∃ u,e=.returned u)∧Cd home.data.toList on.data.toList (mvB rows k a t) (mvR rows k a t) W W' (.mk k' n' t' b' e' rs ks) p o lo hi:=by
 subst hao;have hroom:ks.length≤9223372036854775807:=by have h:=HC.out;unfold maxLen at h;omega
 obtain ⟨_,ar,cr,hrv,hr1,hr2,hr3⟩:=HR.out;subst hrv;have hpos:(0:Int)<(rs.length:Int):=by rw [HRS.out,List.length_cons];omega
 obtain ⟨g,rfl,hg1,hg2,hg3,hg4⟩:=hr3 (by omega)
 have hs0:W.cell? ⟨g,0,none⟩=some (.string ⟨r0.1.toArray⟩):=by
  have h0:=hg4 0 (by omega) 0 (.string ⟨r0.1.toArray⟩) (by
   have:rs[0]'(by omega)=r0:=by
    have h:=HRS.out;subst h
    rfl
   rw [this]
   rfl)
  simpa using h0
 have HG:Hid (lo≤g∧g<m∧m≤hi∧lo≤m):=hid ⟨hg1,hg2,HM.out,HR.out.1⟩
 have HO:=hid (fun b W=>or_any b ⟨r0.1.toArray⟩ home W)
 have hroomr:rs.length≤9223372036854775807:=by unfold maxLen at hr2;omega
 obtain ⟨g0,g1,g2,g3,g4,g5,g6,_⟩:=HN.out;have hplt:p<W.heap.size:=HN.out.pl.lt
 have hglt:g<W.heap.size:=hg3.lt
 have qa:Q W (W.alloc (.cells #[.string ⟨r0.1.toArray⟩,.string home] 9)):=(Q.refl _).alloc _
 have HNA:=hid (HN.out.on qa);have HLA:=hid (HLV.out.blk (Q.block qa HLV.out.lt.1) (Q.block qa HLV.out.lt.2));have HCA:Hid (Chd W (W.alloc (.cells #[.string ⟨r0.1.toArray⟩,.string home] 9)) p o lo hi):=hid ⟨Qp.of qa,fun j _=>qa.cell HN.out.pl.lt⟩
 have HE:Hid (m≤gk∧gk<mk'∧mk'≤hi∧ks.length≤cap∧cap≤maxLen∧lo≤m):=hid ⟨HKL.out.1,HKL.out.2.1,HKL.out.2.2.1,HC.out.1,HC.out.2,HR.out.1⟩
 have hf:(orT r0.1 home.data.toList == on.toList)=true:=by rw [(hid (toL on)).out,HH.out];exact beq_self_eq_true _
 have HHT:Hid (hit home.data.toList on.data.toList rs=true):=hid (by rw [HRS.out];simp only [hit];exact decide_eq_true HH.out)
 have HR0:Hid (Rfc (mvR rows k a t) (W.alloc (.cells #[.string ⟨r0.1.toArray⟩,.string home] 9)) (W.alloc (.cells #[.string ⟨r0.1.toArray⟩,.string home] 9)) rs 0 g):=hid ⟨by rw [List.take_zero,List.map_nil,List.nil_append,List.drop_zero];exact Rl.on ⟨hg3,hg4⟩ qa,Qp.refl _ _⟩
 obtain ⟨T,hT⟩:∃ T,orT r0.1 home.data.toList=T:=⟨_,rfl⟩;rw [hT]at hf;have HT:Hid ((⟨T.toArray⟩:ByteArray)=⟨(orT (⟨r0.1.toArray⟩:ByteArray).data.toList home.data.toList).toArray⟩):=hid (by rw [←hT])
 have HQA:=hid qa;clear hg3 hg4 hr3 qa hT;go_enter Tryz.func26,Tryz.ntmps26
 go_wp2_with (go_at_call 52;refine (HO.out W.heap.size _ (by simp) (by simp)).mono ?_;rintro e9 w9 ⟨rfl,rfl⟩;rw [←HT.out])
 go_loopw [35,8] (fun x _ V=>∃ i:Nat,i≤rs.length∧x=.int .i64 (i:Int)∧Hid (Rfc (mvR rows k a t) (W.alloc (.cells #[.string ⟨r0.1.toArray⟩,.string home] 9)) V rs i g)∧Hid ((rs.take i).all (mvB rows k a t)=true)) (fun x _ _=>rs.length-(intOf x).toNat)
 case atStart=>exact ⟨0,Nat.zero_le _,rfl,HR0,hid (by rw [List.take_zero];rfl)⟩
 case round=>
  obtain ⟨i,hir,rfl,hR,hA⟩:=hrel;obtain ⟨V1,hV1⟩:∃ V1,V1=wr:=⟨wr,rfl⟩;subst hV1;have HBL:Hid (∀ j,j<W.heap.size→j≠g→V1.heap[j]?=W.heap[j]?):=hid (fun j hj hne=>(hR.out.q.block j (Q.lt HQA.out hj) hne).trans (Q.block HQA.out hj))
  have hpg:p≠g:=by have:=HG.out;have:=HPO.out;omega
  have HN1:=hid (HN.out.blk (HBL.out p HN.out.pl.lt hpg));have HLV1:=hid (HLV.out.blk (HBL.out pr HLV.out.lt.1 (by have:=HG.out;have:=HPP.out;omega)) (HBL.out pl HLV.out.lt.2 (by have:=HG.out;have:=HPP.out;omega)))
  have HC1:Hid (Chd W V1 p o lo hi):=hid ⟨HCA.out.q.after hR.out.q (fun j _ e=>.inr (by have:=HG.out;omega)),fun j hj=>World.cell?_of_block (HBL.out p HN.out.pl.lt hpg)⟩
  obtain ⟨z0,z1,z2,z3,z4,z5,z6,_⟩:=HN1.out;by_cases hlt:i<rs.length
  ·have HTO:=hid (to_any pr pl g (i*5) rs[i] rows k a t V1 HLV1.out hR.out.rl.pl (hR.out.at_ hlt))
   cases hb:mvB rows k a t rs[i]
   ·rw [hb]at HTO
    have HL:Hid ((hit home.data.toList on.data.toList rs&&!rs.all (mvB rows k a t))=true):=hid (by
     rw [HHT.out,Bool.true_and,Bool.not_eq_true'];rw [List.all_eq_false];exact ⟨rs[i],List.getElem_mem hlt,by rw [hb];simp⟩)
    clear hA hb;go_wp2_with (go_at_call 27;refine HTO.out.mono ?_;rintro e9 w9 ⟨rfl,m9⟩;have N9:=hid (HN1.out.blk (m9.q.block p HN1.out.pl.lt hpg));have C9:Hid (Chd W w9 p o lo hi):=hid ⟨HC1.out.q.after m9.q (fun j _ e=>.inr (by have:=HG.out;omega)),fun j hj=>(World.cell?_of_block (m9.q.block p HN1.out.pl.lt hpg)).trans (HC1.out.c j hj)⟩;clear m9;obtain ⟨v0,v1,v2,v3,v4,v5,v6,vp⟩:=N9.out;have y0:=vp.frozen o;have y1:=vp.frozen (o+1);have y2:=vp.frozen (o+2);have y3:=vp.frozen (o+3);have y4:=vp.frozen (o+4);have y5:=vp.frozen (o+5);have y6:=vp.frozen (o+6);clear vp)
    refine bodyPost_ret (v:=.tuple #[]) (by simp [results,Tryz.results26,go_sem]) rfl ?_
    exact ⟨⟨_,rfl⟩,cd_lost C9.out N9.out HL.out (by have:=HG.out;omega)⟩
   ·rw [hb]at HTO
    have HA2:Hid ((rs.take (i+1)).all (mvB rows k a t)=true):=hid (by rw [List.take_succ_eq_append_getElem hlt,List.all_append,hA.out];simp [hb])
    clear hA hb;go_wp2_with (go_at_call 27;refine HTO.out.mono ?_;rintro e9 w9 ⟨rfl,m9⟩;have R9:=hid (hR.out.step hlt m9);clear m9)
    go_roundw
    case rel=>exact ⟨i+1,by omega,by go_num,R9,HA2⟩
    case measure=>simp [intOf];omega
  ·skip
   have hi2:i=rs.length:=by omega
   subst hi2;have HNV:=HN1;have HLVV:=HLV1;have HCV:=HC1;have HL:Hid ((hit home.data.toList on.data.toList rs&&!rs.all (mvB rows k a t))=false):=hid (by
    have h:=hA.out;rw [List.take_length]at h;rw [h];simp)
   have HRV:Hid (OwR V1 (.slice (some ⟨g,0,none⟩) rs.length cr) (if hit home.data.toList on.data.toList rs=true then rs.map (mvR rows k a t) else rs) lo m):=hid (by
    rw [if_pos HHT.out];have h:=hR.out.rl;rw [List.take_length,List.drop_length,List.append_nil]at h;refine ⟨HG.out.2.2.2,some ⟨g,0,none⟩,cr,by rw [List.length_map],by rw [List.length_map];exact hr1,hr2,fun _=>⟨g,rfl,HG.out.1,HG.out.2.1,h.pl,h.at_⟩⟩)
   have HK0:Hid (Kc home.data.toList on.data.toList (mvB rows k a t) (mvR rows k a t) V1 V1 ks 0 gk mk' hi):=hid (kc_start (HKL.out.2.2.2.2.on (fun j h1 h2=>Bs.of (HBL.out j (by have:=HSZ.out;omega) (by have:=HKL.out;have:=HG.out;omega))) (fun j _ _=>World.cell?_of_block (HBL.out gk HKL.out.2.2.2.1.lt (by have:=HKL.out;have:=HG.out;omega)))) (HKL.out.2.2.2.1.blk (HBL.out gk HKL.out.2.2.2.1.lt (by have:=HKL.out;have:=HG.out;omega))))
   clear hR hA HBL;go_wp2_with fail
   go_loopw [56,9] (fun x _ V'=>∃ i:Nat,i≤ks.length∧x=.int .i64 (i:Int)∧Hid (Kc home.data.toList on.data.toList (mvB rows k a t) (mvR rows k a t) (V1) V' ks i gk mk' hi)) (fun x _ _=>ks.length-(intOf x).toNat)
   case atStart=>exact ⟨0,Nat.zero_le _,rfl,HK0⟩
   case round=>
    obtain ⟨i,hik,rfl,hK⟩:=hrel;have HNr:=hid (HNV.out.blk (hK.out.q.block p HNV.out.pl.lt (fun e=>by have:=HE.out;have:=HPO.out;omega)))
    obtain ⟨z0,z1,z2,z3,z4,z5,z6,_⟩:=HNr.out;by_cases hlt:i<ks.length
    ·obtain ⟨lo1,hi1,d0,d1,d2,d3,d4,d5,d6,b1,b2,b3,b4,b5⟩:=hK.out.kid hlt HE.out.2.1 (Nat.le_trans HSZ.out HCV.out.q.size)
     have HI:=hid (IH.out i hlt wr gk (i*7) d0 d1 d2 d3 d4 d5 d6 lo1 hi1 b3 b4 (by have:=hK.out.q.size;have:=HCV.out.q.size;have:=HSZ.out;omega) (.inl (by have:=HE.out;omega)) (HLVV.out.blk (hK.out.q.block pr HLVV.out.lt.1 (fun e=>by have:=HE.out;have:=HPP.out;omega)) (hK.out.q.block pl HLVV.out.lt.2 (fun e=>by have:=HE.out;have:=HPP.out;omega))) (by have:=HE.out;have:=HPP.out;omega) (by have:=HE.out;have:=HPP.out;omega) (by have:=HE.out;have:=HPP.out;omega) (by have:=HE.out;have:=HPP.out;omega))
     have HB5:=hid b5;clear b1 b2 b3 b4 b5;go_wp2_with (go_at_call 26;refine HI.out.mono ?_;rintro e9 w9 ⟨⟨u9,rfl⟩,cd9⟩;obtain ⟨f0,f1,f2,f3,f4,f5,f6,n9,o9⟩:=cd9.ex;have K9:=hid (HB5.out w9 f0 f1 f2 f3 f4 f5 f6 n9 o9 cd9.ch);clear cd9 n9 o9)
     go_roundw
     case rel=>first|exact ⟨i+1,by omega,by go_num,K9⟩|(refine ⟨_,_,_,_,_,_,_,_,_,_,_,_,_,_,_,?_,rfl⟩;exact ⟨i+1,by omega,by go_num,K9⟩)
     case measure=>simp [intOf];omega
    ·have hK2:Hid (Kc home.data.toList on.data.toList (mvB rows k a t) (mvR rows k a t) (V1) wr ks ks.length gk mk' hi):=by
      have:i=ks.length:=by omega
      subst this;exact hK
     clear hK;go_wp2_with fail
     refine bodyPost_end (v:=.tuple #[]) (by simp [results,Tryz.results26,go_sem]) rfl ?_
     exact ⟨⟨_,rfl⟩,cd_kids HCV.out HNV.out HE.out.2.2.2.1 HE.out.2.2.2.2.1 HL.out HRV.out HE.out.1 HE.out.2.1 HE.out.2.2.1 HSZ.out HPO.out hK2.out⟩
theorem change_all(home on:ByteArray)(pr pl:Nat)(rows:Bool)(k a t:Int):∀ (s:Nat) (x:Ex) (W:World) (p o:Nat) (c0 c1 c2 c3 c4 c5 c6:Value) (lo hi:Nat),SizeOf.sizeOf x≤s→Nd W p o c0 c1 c2 c3 c4 c5 c6→Ow W x (.agg #[c0,c1,c2,c3,c4,c5,c6]) lo hi→hi≤W.heap.size→(p<lo∨hi≤p)→Lv W pr pl rows k a t→(pr<lo∨hi≤pr)→(pl<lo∨hi≤pl)→pr≠p→pl≠p →
  Calls Tryz.prog 26 #[.pointer (some ⟨p,o,none⟩),.string home,.string on,.func (.func 27) #[] #[.pointer (some ⟨pr,0,none⟩),.pointer (some ⟨pl,0,none⟩)]] W fun e W'=>(∃ u,e=.returned u)∧Cd home.data.toList on.data.toList (mvB rows k a t) (mvR rows k a t) W W' x p o lo hi:=by
 intro s
 induction s with
 |zero=>
  intro x W p o c0 c1 c2 c3 c4 c5 c6 lo hi hs
  cases x with
  |mk k n t b e rs ks=>simp at hs
 |succ s ih=>
  intro x W p o c0 c1 c2 c3 c4 c5 c6 lo hi hs hn hx hsz hpo hlv hpr hpl hne1 hne2
  cases x with
  |mk k' n' t' b' e' rs ks=>
   have IH:=hid (fun (i:Nat) (h:i<ks.length) (W:World) (p o:Nat) (c0 c1 c2 c3 c4 c5 c6:Value) (lo hi:Nat)=>ih ks[i] W p o c0 c1 c2 c3 c4 c5 c6 lo hi (by have:=kid_size (k:=k') (n:=n') (t:=t') (b:=b') (e:=e') (rs:=rs) i h;omega))
   unfold Ow at hx
   obtain ⟨rv,kv,m,hv,hr,hm,ao,cap,hkv,hc1,hc2,hk3⟩:=hx;simp only [Value.agg.injEq,Array.mk.injEq,List.cons.injEq,and_true]at hv
   obtain ⟨rfl,rfl,rfl,rfl,rfl,rfl,rfl⟩:=hv;subst hkv;by_cases hks:ks=[]
   ·cases hrs:rs with
    |nil=>
     subst hrs;exact change_no0 home on pr pl rows k a t k' n' t' b' e' _ ks W p o lo hi m _ ao cap (hid hn) (hid hr) (hid hm) (hid ⟨hc1,hc2⟩) (hid hsz) (hid hpo) (hid hlv) (hid ⟨hpr,hpl,hne1,hne2⟩) rfl hks
    |cons r0 rs'=>
     rw [←hrs];by_cases hh:orT r0.1 home.data.toList=on.data.toList
     ·exact change_h0 home on pr pl rows k a t k' n' t' b' e' rs ks W p o lo hi m _ ao cap (hid hn) (hid hr) (hid hm) (hid ⟨hc1,hc2⟩) (hid hsz) (hid hpo) (hid hlv) (hid ⟨hpr,hpl,hne1,hne2⟩) r0 rs' (hid hrs) (hid hh) hks
     ·exact change_nh0 home on pr pl rows k a t k' n' t' b' e' rs ks W p o lo hi m _ ao cap (hid hn) (hid hr) (hid hm) (hid ⟨hc1,hc2⟩) (hid hsz) (hid hpo) (hid hlv) (hid ⟨hpr,hpl,hne1,hne2⟩) r0 rs' (hid hrs) (hid hh) hks
   ·obtain ⟨gk,mk',hao,b1,b2,b3,b4⟩:=hk3 hks
    have b5:=Ow.OwL.le _ _ _ _ _ b4;cases hrs:rs with
    |nil=>
     subst hrs;exact change_nok home on pr pl rows k a t k' n' t' b' e' _ ks W p o lo hi m _ ao cap (hid hn) (hid hr) (hid hm) (hid ⟨hc1,hc2⟩) (hid hsz) (hid hpo) (hid hlv) (hid ⟨hpr,hpl,hne1,hne2⟩) gk mk' hao (hid ⟨b1,b2,b5,b3,b4⟩) IH rfl
    |cons r0 rs'=>
     rw [←hrs];by_cases hh:orT r0.1 home.data.toList=on.data.toList
     ·exact change_hk home on pr pl rows k a t k' n' t' b' e' rs ks W p o lo hi m _ ao cap (hid hn) (hid hr) (hid hm) (hid ⟨hc1,hc2⟩) (hid hsz) (hid hpo) (hid hlv) (hid ⟨hpr,hpl,hne1,hne2⟩) gk mk' hao (hid ⟨b1,b2,b5,b3,b4⟩) IH r0 rs' (hid hrs) (hid hh)
     ·exact change_nhk home on pr pl rows k a t k' n' t' b' e' rs ks W p o lo hi m _ ao cap (hid hn) (hid hr) (hid hm) (hid ⟨hc1,hc2⟩) (hid hsz) (hid hpo) (hid hlv) (hid ⟨hpr,hpl,hne1,hne2⟩) gk mk' hao (hid ⟨b1,b2,b5,b3,b4⟩) IH r0 rs' (hid hrs) (hid hh)
def lnE(home on:List UInt8)(rows:Bool)(k a t:Int)(x:Ex):Ex:=if L.mayB k a t=true then chg home on (mvB rows k a t) (mvR rows k a t) x else x
theorem q_chd{W w w':World}{p o lo hi:Nat}(q:Q W w)(h:Chd w w' p o lo hi)(h1:W.heap.size≤p)(h2:W.heap.size≤lo):Q W w':=
 ⟨h.q.os.trans q.os,h.q.tape.trans q.tape,h.q.output.trans q.output,Nat.le_trans q.size h.q.size,fun i hi=>(h.q.block i (Nat.lt_of_lt_of_le hi q.size) (fun e=>by omega)).trans (Q.block q hi)⟩
theorem lines_any(x:Ex)(v:Value)(home on:ByteArray)(rows:Bool)(k a t:Int)(W:World)(hg:Gd W)(hx:Rd W x v)(hs:Sn x)(hm:Sm x)(hk:nodes x≤200)(hmay:(fitB x&&mall mayN x)=true) :
  Calls Tryz.prog 11 #[v,.string home,.string on,.bool rows,.agg #[.int .i64 k,.int .i64 a,.int .i64 t]] W fun e W'=>∃ v',e=.returned v'∧Q W W'∧∃ lo hi,W.heap.size≤lo∧hi≤W'.heap.size∧Ow W' (lnE home.data.toList on.data.toList rows k a t x) v' lo hi:=by
 obtain ⟨k0,n0,t0,b0,e0,a1,l1,c1,a2,l2,c2,rfl⟩:=hx.shape;obtain ⟨w1,hw1⟩:∃ w1,w1=(((W.alloc (.cells #[.int .i64 k0,.int .i64 n0,.string t0,.bool b0,.int .i64 e0,.slice a1 l1 c1,.slice a2 l2 c2] 26)).alloc (.cells #[.bool rows] 4)).alloc (.cells #[.int .i64 k,.int .i64 a,.int .i64 t] 28)).alloc (.cells #[.int .i64 0,.int .i64 0,.string ⟨#[]⟩,.bool false,.int .i64 0,.slice none 0 0,.slice none 0 0] 26):=⟨_,rfl⟩;have q1:Q W w1:=by rw [hw1];exact ((((Q.refl _).alloc _).alloc _).alloc _).alloc _
 have s1:w1.heap.size=W.heap.size+1+1+1+1:=by rw [hw1];simp
 have HLV:Hid (Lv w1 (W.heap.size+1) (W.heap.size+1+1) rows k a t):=by
  rw [hw1];refine ⟨?_,?_,?_,?_⟩ <;> simp [go_sem]
 have HTB:Hid (Tb w1 (W.heap.size+1+1+1) (.int .i64 0) (.int .i64 0) (.string ⟨#[]⟩) (.bool false) (.int .i64 0) (.slice none 0 0) (.slice none 0 0)):=by
  have:=tb_new (((W.alloc (.cells #[.int .i64 k0,.int .i64 n0,.string t0,.bool b0,.int .i64 e0,.slice a1 l1 c1,.slice a2 l2 c2] 26)).alloc (.cells #[.bool rows] 4)).alloc (.cells #[.int .i64 k,.int .i64 a,.int .i64 t] 28)) (.int .i64 0) (.int .i64 0) (.string ⟨#[]⟩) (.bool false) (.int .i64 0) (.slice none 0 0) (.slice none 0 0) 26
  rw [hw1];show Tb _ _ _ _ _ _ _ _ _
  simpa using this
 have HBX:Hid (Tb w1 W.heap.size (.int .i64 k0) (.int .i64 n0) (.string t0) (.bool b0) (.int .i64 e0) (.slice a1 l1 c1) (.slice a2 l2 c2)):=by
  have:=(tb_new W (.int .i64 k0) (.int .i64 n0) (.string t0) (.bool b0) (.int .i64 e0) (.slice a1 l1 c1) (.slice a2 l2 c2) 26).blk (W':=w1) (by rw [hw1];exact Q.block ((((Q.refl _).alloc _).alloc _).alloc _) (by simp))
  exact this
 have HCO:Hid (Calls Tryz.prog 23 #[.agg #[.int .i64 k0,.int .i64 n0,.string t0,.bool b0,.int .i64 e0,.slice a1 l1 c1,.slice a2 l2 c2]] ((((W.alloc (.cells #[.int .i64 k0,.int .i64 n0,.string t0,.bool b0,.int .i64 e0,.slice a1 l1 c1,.slice a2 l2 c2] 26)).alloc (.cells #[.bool rows] 4)).alloc (.cells #[.int .i64 k,.int .i64 a,.int .i64 t] 28)).alloc (.cells #[.int .i64 0,.int .i64 0,.string ⟨#[]⟩,.bool false,.int .i64 0,.slice none 0 0,.slice none 0 0] 26)) fun e W'=>∃ v',e=.returned v'∧Q w1 W'∧∃ lo hi,w1.heap.size≤lo∧hi≤W'.heap.size∧Ow W' x v' lo hi):=by
  rw [←hw1];exact copied_any x _ w1 (Rd.on q1 _ _ hx) hs hk
 have HMY:=hid (fun w (q:Q W w)=>pmay_any x _ w (hg.on q) hm (Rd.on q _ _ hx))
 rw [hmay]at HMY;have HAX:=hid (fun w=>L.may_any k a t w)
 have HCH:=hid (fun w p c0 c1 c2 c3 c4 c5 c6 lo hi=>change_all home on (W.heap.size+1) (W.heap.size+1+1) rows k a t _ x w p 0 c0 c1 c2 c3 c4 c5 c6 lo hi (Nat.le_refl _))
 have HQ1:=hid q1;have HS1:=hid s1;clear hg hx hs hm hk hmay hw1 q1 s1;cases hb:L.mayB k a t
 ·rw [hb]at HAX
  have HLN:Hid (lnE home.data.toList on.data.toList rows k a t x=x):=hid (by unfold lnE;rw [hb];rfl)
  clear hb;go_enter Tryz.func11,Tryz.ntmps11
  go_wp2_with (first
   |(go_at_call 23;refine HCO.out.mono ?_;rintro e9 w2 ⟨v2,rfl,q2,lo,hi,h1,h2,ow2⟩;obtain ⟨k3,n3,t3,b3,e3,a3,l3,c3,a4,l4,c4,rfl⟩:=ow2.shape;have Q2:=hid q2;have O2:=hid ow2;have H12:=hid (And.intro h1 h2);have hl2:W.heap.size+1+1+1<w2.heap.size:=(by have:=HS1.out;have:=q2.size;omega);have hl0:W.heap.size<w2.heap.size:=(by omega);have hl1:W.heap.size+1+1<w2.heap.size:=(by omega);clear h1 h2 ow2;obtain ⟨z0,z1,z2,z3,z4,z5,z6,_⟩:=HBX.out.blk (Q.block q2 (by have:=HS1.out;omega));clear q2)
   |(go_at_call 24;refine (HMY.out _ ((HQ1.out.trans Q2.out).alloc _)).mono ?_;rintro e9 w4 ⟨rfl,q4⟩;have Q4:=hid q4;have N4:=hid ((nd_new w2 (.int .i64 k3) (.int .i64 n3) (.string t3) (.bool b3) (.int .i64 e3) (.slice a3 l3 c3) (.slice a4 l4 c4) 26).on q4);have q24:Q w2 w4:=((Q.refl _).alloc _).trans q4;have Q24:=hid q24;have LV4:=hid (HLV.out.blk (Q.block (Q2.out.trans q24) (by have:=HS1.out;omega)) (Q.block (Q2.out.trans q24) (by have:=HS1.out;omega)));have O4:=hid (Ow.on _ _ _ _ (fun i _ h=>Bs.of (Q.block q24 (by have:=H12.out;omega))) O2.out);have TB4:=hid (HTB.out.blk (Q.block (Q2.out.trans q24) (by have:=HS1.out;omega)));have hl4:w2.heap.size<w4.heap.size:=N4.out.pl.lt;have hl5:W.heap.size+1+1+1<w4.heap.size:=(by omega);clear q4 q24 z0 z1 z2 z3 z4 z5 z6;obtain ⟨_,x0,x1,x2⟩:=LV4.out;obtain ⟨y0,y1,y2,y3,y4,y5,y6,_⟩:=N4.out;obtain ⟨u0,u1,u2,u3,u4,u5,u6,uf⟩:=TB4.out;have f0:=uf 0;have f1:=uf 1;have f2:=uf 2;have f3:=uf 3;have f4:=uf 4;have f5:=uf 5;have f6:=uf 6;clear uf)
   |(go_at_call 25;refine (HAX.out _).mono ?_;rintro e9 w5 ⟨rfl,h5⟩;have q5:Q w4 w5:=(by rw [h5];exact (Q.refl _).alloc _);have Q5:=hid q5;have N5:=hid (N4.out.on q5);have O5:=hid (Ow.on _ _ _ _ (fun i _ h=>Bs.of (Q.block q5 (by have:=H12.out;omega))) O4.out);have LV5:=hid (LV4.out.blk (Q.block q5 (by omega)) (Q.block q5 (by omega)));have TB5:=hid (TB4.out.blk (Q.block q5 (by omega)));clear h5 q5 y0 y1 y2 y3 y4 y5 y6 u0 u1 u2 u3 u4 u5 u6 f0 f1 f2 f3 f4 f5 f6 x0 x1 x2;obtain ⟨y0,y1,y2,y3,y4,y5,y6,_⟩:=N5.out;obtain ⟨u0,u1,u2,u3,u4,u5,u6,uf⟩:=TB5.out;have f0:=uf 0;have f1:=uf 1;have f2:=uf 2;have f3:=uf 3;have f4:=uf 4;have f5:=uf 5;have f6:=uf 6;clear uf;simp only [Nat.zero_add]at y0 y1 y2 y3 y4 y5 y6))
  refine bodyPost_ret (v:=.agg #[.int .i64 k3,.int .i64 n3,.string t3,.bool b3,.int .i64 e3,.slice a3 l3 c3,.slice a4 l4 c4]) (by simp [results,Tryz.results11,go_sem,u0,u1,u2,u3,u4,u5,u6]) rfl ?_
  have QF:Qx (W.heap.size+1+1+1) w5 (((((((w5.setCell ⟨W.heap.size+1+1+1,0,none⟩ (.int .i64 k3)).setCell ⟨W.heap.size+1+1+1,1,none⟩ (.int .i64 n3)).setCell ⟨W.heap.size+1+1+1,2,none⟩ (.string t3)).setCell ⟨W.heap.size+1+1+1,3,none⟩ (.bool b3)).setCell ⟨W.heap.size+1+1+1,4,none⟩ (.int .i64 e3)).setCell ⟨W.heap.size+1+1+1,5,none⟩ (.slice a3 l3 c3)).setCell ⟨W.heap.size+1+1+1,6,none⟩ (.slice a4 l4 c4)):=(((((((Qx.refl _ _).own _ _).own _ _).own _ _).own _ _).own _ _).own _ _).own _ _
  have hq:Q W w5:=((HQ1.out.trans Q2.out).trans Q24.out).trans Q5.out
  have hz:=HS1.out;have h12:=H12.out;have hz4:=Q24.out.size;have hz5:=Q5.out.size;rw [HLN.out];refine ⟨_,rfl,⟨QF.os.trans hq.os,QF.tape.trans hq.tape,QF.output.trans hq.output,Nat.le_trans hq.size QF.size,fun i hi=>(QF.block i (Nat.lt_of_lt_of_le hi hq.size) (fun e=>by have:=Option.some.inj e;omega)).trans (Q.block hq hi)⟩,lo,hi,by omega,Nat.le_trans (by omega) QF.size,?_⟩
  exact Ow.on _ _ _ _ (fun i h1 h2=>Bs.of (QF.block i (by omega) (fun e=>by have:=Option.some.inj e;omega))) O5.out
 ·rw [hb]at HAX
  have HLN:Hid (lnE home.data.toList on.data.toList rows k a t x=chg home.data.toList on.data.toList (mvB rows k a t) (mvR rows k a t) x):=hid (by unfold lnE;rw [hb];rfl)
  clear hb;go_enter Tryz.func11,Tryz.ntmps11
  go_wp2_with (first
   |(go_at_call 23;refine HCO.out.mono ?_;rintro e9 w2 ⟨v2,rfl,q2,lo,hi,h1,h2,ow2⟩;obtain ⟨k3,n3,t3,b3,e3,a3,l3,c3,a4,l4,c4,rfl⟩:=ow2.shape;have Q2:=hid q2;have O2:=hid ow2;have H12:=hid (And.intro h1 h2);have hl2:W.heap.size+1+1+1<w2.heap.size:=(by have:=HS1.out;have:=q2.size;omega);have hl0:W.heap.size<w2.heap.size:=(by omega);have hl1:W.heap.size+1+1<w2.heap.size:=(by omega);clear h1 h2 ow2;obtain ⟨z0,z1,z2,z3,z4,z5,z6,_⟩:=HBX.out.blk (Q.block q2 (by have:=HS1.out;omega));clear q2)
   |(go_at_call 24;refine (HMY.out _ ((HQ1.out.trans Q2.out).alloc _)).mono ?_;rintro e9 w4 ⟨rfl,q4⟩;have Q4:=hid q4;have N4:=hid ((nd_new w2 (.int .i64 k3) (.int .i64 n3) (.string t3) (.bool b3) (.int .i64 e3) (.slice a3 l3 c3) (.slice a4 l4 c4) 26).on q4);have q24:Q w2 w4:=((Q.refl _).alloc _).trans q4;have Q24:=hid q24;have LV4:=hid (HLV.out.blk (Q.block (Q2.out.trans q24) (by have:=HS1.out;omega)) (Q.block (Q2.out.trans q24) (by have:=HS1.out;omega)));have O4:=hid (Ow.on _ _ _ _ (fun i _ h=>Bs.of (Q.block q24 (by have:=H12.out;omega))) O2.out);have TB4:=hid (HTB.out.blk (Q.block (Q2.out.trans q24) (by have:=HS1.out;omega)));have hl4:w2.heap.size<w4.heap.size:=N4.out.pl.lt;have hl5:W.heap.size+1+1+1<w4.heap.size:=(by omega);clear q4 q24 z0 z1 z2 z3 z4 z5 z6;obtain ⟨_,x0,x1,x2⟩:=LV4.out;obtain ⟨y0,y1,y2,y3,y4,y5,y6,_⟩:=N4.out;obtain ⟨u0,u1,u2,u3,u4,u5,u6,uf⟩:=TB4.out;have f0:=uf 0;have f1:=uf 1;have f2:=uf 2;have f3:=uf 3;have f4:=uf 4;have f5:=uf 5;have f6:=uf 6;clear uf)
   |(go_at_call 25;refine (HAX.out _).mono ?_;rintro e9 w5 ⟨rfl,h5⟩;have q5:Q w4 w5:=(by rw [h5];exact (Q.refl _).alloc _);have Q5:=hid q5;have N5:=hid (N4.out.on q5);have O5:=hid (Ow.on _ _ _ _ (fun i _ h=>Bs.of (Q.block q5 (by have:=H12.out;omega))) O4.out);have LV5:=hid (LV4.out.blk (Q.block q5 (by omega)) (Q.block q5 (by omega)));have TB5:=hid (TB4.out.blk (Q.block q5 (by omega)));clear h5 q5 y0 y1 y2 y3 y4 y5 y6 u0 u1 u2 u3 u4 u5 u6 f0 f1 f2 f3 f4 f5 f6 x0 x1 x2;obtain ⟨y0,y1,y2,y3,y4,y5,y6,_⟩:=N5.out;obtain ⟨u0,u1,u2,u3,u4,u5,u6,uf⟩:=TB5.out;have f0:=uf 0;have f1:=uf 1;have f2:=uf 2;have f3:=uf 3;have f4:=uf 4;have f5:=uf 5;have f6:=uf 6;clear uf;simp only [Nat.zero_add]at y0 y1 y2 y3 y4 y5 y6)
   |(go_at_call 26;refine (HCH.out w5 w2.heap.size _ _ _ _ _ _ _ lo hi N5.out O5.out (by have:=H12.out;have:=Q5.out.size;omega) (.inr H12.out.2) LV5.out (.inl (by have:=H12.out;have:=HS1.out;omega)) (.inl (by have:=H12.out;have:=HS1.out;omega)) (by omega) (by omega)).mono ?_;rintro e9 w6 ⟨⟨u9,rfl⟩,cd6⟩;obtain ⟨d0,d1,d2,d3,d4,d5,d6,n6,o6⟩:=cd6.ex;obtain ⟨k7,n7,t7,b7,e7,a7,l7,c7,a8,l8,c8,hsh⟩:=o6.shape;simp only [Value.agg.injEq,Array.mk.injEq,List.cons.injEq,and_true]at hsh;obtain ⟨rfl,rfl,rfl,rfl,rfl,rfl,rfl⟩:=hsh;have C6:=hid cd6.ch;have O6:=hid o6;have TB6:=hid (TB4.out.blk ((C6.out.q.block _ (Q.lt Q5.out hl5) (fun e=>by have:=H12.out;have:=HS1.out;omega)).trans (Q.block Q5.out hl5)));clear y0 y1 y2 y3 y4 y5 y6 u0 u1 u2 u3 u4 u5 u6 f0 f1 f2 f3 f4 f5 f6;obtain ⟨y0,y1,y2,y3,y4,y5,y6,_⟩:=n6;obtain ⟨u0,u1,u2,u3,u4,u5,u6,uf⟩:=TB6.out;have f0:=uf 0;have f1:=uf 1;have f2:=uf 2;have f3:=uf 3;have f4:=uf 4;have f5:=uf 5;have f6:=uf 6;clear uf cd6 o6;simp only [Nat.zero_add]at y0 y1 y2 y3 y4 y5 y6))
  refine bodyPost_ret (v:=.agg #[.int .i64 k7,.int .i64 n7,.string t7,.bool b7,.int .i64 e7,.slice a7 l7 c7,.slice a8 l8 c8]) (by simp [results,Tryz.results11,go_sem,u0,u1,u2,u3,u4,u5,u6]) rfl ?_
  have QF:Qx (W.heap.size+1+1+1) w6 (((((((w6.setCell ⟨W.heap.size+1+1+1,0,none⟩ (.int .i64 k7)).setCell ⟨W.heap.size+1+1+1,1,none⟩ (.int .i64 n7)).setCell ⟨W.heap.size+1+1+1,2,none⟩ (.string t7)).setCell ⟨W.heap.size+1+1+1,3,none⟩ (.bool b7)).setCell ⟨W.heap.size+1+1+1,4,none⟩ (.int .i64 e7)).setCell ⟨W.heap.size+1+1+1,5,none⟩ (.slice a7 l7 c7)).setCell ⟨W.heap.size+1+1+1,6,none⟩ (.slice a8 l8 c8)):=(((((((Qx.refl _ _).own _ _).own _ _).own _ _).own _ _).own _ _).own _ _).own _ _
  have hz:=HS1.out;have h12:=H12.out;have hq:Q W w6:=q_chd (((HQ1.out.trans Q2.out).trans Q24.out).trans Q5.out) C6.out (by omega) (by omega)
  have hz4:=Q24.out.size;have hz5:=Q5.out.size;have hz6:=C6.out.q.size;rw [HLN.out];refine ⟨_,rfl,⟨QF.os.trans hq.os,QF.tape.trans hq.tape,QF.output.trans hq.output,Nat.le_trans hq.size QF.size,fun i hi=>(QF.block i (Nat.lt_of_lt_of_le hi hq.size) (fun e=>by have:=Option.some.inj e;omega)).trans (Q.block hq hi)⟩,lo,hi,by omega,Nat.le_trans (by omega) QF.size,?_⟩
  exact Ow.on _ _ _ _ (fun i h1 h2=>Bs.of (QF.block i (by omega) (fun e=>by have:=Option.some.inj e;omega))) O6.out
theorem sheet_no(x:Ex)(v:Value)(home gone:ByteArray)(W:World)(hg:Gd W)(hx:Rd W x v)(hs:Sn x)(hm:Sm x)(hk:nodes x≤1000)(hmay:(fitB x&&mall mayN x)=false) :
  Calls Tryz.prog 16 #[v,.string home,.string gone] W fun e W'=>∃ v',e=.returned v'∧Q W W'∧∃ lo hi,W.heap.size≤lo∧hi≤W'.heap.size∧Ow W' (x) v' lo hi:=by
 obtain ⟨k0,n0,t0,b0,e0,a1,l1,c1,a2,l2,c2,rfl⟩:=hx.shape;obtain ⟨w1,hw1⟩:∃ w1,w1=(W.alloc (.cells #[.int .i64 k0,.int .i64 n0,.string t0,.bool b0,.int .i64 e0,.slice a1 l1 c1,.slice a2 l2 c2] 26)).alloc (.cells #[.int .i64 0,.int .i64 0,.string ⟨#[]⟩,.bool false,.int .i64 0,.slice none 0 0,.slice none 0 0] 26):=⟨_,rfl⟩;have q1:Q W w1:=by rw [hw1];exact ((Q.refl _).alloc _).alloc _
 have s1:w1.heap.size=W.heap.size+1+1:=by rw [hw1];simp
 have HTB:Hid (Tb w1 (W.heap.size+1) (.int .i64 0) (.int .i64 0) (.string ⟨#[]⟩) (.bool false) (.int .i64 0) (.slice none 0 0) (.slice none 0 0)):=by
  have:=tb_new ((W.alloc (.cells #[.int .i64 k0,.int .i64 n0,.string t0,.bool b0,.int .i64 e0,.slice a1 l1 c1,.slice a2 l2 c2] 26))) (.int .i64 0) (.int .i64 0) (.string ⟨#[]⟩) (.bool false) (.int .i64 0) (.slice none 0 0) (.slice none 0 0) 26
  rw [hw1];show Tb _ _ _ _ _ _ _ _ _
  simpa using this
 have HBX:Hid (Tb w1 W.heap.size (.int .i64 k0) (.int .i64 n0) (.string t0) (.bool b0) (.int .i64 e0) (.slice a1 l1 c1) (.slice a2 l2 c2)):=by
  have:=(tb_new W (.int .i64 k0) (.int .i64 n0) (.string t0) (.bool b0) (.int .i64 e0) (.slice a1 l1 c1) (.slice a2 l2 c2) 26).blk (W':=w1) (by rw [hw1];exact Q.block ((Q.refl _).alloc _) (by simp))
  exact this
 have HCO:Hid (Calls Tryz.prog 23 #[.agg #[.int .i64 k0,.int .i64 n0,.string t0,.bool b0,.int .i64 e0,.slice a1 l1 c1,.slice a2 l2 c2]] ((W.alloc (.cells #[.int .i64 k0,.int .i64 n0,.string t0,.bool b0,.int .i64 e0,.slice a1 l1 c1,.slice a2 l2 c2] 26)).alloc (.cells #[.int .i64 0,.int .i64 0,.string ⟨#[]⟩,.bool false,.int .i64 0,.slice none 0 0,.slice none 0 0] 26)) fun e W'=>∃ v',e=.returned v'∧Q w1 W'∧∃ lo hi,w1.heap.size≤lo∧hi≤W'.heap.size∧Ow W' x v' lo hi):=by
  rw [←hw1];exact copied_all x _ w1 (Rd.on q1 _ _ hx) hs hk
 have HMY:=hid (fun w (q:Q W w)=>pmay_any x _ w (hg.on q) hm (Rd.on q _ _ hx))
 rw [hmay]at HMY;have HQ1:=hid q1;have HS1:=hid s1;clear hg hx hs hm hk hmay hw1 q1 s1;go_enter Tryz.func16,Tryz.ntmps16
 go_wp2_with (first
  |(go_at_call 23;refine HCO.out.mono ?_;rintro e9 w2 ⟨v2,rfl,q2,lo,hi,h1,h2,ow2⟩;obtain ⟨k3,n3,t3,b3,e3,a3,l3,c3,a4,l4,c4,rfl⟩:=ow2.shape;have Q2:=hid q2;have O2:=hid ow2;have H12:=hid (And.intro h1 h2);have hl2:W.heap.size+1<w2.heap.size:=(by have:=HS1.out;have:=q2.size;omega);have hl0:W.heap.size<w2.heap.size:=(by omega);clear h1 h2 ow2;obtain ⟨z0,z1,z2,z3,z4,z5,z6,_⟩:=HBX.out.blk (Q.block q2 (by have:=HS1.out;omega));clear q2)
  |(go_at_call 24;refine (HMY.out _ ((HQ1.out.trans Q2.out).alloc _)).mono ?_;rintro e9 w4 ⟨rfl,q4⟩;have N4:=hid ((nd_new w2 (.int .i64 k3) (.int .i64 n3) (.string t3) (.bool b3) (.int .i64 e3) (.slice a3 l3 c3) (.slice a4 l4 c4) 26).on q4);have q24:Q w2 w4:=((Q.refl _).alloc _).trans q4;have Q24:=hid q24;have O4:=hid (Ow.on _ _ _ _ (fun i _ h=>Bs.of (Q.block q24 (by have:=H12.out;omega))) O2.out);have TB4:=hid (HTB.out.blk (Q.block (Q2.out.trans q24) (by have:=HS1.out;omega)));have hl4:w2.heap.size<w4.heap.size:=N4.out.pl.lt;have hl5:W.heap.size+1<w4.heap.size:=(by omega);clear q4 q24 z0 z1 z2 z3 z4 z5 z6;obtain ⟨y0,y1,y2,y3,y4,y5,y6,_⟩:=N4.out;obtain ⟨u0,u1,u2,u3,u4,u5,u6,uf⟩:=TB4.out;have f0:=uf 0;have f1:=uf 1;have f2:=uf 2;have f3:=uf 3;have f4:=uf 4;have f5:=uf 5;have f6:=uf 6;clear uf;simp only [Nat.zero_add]at y0 y1 y2 y3 y4 y5 y6))
 refine bodyPost_ret (v:=.agg #[.int .i64 k3,.int .i64 n3,.string t3,.bool b3,.int .i64 e3,.slice a3 l3 c3,.slice a4 l4 c4]) (by simp [results,Tryz.results16,go_sem,u0,u1,u2,u3,u4,u5,u6]) rfl ?_
 have QF:Qx (W.heap.size+1) w4 (((((((w4.setCell ⟨W.heap.size+1,0,none⟩ (.int .i64 k3)).setCell ⟨W.heap.size+1,1,none⟩ (.int .i64 n3)).setCell ⟨W.heap.size+1,2,none⟩ (.string t3)).setCell ⟨W.heap.size+1,3,none⟩ (.bool b3)).setCell ⟨W.heap.size+1,4,none⟩ (.int .i64 e3)).setCell ⟨W.heap.size+1,5,none⟩ (.slice a3 l3 c3)).setCell ⟨W.heap.size+1,6,none⟩ (.slice a4 l4 c4)):=(((((((Qx.refl _ _).own _ _).own _ _).own _ _).own _ _).own _ _).own _ _).own _ _
 have hz:=HS1.out;have h12:=H12.out;have hq:Q W w4:=(HQ1.out.trans Q2.out).trans Q24.out
 have hz4:=Q24.out.size;refine ⟨_,rfl,⟨QF.os.trans hq.os,QF.tape.trans hq.tape,QF.output.trans hq.output,Nat.le_trans hq.size QF.size,fun i hi=>(QF.block i (Nat.lt_of_lt_of_le hi hq.size) (fun e=>by have:=Option.some.inj e;omega)).trans (Q.block hq hi)⟩,lo,hi,by omega,Nat.le_trans (by omega) QF.size,?_⟩
 exact Ow.on _ _ _ _ (fun i h1 h2=>Bs.of (QF.block i (by omega) (fun e=>by have:=Option.some.inj e;omega))) O4.out
theorem shut_all(home on:ByteArray):∀ (s:Nat) (x:Ex) (W:World) (p o:Nat) (c0 c1 c2 c3 c4 c5 c6:Value) (lo hi:Nat),SizeOf.sizeOf x≤s→Nd W p o c0 c1 c2 c3 c4 c5 c6→Ow W x (.agg #[c0,c1,c2,c3,c4,c5,c6]) lo hi→hi≤W.heap.size→(p<lo∨hi≤p) →
  Calls Tryz.prog 26 #[.pointer (some ⟨p,o,none⟩),.string home,.string on,.func (.func 34) #[] #[]] W fun e W'=>(∃ u,e=.returned u)∧Cd home.data.toList on.data.toList noB noR W W' x p o lo hi:=by
 intro s
 induction s with
 |zero=>
  intro x W p o c0 c1 c2 c3 c4 c5 c6 lo hi hs
  cases x with
  |mk k n t b e rs ks=>simp at hs
 |succ s ih=>
  intro x W p o c0 c1 c2 c3 c4 c5 c6 lo hi hs hn hx hsz hpo
  cases x with
  |mk k' n' t' b' e' rs ks=>
   have IH:=hid (fun (i:Nat) (h:i<ks.length) (W:World) (p o:Nat) (c0 c1 c2 c3 c4 c5 c6:Value) (lo hi:Nat)=>ih ks[i] W p o c0 c1 c2 c3 c4 c5 c6 lo hi (by have:=kid_size (k:=k') (n:=n') (t:=t') (b:=b') (e:=e') (rs:=rs) i h;omega))
   unfold Ow at hx
   obtain ⟨rv,kv,m,hv,hr,hm,ao,cap,hkv,hc1,hc2,hk3⟩:=hx;simp only [Value.agg.injEq,Array.mk.injEq,List.cons.injEq,and_true]at hv
   obtain ⟨rfl,rfl,rfl,rfl,rfl,rfl,rfl⟩:=hv;subst hkv;by_cases hks:ks=[]
   ·cases hrs:rs with
    |nil=>
     subst hrs;exact shut_no0 home on k' n' t' b' e' _ ks W p o lo hi m _ ao cap (hid hn) (hid hr) (hid hm) (hid ⟨hc1,hc2⟩) (hid hsz) (hid hpo) rfl hks
    |cons r0 rs'=>
     rw [←hrs];by_cases hh:orT r0.1 home.data.toList=on.data.toList
     ·exact shut_h0 home on k' n' t' b' e' rs ks W p o lo hi m _ ao cap (hid hn) (hid hr) (hid hm) (hid ⟨hc1,hc2⟩) (hid hsz) (hid hpo) r0 rs' (hid hrs) (hid hh) hks
     ·exact shut_nh0 home on k' n' t' b' e' rs ks W p o lo hi m _ ao cap (hid hn) (hid hr) (hid hm) (hid ⟨hc1,hc2⟩) (hid hsz) (hid hpo) r0 rs' (hid hrs) (hid hh) hks
   ·obtain ⟨gk,mk',hao,b1,b2,b3,b4⟩:=hk3 hks
    have b5:=Ow.OwL.le _ _ _ _ _ b4;cases hrs:rs with
    |nil=>
     subst hrs;exact shut_nok home on k' n' t' b' e' _ ks W p o lo hi m _ ao cap (hid hn) (hid hr) (hid hm) (hid ⟨hc1,hc2⟩) (hid hsz) (hid hpo) gk mk' hao (hid ⟨b1,b2,b5,b3,b4⟩) IH rfl
    |cons r0 rs'=>
     rw [←hrs];by_cases hh:orT r0.1 home.data.toList=on.data.toList
     ·exact shut_hk home on k' n' t' b' e' rs ks W p o lo hi m _ ao cap (hid hn) (hid hr) (hid hm) (hid ⟨hc1,hc2⟩) (hid hsz) (hid hpo) gk mk' hao (hid ⟨b1,b2,b5,b3,b4⟩) IH r0 rs' (hid hrs) (hid hh)
     ·exact shut_nhk home on k' n' t' b' e' rs ks W p o lo hi m _ ao cap (hid hn) (hid hr) (hid hm) (hid ⟨hc1,hc2⟩) (hid hsz) (hid hpo) gk mk' hao (hid ⟨b1,b2,b5,b3,b4⟩) IH r0 rs' (hid hrs) (hid hh)
theorem sheet_may(x:Ex)(v:Value)(home gone:ByteArray)(W:World)(hg:Gd W)(hx:Rd W x v)(hs:Sn x)(hm:Sm x)(hk:nodes x≤1000)(hmay:(fitB x&&mall mayN x)=true)(hgo:gone.data.toList≠[]) :
  Calls Tryz.prog 16 #[v,.string home,.string gone] W fun e W'=>∃ v',e=.returned v'∧Q W W'∧∃ lo hi,W.heap.size≤lo∧hi≤W'.heap.size∧Ow W' (chg home.data.toList gone.data.toList noB noR x) v' lo hi:=by
 obtain ⟨k0,n0,t0,b0,e0,a1,l1,c1,a2,l2,c2,rfl⟩:=hx.shape;obtain ⟨w1,hw1⟩:∃ w1,w1=(W.alloc (.cells #[.int .i64 k0,.int .i64 n0,.string t0,.bool b0,.int .i64 e0,.slice a1 l1 c1,.slice a2 l2 c2] 26)).alloc (.cells #[.int .i64 0,.int .i64 0,.string ⟨#[]⟩,.bool false,.int .i64 0,.slice none 0 0,.slice none 0 0] 26):=⟨_,rfl⟩;have q1:Q W w1:=by rw [hw1];exact ((Q.refl _).alloc _).alloc _
 have s1:w1.heap.size=W.heap.size+1+1:=by rw [hw1];simp
 have HTB:Hid (Tb w1 (W.heap.size+1) (.int .i64 0) (.int .i64 0) (.string ⟨#[]⟩) (.bool false) (.int .i64 0) (.slice none 0 0) (.slice none 0 0)):=by
  have:=tb_new ((W.alloc (.cells #[.int .i64 k0,.int .i64 n0,.string t0,.bool b0,.int .i64 e0,.slice a1 l1 c1,.slice a2 l2 c2] 26))) (.int .i64 0) (.int .i64 0) (.string ⟨#[]⟩) (.bool false) (.int .i64 0) (.slice none 0 0) (.slice none 0 0) 26
  rw [hw1];show Tb _ _ _ _ _ _ _ _ _
  simpa using this
 have HBX:Hid (Tb w1 W.heap.size (.int .i64 k0) (.int .i64 n0) (.string t0) (.bool b0) (.int .i64 e0) (.slice a1 l1 c1) (.slice a2 l2 c2)):=by
  have:=(tb_new W (.int .i64 k0) (.int .i64 n0) (.string t0) (.bool b0) (.int .i64 e0) (.slice a1 l1 c1) (.slice a2 l2 c2) 26).blk (W':=w1) (by rw [hw1];exact Q.block ((Q.refl _).alloc _) (by simp))
  exact this
 have HCO:Hid (Calls Tryz.prog 23 #[.agg #[.int .i64 k0,.int .i64 n0,.string t0,.bool b0,.int .i64 e0,.slice a1 l1 c1,.slice a2 l2 c2]] ((W.alloc (.cells #[.int .i64 k0,.int .i64 n0,.string t0,.bool b0,.int .i64 e0,.slice a1 l1 c1,.slice a2 l2 c2] 26)).alloc (.cells #[.int .i64 0,.int .i64 0,.string ⟨#[]⟩,.bool false,.int .i64 0,.slice none 0 0,.slice none 0 0] 26)) fun e W'=>∃ v',e=.returned v'∧Q w1 W'∧∃ lo hi,w1.heap.size≤lo∧hi≤W'.heap.size∧Ow W' x v' lo hi):=by
  rw [←hw1];exact copied_all x _ w1 (Rd.on q1 _ _ hx) hs hk
 have HMY:=hid (fun w (q:Q W w)=>pmay_any x _ w (hg.on q) hm (Rd.on q _ _ hx))
 rw [hmay]at HMY;have HQ1:=hid q1;have HS1:=hid s1;have HCH:=hid (fun w p c0 c1 c2 c3 c4 c5 c6 lo hi=>shut_all home gone _ x w p 0 c0 c1 c2 c3 c4 c5 c6 lo hi (Nat.le_refl _))
 have hgn:(gone.toList == [])=false:=by rw [(hid (toL gone)).out,beq_eq_false_iff_ne];exact hgo
 clear hg hx hs hm hk hmay hw1 q1 s1;go_enter Tryz.func16,Tryz.ntmps16
 go_wp2_with (first
  |(go_at_call 23;refine HCO.out.mono ?_;rintro e9 w2 ⟨v2,rfl,q2,lo,hi,h1,h2,ow2⟩;obtain ⟨k3,n3,t3,b3,e3,a3,l3,c3,a4,l4,c4,rfl⟩:=ow2.shape;have Q2:=hid q2;have O2:=hid ow2;have H12:=hid (And.intro h1 h2);have hl2:W.heap.size+1<w2.heap.size:=(by have:=HS1.out;have:=q2.size;omega);have hl0:W.heap.size<w2.heap.size:=(by omega);clear h1 h2 ow2;obtain ⟨z0,z1,z2,z3,z4,z5,z6,_⟩:=HBX.out.blk (Q.block q2 (by have:=HS1.out;omega));clear q2)
  |(go_at_call 24;refine (HMY.out _ ((HQ1.out.trans Q2.out).alloc _)).mono ?_;rintro e9 w4 ⟨rfl,q4⟩;have N4:=hid ((nd_new w2 (.int .i64 k3) (.int .i64 n3) (.string t3) (.bool b3) (.int .i64 e3) (.slice a3 l3 c3) (.slice a4 l4 c4) 26).on q4);have q24:Q w2 w4:=((Q.refl _).alloc _).trans q4;have Q24:=hid q24;have O4:=hid (Ow.on _ _ _ _ (fun i _ h=>Bs.of (Q.block q24 (by have:=H12.out;omega))) O2.out);have TB4:=hid (HTB.out.blk (Q.block (Q2.out.trans q24) (by have:=HS1.out;omega)));have hl4:w2.heap.size<w4.heap.size:=N4.out.pl.lt;have hl5:W.heap.size+1<w4.heap.size:=(by omega);clear q4 q24 z0 z1 z2 z3 z4 z5 z6;obtain ⟨y0,y1,y2,y3,y4,y5,y6,_⟩:=N4.out;obtain ⟨u0,u1,u2,u3,u4,u5,u6,uf⟩:=TB4.out;have f0:=uf 0;have f1:=uf 1;have f2:=uf 2;have f3:=uf 3;have f4:=uf 4;have f5:=uf 5;have f6:=uf 6;clear uf;simp only [Nat.zero_add]at y0 y1 y2 y3 y4 y5 y6)
  |(go_at_call 26;refine (HCH.out w4 w2.heap.size _ _ _ _ _ _ _ lo hi N4.out O4.out (by have:=H12.out;have:=Q24.out.size;omega) (.inr H12.out.2)).mono ?_;rintro e9 w6 ⟨⟨u9,rfl⟩,cd6⟩;obtain ⟨d0,d1,d2,d3,d4,d5,d6,n6,o6⟩:=cd6.ex;obtain ⟨k7,n7,t7,b7,e7,a7,l7,c7,a8,l8,c8,hsh⟩:=o6.shape;simp only [Value.agg.injEq,Array.mk.injEq,List.cons.injEq,and_true]at hsh;obtain ⟨rfl,rfl,rfl,rfl,rfl,rfl,rfl⟩:=hsh;have C6:=hid cd6.ch;have O6:=hid o6;have TB6:=hid (TB4.out.blk (C6.out.q.block _ hl5 (fun e=>by have:=H12.out;have:=HS1.out;omega)));clear y0 y1 y2 y3 y4 y5 y6 u0 u1 u2 u3 u4 u5 u6 f0 f1 f2 f3 f4 f5 f6;obtain ⟨y0,y1,y2,y3,y4,y5,y6,_⟩:=n6;obtain ⟨u0,u1,u2,u3,u4,u5,u6,uf⟩:=TB6.out;have f0:=uf 0;have f1:=uf 1;have f2:=uf 2;have f3:=uf 3;have f4:=uf 4;have f5:=uf 5;have f6:=uf 6;clear uf cd6 o6;simp only [Nat.zero_add]at y0 y1 y2 y3 y4 y5 y6))
 refine bodyPost_ret (v:=.agg #[.int .i64 k7,.int .i64 n7,.string t7,.bool b7,.int .i64 e7,.slice a7 l7 c7,.slice a8 l8 c8]) (by simp [results,Tryz.results16,go_sem,u0,u1,u2,u3,u4,u5,u6]) rfl ?_
 have QF:Qx (W.heap.size+1) w6 (((((((w6.setCell ⟨W.heap.size+1,0,none⟩ (.int .i64 k7)).setCell ⟨W.heap.size+1,1,none⟩ (.int .i64 n7)).setCell ⟨W.heap.size+1,2,none⟩ (.string t7)).setCell ⟨W.heap.size+1,3,none⟩ (.bool b7)).setCell ⟨W.heap.size+1,4,none⟩ (.int .i64 e7)).setCell ⟨W.heap.size+1,5,none⟩ (.slice a7 l7 c7)).setCell ⟨W.heap.size+1,6,none⟩ (.slice a8 l8 c8)):=(((((((Qx.refl _ _).own _ _).own _ _).own _ _).own _ _).own _ _).own _ _).own _ _
 have hz:=HS1.out;have h12:=H12.out;have hq:Q W w6:=q_chd ((HQ1.out.trans Q2.out).trans Q24.out) C6.out (by omega) (by omega)
 have hz4:=Q24.out.size;have hz6:=C6.out.q.size;refine ⟨_,rfl,⟨QF.os.trans hq.os,QF.tape.trans hq.tape,QF.output.trans hq.output,Nat.le_trans hq.size QF.size,fun i hi=>(QF.block i (Nat.lt_of_lt_of_le hi hq.size) (fun e=>by have:=Option.some.inj e;omega)).trans (Q.block hq hi)⟩,lo,hi,by omega,Nat.le_trans (by omega) QF.size,?_⟩
 exact Ow.on _ _ _ _ (fun i h1 h2=>Bs.of (QF.block i (by omega) (fun e=>by have:=Option.some.inj e;omega))) O6.out
theorem sheet_none(x:Ex)(v:Value)(home gone:ByteArray)(W:World)(hg:Gd W)(hx:Rd W x v)(hs:Sn x)(hm:Sm x)(hk:nodes x≤1000)(hmay:(fitB x&&mall mayN x)=true)(hgo:gone.data.toList=[]) :
  Calls Tryz.prog 16 #[v,.string home,.string gone] W fun e W'=>∃ v',e=.returned v'∧Q W W'∧∃ lo hi,W.heap.size≤lo∧hi≤W'.heap.size∧Ow W' (x) v' lo hi:=by
 obtain ⟨k0,n0,t0,b0,e0,a1,l1,c1,a2,l2,c2,rfl⟩:=hx.shape;obtain ⟨w1,hw1⟩:∃ w1,w1=(W.alloc (.cells #[.int .i64 k0,.int .i64 n0,.string t0,.bool b0,.int .i64 e0,.slice a1 l1 c1,.slice a2 l2 c2] 26)).alloc (.cells #[.int .i64 0,.int .i64 0,.string ⟨#[]⟩,.bool false,.int .i64 0,.slice none 0 0,.slice none 0 0] 26):=⟨_,rfl⟩;have q1:Q W w1:=by rw [hw1];exact ((Q.refl _).alloc _).alloc _
 have s1:w1.heap.size=W.heap.size+1+1:=by rw [hw1];simp
 have HTB:Hid (Tb w1 (W.heap.size+1) (.int .i64 0) (.int .i64 0) (.string ⟨#[]⟩) (.bool false) (.int .i64 0) (.slice none 0 0) (.slice none 0 0)):=by
  have:=tb_new ((W.alloc (.cells #[.int .i64 k0,.int .i64 n0,.string t0,.bool b0,.int .i64 e0,.slice a1 l1 c1,.slice a2 l2 c2] 26))) (.int .i64 0) (.int .i64 0) (.string ⟨#[]⟩) (.bool false) (.int .i64 0) (.slice none 0 0) (.slice none 0 0) 26
  rw [hw1];show Tb _ _ _ _ _ _ _ _ _
  simpa using this
 have HBX:Hid (Tb w1 W.heap.size (.int .i64 k0) (.int .i64 n0) (.string t0) (.bool b0) (.int .i64 e0) (.slice a1 l1 c1) (.slice a2 l2 c2)):=by
  have:=(tb_new W (.int .i64 k0) (.int .i64 n0) (.string t0) (.bool b0) (.int .i64 e0) (.slice a1 l1 c1) (.slice a2 l2 c2) 26).blk (W':=w1) (by rw [hw1];exact Q.block ((Q.refl _).alloc _) (by simp))
  exact this
 have HCO:Hid (Calls Tryz.prog 23 #[.agg #[.int .i64 k0,.int .i64 n0,.string t0,.bool b0,.int .i64 e0,.slice a1 l1 c1,.slice a2 l2 c2]] ((W.alloc (.cells #[.int .i64 k0,.int .i64 n0,.string t0,.bool b0,.int .i64 e0,.slice a1 l1 c1,.slice a2 l2 c2] 26)).alloc (.cells #[.int .i64 0,.int .i64 0,.string ⟨#[]⟩,.bool false,.int .i64 0,.slice none 0 0,.slice none 0 0] 26)) fun e W'=>∃ v',e=.returned v'∧Q w1 W'∧∃ lo hi,w1.heap.size≤lo∧hi≤W'.heap.size∧Ow W' x v' lo hi):=by
  rw [←hw1];exact copied_all x _ w1 (Rd.on q1 _ _ hx) hs hk
 have HMY:=hid (fun w (q:Q W w)=>pmay_any x _ w (hg.on q) hm (Rd.on q _ _ hx))
 rw [hmay]at HMY;have HQ1:=hid q1;have HS1:=hid s1;have hgn:(gone.toList == [])=true:=by rw [(hid (toL gone)).out,hgo];rfl
 clear hg hx hs hm hk hmay hw1 q1 s1 hgo;go_enter Tryz.func16,Tryz.ntmps16
 go_wp2_with (first
  |(go_at_call 23;refine HCO.out.mono ?_;rintro e9 w2 ⟨v2,rfl,q2,lo,hi,h1,h2,ow2⟩;obtain ⟨k3,n3,t3,b3,e3,a3,l3,c3,a4,l4,c4,rfl⟩:=ow2.shape;have Q2:=hid q2;have O2:=hid ow2;have H12:=hid (And.intro h1 h2);have hl2:W.heap.size+1<w2.heap.size:=(by have:=HS1.out;have:=q2.size;omega);have hl0:W.heap.size<w2.heap.size:=(by omega);clear h1 h2 ow2;obtain ⟨z0,z1,z2,z3,z4,z5,z6,_⟩:=HBX.out.blk (Q.block q2 (by have:=HS1.out;omega));clear q2)
  |(go_at_call 24;refine (HMY.out _ ((HQ1.out.trans Q2.out).alloc _)).mono ?_;rintro e9 w4 ⟨rfl,q4⟩;have N4:=hid ((nd_new w2 (.int .i64 k3) (.int .i64 n3) (.string t3) (.bool b3) (.int .i64 e3) (.slice a3 l3 c3) (.slice a4 l4 c4) 26).on q4);have q24:Q w2 w4:=((Q.refl _).alloc _).trans q4;have Q24:=hid q24;have O4:=hid (Ow.on _ _ _ _ (fun i _ h=>Bs.of (Q.block q24 (by have:=H12.out;omega))) O2.out);have TB4:=hid (HTB.out.blk (Q.block (Q2.out.trans q24) (by have:=HS1.out;omega)));have hl4:w2.heap.size<w4.heap.size:=N4.out.pl.lt;have hl5:W.heap.size+1<w4.heap.size:=(by omega);clear q4 q24 z0 z1 z2 z3 z4 z5 z6;obtain ⟨y0,y1,y2,y3,y4,y5,y6,_⟩:=N4.out;obtain ⟨u0,u1,u2,u3,u4,u5,u6,uf⟩:=TB4.out;have f0:=uf 0;have f1:=uf 1;have f2:=uf 2;have f3:=uf 3;have f4:=uf 4;have f5:=uf 5;have f6:=uf 6;clear uf;simp only [Nat.zero_add]at y0 y1 y2 y3 y4 y5 y6))
 refine bodyPost_ret (v:=.agg #[.int .i64 k3,.int .i64 n3,.string t3,.bool b3,.int .i64 e3,.slice a3 l3 c3,.slice a4 l4 c4]) (by simp [results,Tryz.results16,go_sem,u0,u1,u2,u3,u4,u5,u6]) rfl ?_
 have QF:Qx (W.heap.size+1) w4 (((((((w4.setCell ⟨W.heap.size+1,0,none⟩ (.int .i64 k3)).setCell ⟨W.heap.size+1,1,none⟩ (.int .i64 n3)).setCell ⟨W.heap.size+1,2,none⟩ (.string t3)).setCell ⟨W.heap.size+1,3,none⟩ (.bool b3)).setCell ⟨W.heap.size+1,4,none⟩ (.int .i64 e3)).setCell ⟨W.heap.size+1,5,none⟩ (.slice a3 l3 c3)).setCell ⟨W.heap.size+1,6,none⟩ (.slice a4 l4 c4)):=(((((((Qx.refl _ _).own _ _).own _ _).own _ _).own _ _).own _ _).own _ _).own _ _
 have hz:=HS1.out;have h12:=H12.out;have hq:Q W w4:=(HQ1.out.trans Q2.out).trans Q24.out
 have hz4:=Q24.out.size;refine ⟨_,rfl,⟨QF.os.trans hq.os,QF.tape.trans hq.tape,QF.output.trans hq.output,Nat.le_trans hq.size QF.size,fun i hi=>(QF.block i (Nat.lt_of_lt_of_le hi hq.size) (fun e=>by have:=Option.some.inj e;omega)).trans (Q.block hq hi)⟩,lo,hi,by omega,Nat.le_trans (by omega) QF.size,?_⟩
 exact Ow.on _ _ _ _ (fun i h1 h2=>Bs.of (QF.block i (by omega) (fun e=>by have:=Option.some.inj e;omega))) O4.out
end Go.Proofs.YtoikodohcieipaaGreatDoor
