/- counterpanelaw10.Cut, walked; . -/
import Derived.Test.YtngnakdbhkjbjaaGreatDoorKm49
import Derived.Test.YtngnakdbhkjbjaaGreatDoorKm20
import Derived.Test.YtngnakdbhkjbjaaGreatDoorKm16
import Derived.Great.BuildSlice
import Derived.Deep.AppendLies
import Derived.Test.YtngnakdbhkjbjaaGreatDoorKm39
import Derived.Test.YtngnakdbhkjbjaaGreatDoorKm06
import Derived.Test.YtngnakdbhkjbjaaGreatDoorKm10
import Derived.Test.YtngnakdbhkjbjaaGreatDoorKm12
import Derived.Test.YtngnakdbhkjbjaaGreatDoorKm43
set_option linter.unusedVariables false
set_option linter.unusedSimpArgs false
set_option maxRecDepth 100000
set_option maxHeartbeats 8000000
namespace Go.Proofs.YtngnakdbhkjbjaaGreatDoor
open Go.RowKit
def S30(s:ByteArray):ByteArray:=if (30:Int)<(s.size:Int) then s.extract 0 (30:Int).toNat else s
theorem S30_size(s:ByteArray):(S30 s).size≤30:=by
 unfold S30
 by_cases h:(30:Int)<(s.size:Int)
 ·rw [if_pos h]
  simp [ByteArray.size_extract]
  omega
 ·rw [if_neg h]
  omega
theorem short30(s:ByteArray)(w:World):Calls Tryz.prog 17 #[.string s,.int .i64 30] w fun e w'=>e=.returned (.string (S30 s))∧w'=w:=short_any s 30 w (by omega) (by omega)
def OpX(W0:World)(P:Nat→Prop)(V:World)(y:Rv)(b:Bool):Prop:=∃ X M mr,Rdg P V X (.agg #[.int .i64 y.tk,.int .i64 y.tm,.string y.tt,.bool y.tb,.int .i64 y.te,.slice y.a1 y.l1 y.c1,.slice y.a2 y.l2 y.c2])∧R.Sl R.rc 4 W0 (.slice y.ra y.rl y.rc) M∧OK1 y X M∧MR M mr∧b=mayO y X M mr
def CutP(W0 W:World)(e:Ending)(V:World):Prop:=∃ y b,e=.returned (.agg (Rv.L y).toArray)∧OpX W0 (fun n=>n<W0.heap.size∨W.heap.size≤n) V y b∧Q W V
theorem cuT_sz(t:ByteArray):(cuT t).size≤250:=by
 unfold cuT
 by_cases h:250<t.size
 ·rw [if_pos h]
  simp [ByteArray.size_extract]
  omega
 ·rw [if_neg h]
  omega
theorem qx_setRow(V:World)(q:Nat)(cs:Array Value):Qx q V (V.setRow q cs):=⟨rfl,rfl,rfl,by simp [World.setRow],fun i hi hne=>setRow_other V q i cs (fun e=>hne (by rw [e]))⟩
theorem Qx.cells{p:Nat}{a:World}:∀ (vs:List Value) (o:Nat) {w:World},Qx p a w→Qx p a (w.setCells p o vs)
 |[],_,_,h=>h
 |v::r,o,w,h=>Qx.cells r (o+1) (h.own _ _)
theorem cutop_any(x:Rv)(X:Ex)(M:List R.Rg.Rc)(W0 W:World)(hr:RdI W0 X (.agg #[.int .i64 x.tk,.int .i64 x.tm,.string x.tt,.bool x.tb,.int .i64 x.te,.slice x.a1 x.l1 x.c1,.slice x.a2 x.l2 x.c2]))(hM:R.Sl R.rc 4 W0 (.slice x.ra x.rl x.rc) M)(hq0:Q W0 W)(hS:Sm (cutE X 1 220).1)(hN:nodes (cutE X 1 220).1≤1000) :
  Calls Tryz.prog 7 #[.agg x.L.toArray] W fun e V'=>CutP W0 W e V':=by
 go_enter Tryz.func7,Tryz.ntmps7
 go_upto_region 1 with fail
 have Z1:=hid ((cq_new W x.L).on ((Q.refl _).alloc (.cells zero23 35)));have Z2:Hid (Cq ((W.alloc (.cells x.L.toArray 35)).alloc (.cells zero23 35)) (W.heap.size+1) zero23.toList):=hid (by have h:=cq_new (W.alloc (.cells x.L.toArray 35)) zero23.toList;rw [show (W.alloc (.cells x.L.toArray 35)).heap.size=W.heap.size+1 by simp]at h;exact h)
 have QA:Hid (Q W ((W.alloc (.cells x.L.toArray 35)).alloc (.cells zero23 35))):=hid (((Q.refl W).alloc _).alloc _)
 have hne:W.heap.size≠W.heap.size+1:=by omega
 have hp:W.heap.size≤W.heap.size:=Nat.le_refl _
 have hq:W.heap.size≤W.heap.size+1:=by omega
 unfold zero23 at Z1 Z2 QA
 generalize (W.alloc (.cells x.L.toArray 35)).alloc _=w2 at Z1 Z2 QA ⊢;have Z1D:=hid (Z1.out.on (Q.refl _).drew);have d1:=Z1.out.c 1 _ rfl;have d22:=Z1.out.c 22 _ rfl;have f1:=Z1.out.f 1;have f22:=Z1.out.f 22;refine two (F:=?F) (fun HF=>?both) ?rest
 case both=>
  go_region_with (go_at_call 17;refine (short30 _ _).mono ?_;rintro e9 v9 ⟨rfl,h9⟩;replace h9:=h9.symm;subst h9)
  all_goals exact HF
 clear Z1D d1 d22 f1 f22;have ZA:Hid (Cq (((w2.setCell ⟨W.heap.size,1,none⟩ (.string (S30 x.sh))).setCell ⟨W.heap.size,22,none⟩ (.string (S30 x.nm))).drew) W.heap.size (Rv.L { x with sh:=S30 x.sh,nm:=S30 x.nm })):=hid (((Z1.out.put 1 (.string (S30 x.sh))).put 22 (.string (S30 x.nm))).on (Q.refl _).drew)
 have ZB:=hid (((Z2.out.oth hne.symm 1 (.string (S30 x.sh))).oth hne.symm 22 (.string (S30 x.nm))).on (Q.refl _).drew);have QB:Hid (Q W (((w2.setCell ⟨W.heap.size,1,none⟩ (.string (S30 x.sh))).setCell ⟨W.heap.size,22,none⟩ (.string (S30 x.nm))).drew)):=hid ((Q.setCell (Q.setCell QA.out hp _) hp _).drew)
 clear Z1 Z2 QA;generalize ((w2.setCell ⟨W.heap.size,1,none⟩ (.string (S30 x.sh))).setCell ⟨W.heap.size,22,none⟩ (.string (S30 x.nm))).drew=V1 at ZA ZB QB ⊢;have d4:V1.cell? ⟨W.heap.size,4,none⟩=some (.bool x.f):=ZA.out.c 4 _ rfl
 have d5:V1.cell? ⟨W.heap.size,5,none⟩=some (.int .i64 x.vk):=ZA.out.c 5 _ rfl
 have d6:V1.cell? ⟨W.heap.size,6,none⟩=some (.int .i64 x.vn):=ZA.out.c 6 _ rfl
 have d7:V1.cell? ⟨W.heap.size,7,none⟩=some (.string x.vt):=ZA.out.c 7 _ rfl
 have d8:V1.cell? ⟨W.heap.size,8,none⟩=some (.bool x.vb):=ZA.out.c 8 _ rfl
 have d9:V1.cell? ⟨W.heap.size,9,none⟩=some (.int .i64 x.ve):=ZA.out.c 9 _ rfl
 have d10:V1.cell? ⟨W.heap.size,10,none⟩=some (.int .i64 x.tk):=ZA.out.c 10 _ rfl
 have d11:V1.cell? ⟨W.heap.size,11,none⟩=some (.int .i64 x.tm):=ZA.out.c 11 _ rfl
 have d12:V1.cell? ⟨W.heap.size,12,none⟩=some (.string x.tt):=ZA.out.c 12 _ rfl
 have d13:V1.cell? ⟨W.heap.size,13,none⟩=some (.bool x.tb):=ZA.out.c 13 _ rfl
 have d14:V1.cell? ⟨W.heap.size,14,none⟩=some (.int .i64 x.te):=ZA.out.c 14 _ rfl
 have d15:V1.cell? ⟨W.heap.size,15,none⟩=some (.slice x.a1 x.l1 x.c1):=ZA.out.c 15 _ rfl
 have d16:V1.cell? ⟨W.heap.size,16,none⟩=some (.slice x.a2 x.l2 x.c2):=ZA.out.c 16 _ rfl
 have HC:=hid (cutc_any x.f x.vk x.vn x.vt x.vb x.ve x.tk x.tm x.tt x.tb x.te x.a1 x.l1 x.c1 x.a2 x.l2 x.c2 X W0 V1 hr (hq0.trans QB.out));go_upto_region 3 with (first
  |(go_at_call 18;refine HC.out.mono ?_;rintro e9 V2 ⟨k8,m8,t8,bb8,er8,a18,l18,c18,a28,l28,c28,rfl,hd8,q9⟩;have QC:Hid (Q W V2):=hid (QB.out.trans q9);have ZC:=hid (ZA.out.on q9);have ZD:=hid (ZB.out.on q9);have RD:=hid hd8;clear q9 hd8)
  |(with_reducible refine wpList_store_mid (by with_unfolding_all rfl) 30 _ _ (by with_unfolding_all rfl) W.heap.size 4 #[.bool x.f,.int .i64 x.vk,.int .i64 x.vn,.string (cuT x.vt),.bool x.vb,.int .i64 x.ve,.int .i64 k8,.int .i64 m8,.string t8,.bool bb8,.int .i64 er8,.slice a18 l18 c18,.slice a28 l28 c28] (by with_unfolding_all rfl) (by with_unfolding_all rfl) (by with_unfolding_all exact there_cq ZC.out 4 13 (by simp [Rv.L])) (by with_unfolding_all exact info30) (by kernel_rfl) ?_))
 have ZE:Hid (Cq (V2.setCells W.heap.size 4 [.bool x.f,.int .i64 x.vk,.int .i64 x.vn,.string (cuT x.vt),.bool x.vb,.int .i64 x.ve,.int .i64 k8,.int .i64 m8,.string t8,.bool bb8,.int .i64 er8,.slice a18 l18 c18,.slice a28 l28 c28]) W.heap.size (Rv.L { x with sh:=S30 x.sh,nm:=S30 x.nm,vt:=cuT x.vt,tk:=k8,tm:=m8,tt:=t8,tb:=bb8,te:=er8,a1:=a18,l1:=l18,c1:=c18,a2:=a28,l2:=l28,c2:=c28 })):=hid (Cq.cells [.bool x.f,.int .i64 x.vk,.int .i64 x.vn,.string (cuT x.vt),.bool x.vb,.int .i64 x.ve,.int .i64 k8,.int .i64 m8,.string t8,.bool bb8,.int .i64 er8,.slice a18 l18 c18,.slice a28 l28 c28] 4 ZC.out)
 have ZF:=hid (Cq.othcells hne.symm [.bool x.f,.int .i64 x.vk,.int .i64 x.vn,.string (cuT x.vt),.bool x.vb,.int .i64 x.ve,.int .i64 k8,.int .i64 m8,.string t8,.bool bb8,.int .i64 er8,.slice a18 l18 c18,.slice a28 l28 c28] 4 ZD.out);have QE:Hid (Q W (V2.setCells W.heap.size 4 [.bool x.f,.int .i64 x.vk,.int .i64 x.vn,.string (cuT x.vt),.bool x.vb,.int .i64 x.ve,.int .i64 k8,.int .i64 m8,.string t8,.bool bb8,.int .i64 er8,.slice a18 l18 c18,.slice a28 l28 c28])):=hid (Q.cells hp _ _ QC.out)
 have XE:Qx W.heap.size V2 (V2.setCells W.heap.size 4 [.bool x.f,.int .i64 x.vk,.int .i64 x.vn,.string (cuT x.vt),.bool x.vb,.int .i64 x.ve,.int .i64 k8,.int .i64 m8,.string t8,.bool bb8,.int .i64 er8,.slice a18 l18 c18,.slice a28 l28 c28]):=Qx.cells _ _ (Qx.refl _ _)
 have RE:=hid (Rdg.on XE (fun b hb=>by have h1:=ZA.out.l;have h2:=hq0.size;omega) _ _ RD.out)
 have hV1:W.heap.size+1<V1.heap.size:=ZB.out.l
 have hW0:=hq0.size;obtain ⟨y,hy⟩:∃ y:Rv,y={ x with sh:=S30 x.sh,nm:=S30 x.nm,vt:=cuT x.vt,tk:=k8,tm:=m8,tt:=t8,tb:=bb8,te:=er8,a1:=a18,l1:=l18,c1:=c18,a2:=a28,l2:=l28,c2:=c28 }:=⟨_,rfl⟩;rw [←hy]at ZE;have HY:Hid (y.ra=x.ra∧y.rl=x.rl∧y.rc=x.rc∧y.sh=S30 x.sh∧y.nm=S30 x.nm∧y.vt=cuT x.vt):=hid (by rw [hy];exact ⟨rfl,rfl,rfl,rfl,rfl,rfl⟩)
 have RY:Hid (Rdg (fun b=>b<W0.heap.size∨V1.heap.size≤b) (V2.setCells W.heap.size 4 [.bool x.f,.int .i64 x.vk,.int .i64 x.vn,.string (cuT x.vt),.bool x.vb,.int .i64 x.ve,.int .i64 k8,.int .i64 m8,.string t8,.bool bb8,.int .i64 er8,.slice a18 l18 c18,.slice a28 l28 c28]) (cutE X 1 220).1 (.agg #[.int .i64 y.tk,.int .i64 y.tm,.string y.tt,.bool y.tb,.int .i64 y.te,.slice y.a1 y.l1 y.c1,.slice y.a2 y.l2 y.c2])):=hid (by rw [hy];exact RE.out)
 clear hy RE XE RD ZC ZD QC ZA ZB;generalize V2.setCells W.heap.size 4 [.bool x.f,.int .i64 x.vk,.int .i64 x.vn,.string (cuT x.vt),.bool x.vb,.int .i64 x.ve,.int .i64 k8,.int .i64 m8,.string t8,.bool bb8,.int .i64 er8,.slice a18 l18 c18,.slice a28 l28 c28]=V3 at ZE ZF QE RY ⊢;have d20:V3.cell? ⟨W.heap.size,20,none⟩=some (.slice x.ra x.rl x.rc):=(ZE.out.c 20 _ rfl).trans (by rw [HY.out.1,HY.out.2.1,HY.out.2.2.1])
 have f20:=ZE.out.f 20;have hMl:=hM.len;obtain ⟨ao,cap,hsl,hc1,hc2⟩:=hMl;simp only [Value.slice.injEq]at hsl
 obtain ⟨hra,hrl,hrc⟩:=hsl;have HM:=hid hM;have h3:x.rl≤9223372036854775807:=by rw [hrl];exact Nat.le_trans hc1 (by unfold maxLen at hc2;omega)
 have h4:x.rl≤x.rc:=by rw [hrl,hrc];exact hc1
 obtain ⟨mr,hmr⟩:=mr_ex (M.take 20);have OK:Hid (∀ z:Rv,z.sh=y.sh→z.nm=y.nm→z.vt=y.vt→OK1 z (cutE X 1 220).1 (M.take 20)):=hid (fun z h1 h2 h3=>⟨by rw [h1,HY.out.2.2.2.1];have:=S30_size x.sh;omega,by rw [h2,HY.out.2.2.2.2.1];have:=S30_size x.nm;omega,by rw [h3,HY.out.2.2.2.2.2];have:=cuT_sz x.vt;omega,hS,hN,by rw [List.length_take];omega⟩)
 have HFin:Hid (∀ (z:Rv) (V:World),Rdg (fun b=>b<W0.heap.size∨V1.heap.size≤b) V (cutE X 1 220).1 (.agg #[.int .i64 z.tk,.int .i64 z.tm,.string z.tt,.bool z.tb,.int .i64 z.te,.slice z.a1 z.l1 z.c1,.slice z.a2 z.l2 z.c2])→Cq V (W.heap.size+1) zero23.toList→Q W V→R.Sl R.rc 4 W0 (.slice z.ra z.rl z.rc) (M.take 20)→OK1 z (cutE X 1 220).1 (M.take 20) →
   OpX W0 (fun n=>n<W0.heap.size∨W.heap.size≤n) (V.setRow (W.heap.size+1) z.L.toArray) z (mayO z (cutE X 1 220).1 (M.take 20) mr)∧Q W (V.setRow (W.heap.size+1) z.L.toArray)∧(V.setRow (W.heap.size+1) z.L.toArray).heap[W.heap.size+1]?=some (.cells z.L.toArray 35 (0,0))):=hid (fun z V h1 h2 h3 h4 h5=>by
  have hx:Qx (W.heap.size+1) V (V.setRow (W.heap.size+1) z.L.toArray):=qx_setRow V _ _
  have hQ:Q W (V.setRow (W.heap.size+1) z.L.toArray):=h3.viaq hx hq
  exact ⟨⟨_,_,mr,Rdg.mono (fun b hb=>by omega) _ _ (Rdg.on hx (fun b hb=>by omega) _ _ h1),h4,h5,hmr,rfl⟩,hQ,setRow_heap V _ _ _ _ _ h2.h⟩)
 by_cases h20:(20:Int)<(x.rl:Int)
 ·obtain ⟨g,off,cp,hsl2,u1,u2,u3⟩:=hM.at (i:=0) (by omega)
  clear u1 u2 u3;simp only [Value.slice.injEq]at hsl2
  have hg:=hsl2.1;have HT:Hid (R.Sl R.rc 4 W0 (.slice x.ra 20 x.rc) (M.take 20)):=hid (by
   have h:=hM;rw [hrl]at h;exact R.sl_take h 20 (by omega))
  rw [hg]at d20 HT;have ZG:Hid (Cq (V3.setCell ⟨W.heap.size,20,none⟩ (.slice (some ⟨g,off,none⟩) 20 x.rc)) W.heap.size (Rv.L { y with ra:=some ⟨g,off,none⟩,rl:=20,rc:=x.rc })):=hid (ZE.out.put 20 (.slice (some ⟨g,off,none⟩) 20 x.rc))
  have ZH:=hid (ZF.out.oth hne.symm 20 (.slice (some ⟨g,off,none⟩) 20 x.rc));have QG:=hid (Q.setCell QE.out hp (k:=20) (.slice (some ⟨g,off,none⟩) 20 x.rc));have RG:=hid (Rdg.on (show Qx W.heap.size V3 (V3.setCell ⟨W.heap.size,20,none⟩ (.slice (some ⟨g,off,none⟩) 20 x.rc)) from (Qx.refl _ _).own _ _) (fun b hb=>by omega) _ _ RY.out)
  have HH:=hid (HFin.out { y with ra:=some ⟨g,off,none⟩,rl:=20,rc:=x.rc } _ RG.out ZH.out QG.out HT.out (OK.out _ rfl rfl rfl));have hl2:(20:Int)≤(x.rc:Int):=by omega
  have hl3:(x.rc:Int)≤9223372036854775807:=by rw [hrc];unfold maxLen at hc2;omega
  obtain ⟨z,hz⟩:∃ z:Rv,z={ y with ra:=some ⟨g,off,none⟩,rl:=20,rc:=x.rc }:=⟨_,rfl⟩;rw [←hz]at ZG HH;clear ZE ZF QE RY RG HFin OK hM HM HT hz hsl2 hg hra hrl hrc HY;go_upto_region 5 with fail
  generalize V3.setCell ⟨W.heap.size,20,none⟩ (.slice (some ⟨g,off,none⟩) 20 x.rc)=V4 at ZG ZH QG HH ⊢;go_wp2_with (first
   |(with_reducible refine wpl_loadg _ (by with_unfolding_all rfl) (by with_unfolding_all rfl) W.heap.size (by with_unfolding_all rfl) z.L (by with_unfolding_all exact ZG.out) (by with_unfolding_all rfl) ?_)
   |(with_reducible refine wpList_store_row (by with_unfolding_all rfl) 35 _ _ (by with_unfolding_all rfl) (W.heap.size+1) z.L.toArray (by with_unfolding_all rfl) (by with_unfolding_all rfl) 35 zero23 (by with_unfolding_all exact ZH.out.h) (by with_unfolding_all exact info35) (by with_unfolding_all rfl) (by with_unfolding_all exact z.one) ?_))
  refine bodyPost_ret (v:=.agg z.L.toArray) (results_cell_row Tryz.results7 _ _ (W.heap.size+1) 35 z.L.toArray (0,0) _ (by rfl) HH.out.2.2 Tryz.underlying35 rfl info35) rfl ?_
  exact (⟨z,_,rfl,HH.out.1,HH.out.2.1⟩:CutP W0 W _ _)
 ·have HT:Hid (R.Sl R.rc 4 W0 (.slice y.ra y.rl y.rc) (M.take 20)):=hid (by
   rw [HY.out.1,HY.out.2.1,HY.out.2.2.1,List.take_of_length_le (by omega)]
   exact hM)
  have HH:=hid (HFin.out y _ RY.out ZF.out QE.out HT.out (OK.out _ rfl rfl rfl));obtain ⟨z,hz⟩:∃ z:Rv,z=y:=⟨_,rfl⟩;rw [←hz]at ZE HH;have ZG:=ZE;have ZH:=ZF;clear ZE ZF QE RY HFin OK hM HM HT hz hra hrl hrc HY;go_upto_region 5 with fail
  go_wp2_with (first
   |(with_reducible refine wpl_loadg _ (by with_unfolding_all rfl) (by with_unfolding_all rfl) W.heap.size (by with_unfolding_all rfl) z.L (by with_unfolding_all exact ZG.out) (by with_unfolding_all rfl) ?_)
   |(with_reducible refine wpList_store_row (by with_unfolding_all rfl) 35 _ _ (by with_unfolding_all rfl) (W.heap.size+1) z.L.toArray (by with_unfolding_all rfl) (by with_unfolding_all rfl) 35 zero23 (by with_unfolding_all exact ZH.out.h) (by with_unfolding_all exact info35) (by with_unfolding_all rfl) (by with_unfolding_all exact z.one) ?_))
  refine bodyPost_ret (v:=.agg z.L.toArray) (results_cell_row Tryz.results7 _ _ (W.heap.size+1) 35 z.L.toArray (0,0) _ (by rfl) HH.out.2.2 Tryz.underlying35 rfl info35) rfl ?_
  exact (⟨z,_,rfl,HH.out.1,HH.out.2.1⟩:CutP W0 W _ _)
theorem info35x:(Tryz.prog.info? 35).map (fun i=>(i.zero,i.size))=some (some (.agg zero23),23):=by kernel_rfl
theorem wpl_bsl{w:World}{ops:Array Oper}{rest:List Oper}{o:Oper}{a:Act}{Q:Exit→Act→World→Prop}(len:Nat)(parts:Array (Nat × Operand))(ho:o.op=.buildSlice 42 len parts)(hw:Region.wanted o (yielded ops a.tmps)=true)
  (xs:List Rv) (hl:0<len∧len≤1000)
  (hf:Instr.fill (fun i=>some (i*23,23)) ((Array.range (len*23)).map (zero23[· % zero23.size]!)) (parts.map fun (i,x)=>(i,a.eval x)).toList=some (flat Rv.L xs).toArray)
  (h:wpList Tryz.prog ops Q rest (a.put o.dst (.slice (some ⟨w.heap.size,0,none⟩) len len)) (w.alloc (.cells (flat Rv.L xs).toArray 35))):wpList Tryz.prog ops Q (o::rest) a w:=by
 simp only [wpList,hw,if_true]
 cases hq:Tryz.prog.info? 35 with
 |none=>
  have hx:=info35x;rw [hq]at hx;cases hx
 |some ie=>
  have hx:=info35x;rw [hq]at hx;simp only [Option.map_some,Option.some.injEq,Prod.mk.injEq]at hx
  obtain ⟨hz,hs⟩:=hx;refine .inl (wp_buildSlice 42 35 len parts ho (flat Rv.L xs).toArray ie (.agg zero23) Tryz.underlying42 hq hz (by rw [hs];omega) (by rw [hs];omega) ?_ h)
  rw [hs];exact hf
theorem sl_lit23(W:World)(xs:List Rv)(hl:xs.length≤1000):Sl Rv.L 23 (W.alloc (.cells (flat Rv.L xs).toArray 35)) (.slice (some ⟨W.heap.size,0,none⟩) xs.length xs.length) xs:=by
 refine ⟨some ⟨W.heap.size,0,none⟩,xs.length,rfl,Nat.le_refl _,by unfold maxLen;omega,fun _=>⟨W.heap.size,0,rfl,fun i hi j u hu=>?_⟩⟩
 have hj:j<23:=(List.getElem?_eq_some_iff.1 hu).1
 rw [World.cell?_alloc_at _ _ _ _ rfl];rw [←hu,←flat_at Rv.L Rv.len xs i hi j hj];simp
def opA:Rv:=⟨7,⟨#[99,48,110,48]⟩,0,0,false,0,0,⟨#[]⟩,false,0,0,0,⟨#[]⟩,false,0,none,0,0,none,0,0,0,0,0,none,0,0,0,⟨#[]⟩⟩
def opB:Rv:=⟨5,⟨#[99,49,110,49]⟩,0,0,false,0,0,⟨#[]⟩,false,0,0,0,⟨#[]⟩,false,0,none,0,0,none,0,0,0,0,0,none,0,0,0,⟨#[120]⟩⟩
theorem mr_nil:MR [] false:=⟨fun e=>absurd e Bool.false_ne_true,fun e=>absurd e.1 (by simp)⟩
theorem sm_zero:Sm zeroE:=by unfold zeroE;simp [Sm,Sm.SmL]
theorem opA_e(W:World):OpE W opA true true:=⟨zeroE,[],false,⟨rd_zero W,R.sl_nil W⟩,⟨by decide,by decide,by decide,sm_zero,by decide,by decide⟩,mr_nil,by kernel_rfl,by kernel_rfl⟩
theorem opB_e(W:World):OpE W opB true true:=⟨zeroE,[],false,⟨rd_zero W,R.sl_nil W⟩,⟨by decide,by decide,by decide,sm_zero,by decide,by decide⟩,mr_nil,by kernel_rfl,by kernel_rfl⟩
theorem begA(V:World)(hg:Gd V):Calls Tryz.prog 8 #[.agg opA.L.toArray] V fun e V'=>e=.returned (.bool true)∧Q V V':=opmay_g opA true V hg (opA_e V).g
theorem begAB(V:World)(hg:Gd V):Calls Tryz.prog 15 #[.slice (some ⟨V.heap.size,0,none⟩) 2 2] (V.alloc (.cells (flat Rv.L [opA,opB]).toArray 35)) fun e V'=>e=.returned (.bool true)∧Q V V':=
 (batch_any _ [opA,opB] (fun _=>true) _ (hg.on ((Q.refl _).alloc _)) (sl_lit23 V [opA,opB] (by decide)) (fun x hx=>by
  simp only [List.mem_cons,List.not_mem_nil,or_false]at hx
  rcases hx with rfl|rfl
  ·exact (opA_e _).g
  ·exact (opB_e _).g)).mono fun e V' h=>⟨h.1,((Q.refl _).alloc _).trans h.2⟩
theorem begEd(c:Int)(r:Bool)(hr:edB c [opB] (fun _=>true) (fun _=>true)=r)(V:World)(hg:Gd V):Calls Tryz.prog 12 #[.int .i64 c,.slice (some ⟨V.heap.size,0,none⟩) 1 1] (V.alloc (.cells (flat Rv.L [opB]).toArray 35)) fun e V'=>e=.returned (.bool r)∧Q V V':=by
 rw [←hr];exact (edit_any c _ [opB] (fun _=>true) (fun _=>true) _ (hg.on ((Q.refl _).alloc _)) (sl_lit23 V [opB] (by decide)) (fun x hx=>by
  simp only [List.mem_cons,List.not_mem_nil,or_false]at hx
  subst hx;exact opB_e _)).mono fun e V' h=>⟨h.1,((Q.refl _).alloc _).trans h.2⟩
theorem begAA(V:World):Calls Tryz.prog 10 #[.agg opA.L.toArray,.agg opA.L.toArray] V fun e V'=>e=.returned (.bool true)∧Q V V':=
 opeq_any opA opA zeroE zeroE [] [] true V ⟨rd_zero V,R.sl_nil V⟩ ⟨rd_zero V,R.sl_nil V⟩ (by decide) (by decide) (by decide) ⟨fun _=>⟨rfl,rfl,rfl,rfl,⟨rfl,rfl,rfl⟩,rfl,rfl,rfl,rfl,⟨rfl,rfl,rfl,rfl,rfl⟩,rfl⟩,fun _=>rfl⟩
theorem begANB(V:World):Calls Tryz.prog 10 #[.agg opA.L.toArray,.agg opB.L.toArray] V fun e V'=>e=.returned (.bool false)∧Q V V':=
 opeq_any opA opB zeroE zeroE [] [] false V ⟨rd_zero V,R.sl_nil V⟩ ⟨rd_zero V,R.sl_nil V⟩ (by decide) (by decide) (by decide) ⟨fun e=>absurd e Bool.false_ne_true,fun e=>absurd e.1 (by decide)⟩
theorem begN(V:World)(hg:Gd V):Calls Tryz.prog 15 #[.slice none 0 0] V fun e V'=>e=.returned (.bool true)∧Q V V':=
 batch_any _ [] (fun _=>true) V hg (sl_nil V) (fun x hx=>absurd hx (by simp))
def OpI(W0:World)(x:Rv):Prop:=∃ X M,RdI W0 X (.agg #[.int .i64 x.tk,.int .i64 x.tm,.string x.tt,.bool x.tb,.int .i64 x.te,.slice x.a1 x.l1 x.c1,.slice x.a2 x.l2 x.c2])∧R.Sl R.rc 4 W0 (.slice x.ra x.rl x.rc) M∧Sm (cutE X 1 220).1∧nodes (cutE X 1 220).1≤1000
end Go.Proofs.YtngnakdbhkjbjaaGreatDoor
namespace Go.Proofs.YtngnakdbhkjbjaaGreatDoor
open Go.ChangeShapes Go.WideShapes Go.ChangeAt Go.RowKit
theorem cut_sm{B:Nat}(hB:B≤2000000):∀ (x:Ex) (d l:Nat),Shs B x→Sm (cutE x d l).1
 |.mk k n t b e rs ks,d,l,h=>by
  rw [Shs]at h;rw [cutE,Sm];refine ⟨?_,fun r hr=>Nat.le_trans (h.1 r (List.mem_of_mem_take hr)) hB,go hB ks d (l-1) h.2⟩
  rw [List.length_take];omega
 where
 go {B:Nat} (hB:B≤2000000):∀ (ks:List Ex) (d l:Nat),Shs.ShsL B ks→Sm.SmL (cutE.cutL ks d l).1
 |[],d,l,_=>by rw [cutE.cutL,Sm.SmL];trivial
 |x::xs,d,l,h=>by
  rw [Shs.ShsL]at h;rw [cutE.cutL]
  split
  ·rw [Sm.SmL]
   exact ⟨cut_sm hB x (d+1) l h.1,go hB xs d _ h.2⟩
  ·rw [Sm.SmL];trivial
theorem open_rects{H:Type}{enc:TypeId × Value→H}{W:World}{sp:Nat→Bool}{held:Bool}{base:Nat}(fuel:Nat)(v:Value)(z:DataW H × List MemPlace)
  (hf:DataW.trod enc Tryz.prog W base sp held fuel 33 [v]=some z):∃ (ao:Option Addr) (l c:Nat) (L:List R.Rg.Rc),v=.slice ao l c∧R.Sl R.rc 4 W v L:=by
 rcases DataW.trod_slice Tryz.underlying33 hf with ⟨hcs,_⟩|⟨x,l,c,elems,rest,m,_,hcs,_,hb,hl,hm,hlen,hel,_,_⟩
 ·obtain rfl:v=.slice none 0 0:=one_of hcs
  exact ⟨none,0,0,[],rfl,R.sl_nil W⟩
 ·obtain rfl:v=.slice (some x) l c:=one_of hcs
  have hcell:∀ i,i<l→∃ y:R.Rg.Rc,∀ j u,(R.rc y)[j]?=some u→W.cell? ((x.add (i*4)).add j)=some u:=by
   intro i hi
   have hi':=hel i hi;rw [R.cells28,List.getElem?_eq_getElem (by omega),Option.bind_eq_some_iff]at hi'
   obtain ⟨cs,h1,h2⟩:=hi';obtain ⟨y,rfl⟩:=R.open_cells h2;obtain ⟨_,_,h3⟩:=World.cells?_some h1;refine ⟨y,fun j u hu=>?_⟩
   have hj:j<4:=by rw [←R.rc_len y];exact (List.getElem?_eq_some_iff.1 hu).1
   rw [h3 j (by omega)]
   exact hu
  rcases Nat.eq_zero_or_pos l with hl0|hp
  ·subst hl0
   exact ⟨_,_,_,[],rfl,⟨some x,c,rfl,Nat.zero_le _,hm,fun h=>absurd h (by simp)⟩⟩
  ·obtain ⟨b,off,spot⟩:=x
   obtain ⟨c0,hc0⟩:=hcell 0 hp;have hspot:spot=none:=by simpa [Addr.add] using World.cell?_spot (hc0 0 _ rfl)
   subst hspot;obtain ⟨L,hL,hP⟩:=R.list_of (fun i y=>R.At R.rc W b (off+i*4) y) l (fun i hi=>by
    obtain ⟨y,g⟩:=hcell i hi;refine ⟨y,fun j u hu=>?_⟩
    have:=g j u hu
    rw [R.add_plain,R.add_plain]at this;exact this)
   subst hL
   exact ⟨_,_,_,L,rfl,⟨some ⟨b,off,none⟩,c,rfl,hl,hm,fun _=>⟨b,off,rfl,hP⟩⟩⟩
theorem cells35':Tryz.prog.cellsOf 35=23:=by kernel_rfl
theorem cells32':Tryz.prog.cellsOf 32=3:=by kernel_rfl
theorem open_line{H:Type}{enc:TypeId × Value→H}{W:World}{sp:Nat→Bool}{held:Bool}{base:Nat}(fuel:Nat)(cs:List Value)(z:DataW H × List MemPlace)
  (h:DataW.trod enc Tryz.prog W base sp held fuel 32 cs=some z):∃ (a b c:Int),cs=[.int .i64 a,.int .i64 b,.int .i64 c]:=by
 obtain ⟨xs,m,hm0,hz,hl,hlen,hf⟩:=DataW.trod_struct Tryz.underlying32 h;rw [cells32']at hl;have hlen':xs.length=3:=hlen
 match cs,hl with
 |[v0,v1,v2],_=>
  have g0:=hf 0 _ rfl;have g1:=hf 1 _ rfl;have g2:=hf 2 _ rfl
  match xs,hlen' with
  |[y0,y1,y2],_=>
   obtain ⟨a,e0,_,_⟩:=DataW.trod_int Tryz.underlying3 g0;obtain ⟨b,e1,_,_⟩:=DataW.trod_int Tryz.underlying2 g1;obtain ⟨c,e2,_,_⟩:=DataW.trod_int Tryz.underlying2 g2;have f0:v0=.int .i64 a:=one_of e0
   have f1:v1=.int .i64 b:=one_of e1
   have f2:v2=.int .i64 c:=one_of e2
   subst f0 f1 f2;exact ⟨a,b,c,rfl⟩
theorem open_op{H:Type}{enc:TypeId × Value→H}{W:World}{sp:Nat→Bool}{held:Bool}{base:Nat}(fuel:Nat)(cs:List Value)(z:DataW H × List MemPlace)
  (h:DataW.trod enc Tryz.prog W base sp held fuel 35 cs=some z) (hB:Rows.uptoBulk z.1≤2000000):∃ x:Rv,cs=x.L∧OpI W x:=by
 obtain ⟨xs,mm,hm0,hz,hl,hlen,hf⟩:=DataW.trod_struct Tryz.underlying35 h;rw [cells35']at hl;have hlen':xs.length=9:=hlen
 match cs,hl with
 |[v0,v1,v2,v3,v4,v5,v6,v7,v8,v9,v10,v11,v12,v13,v14,v15,v16,v17,v18,v19,v20,v21,v22],_=>
  have g0:=hf 0 _ rfl;have g1:=hf 1 _ rfl;have g2:=hf 2 _ rfl;have g3:=hf 3 _ rfl;have g4:=hf 4 _ rfl;have g5:=hf 5 _ rfl;have g6:=hf 6 _ rfl;have g7:=hf 7 _ rfl;have g8:=hf 8 _ rfl
  match xs,hlen' with
  |[y0,y1,y2,y3,y4,y5,y6,y7,y8],_=>
   obtain ⟨k,e0,_,_⟩:=DataW.trod_int Tryz.underlying3 g0;obtain ⟨sh,e1,_,_⟩:=DataW.trod_string Tryz.underlying9 g1;obtain ⟨row,e2,_,_⟩:=DataW.trod_int Tryz.underlying2 g2;obtain ⟨col,e3,_,_⟩:=DataW.trod_int Tryz.underlying2 g3;obtain ⟨f,vk,vn,vt,vb,ve,tk,tm,tt,tb,te,a1,l1,c1,a2,l2,c2,X,e4,hX,sX,_,_⟩:=open_cell mm [v4,v5,v6,v7,v8,v9,v10,v11,v12,v13,v14,v15,v16] y4 g4;obtain ⟨lk,la,lt,e5⟩:=open_line mm [v17,v18,v19] y5 g5;obtain ⟨ra,rl,rc,M,e6,hM⟩:=open_rects mm v20 y6 g6;obtain ⟨fm,e7,_,_⟩:=DataW.trod_int Tryz.underlying3 g7;obtain ⟨nm,e8,_,_⟩:=DataW.trod_string Tryz.underlying9 g8;have b4:Rows.uptoBulk y4.1≤Rows.uptoBulk z.1:=by rw [hz];exact bulk_agg (by simp)
   have f0:v0=.int .i64 k:=one_of e0
   have f1:v1=.string sh:=one_of e1
   have f2:v2=.int .i64 row:=one_of e2
   have f3:v3=.int .i64 col:=one_of e3
   have f7:v21=.int .i64 fm:=one_of e7
   have f8:v22=.string nm:=one_of e8
   simp only [List.cons.injEq,and_true]at e4 e5
   obtain ⟨rfl,rfl,rfl,rfl,rfl,rfl,rfl,rfl,rfl,rfl,rfl,rfl,rfl⟩:=e4;obtain ⟨rfl,rfl,rfl⟩:=e5;subst f0 f1 f2 f3 f7 f8 e6;exact ⟨⟨k,sh,row,col,f,vk,vn,vt,vb,ve,tk,tm,tt,tb,te,a1,l1,c1,a2,l2,c2,lk,la,lt,ra,rl,rc,fm,nm⟩,rfl,X,M,hX,hM,cut_sm (B:=Rows.uptoBulk y4.1) (by omega) X 1 220 sX,by have:=cut_nodes X 1 220 (by omega);omega⟩
end Go.Proofs.YtngnakdbhkjbjaaGreatDoor
namespace Go.Proofs.YtngnakdbhkjbjaaGreatDoor
open Go.RowKit
theorem begun_any(w:World)(hg:Gd w):Calls Tryz.prog 6 #[] w fun e V'=>e=.returned (.bool true)∧Q w V':=by
 have HG:=hid hg;clear hg;have HE1:=hid (begEd 1 true (by kernel_rfl))
 have HE2:=hid (begEd 2 false (by kernel_rfl))
 go_enter Tryz.func6,Tryz.ntmps6
 go_upto_region 2 with (first
  |(with_reducible refine wpl_buildt 35 _ (by with_unfolding_all rfl) (by with_unfolding_all rfl) opA.L.toArray (by kernel_rfl) ?_)
  |(with_reducible refine wpl_lay w _ _ (by with_unfolding_all rfl) (by with_unfolding_all rfl) opA (by with_unfolding_all rfl) (by with_unfolding_all rfl) (by with_unfolding_all rfl) ?_))
 have ZA:=hid (cq_new w opA.L);have QA:Hid (Q w (w.alloc (.cells opA.L.toArray 35))):=hid ((Q.refl w).alloc _)
 generalize w.alloc (.cells opA.L.toArray 35)=w1 at ZA QA ⊢;generalize w.heap.size=p at ZA ⊢;go_upto_region 3 with (first
  |(with_reducible refine wpl_buildt 35 _ (by with_unfolding_all rfl) (by with_unfolding_all rfl) opB.L.toArray (by kernel_rfl) ?_)
  |(with_reducible refine wpl_lay w1 _ _ (by with_unfolding_all rfl) (by with_unfolding_all rfl) opB (by with_unfolding_all rfl) (by with_unfolding_all rfl) (by with_unfolding_all rfl) ?_))
 have HZ:Hid (∀ V,Q (w1.alloc (.cells opB.L.toArray 35)) V→Cq V p opA.L∧Cq V w1.heap.size opB.L∧Gd V∧Q w V):=hid (fun V q=>⟨(ZA.out.on ((Q.refl _).alloc _)).on q,(cq_new w1 opB.L).on q,HG.out.on ((QA.out.alloc _).trans q),(QA.out.alloc _).trans q⟩)
 clear ZA QA HG;generalize w1.alloc (.cells opB.L.toArray 35)=w2 at HZ ⊢;generalize w1.heap.size=q at HZ ⊢;have Q0:Q w2 w2:=Q.refl _
 go_wp2_with (first
  |(with_reducible refine wpl_loadg _ (by with_unfolding_all rfl) (by with_unfolding_all rfl) p (by with_unfolding_all rfl) opA.L (by with_unfolding_all exact (HZ.out _ (by assumption)).1) (by with_unfolding_all rfl) ?_)
  |(with_reducible refine wpl_loadg _ (by with_unfolding_all rfl) (by with_unfolding_all rfl) q (by with_unfolding_all rfl) opB.L (by with_unfolding_all exact (HZ.out _ (by assumption)).2.1) (by with_unfolding_all rfl) ?_)
  |(with_reducible refine wpl_bsl 2 _ (by with_unfolding_all rfl) (by with_unfolding_all rfl) [opA,opB] (by decide) (by kernel_rfl) ?_)
  |(with_reducible refine wpl_bsl 1 _ (by with_unfolding_all rfl) (by with_unfolding_all rfl) [opB] (by decide) (by kernel_rfl) ?_)
  |(go_at_call 15;have hQ:=Q6;refine (begN _ (HZ.out _ Q6).2.2.1).mono ?_;rintro e9 y7 ⟨rfl,q9⟩;have Q7:Q w2 y7:=Q6.trans q9;clear q9 hQ)
  |(go_at_call 10;have hQ:=Q5;refine (begANB _).mono ?_;rintro e9 y6 ⟨rfl,q9⟩;have Q6:Q w2 y6:=Q5.trans q9;clear q9 hQ)
  |(go_at_call 10;have hQ:=Q4;refine (begAA _).mono ?_;rintro e9 y5 ⟨rfl,q9⟩;have Q5:Q w2 y5:=Q4.trans q9;clear q9 hQ)
  |(go_at_call 12;have hQ:=Q3;refine (HE2.out _ (HZ.out _ Q3).2.2.1).mono ?_;rintro e9 y4 ⟨rfl,q9⟩;have Q4:Q w2 y4:=Q3.trans q9;clear q9 hQ)
  |(go_at_call 12;have hQ:=Q2;refine (HE1.out _ (HZ.out _ Q2).2.2.1).mono ?_;rintro e9 y3 ⟨rfl,q9⟩;have Q3:Q w2 y3:=Q2.trans q9;clear q9 hQ)
  |(go_at_call 15;have hQ:=Q1;refine (begAB _ (HZ.out _ Q1).2.2.1).mono ?_;rintro e9 y2 ⟨rfl,q9⟩;have Q2:Q w2 y2:=Q1.trans q9;clear q9 hQ)
  |(go_at_call 8;refine (begA _ (HZ.out _ Q0).2.2.1).mono ?_;rintro e9 y1 ⟨rfl,q9⟩;have Q1:Q w2 y1:=Q0.trans q9;clear q9))
 go_ret
 exact ⟨rfl,(HZ.out _ Q7).2.2.2⟩
theorem redit_any(c:Int)(v:Value)(xs:List Rv)(mb nb:Rv→Bool)(w:World)(h:Sl Rv.L 23 w v xs)(ho:∀ x∈xs,OpE w x (mb x) (nb x)):Calls Tryz.prog 13 #[.int .i64 c,v] w fun e V'=>e=.returned (.bool (edB c xs mb nb))∧Q w V':=by
 have HS:=hid h;have HO:=hid ho;have HBt:=hid (rbatch_any v xs mb w h (fun x hx=>(ho x hx).g))
 obtain ⟨ao,cap,rfl,h1,h2⟩:=h.len;clear h ho;have h3:xs.length≤9223372036854775807:=Nat.le_trans h1 (by unfold maxLen at h2;omega)
 by_cases c0:c<0
 ·have HR:Hid (edB c xs mb nb=false):=hid (by unfold edB;rw [decide_eq_false (by omega)];rfl)
  generalize edB c xs mb nb=r at HR ⊢;go_enter Tryz.func13,Tryz.ntmps13
  go_wp2_with fail
  go_ret
  exact ⟨ret_bool HR.out.symm,Q.refl _⟩
 by_cases c1:16≤c
 ·have HR:Hid (edB c xs mb nb=false):=hid (by unfold edB;rw [decide_eq_false (by omega)];rfl)
  generalize edB c xs mb nb=r at HR ⊢;go_enter Tryz.func13,Tryz.ntmps13
  go_wp2_with fail
  go_ret
  exact ⟨ret_bool HR.out.symm,Q.refl _⟩
 by_cases c2:xs.length=0
 ·have HR:Hid (edB c xs mb nb=false):=hid (by unfold edB;rw [decide_eq_false (by omega)];rfl)
  generalize edB c xs mb nb=r at HR ⊢;have e0:((xs.length:Int) == 0)=true:=by rw [c2];rfl
  clear c2;go_enter Tryz.func13,Tryz.ntmps13
  go_wp2_with fail
  go_ret
  exact ⟨ret_bool HR.out.symm,Q.refl _⟩
 have e0:((xs.length:Int) == 0)=false:=by rw [beq_eq_false_iff_ne];omega
 have HR:Hid (edB c xs mb nb=((decide (xs.length≤32)&&xs.all mb)&&xs.all (on1 c nb))):=hid (by unfold edB;rw [decide_eq_true (by omega)];rfl)
 generalize edB c xs mb nb=r at HR ⊢;obtain ⟨bt,hbt⟩:∃ bt,(decide (xs.length≤32)&&xs.all mb)=bt:=⟨_,rfl⟩;rw [hbt]at HBt HR;clear hbt c2;cases bt with
 |false=>
  go_enter Tryz.func13,Tryz.ntmps13
  go_wp2_with (go_at_call 16;refine HBt.out.mono ?_;rintro e9 y1 ⟨rfl,q9⟩;have QY:Hid (Q w y1):=hid q9;clear q9)
  go_ret
  exact ⟨ret_bool (by rw [HR.out];rfl),QY.out⟩
 |true=>
  rw [Bool.true_and]at HR;go_enter Tryz.func13,Tryz.ntmps13
  go_wp2_with (go_at_call 16;refine HBt.out.mono ?_;rintro e9 y1 ⟨rfl,q9⟩;have QY:Hid (Q w y1):=hid q9;clear q9)
  go_loopw [4,5] (fun r4 s W=>∃ (n:Nat),n≤xs.length∧r4=.bool false∧s=.int .i64 n∧Hid ((xs.take n).all (on1 c nb)=true)∧Q w W) (fun _ s _=>xs.length-(intOf s).toNat)
  case atStart=>exact ⟨0,Nat.zero_le _,rfl,rfl,hid rfl,QY.out⟩
  case round=>
   obtain ⟨n,hn,rfl,rfl,ha,hq⟩:=hrel;have HQ:=hid hq;clear hq;by_cases hlt:n<xs.length
   ·have hlt':(n:Int)<(xs.length:Int):=by omega
    obtain ⟨g,off,cap',e,_,_,hc⟩:=(HS.out.on HQ.out).at hlt;cases e
    obtain ⟨X,M,mr,ro,ok,hmr,hmb,hnb⟩:=(HO.out _ (List.getElem_mem hlt)).on HQ.out;have HRg:Hid (wr.rangeAt g (off+n*23) (xs[n]).L):=hid (fun j u hu=>hc j u hu)
    have HYes:=hid (fun hm=>all_succ (mb:=on1 c nb) hlt hm ha.out)
    have HNo:=hid (fun hm=>all_no' (mb:=on1 c nb) hlt hm)
    have hsz:=ok.sh;have HI:=hid (fun V (q:Q wr V)=>inside_any _ M 1099511627776 V (ro.r.on q))
    clear hc ro ok hmr hmb;generalize xs[n]=x at HRg HYes HNo hsz HI hnb;have HW:=hid (fun V=>rowner_any x.sh V (by omega))
    have HU:Hid (on1 c nb x=((nlB x&&inB 1099511627776 M)&&(decide (x.k≠5) || decide (ownK x.sh.data.toList=c)))):=hid (by unfold on1;rw [hnb])
    generalize on1 c nb x=ob at HYes HNo HU;generalize ownK x.sh.data.toList=ow at HW HU;generalize inB 1099511627776 M=ib at HI HU;clear hsz hnb;have ZW:=hid (cq_new wr x.L);have d0:=ZW.out.c 0 _ rfl;have d1:=ZW.out.c 1 _ rfl;have d2:=ZW.out.c 2 _ rfl;have d3:=ZW.out.c 3 _ rfl;have d18:=ZW.out.c 18 _ rfl;have d19:=ZW.out.c 19 _ rfl;have d20:=ZW.out.c 20 _ rfl;by_cases h_row:(1099511627776:Int)<x.row
    ·have HN:=hid (HNo.out (by rw [HU.out];unfold nlB;rw [decide_eq_false (by omega)];rfl))
     clear HYes HNo HU HW HI;go_wp2_with (first
      |(with_reducible refine wpl_loadm _ (by with_unfolding_all rfl) (by with_unfolding_all rfl) g (off+n*23) x (by with_unfolding_all exact HRg.out) (by with_unfolding_all rfl) ?_)
      |(with_reducible refine wpl_lay wr _ _ (by with_unfolding_all rfl) (by with_unfolding_all rfl) x (by with_unfolding_all rfl) (by with_unfolding_all rfl) (by with_unfolding_all rfl) ?_))
     go_ret
     exact ⟨ret_bool (by rw [HR.out,HN.out]),HQ.out.alloc _⟩
    by_cases h_col:(1099511627776:Int)<x.col
    ·have HN:=hid (HNo.out (by rw [HU.out];unfold nlB;rw [decide_eq_false (by omega)];rfl))
     clear HYes HNo HU HW HI;go_wp2_with (first
      |(with_reducible refine wpl_loadm _ (by with_unfolding_all rfl) (by with_unfolding_all rfl) g (off+n*23) x (by with_unfolding_all exact HRg.out) (by with_unfolding_all rfl) ?_)
      |(with_reducible refine wpl_lay wr _ _ (by with_unfolding_all rfl) (by with_unfolding_all rfl) x (by with_unfolding_all rfl) (by with_unfolding_all rfl) (by with_unfolding_all rfl) ?_))
     go_ret
     exact ⟨ret_bool (by rw [HR.out,HN.out]),HQ.out.alloc _⟩
    by_cases h_la:(1099511627776:Int)<x.la
    ·have HN:=hid (HNo.out (by rw [HU.out];unfold nlB;rw [decide_eq_false (by omega)];rfl))
     clear HYes HNo HU HW HI;go_wp2_with (first
      |(with_reducible refine wpl_loadm _ (by with_unfolding_all rfl) (by with_unfolding_all rfl) g (off+n*23) x (by with_unfolding_all exact HRg.out) (by with_unfolding_all rfl) ?_)
      |(with_reducible refine wpl_lay wr _ _ (by with_unfolding_all rfl) (by with_unfolding_all rfl) x (by with_unfolding_all rfl) (by with_unfolding_all rfl) (by with_unfolding_all rfl) ?_))
     go_ret
     exact ⟨ret_bool (by rw [HR.out,HN.out]),HQ.out.alloc _⟩
    by_cases h_lt:(1099511627776:Int)<x.lt
    ·have HN:=hid (HNo.out (by rw [HU.out];unfold nlB;rw [decide_eq_false (by omega)];rfl))
     clear HYes HNo HU HW HI;go_wp2_with (first
      |(with_reducible refine wpl_loadm _ (by with_unfolding_all rfl) (by with_unfolding_all rfl) g (off+n*23) x (by with_unfolding_all exact HRg.out) (by with_unfolding_all rfl) ?_)
      |(with_reducible refine wpl_lay wr _ _ (by with_unfolding_all rfl) (by with_unfolding_all rfl) x (by with_unfolding_all rfl) (by with_unfolding_all rfl) (by with_unfolding_all rfl) ?_))
     go_ret
     exact ⟨ret_bool (by rw [HR.out,HN.out]),HQ.out.alloc _⟩
    have hnl:nlB x=true:=by unfold nlB;exact decide_eq_true (by omega)
    rw [hnl,Bool.true_and]at HU;clear hnl;cases ib with
    |false=>
     have HN:=hid (HNo.out (by rw [HU.out];rfl))
     clear HYes HNo HU HW;go_wp2_with (first
      |(with_reducible refine wpl_loadm _ (by with_unfolding_all rfl) (by with_unfolding_all rfl) g (off+n*23) x (by with_unfolding_all exact HRg.out) (by with_unfolding_all rfl) ?_)
      |(with_reducible refine wpl_lay wr _ _ (by with_unfolding_all rfl) (by with_unfolding_all rfl) x (by with_unfolding_all rfl) (by with_unfolding_all rfl) (by with_unfolding_all rfl) ?_)
      |(go_at_call 33;refine (HI.out _ ((Q.refl _).alloc _)).mono ?_;rintro e9 y2 ⟨rfl,q9⟩;have QY2:Hid (Q w y2):=hid ((HQ.out.alloc _).trans q9);have ZY:=hid (ZW.out.on q9);clear q9;have f0:=ZY.out.c 0 _ rfl;have f1:=ZY.out.c 1 _ rfl))
     go_ret
     exact ⟨ret_bool (by rw [HR.out,HN.out]),QY2.out⟩
    |true=>
     rw [Bool.true_and]at HU;by_cases hk:x.k=5
     ·have ek:(x.k == 5)=true:=by simpa using hk
      by_cases hw:ow=c
      ·have ew:(ow != c)=false:=by simpa using hw
       have HN:=hid (HYes.out (by rw [HU.out,decide_eq_true hw];simp))
       clear HYes HNo HU hw hk;go_wp2_with (first
        |(with_reducible refine wpl_loadm _ (by with_unfolding_all rfl) (by with_unfolding_all rfl) g (off+n*23) x (by with_unfolding_all exact HRg.out) (by with_unfolding_all rfl) ?_)
        |(with_reducible refine wpl_lay wr _ _ (by with_unfolding_all rfl) (by with_unfolding_all rfl) x (by with_unfolding_all rfl) (by with_unfolding_all rfl) (by with_unfolding_all rfl) ?_)
        |(go_at_call 33;refine (HI.out _ ((Q.refl _).alloc _)).mono ?_;rintro e9 y2 ⟨rfl,q9⟩;have QY2:Hid (Q w y2):=hid ((HQ.out.alloc _).trans q9);have ZY:=hid (ZW.out.on q9);clear q9;have f0:=ZY.out.c 0 _ rfl;have f1:=ZY.out.c 1 _ rfl)
        |(go_at_call 39;refine (HW.out _).mono ?_;rintro e9 y3 ⟨rfl,hy3⟩;replace hy3:=hy3.symm;subst hy3))
       go_roundw
       case rel=>exact ⟨n+1,by omega,rfl,by go_num,HN,QY2.out⟩
       case measure=>simp [intOf];omega
      ·have ew:(ow != c)=true:=by simpa using hw
       have HN:=hid (HNo.out (by rw [HU.out,decide_eq_false hw,decide_eq_false (fun x=>x hk)];rfl))
       clear HYes HNo HU hw hk;go_wp2_with (first
        |(with_reducible refine wpl_loadm _ (by with_unfolding_all rfl) (by with_unfolding_all rfl) g (off+n*23) x (by with_unfolding_all exact HRg.out) (by with_unfolding_all rfl) ?_)
        |(with_reducible refine wpl_lay wr _ _ (by with_unfolding_all rfl) (by with_unfolding_all rfl) x (by with_unfolding_all rfl) (by with_unfolding_all rfl) (by with_unfolding_all rfl) ?_)
        |(go_at_call 33;refine (HI.out _ ((Q.refl _).alloc _)).mono ?_;rintro e9 y2 ⟨rfl,q9⟩;have QY2:Hid (Q w y2):=hid ((HQ.out.alloc _).trans q9);have ZY:=hid (ZW.out.on q9);clear q9;have f0:=ZY.out.c 0 _ rfl;have f1:=ZY.out.c 1 _ rfl)
        |(go_at_call 39;refine (HW.out _).mono ?_;rintro e9 y3 ⟨rfl,hy3⟩;replace hy3:=hy3.symm;subst hy3))
       go_ret
       exact ⟨ret_bool (by rw [HR.out,HN.out]),QY2.out⟩
     ·have ek:(x.k == 5)=false:=by simpa using hk
      have HN:=hid (HYes.out (by rw [HU.out,decide_eq_true hk];rfl))
      clear HYes HNo HU hk HW;go_wp2_with (first
       |(with_reducible refine wpl_loadm _ (by with_unfolding_all rfl) (by with_unfolding_all rfl) g (off+n*23) x (by with_unfolding_all exact HRg.out) (by with_unfolding_all rfl) ?_)
       |(with_reducible refine wpl_lay wr _ _ (by with_unfolding_all rfl) (by with_unfolding_all rfl) x (by with_unfolding_all rfl) (by with_unfolding_all rfl) (by with_unfolding_all rfl) ?_)
       |(go_at_call 33;refine (HI.out _ ((Q.refl _).alloc _)).mono ?_;rintro e9 y2 ⟨rfl,q9⟩;have QY2:Hid (Q w y2):=hid ((HQ.out.alloc _).trans q9);have ZY:=hid (ZW.out.on q9);clear q9;have f0:=ZY.out.c 0 _ rfl;have f1:=ZY.out.c 1 _ rfl))
      go_roundw
      case rel=>exact ⟨n+1,by omega,rfl,by go_num,HN,QY2.out⟩
      case measure=>simp [intOf];omega
   ·have HN:Hid (xs.all (on1 c nb)=true):=by
     show _=_
     have:=ha.out
     rw [List.take_of_length_le (by omega)]at this
     exact this
    go_wp2_with fail
    go_ret
    exact ⟨ret_bool (by rw [HR.out,HN.out]),HQ.out⟩
theorem rdg_q{g:Nat→Prop}{W W':World}(q:Q W W')(x:Ex)(v:Value)(h:Rdg g W x v):Rdg g W' x v:=
 Rdg.mono (fun b h=>h.1) x v (Rdg.on (p:=W.heap.size) (Qx.of q) (fun b h e=>by have:=h.2;omega) x v (Rdg.in x v h))
def TX(w:World)(B:Nat)(V:World)(y:Rv):Prop:=∃ b,OpX w (fun n=>n<w.heap.size∨B≤n) V y b
theorem tx_cls(w:World):Cls w.heap.size (TX w):=by
 refine ⟨?_,?_,?_⟩
 ·rintro B V V' y ⟨b,X,M,mr,h1,h2⟩ q
  exact ⟨b,X,M,mr,rdg_q q _ _ h1,h2⟩
 ·rintro B V y p cs ⟨b,X,M,mr,h1,h2⟩ hp hB
  exact ⟨b,X,M,mr,Rdg.on (p:=p) (qx_setRow V p cs) (fun n hn e=>by rcases hn with hn|hn <;> omega) _ _ h1,h2⟩
 ·rintro B B' V y ⟨b,X,M,mr,h1,h2⟩ hB
  exact ⟨b,X,M,mr,Rdg.mono (fun n hn=>by rcases hn with hn|hn;exact .inl hn;exact .inr (by omega)) _ _ h1,h2⟩
structure OpQ (V:World) (y:Rv) (X:Ex) (M:List R.Rg.Rc) (b nb:Bool):Prop where
 ro:RO V y X M
 ok:OK1 y X M
 e:OpE V y b nb
theorem tx_q{w V:World}{B:Nat}{y:Rv}(h:TX w B V y)(q:Q w V):∃ X M b nb,OpQ V y X M b nb:=by
 obtain ⟨b,X,M,mr,h1,h2,h3,h4,h5⟩:=h;have ro:RO V y X M:=⟨Rdg.rd _ _ h1,h2.on q⟩
 exact ⟨X,M,b,_,ro,h3,⟨X,M,mr,ro,h3,h4,h5,rfl⟩⟩
theorem pair_e{V:World}{ya yb:Rv}{a1 a2 b1 b2:Bool}(ha:OpE V ya a1 a2)(hb:OpE V yb b1 b2):∃ mb nb:Rv→Bool,∀ x∈[ya,yb],OpE V x (mb x) (nb x):=by
 by_cases e:yb=ya
 ·subst e
  exact ⟨fun _=>a1,fun _=>a2,fun x hx=>by simp at hx;subst hx;exact ha⟩
 ·refine ⟨fun z=>@ite Bool (z=ya) (Classical.propDecidable _) a1 b1,fun z=>@ite Bool (z=ya) (Classical.propDecidable _) a2 b2,fun x hx=>?_⟩
  simp only [List.mem_cons,List.not_mem_nil,or_false]at hx
  rcases hx with rfl|rfl
  ·dsimp only
   rw [if_pos rfl,if_pos rfl]
   exact ha
  ·dsimp only
   rw [if_neg e,if_neg e]
   exact hb
theorem tx_fin(c:Int)(w:World)(hg:Gd w)(B:Nat)(V:World)(ya yb:Rv)(q:Q w V)(ha:TX w B V ya)(hb:TX w B V yb):∃ ma eb d1 d2,Fin5 V ya yb ma eb d1 d2 c:=by
 obtain ⟨Xa,Ma,a1,a2,qa⟩:=tx_q ha q;obtain ⟨Xb,Mb,b1,b2,qb⟩:=tx_q hb q;obtain ⟨mb,nb,hmn⟩:=pair_e qa.e qb.e;obtain ⟨eb,heb⟩:∃ eb:Bool,eb=true↔oE ya yb Xa Xb Ma Mb:=by
  by_cases h:oE ya yb Xa Xb Ma Mb
  ·exact ⟨true,fun _=>h,fun _=>rfl⟩
  ·exact ⟨false,fun e=>absurd e Bool.false_ne_true,fun e=>absurd e h⟩
 have hself:true=true↔oE ya ya Xa Xa Ma Ma:=⟨fun _=>⟨rfl,rfl,rfl,rfl,⟨rfl,rfl,rfl⟩,rfl,rfl,rfl,rfl,⟨rfl,rfl,rfl,rfl,rfl⟩,rfl⟩,fun _=>rfl⟩
 have hla:=qa.ok.ml;have hlb:=qb.ok.ml;have hG:∀ {W},Q V W→Gd W:=fun q'=>hg.on (q.trans q')
 have hm1:∀ {W},Q V W→∀ x∈[ya],OpE W x (mb x) (nb x):=fun q' x hx=>(hmn x (by simp at hx;subst hx;simp)).on q'
 have hm2:∀ {W},Q V W→∀ x∈[ya,yb],OpE W x (mb x) (nb x):=fun q' x hx=>(hmn x hx).on q'
 refine ⟨a1,eb,edB c [ya] mb nb,edB c [ya,yb] mb nb,?_,?_,?_,?_,?_,?_,?_,?_,?_⟩
 ·intro W q'
  exact opmay_g ya a1 W (hG q') (qa.e.g.on q')
 ·intro W q'
  exact rmayo_g ya a1 W (qa.e.g.on q')
 ·intro W q'
  exact opeq_any ya yb Xa Xb Ma Mb eb W (qa.ro.on q') (qb.ro.on q') qa.ok.nd (by omega) (by omega) heb
 ·intro W q'
  exact eqop_any ya yb Xa Xb Ma Mb eb W (qa.ro.on q') (qb.ro.on q') (by omega) (by omega) heb
 ·intro W q'
  exact opeq_any ya ya Xa Xa Ma Ma true W (qa.ro.on q') (qa.ro.on q') qa.ok.nd (by omega) (by omega) hself
 ·intro W u q' hu
  exact edit_any c u [ya] mb nb W (hG q') hu (hm1 q')
 ·intro W u q' hu
  exact redit_any c u [ya] mb nb W hu (hm1 q')
 ·intro W u q' hu
  exact edit_any c u [ya,yb] mb nb W (hG q') hu (hm2 q')
 ·intro W u q' hu
  exact redit_any c u [ya,yb] mb nb W hu (hm2 q')
theorem opmay_law(x y:Rv)(c:Int)(w:World)(hg:Gd w)(hx:OpI w x)(hy:OpI w y):Calls Tryz.prog 3 #[.agg x.L.toArray,.agg y.L.toArray,.int .i64 c] w fun e V=>e=.returned (.bool true)∧Q w V:=by
 obtain ⟨X,M,x1,x2,x3,x4⟩:=hx;obtain ⟨Y,N',y1,y2,y3,y4⟩:=hy;refine opmay_walk x y c (TX w) w (fun W q=>begun_any W (hg.on q)) (tx_cls w) ?_ ?_ (fun B V ya yb q ha hb=>tx_fin c w hg B V ya yb q ha hb)
 ·intro W q
  refine (cutop_any x X M w W x1 x2 q x3 x4).mono ?_
  rintro e V ⟨z,b,h1,h2,h3⟩
  exact ⟨z,h1,⟨b,h2⟩,h3⟩
 ·intro W q
  refine (cutop_any y Y N' w W y1 y2 q y3 y4).mono ?_
  rintro e V ⟨z,b,h1,h2,h3⟩
  exact ⟨z,h1,⟨b,h2⟩,h3⟩
end Go.Proofs.YtngnakdbhkjbjaaGreatDoor
