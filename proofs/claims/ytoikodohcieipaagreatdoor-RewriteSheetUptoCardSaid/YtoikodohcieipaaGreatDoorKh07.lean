/- a1.Print, walked; a1.Print: wh. -/
import Derived.Test.YtoikodohcieipaaGreatDoorKh04
import Derived.Deep.RegionHeld3
import Derived.Deep.CutBlock
import Derived.Deep.CutRange
set_option linter.unusedVariables false
set_option linter.unusedSimpArgs false
set_option maxRecDepth 100000
set_option maxHeartbeats 8000000
namespace Go.Proofs.YtoikodohcieipaaGreatDoor
open Go.RowKit
theorem print_plain(sh SH SA NM SB DC X1 X2 X3 X4:ByteArray)(row col:Int)(ra ca:Bool)(w:World)(hz:sh.size≤1000)
  (HM1:Hid (∀ W,Calls Tryz.prog 108 #[.int .i64 row] W fun e w'=>e=.returned (.bool true)∧w'=W))
  (HM2:Hid (∀ W,Calls Tryz.prog 108 #[.int .i64 col] W fun e w'=>e=.returned (.bool true)∧w'=W))
  (hE:(sh.toList == [])=true)
  (HS1:Hid (∀ W,Calls Tryz.prog 110 #[.bool ca] W fun e w'=>e=.returned (.string SA)∧w'=W))
  (HS2:Hid (∀ W,Calls Tryz.prog 110 #[.bool ra] W fun e w'=>e=.returned (.string SB)∧w'=W))
  (HN:Hid (∀ W,Calls Tryz.prog 111 #[.int .i64 col] W fun e w'=>e=.returned (.string NM)∧Q W w'))
  (HF:Hid (∀ W,Q w W→Calls Tryz.prog 112 #[.int .i64 (row+1),.int .i64 10] W fun e w'=>e=.returned (.string DC)∧Q W w'))
  (r0:0≤row) (r1:row<2199023255552) (hc:Cat ⟨#[]⟩ SA NM SB DC X1 X2 X3 X4) :
  Calls Tryz.prog 105 #[rv sh row col ra ca] w fun e w'=>e=.returned (.string X4)∧Q w w':=by
 obtain ⟨e1,e2,e3,e4,z0,z1,z2,z3,z4,y1,y2,y3,y4⟩:=hc;have k1:¬ 9223372036854775807<SA.size:=by omega
 have k2:¬ 9223372036854775807<X1.size+NM.size:=by omega
 have k3:¬ 9223372036854775807<X2.size+SB.size:=by omega
 have k4:¬ 9223372036854775807<X3.size+DC.size:=by omega
 have hwr:IntKind.i64.wrap (row+1)=row+1:=by rw [IntKind.wrap_i64];omega
 have J:=hid (PB.start w sh row col ra ca);go_enter Tryz.func105,Tryz.ntmps105
 go_upto_region 8 with (first|(go_at_call_of 108 row;refine (HM1.out _).mono ?_;rintro e w1 ⟨rfl,rfl⟩)|(go_at_call_of 108 col;refine (HM2.out _).mono ?_;rintro e w1 ⟨rfl,rfl⟩))
 have hk0:Hid ((w.alloc (.cells #[.string sh,.int .i64 row,.int .i64 col,.bool ra,.bool ca] 40)).drew.cell? ⟨w.heap.size,1,none⟩=some (.int .i64 row)∧(w.alloc (.cells #[.string sh,.int .i64 row,.int .i64 col,.bool ra,.bool ca] 40)).drew.cell? ⟨w.heap.size,2,none⟩=some (.int .i64 col)∧(w.alloc (.cells #[.string sh,.int .i64 row,.int .i64 col,.bool ra,.bool ca] 40)).drew.cell? ⟨w.heap.size,3,none⟩=some (.bool ra)∧(w.alloc (.cells #[.string sh,.int .i64 row,.int .i64 col,.bool ra,.bool ca] 40)).drew.cell? ⟨w.heap.size,4,none⟩=some (.bool ca)):=⟨J.out.c1,J.out.c2,J.out.c3,J.out.c4⟩
 go_region_held3 (fun W=>W.cell? ⟨w.heap.size,1,none⟩=some (.int .i64 row)∧W.cell? ⟨w.heap.size,2,none⟩=some (.int .i64 col)∧W.cell? ⟨w.heap.size,3,none⟩=some (.bool ra)∧W.cell? ⟨w.heap.size,4,none⟩=some (.bool ca)) (with_reducible (first|exact hk0.out|exact hk1.out|exact hk2.out))
  (first
   |(go_at_call_of 110 ca;refine (HS1.out _).mono ?_;rintro r w9 ⟨rfl,rfl⟩)
   |(go_at_call_of 110 ra;refine (HS2.out _).mono ?_;rintro r w9 ⟨rfl,rfl⟩)
   |(go_at_call 111;refine (HN.out _).mono ?_;rintro r w5 ⟨rfl,q5⟩;replace J:=hid (J.out.on (Q.trans (Q.drew (Q.refl _)) q5));have hk1:Hid (w5.cell? ⟨w.heap.size,1,none⟩=some (.int .i64 row)∧w5.cell? ⟨w.heap.size,2,none⟩=some (.int .i64 col)∧w5.cell? ⟨w.heap.size,3,none⟩=some (.bool ra)∧w5.cell? ⟨w.heap.size,4,none⟩=some (.bool ca)):=⟨J.out.c1,J.out.c2,J.out.c3,J.out.c4⟩)
   |(go_at_call 112;refine (HF.out _ J.out.q).mono ?_;rintro r w6 ⟨rfl,q6⟩;replace J:=hid (J.out.on q6);have hk2:Hid (w6.cell? ⟨w.heap.size,1,none⟩=some (.int .i64 row)∧w6.cell? ⟨w.heap.size,2,none⟩=some (.int .i64 col)∧w6.cell? ⟨w.heap.size,3,none⟩=some (.bool ra)∧w6.cell? ⟨w.heap.size,4,none⟩=some (.bool ca)):=⟨J.out.c1,J.out.c2,J.out.c3,J.out.c4⟩))
 go_wp2
 go_ret
 exact ⟨rfl,J.out.q⟩
theorem print_sheet(sh SH SA NM SB DC X1 X2 X3 X4:ByteArray)(row col:Int)(ra ca:Bool)(w:World)(hz:sh.size≤1000)
  (HM1:Hid (∀ W,Calls Tryz.prog 108 #[.int .i64 row] W fun e w'=>e=.returned (.bool true)∧w'=W))
  (HM2:Hid (∀ W,Calls Tryz.prog 108 #[.int .i64 col] W fun e w'=>e=.returned (.bool true)∧w'=W))
  (hE:(sh.toList == [])=false)
  (HI:Hid (∀ W,Q w W→Calls Tryz.prog 109 #[.string sh] W fun e w'=>e=.returned (.bool true)∧Q W w')) (eS:sh++⟨#[33]⟩=SH)
  (HS1:Hid (∀ W,Calls Tryz.prog 110 #[.bool ca] W fun e w'=>e=.returned (.string SA)∧w'=W))
  (HS2:Hid (∀ W,Calls Tryz.prog 110 #[.bool ra] W fun e w'=>e=.returned (.string SB)∧w'=W))
  (HN:Hid (∀ W,Calls Tryz.prog 111 #[.int .i64 col] W fun e w'=>e=.returned (.string NM)∧Q W w'))
  (HF:Hid (∀ W,Q w W→Calls Tryz.prog 112 #[.int .i64 (row+1),.int .i64 10] W fun e w'=>e=.returned (.string DC)∧Q W w'))
  (r0:0≤row) (r1:row<2199023255552) (hc:Cat SH SA NM SB DC X1 X2 X3 X4) :
  Calls Tryz.prog 105 #[rv sh row col ra ca] w fun e w'=>e=.returned (.string X4)∧Q w w':=by
 obtain ⟨e1,e2,e3,e4,z0,z1,z2,z3,z4,y1,y2,y3,y4⟩:=hc;have k1:¬ 9223372036854775807<SH.size+SA.size:=by omega
 have k2:¬ 9223372036854775807<X1.size+NM.size:=by omega
 have k3:¬ 9223372036854775807<X2.size+SB.size:=by omega
 have k4:¬ 9223372036854775807<X3.size+DC.size:=by omega
 have hwr:IntKind.i64.wrap (row+1)=row+1:=by rw [IntKind.wrap_i64];omega
 have J:=hid (PB.start w sh row col ra ca);go_enter Tryz.func105,Tryz.ntmps105
 go_upto_region 8 with (first|(go_at_call_of 108 row;refine (HM1.out _).mono ?_;rintro e w1 ⟨rfl,rfl⟩)|(go_at_call_of 108 col;refine (HM2.out _).mono ?_;rintro e w1 ⟨rfl,rfl⟩)|(go_at_call 109;refine (HI.out _ (by repeat (first|exact Q.refl _|refine Q.drewN ?_ _|refine Q.alloc ?_ _))).mono ?_;rintro e w3 ⟨rfl,q3⟩;replace J:=hid (J.out.on q3);have d0:=J.out.c0;have d1:=J.out.c1;have d2:=J.out.c2;have d3:=J.out.c3;have d4:=J.out.c4))
 have hk0:Hid (w3.drew.cell? ⟨w.heap.size,1,none⟩=some (.int .i64 row)∧w3.drew.cell? ⟨w.heap.size,2,none⟩=some (.int .i64 col)∧w3.drew.cell? ⟨w.heap.size,3,none⟩=some (.bool ra)∧w3.drew.cell? ⟨w.heap.size,4,none⟩=some (.bool ca)):=⟨J.out.c1,J.out.c2,J.out.c3,J.out.c4⟩
 go_region_held3 (fun W=>W.cell? ⟨w.heap.size,1,none⟩=some (.int .i64 row)∧W.cell? ⟨w.heap.size,2,none⟩=some (.int .i64 col)∧W.cell? ⟨w.heap.size,3,none⟩=some (.bool ra)∧W.cell? ⟨w.heap.size,4,none⟩=some (.bool ca)) (with_reducible (first|exact hk0.out|exact hk1.out|exact hk2.out))
  (first
   |(go_at_call_of 110 ca;refine (HS1.out _).mono ?_;rintro r w9 ⟨rfl,rfl⟩)
   |(go_at_call_of 110 ra;refine (HS2.out _).mono ?_;rintro r w9 ⟨rfl,rfl⟩)
   |(go_at_call 111;refine (HN.out _).mono ?_;rintro r w5 ⟨rfl,q5⟩;replace J:=hid (J.out.on (Q.trans (Q.drew (Q.refl _)) q5));have hk1:Hid (w5.cell? ⟨w.heap.size,1,none⟩=some (.int .i64 row)∧w5.cell? ⟨w.heap.size,2,none⟩=some (.int .i64 col)∧w5.cell? ⟨w.heap.size,3,none⟩=some (.bool ra)∧w5.cell? ⟨w.heap.size,4,none⟩=some (.bool ca)):=⟨J.out.c1,J.out.c2,J.out.c3,J.out.c4⟩)
   |(go_at_call 112;refine (HF.out _ J.out.q).mono ?_;rintro r w6 ⟨rfl,q6⟩;replace J:=hid (J.out.on q6);have hk2:Hid (w6.cell? ⟨w.heap.size,1,none⟩=some (.int .i64 row)∧w6.cell? ⟨w.heap.size,2,none⟩=some (.int .i64 col)∧w6.cell? ⟨w.heap.size,3,none⟩=some (.bool ra)∧w6.cell? ⟨w.heap.size,4,none⟩=some (.bool ca)):=⟨J.out.c1,J.out.c2,J.out.c3,J.out.c4⟩))
 go_wp2
 go_ret
 exact ⟨rfl,J.out.q⟩
theorem print_no(sh:ByteArray)(row col:Int)(ra ca f1 f2 fi:Bool)(w:World)
  (HM1:Hid (∀ W,Calls Tryz.prog 108 #[.int .i64 row] W fun e w'=>e=.returned (.bool f1)∧w'=W))
  (HM2:Hid (∀ W,Calls Tryz.prog 108 #[.int .i64 col] W fun e w'=>e=.returned (.bool f2)∧w'=W))
  (HI:Hid (∀ W,Q w W→Calls Tryz.prog 109 #[.string sh] W fun e w'=>e=.returned (.bool fi)∧Q W w'))
  (h:f1=false∨f2=false∨((sh.toList == [])=false∧fi=false)) :
  Calls Tryz.prog 105 #[rv sh row col ra ca] w fun e w'=>e=.returned (.string ⟨#[]⟩)∧Q w w':=by
 cases f1
 ·clear h
  go_enter Tryz.func105,Tryz.ntmps105
  go_wp2_with (first|(go_at_call_of 108 row;refine (HM1.out _).mono ?_;rintro e w1 ⟨rfl,rfl⟩)|(go_at_call_of 108 col;refine (HM2.out _).mono ?_;rintro e w1 ⟨rfl,rfl⟩))
  go_ret
  exact ⟨rfl,(Q.refl _).alloc _⟩
 cases f2
 ·clear h
  go_enter Tryz.func105,Tryz.ntmps105
  go_wp2_with (first|(go_at_call_of 108 row;refine (HM1.out _).mono ?_;rintro e w1 ⟨rfl,rfl⟩)|(go_at_call_of 108 col;refine (HM2.out _).mono ?_;rintro e w1 ⟨rfl,rfl⟩))
  go_ret
  exact ⟨rfl,(Q.refl _).alloc _⟩
 obtain ⟨hE,rfl⟩:(sh.toList == [])=false∧fi=false:=by
  rcases h with h|h|h
  ·cases h
  ·cases h
  ·exact h
 go_enter Tryz.func105,Tryz.ntmps105
 go_wp2_with (first|(go_at_call_of 108 row;refine (HM1.out _).mono ?_;rintro e w1 ⟨rfl,rfl⟩)|(go_at_call_of 108 col;refine (HM2.out _).mono ?_;rintro e w1 ⟨rfl,rfl⟩)|(go_at_call 109;refine (HI.out _ (by repeat (first|exact Q.refl _|refine Q.drewN ?_ _|refine Q.alloc ?_ _))).mono ?_;rintro e w3 ⟨rfl,q3⟩))
 go_ret
 exact ⟨rfl,((Q.refl _).alloc _).trans q3⟩
theorem print_any(sh:ByteArray)(row col:Int)(ra ca:Bool)(w:World)(hw:Std w)(ht:∀ W,Q w W→Lib.TabIs Tryz.prog W "internal/strconv.uint64pow10" .u64 Lib.pow10Tab)(hs:sh.size≤1000) :
  Calls Tryz.prog 105 #[rv sh row col ra ca] w fun e w'=>e=.returned (.string ⟨(prR sh.data.toList row col ra ca).toArray⟩)∧Q w w':=by
 have HM1:=fun W=>mayline_any row W
 have HM2:=fun W=>mayline_any col W
 have HI:=fun W (q:Q w W)=>id_any sh W (hw.on q) (by omega)
 have et:=Lib.toList_data sh;unfold prR mayR
 cases h1:decide (0≤row∧row<2199023255552)
 ·rw [h1]at HM1
  refine (print_no sh row col ra ca _ _ _ w HM1 HM2 HI (.inl rfl)).mono fun e w' g=>⟨?_,g.2⟩
  rw [g.1,Bool.false_and,Bool.and_false]
  rfl
 cases h2:decide (0≤col∧col<2199023255552)
 ·rw [h2]at HM2
  refine (print_no sh row col ra ca _ _ _ w HM1 HM2 HI (.inr (.inl rfl))).mono fun e w' g=>⟨?_,g.2⟩
  rw [g.1,Bool.and_false,Bool.and_false]
  rfl
 rw [h1]at HM1;rw [h2]at HM2;have b1:=of_decide_eq_true h1;have b2:=of_decide_eq_true h2;obtain ⟨X1,X2,X3,hc⟩:=cat_of sh.data.toList row col ra ca (by rw [len_data];exact hs) b1.1 b1.2
 have HF:=fun W (q:Q w W)=>fmt_any (row+1) W (ht W q) (by omega) (by omega)
 by_cases he:sh.toList=[]
 ·have he2:sh.data.toList=[]:=by rw [←et,he]
  rw [he2]at hc ⊢;refine (print_plain sh ⟨#[]⟩ _ _ _ _ X1 X2 X3 _ row col ra ca w hs HM1 HM2 (by rw [he];rfl) (fun W=>asign_any ca W) (fun W=>asign_any ra W) (fun W=>name_any col W) HF b1.1 b1.2 hc).mono fun e w' g=>⟨?_,g.2⟩
  rw [g.1]
  rfl
 ·have hei:sh.data.toList.isEmpty=false:=by
   rw [←et];cases hh:sh.toList
   ·exact absurd hh he
   ·rfl
  cases hi:idB sh.data.toList
  ·rw [hi]at HI
   refine (print_no sh row col ra ca _ _ _ w HM1 HM2 HI (.inr (.inr ⟨by simpa using he,rfl⟩))).mono fun e w' g=>⟨?_,g.2⟩
   rw [g.1,hei]
   rfl
  ·rw [hi]at HI
   have eS:sh++⟨#[33]⟩=⟨(shX sh.data.toList).toArray⟩:=by
    unfold shX
    rw [hei];have e:=bytes_cat sh.data.toList [33];exact e
   refine (print_sheet sh _ _ _ _ _ X1 X2 X3 _ row col ra ca w hs HM1 HM2 (by simpa using he) HI eS (fun W=>asign_any ca W) (fun W=>asign_any ra W) (fun W=>name_any col W) HF b1.1 b1.2 hc).mono fun e w' g=>⟨?_,g.2⟩
   rw [g.1,Bool.or_true]
   rfl
end Go.Proofs.YtoikodohcieipaaGreatDoor
