/- DERIVED: THE SHELF's CONTRACTS. -/
import Derived.Shelf.Strconv.Itoa4
import Derived.Test.YtgheopdadfnilaaGreatDoorProg
import Derived.Test.YtgheopdadfnilaaGreatDoorKf04
import Derived.Test.YtgheopdadfnilaaGreatDoorKf01
import Derived.Deep.RegionHeld3
import Derived.Deep.CutBlock
import Derived.Deep.CutRange
set_option linter.unusedVariables false
set_option linter.unusedSimpArgs false
set_option maxRecDepth 100000
set_option maxHeartbeats 8000000
namespace Go.Proofs
open Go.Shelf
def Tryz.laysM173_ren:Go.Shelf.Ren:=⟨fun|173=>100|246=>134|283=>157|284=>158|285=>159|286=>160|129=>176|317=>175|318=>177|319=>178|320=>179|337=>194|338=>195|n=>n,fun|2=>2|3=>3|9=>9|4=>4|171=>179|0=>0|53=>98|37=>52|5=>5|173=>182|212=>188|51=>189|20=>20|213=>190|46=>151|232=>211|233=>212|n=>n,fun|17=>4|18=>6|19=>7|n=>n⟩
theorem Tryz.laysM173:Go.Proofs.LaysM.n173 Tryz.prog Tryz.laysM173_ren:={
 mixed:=by kernel_rfl
 f129:=Tryz.func176.trans (congrArg some (by kernel_rfl))
 f173:=Tryz.func100.trans (congrArg some (by kernel_rfl))
 f246:=Tryz.func134.trans (congrArg some (by kernel_rfl))
 f283:=Tryz.func157.trans (congrArg some (by kernel_rfl))
 f284:=Tryz.func158.trans (congrArg some (by kernel_rfl))
 f285:=Tryz.func159.trans (congrArg some (by kernel_rfl))
 f286:=Tryz.func160.trans (congrArg some (by kernel_rfl))
 f317:=Tryz.func175.trans (congrArg some (by kernel_rfl))
 f318:=Tryz.func177.trans (congrArg some (by kernel_rfl))
 f319:=Tryz.func178.trans (congrArg some (by kernel_rfl))
 f320:=Tryz.func179.trans (congrArg some (by kernel_rfl))
 f337:=Tryz.func194.trans (congrArg some (by kernel_rfl))
 f338:=Tryz.func195.trans (congrArg some (by kernel_rfl))
 t0:=Tryz.underlying0
 a0:=Tryz.isAgg0
 z0:=Tryz.sizeOf0
 v0:=Tryz.zeroValue0
 t2:=Tryz.underlying2
 a2:=Tryz.isAgg2
 z2:=Tryz.sizeOf2
 v2:=Tryz.zeroValue2
 t3:=Tryz.underlying3
 a3:=Tryz.isAgg3
 z3:=Tryz.sizeOf3
 v3:=Tryz.zeroValue3
 t4:=Tryz.underlying4
 a4:=Tryz.isAgg4
 z4:=Tryz.sizeOf4
 v4:=Tryz.zeroValue4
 t5:=Tryz.underlying5
 a5:=Tryz.isAgg5
 z5:=Tryz.sizeOf5
 v5:=Tryz.zeroValue5
 t9:=Tryz.underlying9
 a9:=Tryz.isAgg9
 z9:=Tryz.sizeOf9
 v9:=Tryz.zeroValue9
 t20:=Tryz.underlying20
 a20:=Tryz.isAgg20
 z20:=Tryz.sizeOf20
 v20:=Tryz.zeroValue20
 t37:=Tryz.underlying52
 a37:=Tryz.isAgg52
 z37:=Tryz.sizeOf52
 v37:=Tryz.zeroValue52
 t46:=Tryz.underlying151
 a46:=Tryz.isAgg151
 z46:=Tryz.sizeOf151
 v46:=Tryz.zeroValue151
 t51:=Tryz.underlying189
 a51:=Tryz.isAgg189
 z51:=Tryz.sizeOf189
 v51:=Tryz.zeroValue189
 t53:=Tryz.underlying98
 a53:=Tryz.isAgg98
 z53:=Tryz.sizeOf98
 v53:=Tryz.zeroValue98
 t171:=Tryz.underlying179
 a171:=Tryz.isAgg179
 z171:=Tryz.sizeOf179
 v171:=Tryz.zeroValue179
 t173:=Tryz.underlying182
 a173:=Tryz.isAgg182
 z173:=Tryz.sizeOf182
 v173:=Tryz.zeroValue182
 t212:=Tryz.underlying188
 a212:=Tryz.isAgg188
 z212:=Tryz.sizeOf188
 v212:=Tryz.zeroValue188
 t213:=Tryz.underlying190
 a213:=Tryz.isAgg190
 z213:=Tryz.sizeOf190
 t232:=Tryz.underlying211
 a232:=Tryz.isAgg211
 z232:=Tryz.sizeOf211
 v232:=Tryz.zeroValue211
 t233:=Tryz.underlying212
 a233:=Tryz.isAgg212
 z233:=Tryz.sizeOf212
 v233:=Tryz.zeroValue212
 g17:=by kernel_rfl
 g18:=by kernel_rfl
 g19:=by kernel_rfl
 i0:=by kernel_rfl
 i2:=by kernel_rfl
 i3:=by kernel_rfl
 i4:=by kernel_rfl
 i5:=by kernel_rfl
 i9:=by kernel_rfl
 i20:=by kernel_rfl
 i37:=by kernel_rfl
 i46:=by kernel_rfl
 i51:=by kernel_rfl
 i53:=by kernel_rfl
 i171:=by kernel_rfl
 i173:=by kernel_rfl
 i212:=by kernel_rfl
 i232:=by kernel_rfl
 i233:=by kernel_rfl
 m17:=by kernel_rfl
 m18:=by kernel_rfl
 m19:=by kernel_rfl }
open Go.RowKit Go.Sort Go.Lib in
theorem Tryz.strconv_FormatInt_10(n:Int)(h0:-9223372036854775808≤n)(h1:n≤9223372036854775807)(w:World)(htab:Lib.TabIs Tryz.prog w "internal/strconv.uint64pow10" .u64 Lib.pow10Tab) :
  Calls Tryz.prog 100 #[.int .i64 n,.int .i64 10] w fun e w'=>e=.returned (.string ⟨(Lib.itoa n).toArray⟩)∧∃ k os,w'=grow (w.drewN k) os:=Any.strconv_FormatInt_10 Tryz.laysM173 n h0 h1 w htab
end Go.Proofs
namespace Go.Proofs.YtgheopdadfnilaaGreatDoor
open Go.RowKit Go.Sort
theorem dec_small{m:Nat}(h:m<10):Lib.decDigits m=[UInt8.ofNat (48+m % 10)]:=by
 rw [Lib.decDigits_one h,Nat.mod_eq_of_lt h]
theorem dec_big{m:Nat}(h:¬ m<10):Lib.decDigits m=Lib.decDigits (m / 10)++[UInt8.ofNat (48+m % 10)]:=by
 rw [Lib.decDigits,dif_neg h]
theorem nDigits_le(N:Nat)(h:N<18446744073709551616):Lib.nDigits N≤20:=by
 rcases Nat.eq_zero_or_pos N with h0|h0
 ·subst h0
  have h1:=congrArg List.length (dec_small (m:=0) (by omega))
  rw [Lib.decDigits_length]at h1;have h2:([UInt8.ofNat (48+0 % 10)]:List UInt8).length=1:=rfl
  omega
 ·have:=Lib.numDigits_eq N h0 h
  split at this <;> omega
theorem Q.grow(w:World)(k:Nat)(os:Array Obj):Q w (grow (w.drewN k) os):=by
 refine Q.trans ((Q.refl w).drewN k) ?_
 refine ⟨rfl,rfl,rfl,by simp [Go.Sort.grow],fun i hi=>?_⟩
 show ((w.drewN k).heap++os)[i]?=(w.drewN k).heap[i]?
 rw [Array.getElem?_append_left hi]
def shX(sh:List UInt8):List UInt8:=if sh.isEmpty then [] else sh++[33]
def prL(sh:List UInt8)(row col:Int)(ra ca:Bool):List UInt8:=(((shX sh++sgS ca)++cnL col)++sgS ra)++Lib.decDigits (row+1).toNat
def prR(sh:List UInt8)(row col:Int)(ra ca:Bool):List UInt8:=if mayR sh row col then prL sh row col ra ca else []
theorem sg_len(b:Bool):(sgS b).length≤1:=by cases b <;> decide
theorem cn_len(n:Int):(cnL n).length≤9:=by
 unfold cnL
 split
 ·exact nm_nine _ (by omega)
 ·simp
theorem shX_len(l:List UInt8):(shX l).length≤l.length+1:=by
 unfold shX
 split
 ·simp
 ·simp
theorem dec_len(u:Nat)(h:u≤2199023255552):(Lib.decDigits u).length≤20:=by
 rw [Lib.decDigits_length];exact nDigits_le u (by omega)
structure Cat (SH SA NM SB DC X1 X2 X3 X4:ByteArray):Prop where
 e1:SH++SA=X1
 e2:X1++NM=X2
 e3:X2++SB=X3
 e4:X3++DC=X4
 z0:SH.size≤100000
 z1:X1.size≤100000
 z2:X2.size≤100000
 z3:X3.size≤100000
 z4:X4.size≤100000
 y1:SA.size≤100000
 y2:NM.size≤100000
 y3:SB.size≤100000
 y4:DC.size≤100000
theorem cat_of(sh:List UInt8)(row col:Int)(ra ca:Bool)(hs:sh.length≤1000)(r0:0≤row)(r1:row<2199023255552) :
  ∃ X1 X2 X3,Cat ⟨(shX sh).toArray⟩ ⟨(sgS ca).toArray⟩ ⟨(cnL col).toArray⟩ ⟨(sgS ra).toArray⟩ ⟨(Lib.decDigits (row+1).toNat).toArray⟩ X1 X2 X3 ⟨(prL sh row col ra ca).toArray⟩:=by
 have h1:=shX_len sh;have h2:=sg_len ca;have h3:=sg_len ra;have h4:=cn_len col;have h5:=dec_len (row+1).toNat (by omega)
 refine ⟨⟨(shX sh++sgS ca).toArray⟩,⟨((shX sh++sgS ca)++cnL col).toArray⟩,⟨(((shX sh++sgS ca)++cnL col)++sgS ra).toArray⟩,bytes_cat _ _,bytes_cat _ _,bytes_cat _ _,bytes_cat _ _,?_,?_,?_,?_,?_,?_,?_,?_,?_⟩
 all_goals
  rw [size_mk]
  try unfold prL
  try simp only [List.length_append]
  omega
theorem fmt_any(n:Int)(w:World)(hw:Lib.TabIs Tryz.prog w "internal/strconv.uint64pow10" .u64 Lib.pow10Tab)(n0:0≤n)(n1:n≤2199023255552) :
  Calls Tryz.prog 100 #[.int .i64 n,.int .i64 10] w fun e w'=>e=.returned (.string ⟨(Lib.decDigits n.toNat).toArray⟩)∧Q w w':=by
 refine (Tryz.strconv_FormatInt_10 n (by omega) (by omega) w hw).mono ?_
 rintro e w' ⟨rfl,k,os,rfl⟩
 refine ⟨ret_str ?_,Q.grow w k os⟩
 obtain ⟨m,rfl⟩:=Int.eq_ofNat_of_zero_le n0
 rfl
structure PB (w W:World) (sh:ByteArray) (row col:Int) (ra ca:Bool):Prop where
 q:Q w W
 c0:W.cell? ⟨w.heap.size,0,none⟩=some (.string sh)
 c1:W.cell? ⟨w.heap.size,1,none⟩=some (.int .i64 row)
 c2:W.cell? ⟨w.heap.size,2,none⟩=some (.int .i64 col)
 c3:W.cell? ⟨w.heap.size,3,none⟩=some (.bool ra)
 c4:W.cell? ⟨w.heap.size,4,none⟩=some (.bool ca)
theorem PB.start(w:World)(sh:ByteArray)(row col:Int)(ra ca:Bool):PB w (w.alloc (.cells #[.string sh,.int .i64 row,.int .i64 col,.bool ra,.bool ca] 63)) sh row col ra ca:=by
 refine ⟨(Q.refl _).alloc _,?_,?_,?_,?_,?_⟩ <;> (rw [World.cell?_alloc_new];rfl)
theorem PB.on{w W W':World}{sh:ByteArray}{row col:Int}{ra ca:Bool}(h:PB w W sh row col ra ca)(q:Q W W'):PB w W' sh row col ra ca:=by
 have hb:w.heap.size<W.heap.size:=World.block_lt_of_cell? W ⟨w.heap.size,0,none⟩ h.c0
 exact ⟨h.q.trans q,by rw [q.cell hb];exact h.c0,by rw [q.cell hb];exact h.c1,by rw [q.cell hb];exact h.c2,by rw [q.cell hb];exact h.c3,by rw [q.cell hb];exact h.c4⟩
end Go.Proofs.YtgheopdadfnilaaGreatDoor
namespace Go.Proofs.YtgheopdadfnilaaGreatDoor
open Go.RowKit
theorem print_plain(sh SH SA NM SB DC X1 X2 X3 X4:ByteArray)(row col:Int)(ra ca:Bool)(w:World)(hz:sh.size≤1000)
  (HM1:Hid (∀ W,Calls Tryz.prog 96 #[.int .i64 row] W fun e w'=>e=.returned (.bool true)∧w'=W))
  (HM2:Hid (∀ W,Calls Tryz.prog 96 #[.int .i64 col] W fun e w'=>e=.returned (.bool true)∧w'=W))
  (hE:(sh.toList == [])=true)
  (HS1:Hid (∀ W,Calls Tryz.prog 98 #[.bool ca] W fun e w'=>e=.returned (.string SA)∧w'=W))
  (HS2:Hid (∀ W,Calls Tryz.prog 98 #[.bool ra] W fun e w'=>e=.returned (.string SB)∧w'=W))
  (HN:Hid (∀ W,Calls Tryz.prog 99 #[.int .i64 col] W fun e w'=>e=.returned (.string NM)∧Q W w'))
  (HF:Hid (∀ W,Q w W→Calls Tryz.prog 100 #[.int .i64 (row+1),.int .i64 10] W fun e w'=>e=.returned (.string DC)∧Q W w'))
  (r0:0≤row) (r1:row<2199023255552) (hc:Cat ⟨#[]⟩ SA NM SB DC X1 X2 X3 X4) :
  Calls Tryz.prog 60 #[rv sh row col ra ca] w fun e w'=>e=.returned (.string X4)∧Q w w':=by
 obtain ⟨e1,e2,e3,e4,z0,z1,z2,z3,z4,y1,y2,y3,y4⟩:=hc;have k1:¬ 9223372036854775807<SA.size:=by omega
 have k2:¬ 9223372036854775807<X1.size+NM.size:=by omega
 have k3:¬ 9223372036854775807<X2.size+SB.size:=by omega
 have k4:¬ 9223372036854775807<X3.size+DC.size:=by omega
 have hwr:IntKind.i64.wrap (row+1)=row+1:=by rw [IntKind.wrap_i64];omega
 have J:=hid (PB.start w sh row col ra ca);go_enter Tryz.func60,Tryz.ntmps60
 go_upto_region 8 with (first|(go_at_call_of 96 row;refine (HM1.out _).mono ?_;rintro e w1 ⟨rfl,rfl⟩)|(go_at_call_of 96 col;refine (HM2.out _).mono ?_;rintro e w1 ⟨rfl,rfl⟩))
 have hk0:Hid ((w.alloc (.cells #[.string sh,.int .i64 row,.int .i64 col,.bool ra,.bool ca] 63)).drew.cell? ⟨w.heap.size,1,none⟩=some (.int .i64 row)∧(w.alloc (.cells #[.string sh,.int .i64 row,.int .i64 col,.bool ra,.bool ca] 63)).drew.cell? ⟨w.heap.size,2,none⟩=some (.int .i64 col)∧(w.alloc (.cells #[.string sh,.int .i64 row,.int .i64 col,.bool ra,.bool ca] 63)).drew.cell? ⟨w.heap.size,3,none⟩=some (.bool ra)∧(w.alloc (.cells #[.string sh,.int .i64 row,.int .i64 col,.bool ra,.bool ca] 63)).drew.cell? ⟨w.heap.size,4,none⟩=some (.bool ca)):=⟨J.out.c1,J.out.c2,J.out.c3,J.out.c4⟩
 go_region_held3 (fun W=>W.cell? ⟨w.heap.size,1,none⟩=some (.int .i64 row)∧W.cell? ⟨w.heap.size,2,none⟩=some (.int .i64 col)∧W.cell? ⟨w.heap.size,3,none⟩=some (.bool ra)∧W.cell? ⟨w.heap.size,4,none⟩=some (.bool ca)) (with_reducible (first|exact hk0.out|exact hk1.out|exact hk2.out))
  (first
   |(go_at_call_of 98 ca;refine (HS1.out _).mono ?_;rintro r w9 ⟨rfl,rfl⟩)
   |(go_at_call_of 98 ra;refine (HS2.out _).mono ?_;rintro r w9 ⟨rfl,rfl⟩)
   |(go_at_call 99;refine (HN.out _).mono ?_;rintro r w5 ⟨rfl,q5⟩;replace J:=hid (J.out.on (Q.trans (Q.drew (Q.refl _)) q5));have hk1:Hid (w5.cell? ⟨w.heap.size,1,none⟩=some (.int .i64 row)∧w5.cell? ⟨w.heap.size,2,none⟩=some (.int .i64 col)∧w5.cell? ⟨w.heap.size,3,none⟩=some (.bool ra)∧w5.cell? ⟨w.heap.size,4,none⟩=some (.bool ca)):=⟨J.out.c1,J.out.c2,J.out.c3,J.out.c4⟩)
   |(go_at_call 100;refine (HF.out _ J.out.q).mono ?_;rintro r w6 ⟨rfl,q6⟩;replace J:=hid (J.out.on q6);have hk2:Hid (w6.cell? ⟨w.heap.size,1,none⟩=some (.int .i64 row)∧w6.cell? ⟨w.heap.size,2,none⟩=some (.int .i64 col)∧w6.cell? ⟨w.heap.size,3,none⟩=some (.bool ra)∧w6.cell? ⟨w.heap.size,4,none⟩=some (.bool ca)):=⟨J.out.c1,J.out.c2,J.out.c3,J.out.c4⟩))
 go_wp2
 go_ret
 exact ⟨rfl,J.out.q⟩
theorem print_sheet(sh SH SA NM SB DC X1 X2 X3 X4:ByteArray)(row col:Int)(ra ca:Bool)(w:World)(hz:sh.size≤1000)
  (HM1:Hid (∀ W,Calls Tryz.prog 96 #[.int .i64 row] W fun e w'=>e=.returned (.bool true)∧w'=W))
  (HM2:Hid (∀ W,Calls Tryz.prog 96 #[.int .i64 col] W fun e w'=>e=.returned (.bool true)∧w'=W))
  (hE:(sh.toList == [])=false)
  (HI:Hid (∀ W,Q w W→Calls Tryz.prog 97 #[.string sh] W fun e w'=>e=.returned (.bool true)∧Q W w')) (eS:sh++⟨#[33]⟩=SH)
  (HS1:Hid (∀ W,Calls Tryz.prog 98 #[.bool ca] W fun e w'=>e=.returned (.string SA)∧w'=W))
  (HS2:Hid (∀ W,Calls Tryz.prog 98 #[.bool ra] W fun e w'=>e=.returned (.string SB)∧w'=W))
  (HN:Hid (∀ W,Calls Tryz.prog 99 #[.int .i64 col] W fun e w'=>e=.returned (.string NM)∧Q W w'))
  (HF:Hid (∀ W,Q w W→Calls Tryz.prog 100 #[.int .i64 (row+1),.int .i64 10] W fun e w'=>e=.returned (.string DC)∧Q W w'))
  (r0:0≤row) (r1:row<2199023255552) (hc:Cat SH SA NM SB DC X1 X2 X3 X4) :
  Calls Tryz.prog 60 #[rv sh row col ra ca] w fun e w'=>e=.returned (.string X4)∧Q w w':=by
 obtain ⟨e1,e2,e3,e4,z0,z1,z2,z3,z4,y1,y2,y3,y4⟩:=hc;have k1:¬ 9223372036854775807<SH.size+SA.size:=by omega
 have k2:¬ 9223372036854775807<X1.size+NM.size:=by omega
 have k3:¬ 9223372036854775807<X2.size+SB.size:=by omega
 have k4:¬ 9223372036854775807<X3.size+DC.size:=by omega
 have hwr:IntKind.i64.wrap (row+1)=row+1:=by rw [IntKind.wrap_i64];omega
 have J:=hid (PB.start w sh row col ra ca);go_enter Tryz.func60,Tryz.ntmps60
 go_upto_region 8 with (first|(go_at_call_of 96 row;refine (HM1.out _).mono ?_;rintro e w1 ⟨rfl,rfl⟩)|(go_at_call_of 96 col;refine (HM2.out _).mono ?_;rintro e w1 ⟨rfl,rfl⟩)|(go_at_call 97;refine (HI.out _ (by repeat (first|exact Q.refl _|refine Q.drewN ?_ _|refine Q.alloc ?_ _))).mono ?_;rintro e w3 ⟨rfl,q3⟩;replace J:=hid (J.out.on q3);have d0:=J.out.c0;have d1:=J.out.c1;have d2:=J.out.c2;have d3:=J.out.c3;have d4:=J.out.c4))
 have hk0:Hid (w3.drew.cell? ⟨w.heap.size,1,none⟩=some (.int .i64 row)∧w3.drew.cell? ⟨w.heap.size,2,none⟩=some (.int .i64 col)∧w3.drew.cell? ⟨w.heap.size,3,none⟩=some (.bool ra)∧w3.drew.cell? ⟨w.heap.size,4,none⟩=some (.bool ca)):=⟨J.out.c1,J.out.c2,J.out.c3,J.out.c4⟩
 go_region_held3 (fun W=>W.cell? ⟨w.heap.size,1,none⟩=some (.int .i64 row)∧W.cell? ⟨w.heap.size,2,none⟩=some (.int .i64 col)∧W.cell? ⟨w.heap.size,3,none⟩=some (.bool ra)∧W.cell? ⟨w.heap.size,4,none⟩=some (.bool ca)) (with_reducible (first|exact hk0.out|exact hk1.out|exact hk2.out))
  (first
   |(go_at_call_of 98 ca;refine (HS1.out _).mono ?_;rintro r w9 ⟨rfl,rfl⟩)
   |(go_at_call_of 98 ra;refine (HS2.out _).mono ?_;rintro r w9 ⟨rfl,rfl⟩)
   |(go_at_call 99;refine (HN.out _).mono ?_;rintro r w5 ⟨rfl,q5⟩;replace J:=hid (J.out.on (Q.trans (Q.drew (Q.refl _)) q5));have hk1:Hid (w5.cell? ⟨w.heap.size,1,none⟩=some (.int .i64 row)∧w5.cell? ⟨w.heap.size,2,none⟩=some (.int .i64 col)∧w5.cell? ⟨w.heap.size,3,none⟩=some (.bool ra)∧w5.cell? ⟨w.heap.size,4,none⟩=some (.bool ca)):=⟨J.out.c1,J.out.c2,J.out.c3,J.out.c4⟩)
   |(go_at_call 100;refine (HF.out _ J.out.q).mono ?_;rintro r w6 ⟨rfl,q6⟩;replace J:=hid (J.out.on q6);have hk2:Hid (w6.cell? ⟨w.heap.size,1,none⟩=some (.int .i64 row)∧w6.cell? ⟨w.heap.size,2,none⟩=some (.int .i64 col)∧w6.cell? ⟨w.heap.size,3,none⟩=some (.bool ra)∧w6.cell? ⟨w.heap.size,4,none⟩=some (.bool ca)):=⟨J.out.c1,J.out.c2,J.out.c3,J.out.c4⟩))
 go_wp2
 go_ret
 exact ⟨rfl,J.out.q⟩
theorem print_no(sh:ByteArray)(row col:Int)(ra ca f1 f2 fi:Bool)(w:World)
  (HM1:Hid (∀ W,Calls Tryz.prog 96 #[.int .i64 row] W fun e w'=>e=.returned (.bool f1)∧w'=W))
  (HM2:Hid (∀ W,Calls Tryz.prog 96 #[.int .i64 col] W fun e w'=>e=.returned (.bool f2)∧w'=W))
  (HI:Hid (∀ W,Q w W→Calls Tryz.prog 97 #[.string sh] W fun e w'=>e=.returned (.bool fi)∧Q W w'))
  (h:f1=false∨f2=false∨((sh.toList == [])=false∧fi=false)) :
  Calls Tryz.prog 60 #[rv sh row col ra ca] w fun e w'=>e=.returned (.string ⟨#[]⟩)∧Q w w':=by
 cases f1
 ·clear h
  go_enter Tryz.func60,Tryz.ntmps60
  go_wp2_with (first|(go_at_call_of 96 row;refine (HM1.out _).mono ?_;rintro e w1 ⟨rfl,rfl⟩)|(go_at_call_of 96 col;refine (HM2.out _).mono ?_;rintro e w1 ⟨rfl,rfl⟩))
  go_ret
  exact ⟨rfl,(Q.refl _).alloc _⟩
 cases f2
 ·clear h
  go_enter Tryz.func60,Tryz.ntmps60
  go_wp2_with (first|(go_at_call_of 96 row;refine (HM1.out _).mono ?_;rintro e w1 ⟨rfl,rfl⟩)|(go_at_call_of 96 col;refine (HM2.out _).mono ?_;rintro e w1 ⟨rfl,rfl⟩))
  go_ret
  exact ⟨rfl,(Q.refl _).alloc _⟩
 obtain ⟨hE,rfl⟩:(sh.toList == [])=false∧fi=false:=by
  rcases h with h|h|h
  ·cases h
  ·cases h
  ·exact h
 go_enter Tryz.func60,Tryz.ntmps60
 go_wp2_with (first|(go_at_call_of 96 row;refine (HM1.out _).mono ?_;rintro e w1 ⟨rfl,rfl⟩)|(go_at_call_of 96 col;refine (HM2.out _).mono ?_;rintro e w1 ⟨rfl,rfl⟩)|(go_at_call 97;refine (HI.out _ (by repeat (first|exact Q.refl _|refine Q.drewN ?_ _|refine Q.alloc ?_ _))).mono ?_;rintro e w3 ⟨rfl,q3⟩))
 go_ret
 exact ⟨rfl,((Q.refl _).alloc _).trans q3⟩
theorem print_any(sh:ByteArray)(row col:Int)(ra ca:Bool)(w:World)(hw:Std w)(ht:∀ W,Q w W→Lib.TabIs Tryz.prog W "internal/strconv.uint64pow10" .u64 Lib.pow10Tab)(hs:sh.size≤1000) :
  Calls Tryz.prog 60 #[rv sh row col ra ca] w fun e w'=>e=.returned (.string ⟨(prR sh.data.toList row col ra ca).toArray⟩)∧Q w w':=by
 have HM1:=fun W=>mayline_any row W
 have HM2:=fun W=>mayline_any col W
 have HI:=fun W (q:Q w W)=>id_any sh W (hw.on q) (by omega)
 have et:=Lib.toList_data sh;unfold prR mayR
 cases h1:decide (0≤row∧row<2199023255552)
 ·rw [h1]at HM1
  refine (print_no sh row col ra ca _ _ _ w HM1 HM2 HI (.inl rfl)).mono fun e w' g=>⟨?_,g.2⟩
  rw [g.1,Bool.false_and,Bool.and_false]
  rfl
 cases h2:decide (0≤col∧col<2199023255552)
 ·rw [h2]at HM2
  refine (print_no sh row col ra ca _ _ _ w HM1 HM2 HI (.inr (.inl rfl))).mono fun e w' g=>⟨?_,g.2⟩
  rw [g.1,Bool.and_false,Bool.and_false]
  rfl
 rw [h1]at HM1;rw [h2]at HM2;have b1:=of_decide_eq_true h1;have b2:=of_decide_eq_true h2;obtain ⟨X1,X2,X3,hc⟩:=cat_of sh.data.toList row col ra ca (by rw [len_data];exact hs) b1.1 b1.2
 have HF:=fun W (q:Q w W)=>fmt_any (row+1) W (ht W q) (by omega) (by omega)
 by_cases he:sh.toList=[]
 ·have he2:sh.data.toList=[]:=by rw [←et,he]
  rw [he2]at hc ⊢;refine (print_plain sh ⟨#[]⟩ _ _ _ _ X1 X2 X3 _ row col ra ca w hs HM1 HM2 (by rw [he];rfl) (fun W=>asign_any ca W) (fun W=>asign_any ra W) (fun W=>name_any col W) HF b1.1 b1.2 hc).mono fun e w' g=>⟨?_,g.2⟩
  rw [g.1]
  rfl
 ·have hei:sh.data.toList.isEmpty=false:=by
   rw [←et];cases hh:sh.toList
   ·exact absurd hh he
   ·rfl
  cases hi:idB sh.data.toList
  ·rw [hi]at HI
   refine (print_no sh row col ra ca _ _ _ w HM1 HM2 HI (.inr (.inr ⟨by simpa using he,rfl⟩))).mono fun e w' g=>⟨?_,g.2⟩
   rw [g.1,hei]
   rfl
  ·rw [hi]at HI
   have eS:sh++⟨#[33]⟩=⟨(shX sh.data.toList).toArray⟩:=by
    unfold shX
    rw [hei];have e:=bytes_cat sh.data.toList [33];exact e
   refine (print_sheet sh _ _ _ _ _ X1 X2 X3 _ row col ra ca w hs HM1 HM2 (by simpa using he) HI eS (fun W=>asign_any ca W) (fun W=>asign_any ra W) (fun W=>name_any col W) HF b1.1 b1.2 hc).mono fun e w' g=>⟨?_,g.2⟩
   rw [g.1,Bool.or_true]
   rfl
theorem bare_any(k n:Int)(t:ByteArray)(b:Bool)(e:Int)(a1:Option Addr)(l1 c1:Nat)(a2:Option Addr)(l2 c2:Nat)(W:World):Calls Tryz.prog 127 #[.agg #[.int .i64 k,.int .i64 n,.string t,.bool b,.int .i64 e,.slice a1 l1 c1,.slice a2 l2 c2]] W fun e' W'=>e'=.returned (.bool (decide (n=0∧t.data.toList=[]∧b=false∧e=0∧l1=0∧l2=0)))∧Q W W':=by
 have et:=hid (toL t);by_cases q0:n=0
 ·skip
  have f0:(n == 0)=true:=by rw [q0];rfl
  by_cases q1:t.data.toList=[]
  ·skip
   have f1:(t.toList == [])=true:=by rw [et.out];rw [q1];rfl
   by_cases q2:b=false
   ·skip
    have f2:b=false:=q2
    by_cases q3:e=0
    ·skip
     have f3:(e == 0)=true:=by rw [q3];rfl
     by_cases q4:l1=0
     ·skip
      have f4:((l1:Int) == 0)=true:=by rw [q4];rfl
      by_cases q5:l2=0
      ·skip
       have f5:((l2:Int) == 0)=true:=by rw [q5];rfl
       have HR:Hid (decide (n=0∧t.data.toList=[]∧b=false∧e=0∧l1=0∧l2=0)=true):=by show _=_;exact decide_eq_true ⟨q0,q1,q2,q3,q4,q5⟩
       generalize decide (n=0∧t.data.toList=[]∧b=false∧e=0∧l1=0∧l2=0)=r at HR ⊢;clear et q0 q1 q2 q3 q4 q5;go_enter Tryz.func127,Tryz.ntmps127
       go_wp2_with fail
       go_ret
       exact ⟨ret_bool HR.out.symm,(Q.refl _).alloc _⟩
      ·skip
       have f5:((l2:Int) == 0)=false:=by rw [beq_eq_false_iff_ne];omega
       have HR:Hid (decide (n=0∧t.data.toList=[]∧b=false∧e=0∧l1=0∧l2=0)=false):=by show _=_;exact decide_eq_false (fun hh=>q5 hh.2.2.2.2.2)
       generalize decide (n=0∧t.data.toList=[]∧b=false∧e=0∧l1=0∧l2=0)=r at HR ⊢;clear et q0 q1 q2 q3 q4 q5;go_enter Tryz.func127,Tryz.ntmps127
       go_wp2_with fail
       go_ret
       exact ⟨ret_bool HR.out.symm,(Q.refl _).alloc _⟩
     ·skip
      have f4:((l1:Int) == 0)=false:=by rw [beq_eq_false_iff_ne];omega
      have HR:Hid (decide (n=0∧t.data.toList=[]∧b=false∧e=0∧l1=0∧l2=0)=false):=by show _=_;exact decide_eq_false (fun hh=>q4 hh.2.2.2.2.1)
      generalize decide (n=0∧t.data.toList=[]∧b=false∧e=0∧l1=0∧l2=0)=r at HR ⊢;clear et q0 q1 q2 q3 q4;go_enter Tryz.func127,Tryz.ntmps127
      go_wp2_with fail
      go_ret
      exact ⟨ret_bool HR.out.symm,(Q.refl _).alloc _⟩
    ·skip
     have f3:(e == 0)=false:=by rw [beq_eq_false_iff_ne];omega
     have HR:Hid (decide (n=0∧t.data.toList=[]∧b=false∧e=0∧l1=0∧l2=0)=false):=by show _=_;exact decide_eq_false (fun hh=>q3 hh.2.2.2.1)
     generalize decide (n=0∧t.data.toList=[]∧b=false∧e=0∧l1=0∧l2=0)=r at HR ⊢;clear et q0 q1 q2 q3;go_enter Tryz.func127,Tryz.ntmps127
     go_wp2_with fail
     go_ret
     exact ⟨ret_bool HR.out.symm,(Q.refl _).alloc _⟩
   ·skip
    have f2:b=true:=by simpa using q2
    have HR:Hid (decide (n=0∧t.data.toList=[]∧b=false∧e=0∧l1=0∧l2=0)=false):=by show _=_;exact decide_eq_false (fun hh=>q2 hh.2.2.1)
    generalize decide (n=0∧t.data.toList=[]∧b=false∧e=0∧l1=0∧l2=0)=r at HR ⊢;clear et q0 q1 q2;go_enter Tryz.func127,Tryz.ntmps127
    go_wp2_with fail
    go_ret
    exact ⟨ret_bool HR.out.symm,(Q.refl _).alloc _⟩
  ·skip
   have f1:(t.toList == [])=false:=by rw [et.out];rw [beq_eq_false_iff_ne];exact q1
   have HR:Hid (decide (n=0∧t.data.toList=[]∧b=false∧e=0∧l1=0∧l2=0)=false):=by show _=_;exact decide_eq_false (fun hh=>q1 hh.2.1)
   generalize decide (n=0∧t.data.toList=[]∧b=false∧e=0∧l1=0∧l2=0)=r at HR ⊢;clear et q0 q1;go_enter Tryz.func127,Tryz.ntmps127
   go_wp2_with fail
   go_ret
   exact ⟨ret_bool HR.out.symm,(Q.refl _).alloc _⟩
 ·skip
  have f0:(n == 0)=false:=by rw [beq_eq_false_iff_ne];omega
  have HR:Hid (decide (n=0∧t.data.toList=[]∧b=false∧e=0∧l1=0∧l2=0)=false):=by show _=_;exact decide_eq_false (fun hh=>q0 hh.1)
  generalize decide (n=0∧t.data.toList=[]∧b=false∧e=0∧l1=0∧l2=0)=r at HR ⊢;clear et q0;go_enter Tryz.func127,Tryz.ntmps127
  go_wp2_with fail
  go_ret
  exact ⟨ret_bool HR.out.symm,(Q.refl _).alloc _⟩
theorem prR_nil(sh:List UInt8)(row col:Int)(ra ca:Bool):decide (prR sh row col ra ca=[])=!mayR sh row col:=by
 unfold prR
 cases hm:mayR sh row col
 ·rw [if_neg (by simp)];rfl
 ·rw [if_pos rfl,decide_eq_false]
  ·rfl
  ·intro h
   unfold prL at h
   have h2:=(List.append_eq_nil_iff.1 h).2;have h3:=congrArg List.length h2;rw [Lib.decDigits_length]at h3;have h4:0<Lib.nDigits (row+1).toNat:=by unfold Lib.nDigits;split <;> omega
   simp at h3
   omega
theorem pmayref_any(sh:ByteArray)(row col:Int)(ra ca:Bool)(w:World)(hw:Std w)(ht:∀ W,Q w W→Lib.TabIs Tryz.prog W "internal/strconv.uint64pow10" .u64 Lib.pow10Tab)(hs:sh.size≤1000) :
  Calls Tryz.prog 123 #[rv sh row col ra ca] w fun e w'=>e=.returned (.bool (mayR sh.data.toList row col))∧Q w w':=by
 have HP:=hid (fun W (q:Q w W)=>print_any sh row col ra ca W (hw.on q) (fun W' q'=>ht W' (q.trans q')) hs)
 have hn:=prR_nil sh.data.toList row col ra ca;obtain ⟨S,hS,lS⟩:∃ S:ByteArray,⟨(prR sh.data.toList row col ra ca).toArray⟩=S∧S.data.toList=prR sh.data.toList row col ra ca:=⟨_,rfl,rfl⟩;rw [hS]at HP;rw [←lS]at hn;clear hw ht;cases hm:mayR sh.data.toList row col
 ·rw [hm]at hn
  have e7:(S.toList == [])=true:=by rw [toL,of_decide_eq_true hn];rfl
  clear hn hS lS;go_enter Tryz.func123,Tryz.ntmps123
  go_wp2_with (go_at_call 60;refine (HP.out _ ((Q.refl _).alloc _)).mono ?_;rintro e w1 ⟨rfl,q1⟩;have Q1:Hid (Q w w1):=hid (((Q.refl _).alloc _).trans q1);clear q1)
  go_ret
  exact ⟨rfl,Q1.out⟩
 ·rw [hm]at hn
  have e7:(S.toList == [])=false:=by rw [toL,beq_eq_false_iff_ne];exact of_decide_eq_false hn
  clear hn hS lS;go_enter Tryz.func123,Tryz.ntmps123
  go_wp2_with (go_at_call 60;refine (HP.out _ ((Q.refl _).alloc _)).mono ?_;rintro e w1 ⟨rfl,q1⟩;have Q1:Hid (Q w w1):=hid (((Q.refl _).alloc _).trans q1);clear q1)
  go_ret
  exact ⟨rfl,Q1.out⟩
theorem level_any(s:ByteArray)(W:World):Calls Tryz.prog 36 #[.string s] W fun e W'=>e=.returned (.int .i64 (lvl s.data.toList:Int))∧W'=W:=by
 have et:=hid (toL s);by_cases h0:s.data.toList=[61]
 ·have f0:(s.toList == [61])=true:=by rw [et.out,h0];rfl
  have HR:Hid (lvl s.data.toList=1):=by show _=_;rw [h0];rfl
  generalize lvl s.data.toList=r at HR ⊢;clear et h0;go_enter Tryz.func36,Tryz.ntmps36
  go_wp2
  go_ret
  exact ⟨ret_int (by rw [HR.out];rfl),rfl⟩
 ·have f0:(s.toList == [61])=false:=by rw [et.out,beq_eq_false_iff_ne];exact h0
  by_cases h1:s.data.toList=[60,62]
  ·have f1:(s.toList == [60,62])=true:=by rw [et.out,h1];rfl
   have HR:Hid (lvl s.data.toList=1):=by show _=_;rw [h1];rfl
   generalize lvl s.data.toList=r at HR ⊢;clear et h0 h1;go_enter Tryz.func36,Tryz.ntmps36
   go_wp2
   go_ret
   exact ⟨ret_int (by rw [HR.out];rfl),rfl⟩
  ·have f1:(s.toList == [60,62])=false:=by rw [et.out,beq_eq_false_iff_ne];exact h1
   by_cases h2:s.data.toList=[60]
   ·have f2:(s.toList == [60])=true:=by rw [et.out,h2];rfl
    have HR:Hid (lvl s.data.toList=1):=by show _=_;rw [h2];rfl
    generalize lvl s.data.toList=r at HR ⊢;clear et h0 h1 h2;go_enter Tryz.func36,Tryz.ntmps36
    go_wp2
    go_ret
    exact ⟨ret_int (by rw [HR.out];rfl),rfl⟩
   ·have f2:(s.toList == [60])=false:=by rw [et.out,beq_eq_false_iff_ne];exact h2
    by_cases h3:s.data.toList=[60,61]
    ·have f3:(s.toList == [60,61])=true:=by rw [et.out,h3];rfl
     have HR:Hid (lvl s.data.toList=1):=by show _=_;rw [h3];rfl
     generalize lvl s.data.toList=r at HR ⊢;clear et h0 h1 h2 h3;go_enter Tryz.func36,Tryz.ntmps36
     go_wp2
     go_ret
     exact ⟨ret_int (by rw [HR.out];rfl),rfl⟩
    ·have f3:(s.toList == [60,61])=false:=by rw [et.out,beq_eq_false_iff_ne];exact h3
     by_cases h4:s.data.toList=[62]
     ·have f4:(s.toList == [62])=true:=by rw [et.out,h4];rfl
      have HR:Hid (lvl s.data.toList=1):=by show _=_;rw [h4];rfl
      generalize lvl s.data.toList=r at HR ⊢;clear et h0 h1 h2 h3 h4;go_enter Tryz.func36,Tryz.ntmps36
      go_wp2
      go_ret
      exact ⟨ret_int (by rw [HR.out];rfl),rfl⟩
     ·have f4:(s.toList == [62])=false:=by rw [et.out,beq_eq_false_iff_ne];exact h4
      by_cases h5:s.data.toList=[62,61]
      ·have f5:(s.toList == [62,61])=true:=by rw [et.out,h5];rfl
       have HR:Hid (lvl s.data.toList=1):=by show _=_;rw [h5];rfl
       generalize lvl s.data.toList=r at HR ⊢;clear et h0 h1 h2 h3 h4 h5;go_enter Tryz.func36,Tryz.ntmps36
       go_wp2
       go_ret
       exact ⟨ret_int (by rw [HR.out];rfl),rfl⟩
      ·have f5:(s.toList == [62,61])=false:=by rw [et.out,beq_eq_false_iff_ne];exact h5
       by_cases h6:s.data.toList=[38]
       ·have f6:(s.toList == [38])=true:=by rw [et.out,h6];rfl
        have HR:Hid (lvl s.data.toList=2):=by show _=_;rw [h6];rfl
        generalize lvl s.data.toList=r at HR ⊢;clear et h0 h1 h2 h3 h4 h5 h6;go_enter Tryz.func36,Tryz.ntmps36
        go_wp2
        go_ret
        exact ⟨ret_int (by rw [HR.out];rfl),rfl⟩
       ·have f6:(s.toList == [38])=false:=by rw [et.out,beq_eq_false_iff_ne];exact h6
        by_cases h7:s.data.toList=[43]
        ·have f7:(s.toList == [43])=true:=by rw [et.out,h7];rfl
         have HR:Hid (lvl s.data.toList=3):=by show _=_;rw [h7];rfl
         generalize lvl s.data.toList=r at HR ⊢;clear et h0 h1 h2 h3 h4 h5 h6 h7;go_enter Tryz.func36,Tryz.ntmps36
         go_wp2
         go_ret
         exact ⟨ret_int (by rw [HR.out];rfl),rfl⟩
        ·have f7:(s.toList == [43])=false:=by rw [et.out,beq_eq_false_iff_ne];exact h7
         by_cases h8:s.data.toList=[45]
         ·have f8:(s.toList == [45])=true:=by rw [et.out,h8];rfl
          have HR:Hid (lvl s.data.toList=3):=by show _=_;rw [h8];rfl
          generalize lvl s.data.toList=r at HR ⊢;clear et h0 h1 h2 h3 h4 h5 h6 h7 h8;go_enter Tryz.func36,Tryz.ntmps36
          go_wp2
          go_ret
          exact ⟨ret_int (by rw [HR.out];rfl),rfl⟩
         ·have f8:(s.toList == [45])=false:=by rw [et.out,beq_eq_false_iff_ne];exact h8
          by_cases h9:s.data.toList=[42]
          ·have f9:(s.toList == [42])=true:=by rw [et.out,h9];rfl
           have HR:Hid (lvl s.data.toList=4):=by show _=_;rw [h9];rfl
           generalize lvl s.data.toList=r at HR ⊢;clear et h0 h1 h2 h3 h4 h5 h6 h7 h8 h9;go_enter Tryz.func36,Tryz.ntmps36
           go_wp2
           go_ret
           exact ⟨ret_int (by rw [HR.out];rfl),rfl⟩
          ·have f9:(s.toList == [42])=false:=by rw [et.out,beq_eq_false_iff_ne];exact h9
           by_cases h10:s.data.toList=[47]
           ·have f10:(s.toList == [47])=true:=by rw [et.out,h10];rfl
            have HR:Hid (lvl s.data.toList=4):=by show _=_;rw [h10];rfl
            generalize lvl s.data.toList=r at HR ⊢;clear et h0 h1 h2 h3 h4 h5 h6 h7 h8 h9 h10;go_enter Tryz.func36,Tryz.ntmps36
            go_wp2
            go_ret
            exact ⟨ret_int (by rw [HR.out];rfl),rfl⟩
           ·have f10:(s.toList == [47])=false:=by rw [et.out,beq_eq_false_iff_ne];exact h10
            have HR:Hid (lvl s.data.toList=0):=by show _=_;unfold lvl;rw [if_neg h0,if_neg h1,if_neg h2,if_neg h3,if_neg h4,if_neg h5,if_neg h6,if_neg h7,if_neg h8,if_neg h9,if_neg h10]
            generalize lvl s.data.toList=r at HR ⊢;clear et h0 h1 h2 h3 h4 h5 h6 h7 h8 h9 h10;go_enter Tryz.func36,Tryz.ntmps36
            go_wp2
            go_ret
            exact ⟨ret_int (by rw [HR.out];rfl),rfl⟩
theorem node_any(W:World)(p:Nat)(L:List Wd)(b off cap i:Nat)(bd:Bool)(n:Nat)(h:PS W p L b off cap i bd n)(hn:n≤100000)(k m:Int)(t:ByteArray)(bb:Bool)(er:Int)(a1:Option Addr)(l1 c1:Nat)(a2:Option Addr)(l2 c2:Nat) :
  Calls Tryz.prog 74 #[.pointer (some ⟨p,0,none⟩),.agg #[.int .i64 k,.int .i64 m,.string t,.bool bb,.int .i64 er,.slice a1 l1 c1,.slice a2 l2 c2]] W fun e W'=>e=.returned (.agg #[.int .i64 k,.int .i64 m,.string t,.bool bb,.int .i64 er,.slice a1 l1 c1,.slice a2 l2 c2])∧Qx p W W'∧PS W' p L b off cap i bd (n+1):=by
 have HP:=hid h;have hlt:=h.lt;have g3:=h.c3;have k3:=h.f3;have hne:p≠W.heap.size:=by omega
 clear h;go_enter Tryz.func74,Tryz.ntmps74
 go_wp2
 refine bodyPost_ret (v:=.agg #[.int .i64 k,.int .i64 m,.string t,.bool bb,.int .i64 er,.slice a1 l1 c1,.slice a2 l2 c2]) (by simp [results,Tryz.results74,go_sem]) rfl ⟨rfl,?_,?_⟩
 ·repeat' (first|with_reducible exact Qx.refl _ _|with_reducible refine Qx.new ?_ (by simp) _ _|with_reducible refine Qx.own ?_ _ _|with_reducible refine Qx.alloc ?_ _)
 ·exact (((HP.out.set3 (n+1) _ rfl).on ((Q.refl _).alloc _)).on ((Q.refl _).alloc _)).on (by repeat (first|exact Q.refl _|refine Q.setCell ?_ (by simp) _))
theorem Qx.frozen{p:Nat}{a w:World}(h:Qx p a w){b o:Nat}(hb:b<a.heap.size)(hp:b≠p):w.frozen? ⟨b,o,none⟩=a.frozen? ⟨b,o,none⟩:=
 World.frozen?_of_block (h.block b hb (fun e=>hp (Option.some.inj e)))
structure Tb (W:World) (q:Nat) (c0 c1 c2 c3 c4 c5 c6:Value):Prop where
 g0:W.cell? ⟨q,0,none⟩=some c0
 g1:W.cell? ⟨q,1,none⟩=some c1
 g2:W.cell? ⟨q,2,none⟩=some c2
 g3:W.cell? ⟨q,3,none⟩=some c3
 g4:W.cell? ⟨q,4,none⟩=some c4
 g5:W.cell? ⟨q,5,none⟩=some c5
 g6:W.cell? ⟨q,6,none⟩=some c6
 f:∀ j,W.frozen? ⟨q,j,none⟩=false
theorem Tb.on{p:Nat}{W W':World}{q:Nat}{c0 c1 c2 c3 c4 c5 c6:Value}(h:Tb W q c0 c1 c2 c3 c4 c5 c6)(x:Qx p W W')(hq:q≠p):Tb W' q c0 c1 c2 c3 c4 c5 c6:=by
 have hl:q<W.heap.size:=World.block_lt_of_cell? W ⟨q,0,none⟩ h.g0
 exact ⟨(x.cell hl hq).trans h.g0,(x.cell hl hq).trans h.g1,(x.cell hl hq).trans h.g2,(x.cell hl hq).trans h.g3,(x.cell hl hq).trans h.g4,(x.cell hl hq).trans h.g5,(x.cell hl hq).trans h.g6,fun j=>(x.frozen hl hq).trans (h.f j)⟩
theorem tb_new(W:World)(c0 c1 c2 c3 c4 c5 c6:Value)(t:TypeId):Tb (W.alloc (.cells #[c0,c1,c2,c3,c4,c5,c6] t)) W.heap.size c0 c1 c2 c3 c4 c5 c6:=by
 refine ⟨?_,?_,?_,?_,?_,?_,?_,fun j=>?_⟩
 all_goals simp [World.cell?_alloc_new,World.frozen?_alloc_new]
theorem Rdg.shape{g:Nat→Prop}{W:World}{x:Ex}{v:Value}(h:Rdg g W x v):∃ k n t b e a1 l1 c1 a2 l2 c2,v=.agg #[.int .i64 k,.int .i64 n,.string t,.bool b,.int .i64 e,.slice a1 l1 c1,.slice a2 l2 c2]:=by
 cases x with
 |mk k n t b e rs ks=>
  unfold Rdg at h
  obtain ⟨rv,kv,hv,hr,ao,cap,hk,_⟩:=h;obtain ⟨a1,c1,hr,_⟩:=hr;subst hr hk
  exact ⟨_,_,_,_,_,_,_,_,_,_,_,hv⟩
theorem rdg_kids{g:Nat→Prop}{W:World}(k:Int)(t:List UInt8)(T:ByteArray)(hT:T.data.toList=t)(ks:List Ex)(q cap:Nat)(hq:g q)(hc:ks.length≤cap)(hm:cap≤maxLen)(hpl:Pl W q)(h:Rdg.RdLg g W ks q 0) :
  Rdg g W (.mk k 0 t false 0 [] ks) (.agg #[.int .i64 k,.int .i64 0,.string T,.bool false,.int .i64 0,.slice none 0 0,.slice (some ⟨q,0,none⟩) ks.length cap]):=by
 unfold Rdg
 have e:T=⟨t.toArray⟩:=bytes_eq hT
 subst e
 exact ⟨_,_,rfl,⟨none,0,rfl,Nat.le_refl _,Nat.zero_le _,fun h=>absurd h (by simp)⟩,some ⟨q,0,none⟩,cap,rfl,hc,hm,fun _=>⟨q,0,rfl,hq,hpl,h⟩⟩
def Rep(p:Nat)(L:List Wd)(b off cap:Nat)(W:World)(r:Ex × St)(e:Ending)(W':World):Prop:=
 ∃ v,e=.returned v∧Rdg (fun b=>W.heap.size≤b) W' r.1 v∧Qx p W W'∧PS W' p L b off cap r.2.i r.2.bd r.2.n
theorem ahead_yes(L:List Wd)(p b off cap:Nat)(s:St)(r:Ex × St)(W:World)(h:PS W p L b off cap s.i s.bd s.n)(hi:s.i<L.length)(hw:isW L s.i [45]=true)
  (hn:r.2.n≤100000)
  (HT:Hid (∀ W1,PS W1 p L b off cap s.on.i s.on.bd s.on.n→Calls Tryz.prog 38 #[.pointer (some ⟨p,0,none⟩),.int .i64 5] W1 fun e W'=>Rep p L b off cap W1 r e W')) :
  Calls Tryz.prog 73 #[.pointer (some ⟨p,0,none⟩)] W fun e W'=>Rep p L b off cap W (negE r.1,r.2.node) e W':=by
 have hlt:=h.lt;have HPW:=hid h;have HP0:=hid (h.on ((Q.refl _).alloc (.cells #[.int .i64 0,.int .i64 0,.string ⟨#[]⟩,.bool false,.int .i64 0,.slice none 0 0,.slice none 0 0] 26)));have hk:=take_any _ p L b off cap s.i s.bd s.n ⟨#[45]⟩ HP0.out hi;rw [show (⟨#[45]⟩:ByteArray).data.toList=[45] from rfl,hw]at hk
 have HK:=hid hk;have HZ:=hid (tb_new W (.int .i64 0) (.int .i64 0) (.string ⟨#[]⟩) (.bool false) (.int .i64 0) (.slice none 0 0) (.slice none 0 0) 26);obtain ⟨x,s'⟩:=r;clear hk h;go_enter Tryz.func73,Tryz.ntmps73
 go_wp2_with (first|(go_at_call 104;refine HK.out.mono ?_;rintro e w1 ⟨rfl,q1,p1⟩;have Q1:=hid q1;have P1:=hid p1;clear q1 p1)|(go_at_call 38;refine (HT.out _ P1.out).mono ?_;rintro e w2 ⟨v,rfl,hr2,q2,p2⟩;obtain ⟨k,m,t,bb,er,a1,l1,c1,a2,l2,c2,rfl⟩:=hr2.shape;have R2:=hid hr2;have Q2:=hid q2;have P2:=hid p2;clear hr2 q2 p2)|(go_at_call 74;refine (node_any _ p L b off cap _ _ _ ((P2.out.on ((Q.refl _).alloc _)).on ((Q.refl _).alloc _)) hn 7 0 ⟨#[]⟩ false 0 none 0 0 (some ⟨w2.heap.size+1,0,none⟩) 1 1).mono ?_;rintro e w3 ⟨rfl,q3,p3⟩;have Q3:=hid q3;have P3:=hid p3;have Z3:=hid ((((HZ.out.on Q1.out (by omega)).on Q2.out (by omega)).on ((Qx.refl p _).alloc _) (by omega)).on (((Qx.refl p _).alloc _)) (by omega) |>.on q3 (by omega));clear q3 p3;have d0:=Z3.out.g0;have d1:=Z3.out.g1;have d2:=Z3.out.g2;have d3:=Z3.out.g3;have d4:=Z3.out.g4;have d5:=Z3.out.g5;have d6:=Z3.out.g6;have y0:=Z3.out.f 0;have y1:=Z3.out.f 1;have y2:=Z3.out.f 2;have y3:=Z3.out.f 3;have y4:=Z3.out.f 4;have y5:=Z3.out.f 5;have y6:=Z3.out.f 6))
 have hw2:=Q2.out.size;have hw1:=Q1.out.size;have hws:W.heap.size+1≤w2.heap.size:=by simp at hw1;omega
 have hw3:=Q3.out.size;have K3:=(tb_new (w2.alloc (.cells #[.int .i64 k,.int .i64 m,.string t,.bool bb,.int .i64 er,.slice a1 l1 c1,.slice a2 l2 c2] 26)) (.int .i64 k) (.int .i64 m) (.string t) (.bool bb) (.int .i64 er) (.slice a1 l1 c1) (.slice a2 l2 c2) 26).on Q3.out (by simp;omega)
 refine bodyPost_ret (v:=.agg #[.int .i64 7,.int .i64 0,.string ⟨#[]⟩,.bool false,.int .i64 0,.slice none 0 0,.slice (some ⟨w2.heap.size+1,0,none⟩) 1 1]) (by simp [results,Tryz.results73,go_sem,d0,d1,d2,d3,d4,d5,d6]) rfl ?_
 have hbW:b<W.heap.size:=World.block_lt_of_cell? W ⟨b,off+s.i*3,none⟩ (HPW.out.sw.k s.i hi)
 have hpw:p<w2.heap.size:=by omega
 have sz3:w2.heap.size+2≤w3.heap.size:=by simp at hw3;omega
 have RX:Rdg (fun b=>W.heap.size+1≤b) w3 x (.agg #[.int .i64 k,.int .i64 m,.string t,.bool bb,.int .i64 er,.slice a1 l1 c1,.slice a2 l2 c2]):=Rdg.on Q3.out (fun b hb=>by omega) _ _ (Rdg.on ((Qx.refl p _).alloc _) (fun b hb=>by omega) _ _ (Rdg.on ((Qx.refl p _).alloc _) (fun b hb=>by omega) _ _ (Rdg.mono (fun b hb=>by simp at hw1;omega) _ _ R2.out)))
 have QA:Qx p W w3:=((((((Qx.refl p W).alloc _).trans Q1.out).trans Q2.out).alloc _).alloc _).trans Q3.out
 have QF:Qx W.heap.size w3 (((((((w3.setCell ⟨W.heap.size,0,none⟩ (.int .i64 7)).setCell ⟨W.heap.size,1,none⟩ (.int .i64 0)).setCell ⟨W.heap.size,2,none⟩ (.string ⟨#[]⟩)).setCell ⟨W.heap.size,3,none⟩ (.bool false)).setCell ⟨W.heap.size,4,none⟩ (.int .i64 0)).setCell ⟨W.heap.size,5,none⟩ (.slice none 0 0)).setCell ⟨W.heap.size,6,none⟩ (.slice (some ⟨w2.heap.size+1,0,none⟩) 1 1)):=
  (((((((Qx.refl _ _).own _ _).own _ _).own _ _).own _ _).own _ _).own _ _).own _ _
 have KF:=K3.on QF (by simp;omega)
 rw [show (w2.alloc (.cells #[.int .i64 k,.int .i64 m,.string t,.bool bb,.int .i64 er,.slice a1 l1 c1,.slice a2 l2 c2] 26)).heap.size=w2.heap.size+1 by simp]at KF
 have PF:=((pl_new (w2.alloc (.cells #[.int .i64 k,.int .i64 m,.string t,.bool bb,.int .i64 er,.slice a1 l1 c1,.slice a2 l2 c2] 26)) #[.int .i64 k,.int .i64 m,.string t,.bool bb,.int .i64 er,.slice a1 l1 c1,.slice a2 l2 c2] 26).onx Q3.out (by simp;omega)).onx QF (by simp;omega)
 rw [show (w2.alloc (.cells #[.int .i64 k,.int .i64 m,.string t,.bool bb,.int .i64 er,.slice a1 l1 c1,.slice a2 l2 c2] 26)).heap.size=w2.heap.size+1 by simp]at PF
 refine ⟨_,rfl,rdg_kids 7 [] ⟨#[]⟩ rfl [x] (w2.heap.size+1) 1 (show _≤_ by omega) (by simp) (by unfold maxLen;omega) PF ?_,?_,?_⟩
 ·unfold Rdg.RdLg
  refine ⟨⟨_,_,_,_,_,_,_,KF.g0,KF.g1,KF.g2,KF.g3,KF.g4,KF.g5,KF.g6,Rdg.mono (fun b hb=>by omega) _ _ (Rdg.on QF (fun b hb=>by omega) _ _ RX)⟩,?_⟩
  unfold Rdg.RdLg
  trivial
 ·exact ((((((QA.new (Nat.le_refl _) _ _).new (Nat.le_refl _) _ _).new (Nat.le_refl _) _ _).new (Nat.le_refl _) _ _).new (Nat.le_refl _) _ _).new (Nat.le_refl _) _ _).new (Nat.le_refl _) _ _
 ·exact P3.out.onx QF (by omega) (by omega)
theorem fin7{p:Nat}{L:List Wd}{b off cap:Nat}{W w3:World}{x:Ex}{s':St}(k m:Int)(t:ByteArray)(bb:Bool)(er:Int)(a1:Option Addr)(l1 c1:Nat)(a2:Option Addr)(l2 c2:Nat)(hp:p<W.heap.size)(hb:b<W.heap.size)(hq:Qx p W w3)(hr:Rdg (fun b=>W.heap.size+1≤b) w3 x (.agg #[.int .i64 k,.int .i64 m,.string t,.bool bb,.int .i64 er,.slice a1 l1 c1,.slice a2 l2 c2]))(h:PS w3 p L b off cap s'.i s'.bd s'.n) :
  Rep p L b off cap W (x,s') (.returned (.agg #[.int .i64 k,.int .i64 m,.string t,.bool bb,.int .i64 er,.slice a1 l1 c1,.slice a2 l2 c2])) (((((((w3.setCell ⟨W.heap.size,0,none⟩ (.int .i64 k)).setCell ⟨W.heap.size,1,none⟩ (.int .i64 m)).setCell ⟨W.heap.size,2,none⟩ (.string t)).setCell ⟨W.heap.size,3,none⟩ (.bool bb)).setCell ⟨W.heap.size,4,none⟩ (.int .i64 er)).setCell ⟨W.heap.size,5,none⟩ (.slice a1 l1 c1)).setCell ⟨W.heap.size,6,none⟩ (.slice a2 l2 c2)):=by
 have QF:Qx W.heap.size w3 (((((((w3.setCell ⟨W.heap.size,0,none⟩ (.int .i64 k)).setCell ⟨W.heap.size,1,none⟩ (.int .i64 m)).setCell ⟨W.heap.size,2,none⟩ (.string t)).setCell ⟨W.heap.size,3,none⟩ (.bool bb)).setCell ⟨W.heap.size,4,none⟩ (.int .i64 er)).setCell ⟨W.heap.size,5,none⟩ (.slice a1 l1 c1)).setCell ⟨W.heap.size,6,none⟩ (.slice a2 l2 c2)):=(((((((Qx.refl _ _).own _ _).own _ _).own _ _).own _ _).own _ _).own _ _).own _ _
 refine ⟨_,rfl,Rdg.mono (fun b hb=>by omega) _ _ (Rdg.on QF (fun b hb=>by omega) _ _ hr),?_,h.onx QF (by omega) (by omega)⟩
 exact ((((((hq.new (Nat.le_refl _) _ _).new (Nat.le_refl _) _ _).new (Nat.le_refl _) _ _).new (Nat.le_refl _) _ _).new (Nat.le_refl _) _ _).new (Nat.le_refl _) _ _).new (Nat.le_refl _) _ _
theorem PS.blk{W:World}{p:Nat}{L:List Wd}{b off cap i:Nat}{bd:Bool}{n:Nat}(h:PS W p L b off cap i bd n)(hi:i<L.length):b<W.heap.size:=World.block_lt_of_cell? W ⟨b,off+i*3,none⟩ (h.sw.k i hi)
theorem ahead_no(L:List Wd)(p b off cap:Nat)(s:St)(r:Ex × St)(W:World)(h:PS W p L b off cap s.i s.bd s.n)(hi:s.i<L.length)(hw:isW L s.i [45]=false)
  (HT:Hid (∀ W1,PS W1 p L b off cap s.i s.bd s.n→Calls Tryz.prog 105 #[.pointer (some ⟨p,0,none⟩)] W1 fun e W'=>Rep p L b off cap W1 r e W')) :
  Calls Tryz.prog 73 #[.pointer (some ⟨p,0,none⟩)] W fun e W'=>Rep p L b off cap W r e W':=by
 have hlt:=h.lt;have hbW:=h.blk hi;have HP0:=hid (h.on ((Q.refl _).alloc (.cells #[.int .i64 0,.int .i64 0,.string ⟨#[]⟩,.bool false,.int .i64 0,.slice none 0 0,.slice none 0 0] 26)));have hk:=take_any _ p L b off cap s.i s.bd s.n ⟨#[45]⟩ HP0.out hi;rw [show (⟨#[45]⟩:ByteArray).data.toList=[45] from rfl,hw]at hk
 have HK:=hid hk;have HZ:=hid (tb_new W (.int .i64 0) (.int .i64 0) (.string ⟨#[]⟩) (.bool false) (.int .i64 0) (.slice none 0 0) (.slice none 0 0) 26);obtain ⟨x,s'⟩:=r;clear hk h;go_enter Tryz.func73,Tryz.ntmps73
 go_wp2_with (first|(go_at_call 104;refine HK.out.mono ?_;rintro e w1 ⟨rfl,q1,p1⟩;have Q1:=hid q1;have P1:=hid p1;clear q1 p1)|(go_at_call 105;refine (HT.out _ P1.out).mono ?_;rintro e w2 ⟨v,rfl,hr2,q2,p2⟩;obtain ⟨k,m,t,bb,er,a1,l1,c1,a2,l2,c2,rfl⟩:=hr2.shape;have R2:=hid hr2;have Q2:=hid q2;have P2:=hid p2;have Z2:=hid ((HZ.out.on Q1.out (by omega)).on Q2.out (by omega));clear hr2 q2 p2;have d0:=Z2.out.g0;have d1:=Z2.out.g1;have d2:=Z2.out.g2;have d3:=Z2.out.g3;have d4:=Z2.out.g4;have d5:=Z2.out.g5;have d6:=Z2.out.g6;have y0:=Z2.out.f 0;have y1:=Z2.out.f 1;have y2:=Z2.out.f 2;have y3:=Z2.out.f 3;have y4:=Z2.out.f 4;have y5:=Z2.out.f 5;have y6:=Z2.out.f 6))
 have hw1:=Q1.out.size;refine bodyPost_ret (v:=.agg #[.int .i64 k,.int .i64 m,.string t,.bool bb,.int .i64 er,.slice a1 l1 c1,.slice a2 l2 c2]) (by simp [results,Tryz.results73,go_sem,d0,d1,d2,d3,d4,d5,d6]) rfl ?_
 exact fin7 k m t bb er a1 l1 c1 a2 l2 c2 hlt hbW ((((Qx.refl p W).alloc _).trans Q1.out).trans Q2.out) (Rdg.mono (fun b hb=>by simp at hw1;omega) _ _ R2.out) P2.out
theorem tree_five(L:List Wd)(p b off cap:Nat)(s:St)(r:Ex × St)(W:World)(h:PS W p L b off cap s.i s.bd s.n)(hi:s.i<L.length)(hb:s.bd=false)
  (HT:Hid (∀ W1,PS W1 p L b off cap s.i s.bd s.n→Calls Tryz.prog 73 #[.pointer (some ⟨p,0,none⟩)] W1 fun e W'=>Rep p L b off cap W1 r e W')) :
  Calls Tryz.prog 38 #[.pointer (some ⟨p,0,none⟩),.int .i64 5] W fun e W'=>Rep p L b off cap W r e W':=by
 have hlt:=h.lt;have hbW:=h.blk hi;have HP0:=hid (h.on ((Q.refl _).alloc (.cells #[.int .i64 0,.int .i64 0,.string ⟨#[]⟩,.bool false,.int .i64 0,.slice none 0 0,.slice none 0 0] 26)));have g2:=HP0.out.c2;rw [hb]at g2;have HZ:=hid (tb_new W (.int .i64 0) (.int .i64 0) (.string ⟨#[]⟩) (.bool false) (.int .i64 0) (.slice none 0 0) (.slice none 0 0) 26);obtain ⟨x,s'⟩:=r;clear h;go_enter Tryz.func38,Tryz.ntmps38
 go_wp2_with (go_at_call 73;refine (HT.out _ HP0.out).mono ?_;rintro e w2 ⟨v,rfl,hr2,q2,p2⟩;obtain ⟨k,m,t,bb,er,a1,l1,c1,a2,l2,c2,rfl⟩:=hr2.shape;have R2:=hid hr2;have Q2:=hid q2;have P2:=hid p2;have Z2:=hid (HZ.out.on Q2.out (by omega));clear hr2 q2 p2;have d0:=Z2.out.g0;have d1:=Z2.out.g1;have d2:=Z2.out.g2;have d3:=Z2.out.g3;have d4:=Z2.out.g4;have d5:=Z2.out.g5;have d6:=Z2.out.g6;have y0:=Z2.out.f 0;have y1:=Z2.out.f 1;have y2:=Z2.out.f 2;have y3:=Z2.out.f 3;have y4:=Z2.out.f 4;have y5:=Z2.out.f 5;have y6:=Z2.out.f 6)
 refine bodyPost_ret (v:=.agg #[.int .i64 k,.int .i64 m,.string t,.bool bb,.int .i64 er,.slice a1 l1 c1,.slice a2 l2 c2]) (by simp [results,Tryz.results38,go_sem,d0,d1,d2,d3,d4,d5,d6]) rfl ?_
 exact fin7 k m t bb er a1 l1 c1 a2 l2 c2 hlt hbW (((Qx.refl p W).alloc _).trans Q2.out) (Rdg.mono (fun b hb=>by simp at hb;omega) _ _ R2.out) P2.out
theorem tree_bad(L:List Wd)(p b off cap lv:Nat)(s:St)(W:World)(h:PS W p L b off cap s.i s.bd s.n)(hi:s.i<L.length)(hb:s.bd=true) :
  Calls Tryz.prog 38 #[.pointer (some ⟨p,0,none⟩),.int .i64 (lv:Int)] W fun e W'=>Rep p L b off cap W (zeroE,s) e W':=by
 have hlt:=h.lt;have hbW:=h.blk hi;have HP0:=hid (h.on ((Q.refl _).alloc (.cells #[.int .i64 0,.int .i64 0,.string ⟨#[]⟩,.bool false,.int .i64 0,.slice none 0 0,.slice none 0 0] 26)));have g2:=HP0.out.c2;rw [hb]at g2;clear h;go_enter Tryz.func38,Tryz.ntmps38
 go_wp2
 refine bodyPost_ret (v:=zeroV) (by simp [results,Tryz.results38,go_sem,zeroV]) rfl ?_
 exact ⟨_,rfl,rdg_zero _ _,(Qx.refl p W).alloc _,HP0.out⟩
end Go.Proofs.YtgheopdadfnilaaGreatDoor
