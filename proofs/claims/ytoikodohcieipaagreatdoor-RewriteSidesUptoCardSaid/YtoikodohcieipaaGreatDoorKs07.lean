/- counterpanelaw5.same, Short; c. -/
import Derived.Test.YtoikodohcieipaaGreatDoorKs05
import Derived.Test.YtoikodohcieipaaGreatDoorKs00
import Derived.Deep.RegionHeld3
import Derived.Deep.CutBlock
import Derived.Deep.CutRange
set_option linter.unusedVariables false
set_option linter.unusedSimpArgs false
set_option maxRecDepth 100000
set_option maxHeartbeats 8000000
namespace Go.Proofs.YtoikodohcieipaaGreatDoor
open Go.RowKit
abbrev rv (sh:ByteArray) (row col:Int) (ra ca:Bool):Value:=.agg #[.string sh,.int .i64 row,.int .i64 col,.bool ra,.bool ca]
def mayR(sh:List UInt8)(row col:Int):Bool:=(sh.isEmpty || idB sh)&&(decide (0≤row∧row<2199023255552)&&decide (0≤col∧col<2199023255552))
theorem rmay_any(sh:ByteArray)(row col:Int)(ra ca:Bool)(w:World)(hs:sh.size≤4000000000) :
  Calls Tryz.prog 32 #[rv sh row col ra ca] w fun e w'=>e=.returned (.bool (mayR sh.data.toList row col))∧Q w w':=by
 have HI:=hid (fun W=>rid_any sh W (by omega))
 have HV:Hid (mayR sh.data.toList row col=((sh.data.toList.isEmpty || idB sh.data.toList)&&(decide (0≤row∧row<2199023255552)&&decide (0≤col∧col<2199023255552)))):=rfl
 have et:=hid (Lib.toList_data sh);have main:∀ X:Bool,(sh.data.toList.isEmpty || idB sh.data.toList)=X→Hid (mayR sh.data.toList row col=(X&&(decide (0≤row∧row<2199023255552)&&decide (0≤col∧col<2199023255552)))):=fun X e=>by show _=_;rw [HV.out,e]
 by_cases he:sh.toList=[]
 ·have HX:=main true (by rw [←et.out,he];rfl)
  have he':(sh.toList == [])=true:=by rw [he];rfl
  clear main HV;by_cases a:0≤row
  ·by_cases b:row<2199023255552
   ·by_cases c:0≤col
    ·by_cases d:col<2199023255552
     ·go_enter Tryz.func32,Tryz.ntmps32
      go_wp2
      go_ret
      exact ⟨ret_bool (by rw [HX.out,Bool.eq_iff_iff];simp;omega),(Q.refl _).alloc _⟩
     ·go_enter Tryz.func32,Tryz.ntmps32
      go_wp2
      go_ret
      exact ⟨ret_bool (by rw [HX.out,Bool.eq_iff_iff];simp;omega),(Q.refl _).alloc _⟩
    ·go_enter Tryz.func32,Tryz.ntmps32
     go_wp2
     go_ret
     exact ⟨ret_bool (by rw [HX.out,Bool.eq_iff_iff];simp;omega),(Q.refl _).alloc _⟩
   ·go_enter Tryz.func32,Tryz.ntmps32
    go_wp2
    go_ret
    exact ⟨ret_bool (by rw [HX.out,Bool.eq_iff_iff];simp;omega),(Q.refl _).alloc _⟩
  ·go_enter Tryz.func32,Tryz.ntmps32
   go_wp2
   go_ret
   exact ⟨ret_bool (by rw [HX.out,Bool.eq_iff_iff];simp;omega),(Q.refl _).alloc _⟩
 ·have he':(sh.toList == [])=false:=by simpa using he
  have hei:sh.data.toList.isEmpty=false:=by
   rw [←et.out];cases hh:sh.toList
   ·exact absurd hh he
   ·rfl
  cases hB:idB sh.data.toList
  ·have HX:=main false (by rw [hei,hB];rfl)
   rw [hB]at HI;clear main HV he hei;go_enter Tryz.func32,Tryz.ntmps32
   go_wp2_with (go_at_call 60;refine (HI.out _).mono ?_;rintro e w1 ⟨rfl,rfl⟩)
   go_ret
   exact ⟨ret_bool (by rw [HX.out];rfl),(Q.refl _).alloc _⟩
  ·have HX:=main true (by rw [hei,hB];rfl)
   rw [hB]at HI;clear main HV he hei;by_cases a:0≤row
   ·by_cases b:row<2199023255552
    ·by_cases c:0≤col
     ·by_cases d:col<2199023255552
      ·go_enter Tryz.func32,Tryz.ntmps32
       go_wp2_with (go_at_call 60;refine (HI.out _).mono ?_;rintro e w1 ⟨rfl,rfl⟩)
       go_ret
       exact ⟨ret_bool (by rw [HX.out,Bool.eq_iff_iff];simp;omega),(Q.refl _).alloc _⟩
      ·go_enter Tryz.func32,Tryz.ntmps32
       go_wp2_with (go_at_call 60;refine (HI.out _).mono ?_;rintro e w1 ⟨rfl,rfl⟩)
       go_ret
       exact ⟨ret_bool (by rw [HX.out,Bool.eq_iff_iff];simp;omega),(Q.refl _).alloc _⟩
     ·go_enter Tryz.func32,Tryz.ntmps32
      go_wp2_with (go_at_call 60;refine (HI.out _).mono ?_;rintro e w1 ⟨rfl,rfl⟩)
      go_ret
      exact ⟨ret_bool (by rw [HX.out,Bool.eq_iff_iff];simp;omega),(Q.refl _).alloc _⟩
    ·go_enter Tryz.func32,Tryz.ntmps32
     go_wp2_with (go_at_call 60;refine (HI.out _).mono ?_;rintro e w1 ⟨rfl,rfl⟩)
     go_ret
     exact ⟨ret_bool (by rw [HX.out,Bool.eq_iff_iff];simp;omega),(Q.refl _).alloc _⟩
   ·go_enter Tryz.func32,Tryz.ntmps32
    go_wp2_with (go_at_call 60;refine (HI.out _).mono ?_;rintro e w1 ⟨rfl,rfl⟩)
    go_ret
    exact ⟨ret_bool (by rw [HX.out,Bool.eq_iff_iff];simp;omega),(Q.refl _).alloc _⟩
end Go.Proofs.YtoikodohcieipaaGreatDoor
namespace Go.Proofs.YtoikodohcieipaaGreatDoor
open Go.RowKit Go.Sort
theorem dec_small{m:Nat}(h:m<10):Lib.decDigits m=[UInt8.ofNat (48+m % 10)]:=by
 rw [Lib.decDigits_one h,Nat.mod_eq_of_lt h]
theorem nDigits_le(N:Nat)(h:N<18446744073709551616):Lib.nDigits N≤20:=by
 rcases Nat.eq_zero_or_pos N with h0|h0
 ·subst h0
  have h1:=congrArg List.length (dec_small (m:=0) (by omega))
  rw [Lib.decDigits_length]at h1;have h2:([UInt8.ofNat (48+0 % 10)]:List UInt8).length=1:=rfl
  omega
 ·have:=Lib.numDigits_eq N h0 h
  split at this <;> omega
theorem Q.grow(w:World)(k:Nat)(os:Array Obj):Q w (grow (w.drewN k) os):=by
 refine Q.trans ((Q.refl w).drewN k) ?_
 refine ⟨rfl,rfl,rfl,by simp [Go.Sort.grow],fun i hi=>?_⟩
 show ((w.drewN k).heap++os)[i]?=(w.drewN k).heap[i]?
 rw [Array.getElem?_append_left hi]
def shX(sh:List UInt8):List UInt8:=if sh.isEmpty then [] else sh++[33]
def prL(sh:List UInt8)(row col:Int)(ra ca:Bool):List UInt8:=(((shX sh++sgS ca)++cnL col)++sgS ra)++Lib.decDigits (row+1).toNat
def prR(sh:List UInt8)(row col:Int)(ra ca:Bool):List UInt8:=if mayR sh row col then prL sh row col ra ca else []
theorem sg_len(b:Bool):(sgS b).length≤1:=by cases b <;> decide
theorem cn_len(n:Int):(cnL n).length≤9:=by
 unfold cnL
 split
 ·exact nm_nine _ (by omega)
 ·simp
theorem shX_len(l:List UInt8):(shX l).length≤l.length+1:=by
 unfold shX
 split
 ·simp
 ·simp
theorem dec_len(u:Nat)(h:u≤2199023255552):(Lib.decDigits u).length≤20:=by
 rw [Lib.decDigits_length];exact nDigits_le u (by omega)
structure Cat (SH SA NM SB DC X1 X2 X3 X4:ByteArray):Prop where
 e1:SH++SA=X1
 e2:X1++NM=X2
 e3:X2++SB=X3
 e4:X3++DC=X4
 z0:SH.size≤100000
 z1:X1.size≤100000
 z2:X2.size≤100000
 z3:X3.size≤100000
 z4:X4.size≤100000
 y1:SA.size≤100000
 y2:NM.size≤100000
 y3:SB.size≤100000
 y4:DC.size≤100000
theorem cat_of(sh:List UInt8)(row col:Int)(ra ca:Bool)(hs:sh.length≤1000)(r0:0≤row)(r1:row<2199023255552) :
  ∃ X1 X2 X3,Cat ⟨(shX sh).toArray⟩ ⟨(sgS ca).toArray⟩ ⟨(cnL col).toArray⟩ ⟨(sgS ra).toArray⟩ ⟨(Lib.decDigits (row+1).toNat).toArray⟩ X1 X2 X3 ⟨(prL sh row col ra ca).toArray⟩:=by
 have h1:=shX_len sh;have h2:=sg_len ca;have h3:=sg_len ra;have h4:=cn_len col;have h5:=dec_len (row+1).toNat (by omega)
 refine ⟨⟨(shX sh++sgS ca).toArray⟩,⟨((shX sh++sgS ca)++cnL col).toArray⟩,⟨(((shX sh++sgS ca)++cnL col)++sgS ra).toArray⟩,bytes_cat _ _,bytes_cat _ _,bytes_cat _ _,bytes_cat _ _,?_,?_,?_,?_,?_,?_,?_,?_,?_⟩
 all_goals
  rw [size_mk]
  try unfold prL
  try simp only [List.length_append]
  omega
theorem fmt_any(n:Int)(w:World)(hw:Lib.TabIs Tryz.prog w "internal/strconv.uint64pow10" .u64 Lib.pow10Tab)(n0:0≤n)(n1:n≤2199023255552) :
  Calls Tryz.prog 112 #[.int .i64 n,.int .i64 10] w fun e w'=>e=.returned (.string ⟨(Lib.decDigits n.toNat).toArray⟩)∧Q w w':=by
 refine (Tryz.strconv_FormatInt_10 n (by omega) (by omega) w hw).mono ?_
 rintro e w' ⟨rfl,k,os,rfl⟩
 refine ⟨ret_str ?_,Q.grow w k os⟩
 obtain ⟨m,rfl⟩:=Int.eq_ofNat_of_zero_le n0
 rfl
structure PB (w W:World) (sh:ByteArray) (row col:Int) (ra ca:Bool):Prop where
 q:Q w W
 c0:W.cell? ⟨w.heap.size,0,none⟩=some (.string sh)
 c1:W.cell? ⟨w.heap.size,1,none⟩=some (.int .i64 row)
 c2:W.cell? ⟨w.heap.size,2,none⟩=some (.int .i64 col)
 c3:W.cell? ⟨w.heap.size,3,none⟩=some (.bool ra)
 c4:W.cell? ⟨w.heap.size,4,none⟩=some (.bool ca)
theorem PB.start(w:World)(sh:ByteArray)(row col:Int)(ra ca:Bool):PB w (w.alloc (.cells #[.string sh,.int .i64 row,.int .i64 col,.bool ra,.bool ca] 40)) sh row col ra ca:=by
 refine ⟨(Q.refl _).alloc _,?_,?_,?_,?_,?_⟩ <;> (rw [World.cell?_alloc_new];rfl)
theorem PB.on{w W W':World}{sh:ByteArray}{row col:Int}{ra ca:Bool}(h:PB w W sh row col ra ca)(q:Q W W'):PB w W' sh row col ra ca:=by
 have hb:w.heap.size<W.heap.size:=World.block_lt_of_cell? W ⟨w.heap.size,0,none⟩ h.c0
 exact ⟨h.q.trans q,by rw [q.cell hb];exact h.c0,by rw [q.cell hb];exact h.c1,by rw [q.cell hb];exact h.c2,by rw [q.cell hb];exact h.c3,by rw [q.cell hb];exact h.c4⟩
end Go.Proofs.YtoikodohcieipaaGreatDoor
namespace Go.Proofs.YtoikodohcieipaaGreatDoor
open Go.RowKit
theorem print_plain(sh SH SA NM SB DC X1 X2 X3 X4:ByteArray)(row col:Int)(ra ca:Bool)(w:World)(hz:sh.size≤1000)
  (HM1:Hid (∀ W,Calls Tryz.prog 108 #[.int .i64 row] W fun e w'=>e=.returned (.bool true)∧w'=W))
  (HM2:Hid (∀ W,Calls Tryz.prog 108 #[.int .i64 col] W fun e w'=>e=.returned (.bool true)∧w'=W))
  (hE:(sh.toList == [])=true)
  (HS1:Hid (∀ W,Calls Tryz.prog 110 #[.bool ca] W fun e w'=>e=.returned (.string SA)∧w'=W))
  (HS2:Hid (∀ W,Calls Tryz.prog 110 #[.bool ra] W fun e w'=>e=.returned (.string SB)∧w'=W))
  (HN:Hid (∀ W,Calls Tryz.prog 111 #[.int .i64 col] W fun e w'=>e=.returned (.string NM)∧Q W w'))
  (HF:Hid (∀ W,Q w W→Calls Tryz.prog 112 #[.int .i64 (row+1),.int .i64 10] W fun e w'=>e=.returned (.string DC)∧Q W w'))
  (r0:0≤row) (r1:row<2199023255552) (hc:Cat ⟨#[]⟩ SA NM SB DC X1 X2 X3 X4) :
  Calls Tryz.prog 105 #[rv sh row col ra ca] w fun e w'=>e=.returned (.string X4)∧Q w w':=by
 obtain ⟨e1,e2,e3,e4,z0,z1,z2,z3,z4,y1,y2,y3,y4⟩:=hc;have k1:¬ 9223372036854775807<SA.size:=by omega
 have k2:¬ 9223372036854775807<X1.size+NM.size:=by omega
 have k3:¬ 9223372036854775807<X2.size+SB.size:=by omega
 have k4:¬ 9223372036854775807<X3.size+DC.size:=by omega
 have hwr:IntKind.i64.wrap (row+1)=row+1:=by rw [IntKind.wrap_i64];omega
 have J:=hid (PB.start w sh row col ra ca);go_enter Tryz.func105,Tryz.ntmps105
 go_upto_region 8 with (first|(go_at_call_of 108 row;refine (HM1.out _).mono ?_;rintro e w1 ⟨rfl,rfl⟩)|(go_at_call_of 108 col;refine (HM2.out _).mono ?_;rintro e w1 ⟨rfl,rfl⟩))
 have hk0:Hid ((w.alloc (.cells #[.string sh,.int .i64 row,.int .i64 col,.bool ra,.bool ca] 40)).drew.cell? ⟨w.heap.size,1,none⟩=some (.int .i64 row)∧(w.alloc (.cells #[.string sh,.int .i64 row,.int .i64 col,.bool ra,.bool ca] 40)).drew.cell? ⟨w.heap.size,2,none⟩=some (.int .i64 col)∧(w.alloc (.cells #[.string sh,.int .i64 row,.int .i64 col,.bool ra,.bool ca] 40)).drew.cell? ⟨w.heap.size,3,none⟩=some (.bool ra)∧(w.alloc (.cells #[.string sh,.int .i64 row,.int .i64 col,.bool ra,.bool ca] 40)).drew.cell? ⟨w.heap.size,4,none⟩=some (.bool ca)):=⟨J.out.c1,J.out.c2,J.out.c3,J.out.c4⟩
 go_region_held3 (fun W=>W.cell? ⟨w.heap.size,1,none⟩=some (.int .i64 row)∧W.cell? ⟨w.heap.size,2,none⟩=some (.int .i64 col)∧W.cell? ⟨w.heap.size,3,none⟩=some (.bool ra)∧W.cell? ⟨w.heap.size,4,none⟩=some (.bool ca)) (with_reducible (first|exact hk0.out|exact hk1.out|exact hk2.out))
  (first
   |(go_at_call_of 110 ca;refine (HS1.out _).mono ?_;rintro r w9 ⟨rfl,rfl⟩)
   |(go_at_call_of 110 ra;refine (HS2.out _).mono ?_;rintro r w9 ⟨rfl,rfl⟩)
   |(go_at_call 111;refine (HN.out _).mono ?_;rintro r w5 ⟨rfl,q5⟩;replace J:=hid (J.out.on (Q.trans (Q.drew (Q.refl _)) q5));have hk1:Hid (w5.cell? ⟨w.heap.size,1,none⟩=some (.int .i64 row)∧w5.cell? ⟨w.heap.size,2,none⟩=some (.int .i64 col)∧w5.cell? ⟨w.heap.size,3,none⟩=some (.bool ra)∧w5.cell? ⟨w.heap.size,4,none⟩=some (.bool ca)):=⟨J.out.c1,J.out.c2,J.out.c3,J.out.c4⟩)
   |(go_at_call 112;refine (HF.out _ J.out.q).mono ?_;rintro r w6 ⟨rfl,q6⟩;replace J:=hid (J.out.on q6);have hk2:Hid (w6.cell? ⟨w.heap.size,1,none⟩=some (.int .i64 row)∧w6.cell? ⟨w.heap.size,2,none⟩=some (.int .i64 col)∧w6.cell? ⟨w.heap.size,3,none⟩=some (.bool ra)∧w6.cell? ⟨w.heap.size,4,none⟩=some (.bool ca)):=⟨J.out.c1,J.out.c2,J.out.c3,J.out.c4⟩))
 go_wp2
 go_ret
 exact ⟨rfl,J.out.q⟩
theorem print_sheet(sh SH SA NM SB DC X1 X2 X3 X4:ByteArray)(row col:Int)(ra ca:Bool)(w:World)(hz:sh.size≤1000)
  (HM1:Hid (∀ W,Calls Tryz.prog 108 #[.int .i64 row] W fun e w'=>e=.returned (.bool true)∧w'=W))
  (HM2:Hid (∀ W,Calls Tryz.prog 108 #[.int .i64 col] W fun e w'=>e=.returned (.bool true)∧w'=W))
  (hE:(sh.toList == [])=false)
  (HI:Hid (∀ W,Q w W→Calls Tryz.prog 109 #[.string sh] W fun e w'=>e=.returned (.bool true)∧Q W w')) (eS:sh++⟨#[33]⟩=SH)
  (HS1:Hid (∀ W,Calls Tryz.prog 110 #[.bool ca] W fun e w'=>e=.returned (.string SA)∧w'=W))
  (HS2:Hid (∀ W,Calls Tryz.prog 110 #[.bool ra] W fun e w'=>e=.returned (.string SB)∧w'=W))
  (HN:Hid (∀ W,Calls Tryz.prog 111 #[.int .i64 col] W fun e w'=>e=.returned (.string NM)∧Q W w'))
  (HF:Hid (∀ W,Q w W→Calls Tryz.prog 112 #[.int .i64 (row+1),.int .i64 10] W fun e w'=>e=.returned (.string DC)∧Q W w'))
  (r0:0≤row) (r1:row<2199023255552) (hc:Cat SH SA NM SB DC X1 X2 X3 X4) :
  Calls Tryz.prog 105 #[rv sh row col ra ca] w fun e w'=>e=.returned (.string X4)∧Q w w':=by
 obtain ⟨e1,e2,e3,e4,z0,z1,z2,z3,z4,y1,y2,y3,y4⟩:=hc;have k1:¬ 9223372036854775807<SH.size+SA.size:=by omega
 have k2:¬ 9223372036854775807<X1.size+NM.size:=by omega
 have k3:¬ 9223372036854775807<X2.size+SB.size:=by omega
 have k4:¬ 9223372036854775807<X3.size+DC.size:=by omega
 have hwr:IntKind.i64.wrap (row+1)=row+1:=by rw [IntKind.wrap_i64];omega
 have J:=hid (PB.start w sh row col ra ca);go_enter Tryz.func105,Tryz.ntmps105
 go_upto_region 8 with (first|(go_at_call_of 108 row;refine (HM1.out _).mono ?_;rintro e w1 ⟨rfl,rfl⟩)|(go_at_call_of 108 col;refine (HM2.out _).mono ?_;rintro e w1 ⟨rfl,rfl⟩)|(go_at_call 109;refine (HI.out _ (by repeat (first|exact Q.refl _|refine Q.drewN ?_ _|refine Q.alloc ?_ _))).mono ?_;rintro e w3 ⟨rfl,q3⟩;replace J:=hid (J.out.on q3);have d0:=J.out.c0;have d1:=J.out.c1;have d2:=J.out.c2;have d3:=J.out.c3;have d4:=J.out.c4))
 have hk0:Hid (w3.drew.cell? ⟨w.heap.size,1,none⟩=some (.int .i64 row)∧w3.drew.cell? ⟨w.heap.size,2,none⟩=some (.int .i64 col)∧w3.drew.cell? ⟨w.heap.size,3,none⟩=some (.bool ra)∧w3.drew.cell? ⟨w.heap.size,4,none⟩=some (.bool ca)):=⟨J.out.c1,J.out.c2,J.out.c3,J.out.c4⟩
 go_region_held3 (fun W=>W.cell? ⟨w.heap.size,1,none⟩=some (.int .i64 row)∧W.cell? ⟨w.heap.size,2,none⟩=some (.int .i64 col)∧W.cell? ⟨w.heap.size,3,none⟩=some (.bool ra)∧W.cell? ⟨w.heap.size,4,none⟩=some (.bool ca)) (with_reducible (first|exact hk0.out|exact hk1.out|exact hk2.out))
  (first
   |(go_at_call_of 110 ca;refine (HS1.out _).mono ?_;rintro r w9 ⟨rfl,rfl⟩)
   |(go_at_call_of 110 ra;refine (HS2.out _).mono ?_;rintro r w9 ⟨rfl,rfl⟩)
   |(go_at_call 111;refine (HN.out _).mono ?_;rintro r w5 ⟨rfl,q5⟩;replace J:=hid (J.out.on (Q.trans (Q.drew (Q.refl _)) q5));have hk1:Hid (w5.cell? ⟨w.heap.size,1,none⟩=some (.int .i64 row)∧w5.cell? ⟨w.heap.size,2,none⟩=some (.int .i64 col)∧w5.cell? ⟨w.heap.size,3,none⟩=some (.bool ra)∧w5.cell? ⟨w.heap.size,4,none⟩=some (.bool ca)):=⟨J.out.c1,J.out.c2,J.out.c3,J.out.c4⟩)
   |(go_at_call 112;refine (HF.out _ J.out.q).mono ?_;rintro r w6 ⟨rfl,q6⟩;replace J:=hid (J.out.on q6);have hk2:Hid (w6.cell? ⟨w.heap.size,1,none⟩=some (.int .i64 row)∧w6.cell? ⟨w.heap.size,2,none⟩=some (.int .i64 col)∧w6.cell? ⟨w.heap.size,3,none⟩=some (.bool ra)∧w6.cell? ⟨w.heap.size,4,none⟩=some (.bool ca)):=⟨J.out.c1,J.out.c2,J.out.c3,J.out.c4⟩))
 go_wp2
 go_ret
 exact ⟨rfl,J.out.q⟩
theorem print_no(sh:ByteArray)(row col:Int)(ra ca f1 f2 fi:Bool)(w:World)
  (HM1:Hid (∀ W,Calls Tryz.prog 108 #[.int .i64 row] W fun e w'=>e=.returned (.bool f1)∧w'=W))
  (HM2:Hid (∀ W,Calls Tryz.prog 108 #[.int .i64 col] W fun e w'=>e=.returned (.bool f2)∧w'=W))
  (HI:Hid (∀ W,Q w W→Calls Tryz.prog 109 #[.string sh] W fun e w'=>e=.returned (.bool fi)∧Q W w'))
  (h:f1=false∨f2=false∨((sh.toList == [])=false∧fi=false)) :
  Calls Tryz.prog 105 #[rv sh row col ra ca] w fun e w'=>e=.returned (.string ⟨#[]⟩)∧Q w w':=by
 cases f1
 ·clear h
  go_enter Tryz.func105,Tryz.ntmps105
  go_wp2_with (first|(go_at_call_of 108 row;refine (HM1.out _).mono ?_;rintro e w1 ⟨rfl,rfl⟩)|(go_at_call_of 108 col;refine (HM2.out _).mono ?_;rintro e w1 ⟨rfl,rfl⟩))
  go_ret
  exact ⟨rfl,(Q.refl _).alloc _⟩
 cases f2
 ·clear h
  go_enter Tryz.func105,Tryz.ntmps105
  go_wp2_with (first|(go_at_call_of 108 row;refine (HM1.out _).mono ?_;rintro e w1 ⟨rfl,rfl⟩)|(go_at_call_of 108 col;refine (HM2.out _).mono ?_;rintro e w1 ⟨rfl,rfl⟩))
  go_ret
  exact ⟨rfl,(Q.refl _).alloc _⟩
 obtain ⟨hE,rfl⟩:(sh.toList == [])=false∧fi=false:=by
  rcases h with h|h|h
  ·cases h
  ·cases h
  ·exact h
 go_enter Tryz.func105,Tryz.ntmps105
 go_wp2_with (first|(go_at_call_of 108 row;refine (HM1.out _).mono ?_;rintro e w1 ⟨rfl,rfl⟩)|(go_at_call_of 108 col;refine (HM2.out _).mono ?_;rintro e w1 ⟨rfl,rfl⟩)|(go_at_call 109;refine (HI.out _ (by repeat (first|exact Q.refl _|refine Q.drewN ?_ _|refine Q.alloc ?_ _))).mono ?_;rintro e w3 ⟨rfl,q3⟩))
 go_ret
 exact ⟨rfl,((Q.refl _).alloc _).trans q3⟩
theorem print_any(sh:ByteArray)(row col:Int)(ra ca:Bool)(w:World)(hw:Std w)(ht:∀ W,Q w W→Lib.TabIs Tryz.prog W "internal/strconv.uint64pow10" .u64 Lib.pow10Tab)(hs:sh.size≤1000) :
  Calls Tryz.prog 105 #[rv sh row col ra ca] w fun e w'=>e=.returned (.string ⟨(prR sh.data.toList row col ra ca).toArray⟩)∧Q w w':=by
 have HM1:=fun W=>mayline_any row W
 have HM2:=fun W=>mayline_any col W
 have HI:=fun W (q:Q w W)=>id_any sh W (hw.on q) (by omega)
 have et:=Lib.toList_data sh;unfold prR mayR
 cases h1:decide (0≤row∧row<2199023255552)
 ·rw [h1]at HM1
  refine (print_no sh row col ra ca _ _ _ w HM1 HM2 HI (.inl rfl)).mono fun e w' g=>⟨?_,g.2⟩
  rw [g.1,Bool.false_and,Bool.and_false]
  rfl
 cases h2:decide (0≤col∧col<2199023255552)
 ·rw [h2]at HM2
  refine (print_no sh row col ra ca _ _ _ w HM1 HM2 HI (.inr (.inl rfl))).mono fun e w' g=>⟨?_,g.2⟩
  rw [g.1,Bool.and_false,Bool.and_false]
  rfl
 rw [h1]at HM1;rw [h2]at HM2;have b1:=of_decide_eq_true h1;have b2:=of_decide_eq_true h2;obtain ⟨X1,X2,X3,hc⟩:=cat_of sh.data.toList row col ra ca (by rw [len_data];exact hs) b1.1 b1.2
 have HF:=fun W (q:Q w W)=>fmt_any (row+1) W (ht W q) (by omega) (by omega)
 by_cases he:sh.toList=[]
 ·have he2:sh.data.toList=[]:=by rw [←et,he]
  rw [he2]at hc ⊢;refine (print_plain sh ⟨#[]⟩ _ _ _ _ X1 X2 X3 _ row col ra ca w hs HM1 HM2 (by rw [he];rfl) (fun W=>asign_any ca W) (fun W=>asign_any ra W) (fun W=>name_any col W) HF b1.1 b1.2 hc).mono fun e w' g=>⟨?_,g.2⟩
  rw [g.1]
  rfl
 ·have hei:sh.data.toList.isEmpty=false:=by
   rw [←et];cases hh:sh.toList
   ·exact absurd hh he
   ·rfl
  cases hi:idB sh.data.toList
  ·rw [hi]at HI
   refine (print_no sh row col ra ca _ _ _ w HM1 HM2 HI (.inr (.inr ⟨by simpa using he,rfl⟩))).mono fun e w' g=>⟨?_,g.2⟩
   rw [g.1,hei]
   rfl
  ·rw [hi]at HI
   have eS:sh++⟨#[33]⟩=⟨(shX sh.data.toList).toArray⟩:=by
    unfold shX
    rw [hei];have e:=bytes_cat sh.data.toList [33];exact e
   refine (print_sheet sh _ _ _ _ _ X1 X2 X3 _ row col ra ca w hs HM1 HM2 (by simpa using he) HI eS (fun W=>asign_any ca W) (fun W=>asign_any ra W) (fun W=>name_any col W) HF b1.1 b1.2 hc).mono fun e w' g=>⟨?_,g.2⟩
   rw [g.1,Bool.or_true]
   rfl
end Go.Proofs.YtoikodohcieipaaGreatDoor
