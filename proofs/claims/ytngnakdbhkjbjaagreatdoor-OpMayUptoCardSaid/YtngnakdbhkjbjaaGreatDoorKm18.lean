/- counterpaneref5.EqExpr, walked. -/
import Derived.Test.YtngnakdbhkjbjaaGreatDoorKm12
import Derived.Test.YtngnakdbhkjbjaaGreatDoorKm04
import Derived.Test.YtngnakdbhkjbjaaGreatDoorKm00
import Derived.Deep.RegionHeld3
import Derived.Deep.CutBlock
import Derived.Deep.CutRange
set_option linter.unusedVariables false
set_option linter.unusedSimpArgs false
set_option maxRecDepth 100000
set_option maxHeartbeats 8000000
namespace Go.Proofs.YtngnakdbhkjbjaaGreatDoor
open Go.RowKit
def Ans(p:Prop)(e:Ending):Prop:=∃ r:Bool,e=.returned (.bool r)∧(r=true↔p)
theorem Ans.no{p:Prop}(h:¬ p):Ans p (.returned (.bool false)):=⟨false,rfl,by simp [h]⟩
theorem Ans.yes{p:Prop}(h:p):Ans p (.returned (.bool true)):=⟨true,rfl,by simp [h]⟩
theorem beq_no{α:Type}[BEq α][LawfulBEq α]{a b:α}(h:a≠b):(a == b)=false:=by rw [beq_eq_false_iff_ne];exact h
theorem str_no{a b:ByteArray}(h:a.data.toList≠b.data.toList):(a.toList == b.toList)=false:=by rw [Lib.toList_data,Lib.toList_data];exact beq_no h
theorem str_eq{a b:ByteArray}(h:a.data.toList=b.data.toList):a=b:=by
 apply ByteArray.ext
 apply Array.ext'
 exact h
structure Two (w W:World) (k n:Int) (t:ByteArray) (b:Bool) (e:Int) (rv kv:Value) (k' n':Int) (t':ByteArray) (b':Bool) (e':Int) (rv' kv':Value):Prop where
 one:Bx w W (.int .i64 k) (.int .i64 n) (.string t) (.bool b) (.int .i64 e) rv kv
 lt:w.heap.size+1<W.heap.size
 g5:W.cell? ⟨w.heap.size+1,5,none⟩=some rv'
 g6:W.cell? ⟨w.heap.size+1,6,none⟩=some kv'
theorem Two.on{w W W':World}{k n:Int}{t:ByteArray}{b:Bool}{e:Int}{rv kv:Value}{k' n':Int}{t':ByteArray}{b':Bool}{e':Int}{rv' kv':Value}(h:Two w W k n t b e rv kv k' n' t' b' e' rv' kv')(q:Q W W'):Two w W' k n t b e rv kv k' n' t' b' e' rv' kv':=
 ⟨h.one.on q,q.lt h.lt,(q.cell h.lt).trans h.g5,(q.cell h.lt).trans h.g6⟩
theorem Two.start(w:World)(k n:Int)(t:ByteArray)(b:Bool)(e:Int)(rv kv:Value)(k' n':Int)(t':ByteArray)(b':Bool)(e':Int)(rv' kv':Value)(ty:TypeId) :
  Two w ((w.alloc (.cells #[.int .i64 k,.int .i64 n,.string t,.bool b,.int .i64 e,rv,kv] ty)).alloc (.cells #[.int .i64 k',.int .i64 n',.string t',.bool b',.int .i64 e',rv',kv'] ty)) k n t b e rv kv k' n' t' b' e' rv' kv':=by
 refine ⟨(Bx.start _ _ _ _ _ _ _ _ _).on ((Q.refl _).alloc _),by simp,?_,?_⟩
 ·have e:w.heap.size+1=(w.alloc (.cells #[.int .i64 k,.int .i64 n,.string t,.bool b,.int .i64 e,rv,kv] ty)).heap.size:=by simp
  rw [e];simp [World.cell?_alloc_new]
 ·have e:w.heap.size+1=(w.alloc (.cells #[.int .i64 k,.int .i64 n,.string t,.bool b,.int .i64 e,rv,kv] ty)).heap.size:=by simp
  rw [e];simp [World.cell?_alloc_new]
theorem eq_heads(k n:Int)(t:ByteArray)(b:Bool)(e:Int)(a1:Option Addr)(l1 c1:Nat)(a2:Option Addr)(l2 c2:Nat)(k' n':Int)(t':ByteArray)(b':Bool)(e':Int)(a3:Option Addr)(l3 c3:Nat)(a4:Option Addr)(l4 c4:Nat)(w:World)
  (h:¬ (k=k'∧n=n'∧t.data.toList=t'.data.toList∧b=b'∧e=e'∧l1=l3∧l2=l4)) :
  Calls Tryz.prog 51 #[.agg #[.int .i64 k,.int .i64 n,.string t,.bool b,.int .i64 e,.slice a1 l1 c1,.slice a2 l2 c2],.agg #[.int .i64 k',.int .i64 n',.string t',.bool b',.int .i64 e',.slice a3 l3 c3,.slice a4 l4 c4]] w fun x w'=>x=.returned (.bool false)∧Q w w':=by
 by_cases h1:k=k'
 ·subst h1
  by_cases h2:n=n'
  ·subst h2
   by_cases h3:t.data.toList=t'.data.toList
   ·obtain rfl:=str_eq h3
    by_cases h4:b=b'
    ·subst h4
     by_cases h5:e=e'
     ·subst h5
      by_cases h6:l1=l3
      ·subst h6
       have h7:l2≠l4:=fun e=>h ⟨rfl,rfl,rfl,rfl,rfl,rfl,e⟩
       have f7:((l2:Int) == (l4:Int))=false:=beq_no (by omega)
       clear h h3 h7;go_enter Tryz.func51,Tryz.ntmps51
       go_wp2
       go_ret
       exact ⟨rfl,((Q.refl _).alloc _).alloc _⟩
      ·have f6:((l1:Int) == (l3:Int))=false:=beq_no (by omega)
       clear h h3 h6;go_enter Tryz.func51,Tryz.ntmps51
       go_wp2
       go_ret
       exact ⟨rfl,((Q.refl _).alloc _).alloc _⟩
     ·have f5:(e == e')=false:=beq_no h5
      clear h h3;go_enter Tryz.func51,Tryz.ntmps51
      go_wp2
      go_ret
      exact ⟨rfl,((Q.refl _).alloc _).alloc _⟩
    ·have f4:b'=!b:=by cases b <;> cases b' <;> simp_all
     subst f4;clear h h3 h4;cases b
     ·go_enter Tryz.func51,Tryz.ntmps51
      go_wp2
      go_ret
      exact ⟨rfl,((Q.refl _).alloc _).alloc _⟩
     ·go_enter Tryz.func51,Tryz.ntmps51
      go_wp2
      go_ret
      exact ⟨rfl,((Q.refl _).alloc _).alloc _⟩
   ·have f3:=str_no h3
    clear h h3;go_enter Tryz.func51,Tryz.ntmps51
    go_wp2
    go_ret
    exact ⟨rfl,((Q.refl _).alloc _).alloc _⟩
  ·have f2:(n == n')=false:=beq_no h2
   clear h;go_enter Tryz.func51,Tryz.ntmps51
   go_wp2
   go_ret
   exact ⟨rfl,((Q.refl _).alloc _).alloc _⟩
 ·have f1:(k == k')=false:=beq_no h1
  clear h;go_enter Tryz.func51,Tryz.ntmps51
  go_wp2
  go_ret
  exact ⟨rfl,((Q.refl _).alloc _).alloc _⟩
abbrev rv (sh:ByteArray) (row col:Int) (ra ca:Bool):Value:=.agg #[.string sh,.int .i64 row,.int .i64 col,.bool ra,.bool ca]
def mayR(sh:List UInt8)(row col:Int):Bool:=(sh.isEmpty || idB sh)&&(decide (0≤row∧row<2199023255552)&&decide (0≤col∧col<2199023255552))
theorem rmay_any(sh:ByteArray)(row col:Int)(ra ca:Bool)(w:World)(hs:sh.size≤4000000000) :
  Calls Tryz.prog 88 #[rv sh row col ra ca] w fun e w'=>e=.returned (.bool (mayR sh.data.toList row col))∧Q w w':=by
 have HI:=hid (fun W=>rid_any sh W (by omega))
 have HV:Hid (mayR sh.data.toList row col=((sh.data.toList.isEmpty || idB sh.data.toList)&&(decide (0≤row∧row<2199023255552)&&decide (0≤col∧col<2199023255552)))):=rfl
 have et:=hid (Lib.toList_data sh);have main:∀ X:Bool,(sh.data.toList.isEmpty || idB sh.data.toList)=X→Hid (mayR sh.data.toList row col=(X&&(decide (0≤row∧row<2199023255552)&&decide (0≤col∧col<2199023255552)))):=fun X e=>by show _=_;rw [HV.out,e]
 by_cases he:sh.toList=[]
 ·have HX:=main true (by rw [←et.out,he];rfl)
  have he':(sh.toList == [])=true:=by rw [he];rfl
  clear main HV;by_cases a:0≤row
  ·by_cases b:row<2199023255552
   ·by_cases c:0≤col
    ·by_cases d:col<2199023255552
     ·go_enter Tryz.func88,Tryz.ntmps88
      go_wp2
      go_ret
      exact ⟨ret_bool (by rw [HX.out,Bool.eq_iff_iff];simp;omega),(Q.refl _).alloc _⟩
     ·go_enter Tryz.func88,Tryz.ntmps88
      go_wp2
      go_ret
      exact ⟨ret_bool (by rw [HX.out,Bool.eq_iff_iff];simp;omega),(Q.refl _).alloc _⟩
    ·go_enter Tryz.func88,Tryz.ntmps88
     go_wp2
     go_ret
     exact ⟨ret_bool (by rw [HX.out,Bool.eq_iff_iff];simp;omega),(Q.refl _).alloc _⟩
   ·go_enter Tryz.func88,Tryz.ntmps88
    go_wp2
    go_ret
    exact ⟨ret_bool (by rw [HX.out,Bool.eq_iff_iff];simp;omega),(Q.refl _).alloc _⟩
  ·go_enter Tryz.func88,Tryz.ntmps88
   go_wp2
   go_ret
   exact ⟨ret_bool (by rw [HX.out,Bool.eq_iff_iff];simp;omega),(Q.refl _).alloc _⟩
 ·have he':(sh.toList == [])=false:=by simpa using he
  have hei:sh.data.toList.isEmpty=false:=by
   rw [←et.out];cases hh:sh.toList
   ·exact absurd hh he
   ·rfl
  cases hB:idB sh.data.toList
  ·have HX:=main false (by rw [hei,hB];rfl)
   rw [hB]at HI;clear main HV he hei;go_enter Tryz.func88,Tryz.ntmps88
   go_wp2_with (go_at_call 26;refine (HI.out _).mono ?_;rintro e w1 ⟨rfl,rfl⟩)
   go_ret
   exact ⟨ret_bool (by rw [HX.out];rfl),(Q.refl _).alloc _⟩
  ·have HX:=main true (by rw [hei,hB];rfl)
   rw [hB]at HI;clear main HV he hei;by_cases a:0≤row
   ·by_cases b:row<2199023255552
    ·by_cases c:0≤col
     ·by_cases d:col<2199023255552
      ·go_enter Tryz.func88,Tryz.ntmps88
       go_wp2_with (go_at_call 26;refine (HI.out _).mono ?_;rintro e w1 ⟨rfl,rfl⟩)
       go_ret
       exact ⟨ret_bool (by rw [HX.out,Bool.eq_iff_iff];simp;omega),(Q.refl _).alloc _⟩
      ·go_enter Tryz.func88,Tryz.ntmps88
       go_wp2_with (go_at_call 26;refine (HI.out _).mono ?_;rintro e w1 ⟨rfl,rfl⟩)
       go_ret
       exact ⟨ret_bool (by rw [HX.out,Bool.eq_iff_iff];simp;omega),(Q.refl _).alloc _⟩
     ·go_enter Tryz.func88,Tryz.ntmps88
      go_wp2_with (go_at_call 26;refine (HI.out _).mono ?_;rintro e w1 ⟨rfl,rfl⟩)
      go_ret
      exact ⟨ret_bool (by rw [HX.out,Bool.eq_iff_iff];simp;omega),(Q.refl _).alloc _⟩
    ·go_enter Tryz.func88,Tryz.ntmps88
     go_wp2_with (go_at_call 26;refine (HI.out _).mono ?_;rintro e w1 ⟨rfl,rfl⟩)
     go_ret
     exact ⟨ret_bool (by rw [HX.out,Bool.eq_iff_iff];simp;omega),(Q.refl _).alloc _⟩
   ·go_enter Tryz.func88,Tryz.ntmps88
    go_wp2_with (go_at_call 26;refine (HI.out _).mono ?_;rintro e w1 ⟨rfl,rfl⟩)
    go_ret
    exact ⟨ret_bool (by rw [HX.out,Bool.eq_iff_iff];simp;omega),(Q.refl _).alloc _⟩
end Go.Proofs.YtngnakdbhkjbjaaGreatDoor
namespace Go.Proofs.YtngnakdbhkjbjaaGreatDoor
open Go.RowKit Go.Sort
theorem dec_small{m:Nat}(h:m<10):Lib.decDigits m=[UInt8.ofNat (48+m % 10)]:=by
 rw [Lib.decDigits_one h,Nat.mod_eq_of_lt h]
theorem nDigits_le(N:Nat)(h:N<18446744073709551616):Lib.nDigits N≤20:=by
 rcases Nat.eq_zero_or_pos N with h0|h0
 ·subst h0
  have h1:=congrArg List.length (dec_small (m:=0) (by omega))
  rw [Lib.decDigits_length]at h1;have h2:([UInt8.ofNat (48+0 % 10)]:List UInt8).length=1:=rfl
  omega
 ·have:=Lib.numDigits_eq N h0 h
  split at this <;> omega
theorem Q.grow(w:World)(k:Nat)(os:Array Obj):Q w (grow (w.drewN k) os):=by
 refine Q.trans ((Q.refl w).drewN k) ?_
 refine ⟨rfl,rfl,rfl,by simp [Go.Sort.grow],fun i hi=>?_⟩
 show ((w.drewN k).heap++os)[i]?=(w.drewN k).heap[i]?
 rw [Array.getElem?_append_left hi]
def shX(sh:List UInt8):List UInt8:=if sh.isEmpty then [] else sh++[33]
def prL(sh:List UInt8)(row col:Int)(ra ca:Bool):List UInt8:=(((shX sh++sgS ca)++cnL col)++sgS ra)++Lib.decDigits (row+1).toNat
def prR(sh:List UInt8)(row col:Int)(ra ca:Bool):List UInt8:=if mayR sh row col then prL sh row col ra ca else []
theorem sg_len(b:Bool):(sgS b).length≤1:=by cases b <;> decide
theorem cn_len(n:Int):(cnL n).length≤9:=by
 unfold cnL
 split
 ·exact nm_nine _ (by omega)
 ·simp
theorem shX_len(l:List UInt8):(shX l).length≤l.length+1:=by
 unfold shX
 split
 ·simp
 ·simp
theorem dec_len(u:Nat)(h:u≤2199023255552):(Lib.decDigits u).length≤20:=by
 rw [Lib.decDigits_length];exact nDigits_le u (by omega)
structure Cat (SH SA NM SB DC X1 X2 X3 X4:ByteArray):Prop where
 e1:SH++SA=X1
 e2:X1++NM=X2
 e3:X2++SB=X3
 e4:X3++DC=X4
 z0:SH.size≤100000
 z1:X1.size≤100000
 z2:X2.size≤100000
 z3:X3.size≤100000
 z4:X4.size≤100000
 y1:SA.size≤100000
 y2:NM.size≤100000
 y3:SB.size≤100000
 y4:DC.size≤100000
theorem cat_of(sh:List UInt8)(row col:Int)(ra ca:Bool)(hs:sh.length≤1000)(r0:0≤row)(r1:row<2199023255552) :
  ∃ X1 X2 X3,Cat ⟨(shX sh).toArray⟩ ⟨(sgS ca).toArray⟩ ⟨(cnL col).toArray⟩ ⟨(sgS ra).toArray⟩ ⟨(Lib.decDigits (row+1).toNat).toArray⟩ X1 X2 X3 ⟨(prL sh row col ra ca).toArray⟩:=by
 have h1:=shX_len sh;have h2:=sg_len ca;have h3:=sg_len ra;have h4:=cn_len col;have h5:=dec_len (row+1).toNat (by omega)
 refine ⟨⟨(shX sh++sgS ca).toArray⟩,⟨((shX sh++sgS ca)++cnL col).toArray⟩,⟨(((shX sh++sgS ca)++cnL col)++sgS ra).toArray⟩,bytes_cat _ _,bytes_cat _ _,bytes_cat _ _,bytes_cat _ _,?_,?_,?_,?_,?_,?_,?_,?_,?_⟩
 all_goals
  rw [size_mk]
  try unfold prL
  try simp only [List.length_append]
  omega
theorem fmt_any(n:Int)(w:World)(hw:Lib.TabIs Tryz.prog w "internal/strconv.uint64pow10" .u64 Lib.pow10Tab)(n0:0≤n)(n1:n≤2199023255552) :
  Calls Tryz.prog 124 #[.int .i64 n,.int .i64 10] w fun e w'=>e=.returned (.string ⟨(Lib.decDigits n.toNat).toArray⟩)∧Q w w':=by
 refine (Tryz.strconv_FormatInt_10 n (by omega) (by omega) w hw).mono ?_
 rintro e w' ⟨rfl,k,os,rfl⟩
 refine ⟨ret_str ?_,Q.grow w k os⟩
 obtain ⟨m,rfl⟩:=Int.eq_ofNat_of_zero_le n0
 rfl
structure PB (w W:World) (sh:ByteArray) (row col:Int) (ra ca:Bool):Prop where
 q:Q w W
 c0:W.cell? ⟨w.heap.size,0,none⟩=some (.string sh)
 c1:W.cell? ⟨w.heap.size,1,none⟩=some (.int .i64 row)
 c2:W.cell? ⟨w.heap.size,2,none⟩=some (.int .i64 col)
 c3:W.cell? ⟨w.heap.size,3,none⟩=some (.bool ra)
 c4:W.cell? ⟨w.heap.size,4,none⟩=some (.bool ca)
theorem PB.start(w:World)(sh:ByteArray)(row col:Int)(ra ca:Bool):PB w (w.alloc (.cells #[.string sh,.int .i64 row,.int .i64 col,.bool ra,.bool ca] 95)) sh row col ra ca:=by
 refine ⟨(Q.refl _).alloc _,?_,?_,?_,?_,?_⟩ <;> (rw [World.cell?_alloc_new];rfl)
theorem PB.on{w W W':World}{sh:ByteArray}{row col:Int}{ra ca:Bool}(h:PB w W sh row col ra ca)(q:Q W W'):PB w W' sh row col ra ca:=by
 have hb:w.heap.size<W.heap.size:=World.block_lt_of_cell? W ⟨w.heap.size,0,none⟩ h.c0
 exact ⟨h.q.trans q,by rw [q.cell hb];exact h.c0,by rw [q.cell hb];exact h.c1,by rw [q.cell hb];exact h.c2,by rw [q.cell hb];exact h.c3,by rw [q.cell hb];exact h.c4⟩
end Go.Proofs.YtngnakdbhkjbjaaGreatDoor
namespace Go.Proofs.YtngnakdbhkjbjaaGreatDoor
open Go.RowKit
theorem print_plain(sh SH SA NM SB DC X1 X2 X3 X4:ByteArray)(row col:Int)(ra ca:Bool)(w:World)(hz:sh.size≤1000)
  (HM1:Hid (∀ W,Calls Tryz.prog 121 #[.int .i64 row] W fun e w'=>e=.returned (.bool true)∧w'=W))
  (HM2:Hid (∀ W,Calls Tryz.prog 121 #[.int .i64 col] W fun e w'=>e=.returned (.bool true)∧w'=W))
  (hE:(sh.toList == [])=true)
  (HS1:Hid (∀ W,Calls Tryz.prog 122 #[.bool ca] W fun e w'=>e=.returned (.string SA)∧w'=W))
  (HS2:Hid (∀ W,Calls Tryz.prog 122 #[.bool ra] W fun e w'=>e=.returned (.string SB)∧w'=W))
  (HN:Hid (∀ W,Calls Tryz.prog 123 #[.int .i64 col] W fun e w'=>e=.returned (.string NM)∧Q W w'))
  (HF:Hid (∀ W,Q w W→Calls Tryz.prog 124 #[.int .i64 (row+1),.int .i64 10] W fun e w'=>e=.returned (.string DC)∧Q W w'))
  (r0:0≤row) (r1:row<2199023255552) (hc:Cat ⟨#[]⟩ SA NM SB DC X1 X2 X3 X4) :
  Calls Tryz.prog 111 #[rv sh row col ra ca] w fun e w'=>e=.returned (.string X4)∧Q w w':=by
 obtain ⟨e1,e2,e3,e4,z0,z1,z2,z3,z4,y1,y2,y3,y4⟩:=hc;have k1:¬ 9223372036854775807<SA.size:=by omega
 have k2:¬ 9223372036854775807<X1.size+NM.size:=by omega
 have k3:¬ 9223372036854775807<X2.size+SB.size:=by omega
 have k4:¬ 9223372036854775807<X3.size+DC.size:=by omega
 have hwr:IntKind.i64.wrap (row+1)=row+1:=by rw [IntKind.wrap_i64];omega
 have J:=hid (PB.start w sh row col ra ca);go_enter Tryz.func111,Tryz.ntmps111
 go_upto_region 8 with (first|(go_at_call_of 121 row;refine (HM1.out _).mono ?_;rintro e w1 ⟨rfl,rfl⟩)|(go_at_call_of 121 col;refine (HM2.out _).mono ?_;rintro e w1 ⟨rfl,rfl⟩))
 have hk0:Hid ((w.alloc (.cells #[.string sh,.int .i64 row,.int .i64 col,.bool ra,.bool ca] 95)).drew.cell? ⟨w.heap.size,1,none⟩=some (.int .i64 row)∧(w.alloc (.cells #[.string sh,.int .i64 row,.int .i64 col,.bool ra,.bool ca] 95)).drew.cell? ⟨w.heap.size,2,none⟩=some (.int .i64 col)∧(w.alloc (.cells #[.string sh,.int .i64 row,.int .i64 col,.bool ra,.bool ca] 95)).drew.cell? ⟨w.heap.size,3,none⟩=some (.bool ra)∧(w.alloc (.cells #[.string sh,.int .i64 row,.int .i64 col,.bool ra,.bool ca] 95)).drew.cell? ⟨w.heap.size,4,none⟩=some (.bool ca)):=⟨J.out.c1,J.out.c2,J.out.c3,J.out.c4⟩
 go_region_held3 (fun W=>W.cell? ⟨w.heap.size,1,none⟩=some (.int .i64 row)∧W.cell? ⟨w.heap.size,2,none⟩=some (.int .i64 col)∧W.cell? ⟨w.heap.size,3,none⟩=some (.bool ra)∧W.cell? ⟨w.heap.size,4,none⟩=some (.bool ca)) (with_reducible (first|exact hk0.out|exact hk1.out|exact hk2.out))
  (first
   |(go_at_call_of 122 ca;refine (HS1.out _).mono ?_;rintro r w9 ⟨rfl,rfl⟩)
   |(go_at_call_of 122 ra;refine (HS2.out _).mono ?_;rintro r w9 ⟨rfl,rfl⟩)
   |(go_at_call 123;refine (HN.out _).mono ?_;rintro r w5 ⟨rfl,q5⟩;replace J:=hid (J.out.on (Q.trans (Q.drew (Q.refl _)) q5));have hk1:Hid (w5.cell? ⟨w.heap.size,1,none⟩=some (.int .i64 row)∧w5.cell? ⟨w.heap.size,2,none⟩=some (.int .i64 col)∧w5.cell? ⟨w.heap.size,3,none⟩=some (.bool ra)∧w5.cell? ⟨w.heap.size,4,none⟩=some (.bool ca)):=⟨J.out.c1,J.out.c2,J.out.c3,J.out.c4⟩)
   |(go_at_call 124;refine (HF.out _ J.out.q).mono ?_;rintro r w6 ⟨rfl,q6⟩;replace J:=hid (J.out.on q6);have hk2:Hid (w6.cell? ⟨w.heap.size,1,none⟩=some (.int .i64 row)∧w6.cell? ⟨w.heap.size,2,none⟩=some (.int .i64 col)∧w6.cell? ⟨w.heap.size,3,none⟩=some (.bool ra)∧w6.cell? ⟨w.heap.size,4,none⟩=some (.bool ca)):=⟨J.out.c1,J.out.c2,J.out.c3,J.out.c4⟩))
 go_wp2
 go_ret
 exact ⟨rfl,J.out.q⟩
theorem print_sheet(sh SH SA NM SB DC X1 X2 X3 X4:ByteArray)(row col:Int)(ra ca:Bool)(w:World)(hz:sh.size≤1000)
  (HM1:Hid (∀ W,Calls Tryz.prog 121 #[.int .i64 row] W fun e w'=>e=.returned (.bool true)∧w'=W))
  (HM2:Hid (∀ W,Calls Tryz.prog 121 #[.int .i64 col] W fun e w'=>e=.returned (.bool true)∧w'=W))
  (hE:(sh.toList == [])=false)
  (HI:Hid (∀ W,Q w W→Calls Tryz.prog 25 #[.string sh] W fun e w'=>e=.returned (.bool true)∧Q W w')) (eS:sh++⟨#[33]⟩=SH)
  (HS1:Hid (∀ W,Calls Tryz.prog 122 #[.bool ca] W fun e w'=>e=.returned (.string SA)∧w'=W))
  (HS2:Hid (∀ W,Calls Tryz.prog 122 #[.bool ra] W fun e w'=>e=.returned (.string SB)∧w'=W))
  (HN:Hid (∀ W,Calls Tryz.prog 123 #[.int .i64 col] W fun e w'=>e=.returned (.string NM)∧Q W w'))
  (HF:Hid (∀ W,Q w W→Calls Tryz.prog 124 #[.int .i64 (row+1),.int .i64 10] W fun e w'=>e=.returned (.string DC)∧Q W w'))
  (r0:0≤row) (r1:row<2199023255552) (hc:Cat SH SA NM SB DC X1 X2 X3 X4) :
  Calls Tryz.prog 111 #[rv sh row col ra ca] w fun e w'=>e=.returned (.string X4)∧Q w w':=by
 obtain ⟨e1,e2,e3,e4,z0,z1,z2,z3,z4,y1,y2,y3,y4⟩:=hc;have k1:¬ 9223372036854775807<SH.size+SA.size:=by omega
 have k2:¬ 9223372036854775807<X1.size+NM.size:=by omega
 have k3:¬ 9223372036854775807<X2.size+SB.size:=by omega
 have k4:¬ 9223372036854775807<X3.size+DC.size:=by omega
 have hwr:IntKind.i64.wrap (row+1)=row+1:=by rw [IntKind.wrap_i64];omega
 have J:=hid (PB.start w sh row col ra ca);go_enter Tryz.func111,Tryz.ntmps111
 go_upto_region 8 with (first|(go_at_call_of 121 row;refine (HM1.out _).mono ?_;rintro e w1 ⟨rfl,rfl⟩)|(go_at_call_of 121 col;refine (HM2.out _).mono ?_;rintro e w1 ⟨rfl,rfl⟩)|(go_at_call 25;refine (HI.out _ (by repeat (first|exact Q.refl _|refine Q.drewN ?_ _|refine Q.alloc ?_ _))).mono ?_;rintro e w3 ⟨rfl,q3⟩;replace J:=hid (J.out.on q3);have d0:=J.out.c0;have d1:=J.out.c1;have d2:=J.out.c2;have d3:=J.out.c3;have d4:=J.out.c4))
 have hk0:Hid (w3.drew.cell? ⟨w.heap.size,1,none⟩=some (.int .i64 row)∧w3.drew.cell? ⟨w.heap.size,2,none⟩=some (.int .i64 col)∧w3.drew.cell? ⟨w.heap.size,3,none⟩=some (.bool ra)∧w3.drew.cell? ⟨w.heap.size,4,none⟩=some (.bool ca)):=⟨J.out.c1,J.out.c2,J.out.c3,J.out.c4⟩
 go_region_held3 (fun W=>W.cell? ⟨w.heap.size,1,none⟩=some (.int .i64 row)∧W.cell? ⟨w.heap.size,2,none⟩=some (.int .i64 col)∧W.cell? ⟨w.heap.size,3,none⟩=some (.bool ra)∧W.cell? ⟨w.heap.size,4,none⟩=some (.bool ca)) (with_reducible (first|exact hk0.out|exact hk1.out|exact hk2.out))
  (first
   |(go_at_call_of 122 ca;refine (HS1.out _).mono ?_;rintro r w9 ⟨rfl,rfl⟩)
   |(go_at_call_of 122 ra;refine (HS2.out _).mono ?_;rintro r w9 ⟨rfl,rfl⟩)
   |(go_at_call 123;refine (HN.out _).mono ?_;rintro r w5 ⟨rfl,q5⟩;replace J:=hid (J.out.on (Q.trans (Q.drew (Q.refl _)) q5));have hk1:Hid (w5.cell? ⟨w.heap.size,1,none⟩=some (.int .i64 row)∧w5.cell? ⟨w.heap.size,2,none⟩=some (.int .i64 col)∧w5.cell? ⟨w.heap.size,3,none⟩=some (.bool ra)∧w5.cell? ⟨w.heap.size,4,none⟩=some (.bool ca)):=⟨J.out.c1,J.out.c2,J.out.c3,J.out.c4⟩)
   |(go_at_call 124;refine (HF.out _ J.out.q).mono ?_;rintro r w6 ⟨rfl,q6⟩;replace J:=hid (J.out.on q6);have hk2:Hid (w6.cell? ⟨w.heap.size,1,none⟩=some (.int .i64 row)∧w6.cell? ⟨w.heap.size,2,none⟩=some (.int .i64 col)∧w6.cell? ⟨w.heap.size,3,none⟩=some (.bool ra)∧w6.cell? ⟨w.heap.size,4,none⟩=some (.bool ca)):=⟨J.out.c1,J.out.c2,J.out.c3,J.out.c4⟩))
 go_wp2
 go_ret
 exact ⟨rfl,J.out.q⟩
theorem Rd.shape{W:World}{x:Ex}{v:Value}(h:Rd W x v):∃ k n t b e a1 l1 c1 a2 l2 c2,v=.agg #[.int .i64 k,.int .i64 n,.string t,.bool b,.int .i64 e,.slice a1 l1 c1,.slice a2 l2 c2]:=by
 obtain ⟨k,n,t,b,e,rs,ks,rv,kv,ao,cap,rfl,hp⟩:=h.prt;obtain ⟨ar,cr,hr,_⟩:=hp.rl;obtain rfl:=hp.kl;subst hr
 exact ⟨_,_,_,_,_,_,_,_,_,_,_,rfl⟩
theorem nodesL_take(ks:List Ex)(i:Nat)(h:i<ks.length):nodes.nodesL (ks.take (i+1))=nodes.nodesL (ks.take i)+nodes ks[i]:=by
 rw [List.take_succ_eq_append_getElem h,nodesL_snoc]
theorem nodesL_take_le(ks:List Ex)(i:Nat):nodes.nodesL (ks.take i)≤nodes.nodesL ks:=by
 induction ks generalizing i with
 |nil=>simp
 |cons x xs ih=>
  cases i with
  |zero=>simp [nodes.nodesL]
  |succ i=>rw [List.take_succ_cons,nodes.nodesL,nodes.nodesL];have:=ih i;omega
def shl:Nat→Ex→Bool
 |0,_=>false
 |m+1,.mk _ _ _ _ _ _ ks=>ks.all (shl m)
theorem pcount_any:∀ (s:Nat) (x:Ex) (v:Value) (W:World) (M:Int) (m:Nat),SizeOf.sizeOf x≤s→M=(m:Int)→1≤m→m≤201→Rd W x v→Calls Tryz.prog 91 #[v,.int .i64 M] W fun e W'=>e=.returned (.int .i64 (min (nodes x) m:Nat))∧Q W W':=by
 intro s
 induction s with
 |zero=>
  intro x v W M m hs
  cases x with
  |mk k n t b e rs ks=>simp at hs
 |succ s ih=>
  intro x v W M m hs hM h1 h201 hr
  obtain ⟨k,n,t,b,e,rs,ks,rv,kv,ao,cap,rfl,hp⟩:=hr.prt;obtain ⟨ar,cr,hrv,_⟩:=hp.rl;have HD:Hid (nodes x=1+nodes.nodesL ks):=hid (by rw [hp.ex,nodes])
  have IH:=hid (fun (i:Nat) (h:i<ks.length) v W M m=>ih ks[i] v W M m (by have:=kid_size (k:=k) (n:=n) (t:=t.data.toList) (b:=b) (e:=e) (rs:=rs) i h;rw [←hp.ex]at this;omega))
  generalize nodes x=d at HD ⊢;have HP:=hid hp;obtain rfl:=hp.kl;subst hrv;have hroom:ks.length≤9223372036854775807:=by have h1:=hp.le;have h2:=hp.mx;unfold maxLen at h2;omega
  clear hp hr ih hs;subst hM;go_enter Tryz.func91,Tryz.ntmps91
  go_wp2
  go_loopw [5,11,7] (fun y z _ W'=>∃ (i a:Nat),i≤ks.length∧y=.int .i64 (a:Int)∧z=.int .i64 (i:Int)∧a≤m∧Hid (Q W W')∧Hid (a=min (1+nodes.nodesL (ks.take i)) m)) (fun _ z _ _=>ks.length-(intOf z).toNat)
  case atStart=>exact ⟨0,1,Nat.zero_le _,rfl,rfl,h1,hid ((Q.refl _).alloc _),by show _=_;simp [nodes.nodesL];omega⟩
  case round=>
   obtain ⟨i,a,hi,rfl,rfl,ha,hQ,hA⟩:=hrel;by_cases hlt:i<ks.length
   ·have hne:ks≠[]:=by intro h;rw [h]at hlt;simp at hlt
    obtain ⟨b',off,rfl,hl⟩:=(HP.out.on hQ.out).kd hne;obtain ⟨e0,e1,e2,e3,e4,e5,e6,hK⟩:=hl.kid i hlt;obtain ⟨k',n',t',b1',e',a1',l1',c1',a2',l2',c2',hsh⟩:=hK.rd.shape;simp only [Value.agg.injEq,Array.mk.injEq,List.cons.injEq,and_true]at hsh
    obtain ⟨rfl,rfl,rfl,rfl,rfl,rfl,rfl⟩:=hsh;obtain ⟨h0,g1,h2,h3,h4,h5,h6,hrd⟩:=hK;by_cases ham:a=m
    ·have HA2:Hid ((min d m:Nat)=m):=by
      show _=_
      have:=hA.out
      have:=nodesL_take_le ks i
      have:=HD.out
      omega
     have eam:((a:Int) == (m:Int))=true:=by rw [ham];exact beq_self_eq_true _
     have HAM:=hid ham;clear hl hrd hA ham;go_wp2_with fail
     go_ret
     exact ⟨ret_int (by rw [HA2.out,HAM.out]),hQ.out.trans (by repeat (first|with_reducible exact Q.refl _|with_reducible refine Q.alloc ?_ _))⟩
    ·have eam:((a:Int) == (m:Int))=false:=by rw [beq_eq_false_iff_ne];omega
     have HRD:=hid hrd;have HI:=hid (fun W1 (q:Q wr W1)=>IH.out i hlt _ W1 ((m:Int)-(a:Int)) (m-a) (by omega) (by omega) (by omega) (Rd.on q _ _ HRD.out))
     have HA2:Hid (a+min (nodes ks[i]) (m-a)=min (1+nodes.nodesL (ks.take (i+1))) m):=by
      show _=_
      have:=hA.out
      rw [nodesL_take ks i hlt];omega
     have hdl:min (nodes ks[i]) (m-a)≤m-a:=Nat.min_le_right _ _
     generalize min (nodes ks[i]) (m-a)=dd at HI HA2 hdl;clear hl hrd hA ham;go_wp2_with (go_at_call 91;refine (HI.out _ (by repeat (first|with_reducible exact Q.refl _|with_reducible refine Q.alloc ?_ _))).mono ?_;rintro e9 w9 ⟨rfl,q9⟩;have Q9:Hid (Q wr w9):=hid (Q.trans (by repeat (first|with_reducible exact Q.refl _|with_reducible refine Q.alloc ?_ _)) q9);clear q9)
     go_roundw
     case rel=>exact ⟨i+1,a+dd,by omega,by go_num,by go_num,by omega,hid (hQ.out.trans Q9.out),HA2⟩
     case measure=>simp [intOf];omega
   ·have HA2:Hid ((min d m:Nat)=a):=by
     show _=_
     have:=hA.out
     rw [List.take_of_length_le (by omega)]at this
     rw [HD.out,this]
    clear hA;go_wp2_with fail
    go_ret
    exact ⟨ret_int (by rw [HA2.out]),hQ.out⟩
theorem shallow_any:∀ (m:Nat) (x:Ex) (v:Value) (W:World) (M:Int),M=(m:Int)→m≤100→Rd W x v→Calls Tryz.prog 78 #[v,.int .i64 M] W fun e W'=>e=.returned (.bool (shl m x))∧Q W W':=by
 intro m
 induction m with
 |zero=>
  intro x v W M hM hm hr
  obtain ⟨k,n,t,b,e,a1,l1,c1,a2,l2,c2,rfl⟩:=hr.shape;have HD:Hid (shl 0 x=false):=hid (by unfold shl;rfl)
  generalize shl 0 x=d at HD ⊢;have e0:(M == 0)=true:=by rw [hM];rfl
  clear hr hM;go_enter Tryz.func78,Tryz.ntmps78
  go_wp2_with fail
  go_ret
  exact ⟨ret_bool HD.out.symm,(Q.refl _).alloc _⟩
 |succ m ih=>
  intro x v W M hM hm hr
  obtain ⟨k,n,t,b,e,rs,ks,rv,kv,ao,cap,rfl,hp⟩:=hr.prt;obtain ⟨ar,cr,hrv,_⟩:=hp.rl;have HD:Hid (shl (m+1) x=ks.all (shl m)):=hid (by rw [hp.ex];rfl)
  generalize shl (m+1) x=d at HD ⊢;have IH:=hid (fun x v W h=>ih x v W (M-1) (by omega) (by omega) h)
  have e0:(M == 0)=false:=by rw [beq_eq_false_iff_ne];omega
  have hM0:0<M:=by omega
  have hM1:M≤200:=by omega
  have HP:=hid hp;obtain rfl:=hp.kl;subst hrv;have hroom:ks.length≤9223372036854775807:=by have h1:=hp.le;have h2:=hp.mx;unfold maxLen at h2;omega
  clear hp hr ih hM;go_enter Tryz.func78,Tryz.ntmps78
  go_wp2_with fail
  go_loopw [12,6] (fun z _ W'=>∃ (i:Nat),i≤ks.length∧z=.int .i64 (i:Int)∧Hid (Q W W')∧Hid ((ks.take i).all (shl m)=true)) (fun z _ _=>ks.length-(intOf z).toNat)
  case atStart=>exact ⟨0,Nat.zero_le _,rfl,hid ((Q.refl _).alloc _),rfl⟩
  case round=>
   obtain ⟨i,hi,rfl,hQ,hA⟩:=hrel;by_cases hlt:i<ks.length
   ·have hne:ks≠[]:=by intro h;rw [h]at hlt;simp at hlt
    obtain ⟨b',off,rfl,hl⟩:=(HP.out.on hQ.out).kd hne;obtain ⟨e0',e1,e2,e3,e4,e5,e6,hK⟩:=hl.kid i hlt;obtain ⟨k',n',t',b1',e',a1',l1',c1',a2',l2',c2',hsh⟩:=hK.rd.shape;simp only [Value.agg.injEq,Array.mk.injEq,List.cons.injEq,and_true]at hsh
    obtain ⟨rfl,rfl,rfl,rfl,rfl,rfl,rfl⟩:=hsh;obtain ⟨h0,g1,h2,h3,h4,h5,h6,hrd⟩:=hK;have HRD:=hid hrd;have HI:=hid (fun W1 (q:Q wr W1)=>IH.out ks[i] _ W1 (Rd.on q _ _ HRD.out))
    cases hb:shl m ks[i]
    ·rw [hb]at HI
     have HA2:Hid (d=false):=by
      show _=_
      rw [HD.out,Bool.eq_false_iff];intro e
      rw [List.all_eq_true]at e;have:=e ks[i] (List.getElem_mem hlt)
      rw [hb]at this;cases this
     clear hl hrd hA;go_wp2_with (go_at_call 78;refine (HI.out _ (by repeat (first|with_reducible exact Q.refl _|with_reducible refine Q.alloc ?_ _))).mono ?_;rintro e9 w9 ⟨rfl,q9⟩;have Q9:Hid (Q wr w9):=hid (Q.trans (by repeat (first|with_reducible exact Q.refl _|with_reducible refine Q.alloc ?_ _)) q9);clear q9)
     go_ret
     exact ⟨ret_bool HA2.out.symm,hQ.out.trans Q9.out⟩
    ·rw [hb]at HI
     have HA2:Hid ((ks.take (i+1)).all (shl m)=true):=by
      show _=_
      rw [List.take_succ_eq_append_getElem hlt,List.all_append,hA.out];simp [hb]
     clear hl hrd hA;go_wp2_with (go_at_call 78;refine (HI.out _ (by repeat (first|with_reducible exact Q.refl _|with_reducible refine Q.alloc ?_ _))).mono ?_;rintro e9 w9 ⟨rfl,q9⟩;have Q9:Hid (Q wr w9):=hid (Q.trans (by repeat (first|with_reducible exact Q.refl _|with_reducible refine Q.alloc ?_ _)) q9);clear q9)
     go_roundw
     case rel=>exact ⟨i+1,by omega,by go_num,hid (hQ.out.trans Q9.out),HA2⟩
     case measure=>simp [intOf];omega
   ·have HA2:Hid (d=true):=by
     show _=_
     have:=hA.out
     rw [List.take_of_length_le (by omega)]at this
     rw [HD.out,this]
    clear hA;go_wp2_with fail
    go_ret
    exact ⟨ret_bool HA2.out.symm,hQ.out⟩
def mall(nd:Ex→Bool):Ex→Bool
 |.mk k n t b e rs ks=>nd (.mk k n t b e rs ks)&&mallL nd ks
 where
 mallL (nd:Ex→Bool):List Ex→Bool
 |[]=>true
 |x::xs=>mall nd x&&mallL nd xs
theorem mallL_all(nd:Ex→Bool)(ks:List Ex):mall.mallL nd ks=ks.all (mall nd):=by
 induction ks with
 |nil=>simp [mall.mallL]
 |cons x xs ih=>rw [mall.mallL,ih,List.all_cons]
theorem mayall_any(nd:Ex→Bool)(G:World→Prop)(hG:∀ W W',G W→Q W W'→G W')(P:Ex→Prop)(hP:∀ k n t b e rs ks,P (.mk k n t b e rs ks)→∀ y∈ks,P y)(HN:Hid (∀ x v W,G W→P x→Rd W x v→Calls Tryz.prog 79 #[v] W fun e W'=>e=.returned (.bool (nd x))∧Q W W')) :
  ∀ (s:Nat) (x:Ex) (v:Value) (W:World),SizeOf.sizeOf x≤s→G W→P x→Rd W x v→Calls Tryz.prog 62 #[v] W fun e W'=>e=.returned (.bool (mall nd x))∧Q W W':=by
 intro s
 induction s with
 |zero=>
  intro x v W hs
  cases x with
  |mk k n t b e rs ks=>simp at hs
 |succ s ih=>
  intro x v W hs hg hpx hr
  have HNx:=hid (fun W1 (q:Q W W1)=>HN.out x v W1 (hG _ _ hg q) hpx (Rd.on q _ _ hr))
  obtain ⟨k,n,t,b,e,rs,ks,rv,kv,ao,cap,rfl,hp⟩:=hr.prt;obtain ⟨ar,cr,hrv,_⟩:=hp.rl;have HD:Hid (mall nd x=(nd x&&ks.all (mall nd))):=hid (by rw [hp.ex,mall,mallL_all])
  have HPK:Hid (∀ i (h:i<ks.length),P ks[i]):=hid (fun i h=>hP k n t.data.toList b e rs ks (hp.ex ▸ hpx) _ (List.getElem_mem h))
  have IH:=hid (fun (i:Nat) (h:i<ks.length) v W=>ih ks[i] v W (by have:=kid_size (k:=k) (n:=n) (t:=t.data.toList) (b:=b) (e:=e) (rs:=rs) i h;rw [←hp.ex]at this;omega))
  generalize mall nd x=d at HD ⊢;have HP:=hid hp;have HGW:=hid hg;obtain rfl:=hp.kl;subst hrv;have hroom:ks.length≤9223372036854775807:=by have h1:=hp.le;have h2:=hp.mx;unfold maxLen at h2;omega
  have HX:=hid (Bx.start W (.int .i64 k) (.int .i64 n) (.string t) (.bool b) (.int .i64 e) (.slice ar rs.length cr) (.slice ao ks.length cap) 28);clear hp hr ih hs hg hpx;cases hnd:nd x
  ·rw [hnd]at HNx
   have HR:Hid (d=false):=by show _=_;rw [HD.out,hnd];rfl
   go_enter Tryz.func62,Tryz.ntmps62
   go_wp2_with (go_at_call 79;refine (HNx.out _ ((Q.refl _).alloc _)).mono ?_;rintro e9 w1 ⟨rfl,q1⟩;have Q1:Hid (Q W w1):=hid (((Q.refl _).alloc _).trans q1);clear q1)
   go_ret
   exact ⟨ret_bool HR.out.symm,Q1.out⟩
  ·rw [hnd]at HNx
   have HR:Hid (d=ks.all (mall nd)):=by show _=_;rw [HD.out,hnd,Bool.true_and]
   go_enter Tryz.func62,Tryz.ntmps62
   go_wp2_with (go_at_call 79;refine (HNx.out _ ((Q.refl _).alloc _)).mono ?_;rintro e9 w1 ⟨rfl,q1⟩;have Q1:Hid (Q W w1):=hid (((Q.refl _).alloc _).trans q1);have X1:=hid (HX.out.on q1);clear q1;have c6:=X1.out.g6)
   go_loopw [11,4] (fun z _ W'=>∃ (i:Nat),i≤ks.length∧z=.int .i64 (i:Int)∧Hid (Q W W')∧Hid ((ks.take i).all (mall nd)=true)) (fun z _ _=>ks.length-(intOf z).toNat)
   case atStart=>exact ⟨0,Nat.zero_le _,rfl,Q1,rfl⟩
   case round=>
    obtain ⟨i,hi,rfl,hQ,hA⟩:=hrel;by_cases hlt:i<ks.length
    ·have hne:ks≠[]:=by intro h;rw [h]at hlt;simp at hlt
     obtain ⟨b',off,rfl,hl⟩:=(HP.out.on hQ.out).kd hne;obtain ⟨e0',e1,e2,e3,e4,e5,e6,hK⟩:=hl.kid i hlt;obtain ⟨k',n',t',b1',e',a1',l1',c1',a2',l2',c2',hsh⟩:=hK.rd.shape;simp only [Value.agg.injEq,Array.mk.injEq,List.cons.injEq,and_true]at hsh
     obtain ⟨rfl,rfl,rfl,rfl,rfl,rfl,rfl⟩:=hsh;obtain ⟨h0,g1,h2,h3,h4,h5,h6,hrd⟩:=hK;have HRD:=hid hrd;have HI:=hid (fun W1 (q:Q wr W1)=>IH.out i hlt _ W1 (hG _ _ HGW.out (hQ.out.trans q)) (HPK.out i hlt) (Rd.on q _ _ HRD.out))
     cases hb:mall nd ks[i]
     ·rw [hb]at HI
      have HA2:Hid (d=false):=by
       show _=_
       rw [HR.out,Bool.eq_false_iff];intro e
       rw [List.all_eq_true]at e;have:=e ks[i] (List.getElem_mem hlt)
       rw [hb]at this;cases this
      clear hl hrd hA;go_wp2_with (go_at_call 62;refine (HI.out _ (by repeat (first|with_reducible exact Q.refl _|with_reducible refine Q.alloc ?_ _))).mono ?_;rintro e9 w9 ⟨rfl,q9⟩;have Q9:Hid (Q wr w9):=hid (Q.trans (by repeat (first|with_reducible exact Q.refl _|with_reducible refine Q.alloc ?_ _)) q9);clear q9)
      go_ret
      exact ⟨ret_bool HA2.out.symm,hQ.out.trans Q9.out⟩
     ·rw [hb]at HI
      have HA2:Hid ((ks.take (i+1)).all (mall nd)=true):=by
       show _=_
       rw [List.take_succ_eq_append_getElem hlt,List.all_append,hA.out];simp [hb]
      clear hl hrd hA;go_wp2_with (go_at_call 62;refine (HI.out _ (by repeat (first|with_reducible exact Q.refl _|with_reducible refine Q.alloc ?_ _))).mono ?_;rintro e9 w9 ⟨rfl,q9⟩;have Q9:Hid (Q wr w9):=hid (Q.trans (by repeat (first|with_reducible exact Q.refl _|with_reducible refine Q.alloc ?_ _)) q9);clear q9)
      go_roundw
      case rel=>exact ⟨i+1,by omega,by go_num,hid (hQ.out.trans Q9.out),HA2⟩
      case measure=>simp [intOf];omega
    ·have HA2:Hid (d=true):=by
      show _=_
      have:=hA.out
      rw [List.take_of_length_le (by omega)]at this
      rw [HR.out,this]
     clear hA;go_wp2_with fail
     go_ret
     exact ⟨ret_bool HA2.out.symm,hQ.out⟩
end Go.Proofs.YtngnakdbhkjbjaaGreatDoor
