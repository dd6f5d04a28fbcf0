/- a1.Print: what it returns; Sma. -/
import Derived.Test.YtngnakdbhkjbjaaGreatDoorKm18
import Derived.Test.YtngnakdbhkjbjaaGreatDoorKm19
import Derived.Test.YtngnakdbhkjbjaaGreatDoorKm04
import Derived.Test.YtngnakdbhkjbjaaGreatDoorKm00
import Derived.Test.YtngnakdbhkjbjaaGreatDoorKm12
import Derived.Deep.RegionHeld3
set_option linter.unusedVariables false
set_option linter.unusedSimpArgs false
set_option maxRecDepth 100000
set_option maxHeartbeats 8000000
namespace Go.Proofs.YtngnakdbhkjbjaaGreatDoor
open Go.RowKit
theorem print_no(sh:ByteArray)(row col:Int)(ra ca f1 f2 fi:Bool)(w:World)
  (HM1:Hid (∀ W,Calls Tryz.prog 121 #[.int .i64 row] W fun e w'=>e=.returned (.bool f1)∧w'=W))
  (HM2:Hid (∀ W,Calls Tryz.prog 121 #[.int .i64 col] W fun e w'=>e=.returned (.bool f2)∧w'=W))
  (HI:Hid (∀ W,Q w W→Calls Tryz.prog 25 #[.string sh] W fun e w'=>e=.returned (.bool fi)∧Q W w'))
  (h:f1=false∨f2=false∨((sh.toList == [])=false∧fi=false)) :
  Calls Tryz.prog 111 #[rv sh row col ra ca] w fun e w'=>e=.returned (.string ⟨#[]⟩)∧Q w w':=by
 cases f1
 ·clear h
  go_enter Tryz.func111,Tryz.ntmps111
  go_wp2_with (first|(go_at_call_of 121 row;refine (HM1.out _).mono ?_;rintro e w1 ⟨rfl,rfl⟩)|(go_at_call_of 121 col;refine (HM2.out _).mono ?_;rintro e w1 ⟨rfl,rfl⟩))
  go_ret
  exact ⟨rfl,(Q.refl _).alloc _⟩
 cases f2
 ·clear h
  go_enter Tryz.func111,Tryz.ntmps111
  go_wp2_with (first|(go_at_call_of 121 row;refine (HM1.out _).mono ?_;rintro e w1 ⟨rfl,rfl⟩)|(go_at_call_of 121 col;refine (HM2.out _).mono ?_;rintro e w1 ⟨rfl,rfl⟩))
  go_ret
  exact ⟨rfl,(Q.refl _).alloc _⟩
 obtain ⟨hE,rfl⟩:(sh.toList == [])=false∧fi=false:=by
  rcases h with h|h|h
  ·cases h
  ·cases h
  ·exact h
 go_enter Tryz.func111,Tryz.ntmps111
 go_wp2_with (first|(go_at_call_of 121 row;refine (HM1.out _).mono ?_;rintro e w1 ⟨rfl,rfl⟩)|(go_at_call_of 121 col;refine (HM2.out _).mono ?_;rintro e w1 ⟨rfl,rfl⟩)|(go_at_call 25;refine (HI.out _ (by repeat (first|exact Q.refl _|refine Q.drewN ?_ _|refine Q.alloc ?_ _))).mono ?_;rintro e w3 ⟨rfl,q3⟩))
 go_ret
 exact ⟨rfl,((Q.refl _).alloc _).trans q3⟩
theorem print_any(sh:ByteArray)(row col:Int)(ra ca:Bool)(w:World)(hw:Std w)(ht:∀ W,Q w W→Lib.TabIs Tryz.prog W "internal/strconv.uint64pow10" .u64 Lib.pow10Tab)(hs:sh.size≤1000) :
  Calls Tryz.prog 111 #[rv sh row col ra ca] w fun e w'=>e=.returned (.string ⟨(prR sh.data.toList row col ra ca).toArray⟩)∧Q w w':=by
 have HM1:=fun W=>mayline_any row W
 have HM2:=fun W=>mayline_any col W
 have HI:=fun W (q:Q w W)=>id_any sh W (hw.on q) (by omega)
 have et:=Lib.toList_data sh;unfold prR mayR
 cases h1:decide (0≤row∧row<2199023255552)
 ·rw [h1]at HM1
  refine (print_no sh row col ra ca _ _ _ w HM1 HM2 HI (.inl rfl)).mono fun e w' g=>⟨?_,g.2⟩
  rw [g.1,Bool.false_and,Bool.and_false]
  rfl
 cases h2:decide (0≤col∧col<2199023255552)
 ·rw [h2]at HM2
  refine (print_no sh row col ra ca _ _ _ w HM1 HM2 HI (.inr (.inl rfl))).mono fun e w' g=>⟨?_,g.2⟩
  rw [g.1,Bool.and_false,Bool.and_false]
  rfl
 rw [h1]at HM1;rw [h2]at HM2;have b1:=of_decide_eq_true h1;have b2:=of_decide_eq_true h2;obtain ⟨X1,X2,X3,hc⟩:=cat_of sh.data.toList row col ra ca (by rw [len_data];exact hs) b1.1 b1.2
 have HF:=fun W (q:Q w W)=>fmt_any (row+1) W (ht W q) (by omega) (by omega)
 by_cases he:sh.toList=[]
 ·have he2:sh.data.toList=[]:=by rw [←et,he]
  rw [he2]at hc ⊢;refine (print_plain sh ⟨#[]⟩ _ _ _ _ X1 X2 X3 _ row col ra ca w hs HM1 HM2 (by rw [he];rfl) (fun W=>asign_any ca W) (fun W=>asign_any ra W) (fun W=>name_any col W) HF b1.1 b1.2 hc).mono fun e w' g=>⟨?_,g.2⟩
  rw [g.1]
  rfl
 ·have hei:sh.data.toList.isEmpty=false:=by
   rw [←et];cases hh:sh.toList
   ·exact absurd hh he
   ·rfl
  cases hi:idB sh.data.toList
  ·rw [hi]at HI
   refine (print_no sh row col ra ca _ _ _ w HM1 HM2 HI (.inr (.inr ⟨by simpa using he,rfl⟩))).mono fun e w' g=>⟨?_,g.2⟩
   rw [g.1,hei]
   rfl
  ·rw [hi]at HI
   have eS:sh++⟨#[33]⟩=⟨(shX sh.data.toList).toArray⟩:=by
    unfold shX
    rw [hei];have e:=bytes_cat sh.data.toList [33];exact e
   refine (print_sheet sh _ _ _ _ _ X1 X2 X3 _ row col ra ca w hs HM1 HM2 (by simpa using he) HI eS (fun W=>asign_any ca W) (fun W=>asign_any ra W) (fun W=>name_any col W) HF b1.1 b1.2 hc).mono fun e w' g=>⟨?_,g.2⟩
   rw [g.1,Bool.or_true]
   rfl
def vx(k n:Int)(t:ByteArray)(b:Bool)(e:Int):Value:=.agg #[.int .i64 k,.int .i64 n,.string t,.bool b,.int .i64 e]
structure Cb (W:World) (q:Nat) (cs:List Value):Prop where
 c:∀ j u,cs[j]?=some u→W.cell? ⟨q,j,none⟩=some u
 f:∀ j,W.frozen? ⟨q,j,none⟩=false
 l:q<W.heap.size
theorem Cb.on{W W':World}{q:Nat}{cs:List Value}(h:Cb W q cs)(x:Q W W'):Cb W' q cs:=
 ⟨fun j u hu=>(x.cell h.l).trans (h.c j u hu),fun j=>(Below.frozen x h.l).trans (h.f j),x.lt h.l⟩
theorem cb_new(W:World)(cs:List Value)(t:TypeId):Cb (W.alloc (.cells cs.toArray t)) W.heap.size cs:=
 ⟨fun j u hu=>by rw [World.cell?_alloc_at _ _ _ _ rfl];simpa using hu,fun j=>by simp [World.frozen?_alloc_new],by simp⟩
theorem short_any(s:ByteArray)(n:Int)(w:World)(n0:0≤n)(n1:n≤2000) :
  Calls Tryz.prog 17 #[.string s,.int .i64 n] w fun e w'=>e=.returned (.string (if n<(s.size:Int) then s.extract 0 n.toNat else s))∧w'=w:=by
 by_cases h:n<(s.size:Int)
 ·have HE:=hid (if_pos h:(if n<(s.size:Int) then s.extract 0 n.toNat else s)=_)
  go_enter Tryz.func17,Tryz.ntmps17
  go_wp2
  go_ret
  exact ⟨ret_str rfl,rfl⟩
 ·have HE:=hid (if_neg h:(if n<(s.size:Int) then s.extract 0 n.toNat else s)=_)
  go_enter Tryz.func17,Tryz.ntmps17
  go_wp2
  go_ret
  exact ⟨ret_str rfl,rfl⟩
theorem veq_same(k n:Int)(t:ByteArray)(b:Bool)(e:Int)(w:World):Calls Tryz.prog 43 #[vx k n t b e,vx k n t b e] w fun x w'=>x=.returned (.bool true)∧Q w w':=by
 unfold vx
 have e0:(k == k)=true:=by simp
 have e1:(n == n)=true:=by simp
 have e2:(t.toList == t.toList)=true:=by simp
 have e3:(b == b)=true:=by simp
 have e4:(e == e)=true:=by simp
 go_enter Tryz.func43,Tryz.ntmps43
 go_wp2_with fail
 go_ret
 exact ⟨rfl,((Q.refl _).alloc _).alloc _⟩
theorem veq_kind(k n:Int)(t:ByteArray)(b:Bool)(e:Int)(k' n':Int)(t':ByteArray)(b':Bool)(e':Int)(w:World)(h:k≠k'):Calls Tryz.prog 43 #[vx k n t b e,vx k' n' t' b' e'] w fun x w'=>x=.returned (.bool false)∧Q w w':=by
 unfold vx
 have e0:(k == k')=false:=by simpa using h
 clear h;go_enter Tryz.func43,Tryz.ntmps43
 go_wp2_with fail
 go_ret
 exact ⟨rfl,((Q.refl _).alloc _).alloc _⟩
end Go.Proofs.YtngnakdbhkjbjaaGreatDoor
