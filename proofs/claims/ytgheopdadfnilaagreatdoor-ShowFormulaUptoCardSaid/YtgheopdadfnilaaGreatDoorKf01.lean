/- a1.Owner, Id: what each return. -/
import Derived.Test.YtgheopdadfnilaaGreatDoorKf00
import Derived.Lib.Strings
import Derived.Laws.AppendOwn
import Derived.Laws.AppendOwnNone
import Derived.Laws.OwnMore
import Derived.OneCell
set_option linter.unusedVariables false
set_option linter.unusedSimpArgs false
set_option maxRecDepth 100000
set_option maxHeartbeats 8000000
namespace Go.Proofs.YtgheopdadfnilaaGreatDoor
open Go.RowKit
theorem owner_any(s:ByteArray)(w:World)(hw:Std w)(hs:s.size<4294967281) :
  Calls Tryz.prog 133 #[.string s] w fun e w'=>e=.returned (.int .i64 (ownK s.data.toList))∧Q w w':=by
 have hl:=Lib.trimPrefix_le s.data.toList [99];rw [len_data]at hl;have HO:Hid (ownK s.data.toList=if Lib.hasPrefix s.data.toList [99] then ownP (Lib.cut (Lib.trimPrefix s.data.toList [99]) [110]) else -1):=rfl
 have HP:Hid (∀ W,Calls Tryz.prog 40 #[.string s,.string ⟨#[99]⟩] W fun e w'=>e=.returned (.tuple #[.string ⟨(Lib.trimPrefix s.data.toList [99]).toArray⟩,.bool (Lib.hasPrefix s.data.toList [99])])∧w'=W):=fun W=>Tryz.strings_CutPrefix s ⟨#[99]⟩ W
 generalize Lib.trimPrefix s.data.toList [99]=t at *;generalize Lib.hasPrefix s.data.toList [99]=ng at *;have HC:Hid (∀ W,Q w W→Calls Tryz.prog 110 #[.string ⟨t.toArray⟩,.string ⟨#[110]⟩] W fun e w'=>e=.returned (.tuple #[.string ⟨(Lib.cut t [110]).1.toArray⟩,.string ⟨(Lib.cut t [110]).2.1.toArray⟩,.bool (Lib.cut t [110]).2.2])∧∃ n,w'=W.drewN n):=by
  intro W q
  obtain ⟨m,hm⟩:=(hw.on q).len;exact Tryz.strings_Cut ⟨t.toArray⟩ ⟨#[110]⟩ m W (by rw [size_mk];omega) hm
 have hcl:=cut_le 110 t;generalize Lib.cut t [110]=p at *;obtain ⟨a,b,f⟩:=p;simp only at HC hcl
 have HA:=hid (fun W=>number_any ⟨a.toArray⟩ 15 15 W rfl (by omega) (by omega) (by rw [size_mk];omega))
 have HB:=hid (fun W=>number_any ⟨b.toArray⟩ 999999 999999 W rfl (by omega) (by omega) (by rw [size_mk];omega))
 simp only at HA HB
 unfold numK at HA HB
 generalize (⟨a.toArray⟩:ByteArray)=A at *;generalize (⟨b.toArray⟩:ByteArray)=B at *;generalize (⟨t.toArray⟩:ByteArray)=T at *;unfold ownP at HO
 simp only at HO
 generalize numF a 15=fa at *;generalize numF b 999999=fb at *;generalize ((val a:Nat):Int)=va at *;generalize ((val b:Nat):Int)=vb at *;clear hs hcl hl hw
 rcases ng with _|_
 ·go_enter Tryz.func133,Tryz.ntmps133
  go_wp2_with (first|(go_at_call 40;refine (HP.out _).mono ?_;rintro e w1 ⟨rfl,rfl⟩)|(go_at_call 110;refine (HC.out _ (Q.refl _)).mono ?_;rintro e w2 ⟨rfl,nn,rfl⟩)|(go_at_call_of 156 A;refine (HA.out _).mono ?_;rintro e w3 ⟨rfl,rfl⟩)|(go_at_call_of 156 B;refine (HB.out _).mono ?_;rintro e w4 ⟨rfl,rfl⟩))
  go_ret
  exact ⟨ret_int (by rw [HO.out];rfl),Q.refl _⟩
 rcases f with _|_
 ·go_enter Tryz.func133,Tryz.ntmps133
  go_wp2_with (first|(go_at_call 40;refine (HP.out _).mono ?_;rintro e w1 ⟨rfl,rfl⟩)|(go_at_call 110;refine (HC.out _ (Q.refl _)).mono ?_;rintro e w2 ⟨rfl,nn,rfl⟩)|(go_at_call_of 156 A;refine (HA.out _).mono ?_;rintro e w3 ⟨rfl,rfl⟩)|(go_at_call_of 156 B;refine (HB.out _).mono ?_;rintro e w4 ⟨rfl,rfl⟩))
  go_ret
  exact ⟨ret_int (by rw [HO.out];rfl),(Q.refl _).drewN _⟩
 rcases fa with _|_ <;> rcases fb with _|_
 ·go_enter Tryz.func133,Tryz.ntmps133
  go_wp2_with (first|(go_at_call 40;refine (HP.out _).mono ?_;rintro e w1 ⟨rfl,rfl⟩)|(go_at_call 110;refine (HC.out _ (Q.refl _)).mono ?_;rintro e w2 ⟨rfl,nn,rfl⟩)|(go_at_call_of 156 A;refine (HA.out _).mono ?_;rintro e w3 ⟨rfl,rfl⟩)|(go_at_call_of 156 B;refine (HB.out _).mono ?_;rintro e w4 ⟨rfl,rfl⟩))
  go_ret
  exact ⟨ret_int (by rw [HO.out];rfl),(Q.refl _).drewN _⟩
 ·go_enter Tryz.func133,Tryz.ntmps133
  go_wp2_with (first|(go_at_call 40;refine (HP.out _).mono ?_;rintro e w1 ⟨rfl,rfl⟩)|(go_at_call 110;refine (HC.out _ (Q.refl _)).mono ?_;rintro e w2 ⟨rfl,nn,rfl⟩)|(go_at_call_of 156 A;refine (HA.out _).mono ?_;rintro e w3 ⟨rfl,rfl⟩)|(go_at_call_of 156 B;refine (HB.out _).mono ?_;rintro e w4 ⟨rfl,rfl⟩))
  go_ret
  exact ⟨ret_int (by rw [HO.out];rfl),(Q.refl _).drewN _⟩
 ·go_enter Tryz.func133,Tryz.ntmps133
  go_wp2_with (first|(go_at_call 40;refine (HP.out _).mono ?_;rintro e w1 ⟨rfl,rfl⟩)|(go_at_call 110;refine (HC.out _ (Q.refl _)).mono ?_;rintro e w2 ⟨rfl,nn,rfl⟩)|(go_at_call_of 156 A;refine (HA.out _).mono ?_;rintro e w3 ⟨rfl,rfl⟩)|(go_at_call_of 156 B;refine (HB.out _).mono ?_;rintro e w4 ⟨rfl,rfl⟩))
  go_ret
  exact ⟨ret_int (by rw [HO.out];rfl),(Q.refl _).drewN _⟩
 ·go_enter Tryz.func133,Tryz.ntmps133
  go_wp2_with (first|(go_at_call 40;refine (HP.out _).mono ?_;rintro e w1 ⟨rfl,rfl⟩)|(go_at_call 110;refine (HC.out _ (Q.refl _)).mono ?_;rintro e w2 ⟨rfl,nn,rfl⟩)|(go_at_call_of 156 A;refine (HA.out _).mono ?_;rintro e w3 ⟨rfl,rfl⟩)|(go_at_call_of 156 B;refine (HB.out _).mono ?_;rintro e w4 ⟨rfl,rfl⟩))
  go_ret
  exact ⟨ret_int (by rw [HO.out];rfl),(Q.refl _).drewN _⟩
def idB(l:List UInt8):Bool:=decide (0≤ownK l)
theorem id_any(s:ByteArray)(w:World)(hw:Std w)(hs:s.size<4294967281) :
  Calls Tryz.prog 97 #[.string s] w fun e w'=>e=.returned (.bool (idB s.data.toList))∧Q w w':=by
 have HO:=hid (owner_any s w hw hs);have HI:Hid (idB s.data.toList=decide (0≤ownK s.data.toList)):=rfl
 generalize ownK s.data.toList=K at *;clear hw hs;go_enter Tryz.func97,Tryz.ntmps97
 go_wp2_with (go_at_call 133;refine HO.out.mono ?_;rintro e w1 ⟨rfl,q1⟩)
 go_ret
 exact ⟨ret_bool HI.out.symm,q1⟩
theorem colF_long{l:List UInt8}(h:9<l.length):colF l=false:=by
 unfold colF
 rw [decide_eq_false (show ¬ l.length≤9 by omega)]
 simp
theorem colF_nolet{l:List UInt8}(h:allL l=false):colF l=false:=by
 unfold colF
 rw [h];simp
theorem colF_great{l:List UInt8}(h:2199023255552<colV l):colF l=false:=by
 unfold colF
 rw [decide_eq_false (show ¬ colV l≤2199023255552 by omega)]
 simp
theorem colF_yes{l:List UInt8}(h0:l≠[])(h1:l.length≤9)(h2:allL l=true)(h3:colV l≤2199023255552):colF l=true:=by
 unfold colF
 rw [h2,decide_eq_true h3,decide_eq_true h1];have e0:l.isEmpty=false:=by cases l;exact absurd rfl h0;rfl
 rw [e0]
 rfl
theorem allL_no(s:ByteArray)(k:Nat)(h:k<s.size)(hd:let1 s[k]=false):allL s.data.toList=false:=by
 unfold allL
 rw [List.all_eq_false];exact ⟨s[k],get_mem s k h,by simp [hd]⟩
theorem colK_of{l:List UInt8}(b:Bool)(h:colF l=b):Hid (colF l=b∧colK l=if b then (colV l:Int)-1 else 0):=by
 refine ⟨h,?_⟩
 unfold colK
 rw [h]
theorem rcol_any(s:ByteArray)(w:World)(hs:s.size≤9223372036854775807) :
  Calls Tryz.prog 136 #[.string s] w fun e w'=>e=.returned (.tuple #[.int .i64 (colK s.data.toList),.bool (colF s.data.toList)])∧w'=w:=by
 by_cases h0:s.size=0
 ·have hF:=colK_of (l:=s.data.toList) false (by rw [show s.data.toList=[] from List.eq_nil_of_length_eq_zero (by rw [len_data];exact h0)];rfl)
  have h1:(s.size:Int)<1:=by omega
  clear h0;go_enter Tryz.func136,Tryz.ntmps136
  go_wp2
  go_ret2
  exact ⟨by rw [hF.out.1,hF.out.2];rfl,rfl⟩
 ·have hp:0<s.size:=by omega
  by_cases hg:9<s.size
  ·have hF:=colK_of (l:=s.data.toList) false (colF_long (by rw [len_data];exact hg))
   have h1:¬ (s.size:Int)<1:=by omega
   clear h0;go_enter Tryz.func136,Tryz.ntmps136
   go_wp2
   go_ret2
   exact ⟨by rw [hF.out.1,hF.out.2];rfl,rfl⟩
  ·clear h0
   go_enter Tryz.func136,Tryz.ntmps136
   go_wp2
   go_loop [4,5] (fun a i=>∃ (k:Nat) (n:Int),k≤s.size∧i=.int .i64 k∧a=.int .i64 n∧0≤n∧n≤7625597484986∧Hid (allL (s.data.toList.take k)=true∧n=(colV (s.data.toList.take k):Int))) (fun _ i=>s.size-(intOf i).toNat)
   case atStart=>exact ⟨0,0,Nat.zero_le _,rfl,rfl,by omega,by omega,rfl,rfl⟩
   case round=>
    obtain ⟨k,n,hk,rfl,rfl,n0,n1,hn⟩:=hrel;by_cases hlt:k<s.size
    ·by_cases hd:let1 s[k]=true
     ·have b0:65≤(s[k].toNat:Int):=by unfold let1 at hd;simp at hd;omega
      have b1:(s[k].toNat:Int)≤90:=by unfold let1 at hd;simp at hd;omega
      have hv:Hid (allL (s.data.toList.take (k+1))=true∧(colV (s.data.toList.take (k+1)):Int)=n*26+((s[k].toNat:Int)-65)+1):=by
       have:=hn.out
       refine ⟨?_,?_⟩
       ·rw [take_snoc s k hlt,allL_app,this.1]
        unfold allL
        simp [hd]
       ·rw [take_snoc s k hlt,colV_snoc,this.2]
        omega
      have hb:=colV_nine _ hv.out.1 (by rw [List.length_take];omega)
      have hb':n*26+((s[k].toNat:Int)-65)+1≤7625597484986:=by have:=hv.out.2;omega
      clear hd hb;go_wp2
      go_round
      case rel=>exact ⟨k+1,n*26+((s[k].toNat:Int)-65)+1,by omega,by go_num,by go_num,by omega,by omega,hv.out.1,hv.out.2.symm⟩
      case measure=>simp [intOf];omega
     ·have hF:=colK_of false (colF_nolet (allL_no s k hlt (by simpa using hd)))
      by_cases b0:(s[k].toNat:Int)<65
      ·clear hd
       go_wp2
       go_ret2
       exact ⟨by rw [hF.out.1,hF.out.2];rfl,rfl⟩
      ·have b1:90<(s[k].toNat:Int):=by unfold let1 at hd;simp at hd;omega
       clear hd;go_wp2
       go_ret2
       exact ⟨by rw [hF.out.1,hF.out.2];rfl,rfl⟩
    ·have hN:Hid (allL s.data.toList=true∧n=(colV s.data.toList:Int)):=by have:=hn.out;rw [take_all s k (by omega)]at this;exact this
     by_cases hb:2199023255552<n
     ·have hF:=colK_of (l:=s.data.toList) false (colF_great (by have:=hN.out.2;omega))
      go_wp2
      go_ret2
      exact ⟨by rw [hF.out.1,hF.out.2];rfl,rfl⟩
     ·have hF:=colK_of (l:=s.data.toList) true (colF_yes (ne_of_pos hp) (by rw [len_data];omega) hN.out.1 (by have:=hN.out.2;omega))
      go_wp2
      go_ret2
      exact ⟨by rw [hF.out.1,hF.out.2,←hN.out.2];rfl,rfl⟩
theorem col_any(s:ByteArray)(w:World)(hs:s.size≤9223372036854775807) :
  Calls Tryz.prog 203 #[.string s] w fun e w'=>e=.returned (.tuple #[.int .i64 (colK s.data.toList),.bool (colF s.data.toList)])∧w'=w:=by
 have HL:=hid (fun W=>leading_any s W hs)
 have hle:=lead_le s.data.toList;rw [len_data]at hle;have hall:=hid (allL_iff_lead s.data.toList);rw [len_data]at hall;generalize lead s.data.toList=D at *;by_cases h0:s.size=0
 ·have hF:=colK_of (l:=s.data.toList) false (by rw [show s.data.toList=[] from List.eq_nil_of_length_eq_zero (by rw [len_data];exact h0)];rfl)
  have h1:((s.size:Int) == 0)=true:=by rw [beq_iff_eq];omega
  clear h0 hle;go_enter Tryz.func203,Tryz.ntmps203
  go_wp2
  go_ret2
  exact ⟨by rw [hF.out.1,hF.out.2];rfl,rfl⟩
 ·have hp:0<s.size:=by omega
  have h1:((s.size:Int) == 0)=false:=by rw [beq_eq_false_iff_ne];omega
  by_cases hg:9<s.size
  ·have hF:=colK_of (l:=s.data.toList) false (colF_long (by rw [len_data];exact hg))
   clear h0 hle;go_enter Tryz.func203,Tryz.ntmps203
   go_wp2
   go_ret2
   exact ⟨by rw [hF.out.1,hF.out.2];rfl,rfl⟩
  ·by_cases hD:(D:Int)<(s.size:Int)
   ·have hF:=colK_of (l:=s.data.toList) false (colF_nolet (by rw [hall.out];exact decide_eq_false (by omega)))
    clear h0 hle;go_enter Tryz.func203,Tryz.ntmps203
    go_wp2_with (go_at_call 202;refine (HL.out _).mono ?_;rintro e w1 ⟨rfl,rfl⟩)
    go_ret2
    exact ⟨by rw [hF.out.1,hF.out.2];rfl,rfl⟩
   ·have hA:Hid (allL s.data.toList=true):=by show _=_;rw [hall.out];exact decide_eq_true (by omega)
    clear h0 hle;go_enter Tryz.func203,Tryz.ntmps203
    go_wp2_with (go_at_call 202;refine (HL.out _).mono ?_;rintro e w1 ⟨rfl,rfl⟩)
    go_loop [4,23] (fun a i=>∃ (k:Nat) (n:Int),k≤s.size∧i=.int .i64 k∧a=.int .i64 n∧0≤n∧n≤7625597484986∧Hid (allL (s.data.toList.take k)=true∧n=(colV (s.data.toList.take k):Int))) (fun _ i=>s.size-(intOf i).toNat)
    case atStart=>exact ⟨0,0,Nat.zero_le _,rfl,rfl,by omega,by omega,rfl,rfl⟩
    case round=>
     obtain ⟨k,n,hk,rfl,rfl,n0,n1,hn⟩:=hrel;by_cases hlt:k<s.size
     ·have hd:let1 s[k]=true:=by
       have h:=allL_mem hA.out (get_mem s k hlt);exact let_yes (by omega) (by omega)
      have b0:65≤(s[k].toNat:Int):=by unfold let1 at hd;simp at hd;omega
      have b1:(s[k].toNat:Int)≤90:=by unfold let1 at hd;simp at hd;omega
      have hv:Hid (allL (s.data.toList.take (k+1))=true∧(colV (s.data.toList.take (k+1)):Int)=n*26+((s[k].toNat:Int)-65)+1):=by
       have:=hn.out
       refine ⟨?_,?_⟩
       ·rw [take_snoc s k hlt,allL_app,this.1]
        unfold allL
        simp [hd]
       ·rw [take_snoc s k hlt,colV_snoc,this.2]
        omega
      have hb:=colV_nine _ hv.out.1 (by rw [List.length_take];omega)
      have hb':n*26+((s[k].toNat:Int)-65)+1≤7625597484986:=by have:=hv.out.2;omega
      clear hd hb;go_wp2
      go_round
      case rel=>exact ⟨k+1,n*26+((s[k].toNat:Int)-65)+1,by omega,by go_num,by go_num,by omega,by omega,hv.out.1,hv.out.2.symm⟩
      case measure=>simp [intOf];omega
     ·have hN:Hid (allL s.data.toList=true∧n=(colV s.data.toList:Int)):=by have:=hn.out;rw [take_all s k (by omega)]at this;exact this
      by_cases hb:2199023255552<n
      ·have hF:=colK_of (l:=s.data.toList) false (colF_great (by have:=hN.out.2;omega))
       go_wp2
       go_ret2
       exact ⟨by rw [hF.out.1,hF.out.2];rfl,rfl⟩
      ·have hF:=colK_of (l:=s.data.toList) true (colF_yes (ne_of_pos hp) (by rw [len_data];omega) hN.out.1 (by have:=hN.out.2;omega))
       go_wp2
       go_ret2
       exact ⟨by rw [hF.out.1,hF.out.2,←hN.out.2];rfl,rfl⟩
theorem clone_any(s:ByteArray)(w:World)(hs:s.size≤281474976710656) :
  Calls Tryz.prog 89 #[.string s] w fun e w'=>e=.returned (.string s)∧Q w w':=by
 have HC:=hid (fun W=>Tryz.stringslite_Clone s W hs)
 clear hs;go_enter Tryz.func89,Tryz.ntmps89
 go_wp2_with (go_at_call 119;refine (HC.out _).mono ?_;rintro e w1 ⟨rfl,q1⟩)
 go_ret
 exact ⟨rfl,q1⟩
def refT (l : List UInt8) : List UInt8 × Int × Int × Bool × Bool :=
  if refF l then
    ((if (Lib.cut l [33]).2.2 then (Lib.cut l [33]).1 else []),
     (val (Lib.trimPrefix ((Lib.trimPrefix (shP (Lib.cut l [33]) l) [36]).dropWhile let1) [36]) : Int) - 1,
     (colV ((Lib.trimPrefix (shP (Lib.cut l [33]) l) [36]).takeWhile let1) : Int) - 1,
     Lib.hasPrefix ((Lib.trimPrefix (shP (Lib.cut l [33]) l) [36]).dropWhile let1) [36],
     Lib.hasPrefix (shP (Lib.cut l [33]) l) [36])
  else ([], 0, 0, false, false)
def refA(t:List UInt8 × Int × Int × Bool × Bool):Value:=.agg #[.string ⟨t.1.toArray⟩,.int .i64 t.2.1,.int .i64 t.2.2.1,.bool t.2.2.2.1,.bool t.2.2.2.2]
def tailF (c : List UInt8) : Bool :=
  colF ((Lib.trimPrefix c [36]).takeWhile let1) &&
   (numF (Lib.trimPrefix ((Lib.trimPrefix c [36]).dropWhile let1) [36]) 2199023255552 &&
    decide (val (Lib.trimPrefix ((Lib.trimPrefix c [36]).dropWhile let1) [36]) ≠ 0))
def tailT(sh c:List UInt8):List UInt8 × Int × Int × Bool × Bool:=
 (sh,(val (Lib.trimPrefix ((Lib.trimPrefix c [36]).dropWhile let1) [36]):Int)-1,
   (colV ((Lib.trimPrefix c [36]).takeWhile let1):Int)-1,
   Lib.hasPrefix ((Lib.trimPrefix c [36]).dropWhile let1) [36],
   Lib.hasPrefix c [36])
def noT:List UInt8 × Int × Int × Bool × Bool:=([],0,0,false,false)
theorem ref_free{l a b:List UInt8}(h:Lib.cut l [33]=(a,b,false)):refF l=tailF l∧refT l=if tailF l then tailT [] l else noT:=by
 have e:refF l=tailF l:=by unfold refF tailF;rw [h];rfl
 refine ⟨e,?_⟩
 unfold refT
 rw [e,h]
 rfl
theorem ref_other{l a b:List UInt8}(h:Lib.cut l [33]=(a,b,true)):refF l=(idB a&&tailF b)∧refT l=if idB a&&tailF b then tailT a b else noT:=by
 have e:refF l=(idB a&&tailF b):=by unfold refF tailF idB;rw [h];rfl
 refine ⟨e,?_⟩
 unfold refT
 rw [e,h]
 rfl
end Go.Proofs.YtgheopdadfnilaaGreatDoor
namespace Go.Proofs.YtgheopdadfnilaaGreatDoor.V
open Go.RowKit
theorem take_snoc(s:ByteArray)(k:Nat)(h:k<s.size):s.data.toList.take (k+1)=s.data.toList.take k++[s[k]]:=by
 rw [List.take_succ_eq_append_getElem (by simpa using h)];rfl
theorem take_all(s:ByteArray)(k:Nat)(h:s.size≤k):s.data.toList.take k=s.data.toList:=
 List.take_of_length_le (by simpa using h)
theorem get_mem(s:ByteArray)(k:Nat)(h:k<s.size):s[k]∈s.data.toList:=by
 have:s[k]=s.data.toList[k]'(by simpa using h):=rfl
 rw [this];exact List.getElem_mem _
theorem allD_no(s:ByteArray)(k:Nat)(h:k<s.size)(hd:dig s[k]=false):allD s.data.toList=false:=by
 unfold allD
 rw [List.all_eq_false];exact ⟨s[k],get_mem s k h,by simp [hd]⟩
theorem ret_bool{a b:Bool}(h:a=b):Ending.returned (.bool a)=.returned (.bool b):=by rw [h]
theorem allDigits_any(s:ByteArray)(w:World)(hs:s.size≤9223372036854775807) :
  Calls Tryz.prog 145 #[.string s] w fun e w'=>e=.returned (.bool (allD s.data.toList))∧w'=w:=by
 go_enter Tryz.func145,Tryz.ntmps145
 go_wp2
 go_loop [6] (fun i=>∃ k:Nat,k≤s.size∧i=.int .i64 k∧Hid (allD (s.data.toList.take k)=true)) (fun i=>s.size-(intOf i).toNat)
 case atStart=>exact ⟨0,Nat.zero_le _,rfl,rfl⟩
 case round=>
  obtain ⟨k,hk,rfl,ha⟩:=hrel;by_cases hlt:k<s.size
  ·by_cases hd:dig s[k]=true
   ·have ha':Hid (allD (s.data.toList.take (k+1))=true):=by
     show _=_
     rw [take_snoc s k hlt];have:=ha.out
     unfold allD at *
     rw [List.all_append,this];simp [hd]
    have b0:48≤(s[k].toNat:Int):=by unfold dig at hd;simp at hd;omega
    have b1:(s[k].toNat:Int)≤57:=by unfold dig at hd;simp at hd;omega
    clear hd;go_wp2
    go_round
    case rel=>exact ⟨k+1,by omega,by go_num,ha'⟩
    case measure=>simp [intOf];omega
   ·have hN:=hid (allD_no s k hlt (by simpa using hd))
    by_cases b0:(s[k].toNat:Int)<48
    ·clear hd
     go_wp2
     go_ret
     exact ⟨ret_bool hN.out.symm,rfl⟩
    ·have b1:57<(s[k].toNat:Int):=by unfold dig at hd;simp at hd;omega
     clear hd;go_wp2
     go_ret
     exact ⟨ret_bool hN.out.symm,rfl⟩
  ·have hN:Hid (allD s.data.toList=true):=by show _=_;have:=ha.out;rw [take_all s k (by omega)]at this;exact this
   go_wp2
   go_ret
   exact ⟨ret_bool hN.out.symm,rfl⟩
theorem val_snoc(l:List UInt8)(c:UInt8):val (l++[c])=val l*10+(c.toNat-48):=by unfold val;rw [List.foldl_append];rfl
theorem foldl_ge:∀ (m:List UInt8) (n:Nat),n≤m.foldl (fun n c=>n*10+(c.toNat-48)) n
 |[],n=>Nat.le_refl _
 |c::m,n=>by
  have:=foldl_ge m (n*10+(c.toNat-48))
  rw [List.foldl_cons];omega
theorem val_ge(l m:List UInt8):val l≤val (l++m):=by unfold val;rw [List.foldl_append];exact foldl_ge m _
def RdPost(V:Nat)(e:Ending):Prop:=∃ (n:Int) (ok:Bool),e=.returned (.tuple #[.int .u64 n,.bool ok])∧0≤n∧n<18446744073709551616 ∧
   (ok=true→n=(V:Int))∧(ok=false→9223372036854775810≤V)
theorem readDigits_any(s:ByteArray)(w:World)(hs:s.size≤9223372036854775807)(hd:allD s.data.toList=true) :
  Calls Tryz.prog 113 #[.string s] w fun e w'=>RdPost (val s.data.toList) e∧w'=w:=by
 have HD:=hid hd;clear hd;go_enter Tryz.func113,Tryz.ntmps113
 go_wp2
 go_loop [4,8] (fun a i=>∃ (k:Nat) (n:Int),k≤s.size∧i=.int .i64 k∧a=.int .u64 n∧0≤n∧n≤9223372036854775809∧Hid (n=(val (s.data.toList.take k):Int))) (fun _ i=>s.size-(intOf i).toNat)
 case atStart=>exact ⟨0,0,Nat.zero_le _,rfl,rfl,by omega,by omega,rfl⟩
 case round=>
  obtain ⟨k,n,hk,rfl,rfl,n0,n1,hn⟩:=hrel;by_cases hlt:k<s.size
  ·have hdk:dig s[k]=true:=by
    have:=HD.out
    unfold allD at this
    rw [List.all_eq_true]at this;exact this _ (get_mem s k hlt)
   have b0:48≤(s[k].toNat:Int):=by unfold dig at hdk;simp at hdk;omega
   have b1:(s[k].toNat:Int)≤57:=by unfold dig at hdk;simp at hdk;omega
   have hv:Hid ((val (s.data.toList.take (k+1)):Int)=n*10+((s[k].toNat:Int)-48)):=by
    show _=_
    rw [take_snoc s k hlt,val_snoc,hn.out];omega
   clear hdk;by_cases hb:922337203685477580<n
   ·have hN:Hid (9223372036854775810≤val s.data.toList):=by
     show _≤_
     have h1:=val_ge (s.data.toList.take (k+1)) (s.data.toList.drop (k+1));rw [List.take_append_drop]at h1;have h2:=hv.out;omega
    go_wp2
    go_ret2
    exact ⟨⟨0,false,rfl,by omega,by omega,by simp,fun _=>hN.out⟩,rfl⟩
   ·go_wp2
    go_round
    case rel=>exact ⟨k+1,n*10+((s[k].toNat:Int)-48),by omega,by go_num,rfl,by omega,by omega,hv.out.symm⟩
    case measure=>simp [intOf];omega
  ·have hN:Hid (n=(val s.data.toList:Int)):=by show _=_;have:=hn.out;rw [take_all s k (by omega)]at this;exact this
   go_wp2
   go_ret2
   exact ⟨⟨n,true,rfl,n0,by omega,fun _=>hN.out,by simp⟩,rfl⟩
theorem headD_get(s:ByteArray)(h:0<s.size):s.data.toList.headD 0=s[0]:=by
 have h':0<s.data.toList.length:=by simpa using h
 have e:s[0]=s.data.toList[0]'h':=rfl
 rw [e,List.headD_eq_head?_getD,List.head?_eq_getElem?,List.getElem?_eq_getElem h']
 rfl
theorem isWhole_any(s:ByteArray)(w:World)(hs:s.size≤9223372036854775807) :
  Calls Tryz.prog 111 #[.string s] w fun e w'=>e=.returned (.bool (wholeB s.data.toList))∧w'=w:=by
 have et:=hid (Lib.toList_data s);by_cases h1:s.toList=[48]
 ·have hW:Hid (wholeB s.data.toList=true):=by show _=_;rw [←et.out,h1];rfl
  go_enter Tryz.func111,Tryz.ntmps111
  go_wp2_with (go_at_call 145;refine (allDigits_any s _ hs).mono ?_;rintro e w' ⟨rfl,rfl⟩)
  go_ret
  exact ⟨ret_bool hW.out.symm,rfl⟩
 ·have n1:(s.toList == [48])=false:=by simpa using h1
  by_cases h2:s.toList=[]
  ·have hW:Hid (wholeB s.data.toList=false):=by show _=_;rw [←et.out,h2];rfl
   go_enter Tryz.func111,Tryz.ntmps111
   go_wp2_with (go_at_call 145;refine (allDigits_any s _ hs).mono ?_;rintro e w' ⟨rfl,rfl⟩)
   go_ret
   exact ⟨ret_bool hW.out.symm,rfl⟩
  ·have hp:0<s.size:=by
    rcases Nat.eq_zero_or_pos s.size with h|h
    ·exfalso;apply h2;rw [et.out];apply List.eq_nil_of_length_eq_zero;simpa using h
    ·exact h
   have hE:(s.toList.isEmpty)=false:=by simpa using h2
   have hh:=hid (headD_get s hp);by_cases h3:s[0]=48
   ·have hW:Hid (wholeB s.data.toList=false):=by
     show _=_
     unfold wholeB
     rw [hh.out,h3,←et.out,n1];simp
    have h4:((s[0].toNat:Int) != 48)=false:=by rw [h3];rfl
    clear h3;go_enter Tryz.func111,Tryz.ntmps111
    go_wp2_with (go_at_call 145;refine (allDigits_any s _ hs).mono ?_;rintro e w' ⟨rfl,rfl⟩)
    go_ret
    exact ⟨ret_bool hW.out.symm,rfl⟩
   ·have hW:Hid (allD s.data.toList=wholeB s.data.toList):=by
     show _=_
     unfold wholeB
     rw [hh.out,←et.out,n1,hE];simp [h3]
    have h4:((s[0].toNat:Int) != 48)=true:=by
     rw [bne_iff_ne];intro h
     apply h3
     apply UInt8.toNat_inj.1
     show s[0].toNat=48
     omega
    clear h3;go_enter Tryz.func111,Tryz.ntmps111
    go_wp2_with (go_at_call 145;refine (allDigits_any s _ hs).mono ?_;rintro e w' ⟨rfl,rfl⟩)
    go_ret
    exact ⟨ret_bool hW.out,rfl⟩
theorem isPart_any(s:ByteArray)(w:World)(hs:s.size≤9223372036854775807) :
  Calls Tryz.prog 112 #[.string s] w fun e w'=>e=.returned (.bool (partB s.data.toList))∧w'=w:=by
 have et:=hid (Lib.toList_data s);have el:=hid (Lib.size_eq s);by_cases h2:s.toList=[]
 ·have hW:Hid (partB s.data.toList=false):=by show _=_;rw [←et.out,h2];rfl
  go_enter Tryz.func112,Tryz.ntmps112
  go_wp2_with (go_at_call 145;refine (allDigits_any s _ hs).mono ?_;rintro e w' ⟨rfl,rfl⟩)
  go_ret
  exact ⟨ret_bool hW.out.symm,rfl⟩
 ·have hE:(s.toList.isEmpty)=false:=by simpa using h2
  by_cases h3:s.size≤4
  ·have hW:Hid (allD s.data.toList=partB s.data.toList):=by
    show _=_
    unfold partB
    rw [←el.out,←et.out,hE];simp [h3]
   go_enter Tryz.func112,Tryz.ntmps112
   go_wp2_with (go_at_call 145;refine (allDigits_any s _ hs).mono ?_;rintro e w' ⟨rfl,rfl⟩)
   go_ret
   exact ⟨ret_bool hW.out,rfl⟩
  ·have hW:Hid (partB s.data.toList=false):=by
    show _=_
    unfold partB
    rw [←el.out];simp [h3]
   go_enter Tryz.func112,Tryz.ntmps112
   go_wp2_with (go_at_call 145;refine (allDigits_any s _ hs).mono ?_;rintro e w' ⟨rfl,rfl⟩)
   go_ret
   exact ⟨ret_bool hW.out.symm,rfl⟩
theorem size_mk(l:List UInt8):(⟨l.toArray⟩:ByteArray).size=l.length:=by simp [ByteArray.size]
theorem cut_le(t:List UInt8):(Lib.cut t [46]).1.length+(Lib.cut t [46]).2.1.length≤t.length:=by
 unfold Lib.cut
 split
 ·simp only [List.length_take,List.length_drop,List.length_cons,List.length_nil]
  omega
 ·simp
theorem cut_none(t:List UInt8)(h:(Lib.cut t [46]).2.2=false):(Lib.cut t [46]).2.1=[]:=by
 unfold Lib.cut at *
 split
 ·rename_i g;rw [if_pos g]at h;cases h
 ·rfl
theorem trimPrefix_len(l p:List UInt8):(Lib.trimPrefix l p).length≤l.length:=by
 unfold Lib.trimPrefix
 split
 ·rw [List.length_drop];omega
 ·exact Nat.le_refl _
theorem sgn_huge{n:Nat}{neg:Bool}(h:9223372036854775810≤n):fitB (sgn n neg)=false:=by
 apply fitB_no
 cases neg
 ·show (n:Int)<_∨_<(n:Int)
  omega
 ·show -(n:Int)<_∨_ < -(n:Int)
  omega
theorem allD_of_whole{l:List UInt8}(h:wholeB l=true):allD l=true:=by
 unfold wholeB at h
 rw [Bool.or_eq_true]at h
 rcases h with h|h
 ·rw [eq_of_beq h];rfl
 ·rw [Bool.and_eq_true]at h;exact h.2
theorem zeros_ex(k:Nat):ByteArray.extract ⟨#[48,48,48,48]⟩ k 4=⟨([48,48,48,48].drop k:List UInt8).toArray⟩:=by
 apply ByteArray.ext
 apply Array.ext'
 rw [Lib.extract_data];show List.take (4-k) (List.drop k [48,48,48,48])=_
 rw [List.take_of_length_le (by simp)]
theorem parse_no1(s:ByteArray)(w:World)(t wl pl:List UInt8)(ng pt:Bool)(hl:wl.length≤4294967281)
  (hP:Hid (Calls Tryz.prog 40 #[.string s,.string ⟨#[45]⟩] w fun e w'=>e=.returned (.tuple #[.string ⟨t.toArray⟩,.bool ng])∧w'=w))
  (hC:Hid (Calls Tryz.prog 110 #[.string ⟨t.toArray⟩,.string ⟨#[46]⟩] w fun e w'=>e=.returned (.tuple #[.string ⟨wl.toArray⟩,.string ⟨pl.toArray⟩,.bool pt])∧∃ n,w'=w.drewN n))
  (hw:wholeB wl=false) :
  Calls Tryz.prog 78 #[.string s] w fun e w'=>e=.returned (.tuple #[.int .i64 0,.bool false])∧Q w w':=by
 have sw:(⟨wl.toArray⟩:ByteArray).size≤9223372036854775807:=by rw [size_mk];omega
 have HW:=hid (fun w=>isWhole_any ⟨wl.toArray⟩ w sw)
 simp only [hw]at HW
 clear sw hw;go_enter Tryz.func78,Tryz.ntmps78
 go_wp2_with (first|(go_at_call 40;refine hP.out.mono ?_;rintro e w1 ⟨rfl,rfl⟩)|(go_at_call 110;refine hC.out.mono ?_;rintro e w2 ⟨rfl,n,rfl⟩)|(go_at_call 111;refine (HW.out _).mono ?_;rintro e w3 ⟨rfl,rfl⟩))
 go_ret2
 exact ⟨rfl,(Q.refl _).drewN _⟩
theorem parse_no2(s:ByteArray)(w:World)(t wl pl:List UInt8)(ng:Bool)(hl:wl.length+pl.length≤4294967281)
  (hP:Hid (Calls Tryz.prog 40 #[.string s,.string ⟨#[45]⟩] w fun e w'=>e=.returned (.tuple #[.string ⟨t.toArray⟩,.bool ng])∧w'=w))
  (hC:Hid (Calls Tryz.prog 110 #[.string ⟨t.toArray⟩,.string ⟨#[46]⟩] w fun e w'=>e=.returned (.tuple #[.string ⟨wl.toArray⟩,.string ⟨pl.toArray⟩,.bool true])∧∃ n,w'=w.drewN n))
  (hw:wholeB wl=true) (hp:partB pl=false) :
  Calls Tryz.prog 78 #[.string s] w fun e w'=>e=.returned (.tuple #[.int .i64 0,.bool false])∧Q w w':=by
 have sw:(⟨wl.toArray⟩:ByteArray).size≤9223372036854775807:=by rw [size_mk];omega
 have sp:(⟨pl.toArray⟩:ByteArray).size≤9223372036854775807:=by rw [size_mk];omega
 have HW:=hid (fun w=>isWhole_any ⟨wl.toArray⟩ w sw)
 have HP:=hid (fun w=>isPart_any ⟨pl.toArray⟩ w sp)
 simp only [hw]at HW
 simp only [hp]at HP
 clear sw hw hp sp;go_enter Tryz.func78,Tryz.ntmps78
 go_wp2_with (first|(go_at_call 40;refine hP.out.mono ?_;rintro e w1 ⟨rfl,rfl⟩)|(go_at_call 110;refine hC.out.mono ?_;rintro e w2 ⟨rfl,n,rfl⟩)|(go_at_call 111;refine (HW.out _).mono ?_;rintro e w3 ⟨rfl,rfl⟩)|(go_at_call 112;refine (HP.out _).mono ?_;rintro e w3 ⟨rfl,rfl⟩))
 go_ret2
 exact ⟨rfl,(Q.refl _).drewN _⟩
theorem parse_yes(s:ByteArray)(w:World)(t wl pl:List UInt8)(ng pt:Bool)(hl:wl.length+pl.length≤4294967281)
  (hP:Hid (Calls Tryz.prog 40 #[.string s,.string ⟨#[45]⟩] w fun e w'=>e=.returned (.tuple #[.string ⟨t.toArray⟩,.bool ng])∧w'=w))
  (hC:Hid (Calls Tryz.prog 110 #[.string ⟨t.toArray⟩,.string ⟨#[46]⟩] w fun e w'=>e=.returned (.tuple #[.string ⟨wl.toArray⟩,.string ⟨pl.toArray⟩,.bool pt])∧∃ n,w'=w.drewN n))
  (hw:wholeB wl=true) (hp:pt=true→partB pl=true) (hd:allD pl=true) (h4:pl.length≤4) :
  Calls Tryz.prog 78 #[.string s] w fun e w'=>e=.returned (.tuple #[.int .i64 (keep (sgn (val (wl++pl++[48,48,48,48].drop pl.length)) ng)),.bool (fitB (sgn (val (wl++pl++[48,48,48,48].drop pl.length)) ng))])∧Q w w':=by
 have sw:(⟨wl.toArray⟩:ByteArray).size≤9223372036854775807:=by rw [size_mk];omega
 have sp:(⟨pl.toArray⟩:ByteArray).size≤9223372036854775807:=by rw [size_mk];omega
 have HW:=hid (fun w=>isWhole_any ⟨wl.toArray⟩ w sw)
 have HP:=hid (fun w=>isPart_any ⟨pl.toArray⟩ w sp)
 have hdw:=allD_of_whole hw;simp only [hw]at HW
 have eX:=zeros_ex pl.length;have zl4:([48,48,48,48].drop pl.length:List UInt8).length≤4:=by rw [List.length_drop];simp
 have hdz:allD ([48,48,48,48].drop pl.length)=true:=by
  unfold allD
  rw [List.all_eq_true];intro x hx
  have:=List.mem_of_mem_drop hx
  simp at this
  subst this
  rfl
 have hd3:allD (wl++pl++[48,48,48,48].drop pl.length)=true:=by
  unfold allD at *
  rw [List.all_append,List.all_append,hdw,hd,hdz]
  rfl
 clear hdz hdw;generalize ([48,48,48,48].drop pl.length:List UInt8)=zl at *;have eC:((⟨wl.toArray⟩:ByteArray)++⟨pl.toArray⟩++⟨zl.toArray⟩).data.toList=wl++pl++zl:=by rw [bytes_cat,bytes_cat]
 have sC:((⟨wl.toArray⟩:ByteArray)++⟨pl.toArray⟩++⟨zl.toArray⟩).size≤9223372036854775807:=by rw [bytes_cat,bytes_cat,size_mk,List.length_append,List.length_append];omega
 have HR:=hid (fun w=>readDigits_any ((⟨wl.toArray⟩:ByteArray)++⟨pl.toArray⟩++⟨zl.toArray⟩) w sC (by rw [eC];exact hd3))
 rw [eC]at HR;clear sw hw hd sp eC sC hd3;generalize val (wl++pl++zl)=V at *;cases pt
 ·clear hp HP
  go_enter Tryz.func78,Tryz.ntmps78
  go_wp2_with (first|(go_at_call 40;refine hP.out.mono ?_;rintro e w1 ⟨rfl,rfl⟩)|(go_at_call 110;refine hC.out.mono ?_;rintro e w2 ⟨rfl,n,rfl⟩)|(go_at_call 111;refine (HW.out _).mono ?_;rintro e w3 ⟨rfl,rfl⟩)|(go_at_call 113;refine (HR.out _).mono ?_;rintro e w3 ⟨⟨k,ok,rfl,k0,k1,k2,k3⟩,rfl⟩;have K2:=hid k2;have K3:=hid k3;clear k2 k3)|(go_at_call 114;refine (signed_any k ng _ k0 k1).mono ?_;rintro e w3 ⟨rfl,rfl⟩))
  ·have hf:=sgn_huge (neg:=ng) (K3.out (by simpa using ‹(!ok)=true›))
   go_ret2
   exact ⟨ret_two (keep_no hf).symm hf.symm,(Q.refl _).drewN _⟩
  ·have hk:=K2.out (by simpa using ‹(!ok)=false›)
   go_ret2
   exact ⟨ret_two (congrArg (fun x=>keep (sgn x ng)) hk) (congrArg (fun x=>fitB (sgn x ng)) hk),(Q.refl _).drewN _⟩
 ·have hp':=hp rfl
  simp only [hp']at HP
  clear hp hp';go_enter Tryz.func78,Tryz.ntmps78
  go_wp2_with (first|(go_at_call 40;refine hP.out.mono ?_;rintro e w1 ⟨rfl,rfl⟩)|(go_at_call 110;refine hC.out.mono ?_;rintro e w2 ⟨rfl,n,rfl⟩)|(go_at_call 111;refine (HW.out _).mono ?_;rintro e w3 ⟨rfl,rfl⟩)|(go_at_call 112;refine (HP.out _).mono ?_;rintro e w3 ⟨rfl,rfl⟩)|(go_at_call 113;refine (HR.out _).mono ?_;rintro e w3 ⟨⟨k,ok,rfl,k0,k1,k2,k3⟩,rfl⟩;have K2:=hid k2;have K3:=hid k3;clear k2 k3)|(go_at_call 114;refine (signed_any k ng _ k0 k1).mono ?_;rintro e w3 ⟨rfl,rfl⟩))
  ·have hf:=sgn_huge (neg:=ng) (K3.out (by simpa using ‹(!ok)=true›))
   go_ret2
   exact ⟨ret_two (keep_no hf).symm hf.symm,(Q.refl _).drewN _⟩
  ·have hk:=K2.out (by simpa using ‹(!ok)=false›)
   go_ret2
   exact ⟨ret_two (congrArg (fun x=>keep (sgn x ng)) hk) (congrArg (fun x=>fitB (sgn x ng)) hk),(Q.refl _).drewN _⟩
theorem parse_any(s:ByteArray)(w:World)(hw:Std w)(hs:s.size<4294967281) :
  Calls Tryz.prog 78 #[.string s] w fun e w'=>e=.returned (.tuple #[.int .i64 (pk (parseO s.data.toList)),.bool (pf (parseO s.data.toList))])∧Q w w':=by
 obtain ⟨m,hm⟩:=hw.len;have hP:=hid (Tryz.strings_CutPrefix s ⟨#[45]⟩ w);have ht:=trimPrefix_len s.data.toList [45];have hl:=Lib.size_eq s;have hC:=hid (Tryz.strings_Cut ⟨(Lib.trimPrefix s.data.toList [45]).toArray⟩ ⟨#[46]⟩ m w (by rw [size_mk];omega) hm)
 have hc:=cut_le (Lib.trimPrefix s.data.toList [45]);have hn:=cut_none (Lib.trimPrefix s.data.toList [45]);unfold parseO
 generalize Lib.hasPrefix s.data.toList [45]=ng at *;generalize Lib.trimPrefix s.data.toList [45]=t at *;generalize (Lib.cut t [46]).1=wl at *;generalize (Lib.cut t [46]).2.1=pl at *;generalize (Lib.cut t [46]).2.2=pt at *;by_cases hw:wholeB wl=true
 ·by_cases hp:pt=true→partB pl=true
  ·have hcond:(wholeB wl&&(!pt || partB pl))=true:=by
    rw [hw];cases pt
    ·rfl
    ·simpa using hp rfl
   rw [if_pos hcond];have h2:allD pl=true∧pl.length≤4:=by
    cases pt
    ·rw [hn rfl];exact ⟨rfl,by simp⟩
    ·have:=hp rfl
     unfold partB at this
     simp only [Bool.and_eq_true,decide_eq_true_eq]at this
     exact ⟨this.2,this.1.2⟩
   exact parse_yes s w t wl pl ng pt (by omega) hP hC hw hp h2.1 h2.2
  ·have hpt:pt=true:=by
    cases pt
    ·exact absurd (fun h=>by cases h) hp
    ·rfl
   subst hpt;have hpf:partB pl=false:=by
    cases h:partB pl
    ·rfl
    ·exact absurd (fun _=>h) hp
   rw [if_neg (by simp [hpf])]
   exact parse_no2 s w t wl pl ng (by omega) hP hC hw hpf
 ·have hw':wholeB wl=false:=by simpa using hw
  rw [if_neg (by simp [hw'])]
  exact parse_no1 s w t wl pl ng pt (by omega) hP hC hw'
end Go.Proofs.YtgheopdadfnilaaGreatDoor.V
namespace Go.Proofs.YtgheopdadfnilaaGreatDoor
abbrev Rf:=List UInt8 × Int × Int × Bool × Bool
structure Ex where
 mk ::
 (k n:Int) (t:List UInt8) (b:Bool) (e:Int) (rs:List Rf) (ks:List Ex)
def zeroE:Ex:=.mk 0 0 [] false 0 [] []
structure Wd where
 k:Nat
 t:List UInt8
 p:Nat
def lvl(t:List UInt8):Nat:=
 if t=[61] then 1 else if t=[60,62] then 1 else if t=[60] then 1 else if t=[60,61] then 1 else if t=[62] then 1 else if t=[62,61] then 1 else if t=[38] then 2 else if t=[43] then 3 else if t=[45] then 3 else if t=[42] then 4 else if t=[47] then 4 else 0
theorem lvl_le(t:List UInt8):lvl t≤4:=by
 unfold lvl
 repeat' split
 all_goals omega
def isW(L:List Wd)(i:Nat)(s:List UInt8):Bool:=match L[i]? with
 |some x=>decide (x.k=6∧x.t=s)
 |none=>false
theorem isW_at{L:List Wd}{i:Nat}{s:List UInt8}(h:i<L.length):isW L i s=decide (L[i].k=6∧L[i].t=s):=by
 unfold isW
 rw [List.getElem?_eq_getElem h]
structure Env where
 num:List UInt8→Int
 nok:List UInt8→Bool
 ref:List UInt8→Rf
 rok:List UInt8→Bool
 err:List UInt8→Nat
 nam:List UInt8→Bool
structure St where
 i:Nat
 bd:Bool
 n:Nat
def kAt(L:List Wd)(i:Nat):Nat:=(L.getD i ⟨7,[],0⟩).k
def tAt(L:List Wd)(i:Nat):List UInt8:=(L.getD i ⟨7,[],0⟩).t
theorem kAt_get{L:List Wd}{i:Nat}(h:i<L.length):kAt L i=L[i].k∧tAt L i=L[i].t:=by
 unfold kAt tAt
 rw [List.getD_eq_getElem?_getD,List.getElem?_eq_getElem h];exact ⟨rfl,rfl⟩
theorem isW_six{L:List Wd}{i:Nat}{s:List UInt8}(h:isW L i s=true):i<L.length∧kAt L i=6∧tAt L i=s:=by
 unfold isW at h
 cases hg:L[i]? with
 |none=>rw [hg]at h;cases h
 |some x=>
  rw [hg]at h;have hi:=(List.getElem?_eq_some_iff.1 hg).1;simp only [decide_eq_true_eq]at h
  unfold kAt tAt
  rw [List.getD_eq_getElem?_getD,hg];exact ⟨hi,h.1,h.2⟩
def numE(n:Int):Ex:=.mk 1 n [] false 0 [] []
def textE(t:List UInt8):Ex:=.mk 2 0 t false 0 [] []
def boolE(b:Bool):Ex:=.mk 3 0 [] b 0 [] []
def errE(e:Nat):Ex:=.mk 4 0 [] false (e:Int) [] []
def refE(r:Rf):Ex:=.mk 5 0 [] false 0 [r] []
def rangeE(r q:Rf):Ex:=.mk 6 0 [] false 0 [r,q] []
def negE(x:Ex):Ex:=.mk 7 0 [] false 0 [] [x]
def binE(t:List UInt8)(x y:Ex):Ex:=.mk 8 0 t false 0 [] [x,y]
def callE(t:List UInt8)(ks:List Ex):Ex:=.mk 9 0 t false 0 [] ks
def St.on(s:St):St:=⟨s.i+1,s.bd,s.n⟩
def St.bad(s:St):St:=⟨s.i,true,s.n⟩
def St.node(s:St):St:=⟨s.i,s.bd,s.n+1⟩
def truW:List UInt8:=[84,82,85,69]
def flsW:List UInt8:=[70,65,76,83,69]
def stg(L:List Wd)(i:Nat):Nat:=if kAt L i=6 then lvl (tAt L i) else 0
def closeS(L:List Wd)(s:St):St:=if s.bd then s else if isW L s.i [41] then s.on else s.bad
def oneF (E : Env) (L : List Wd) (s : St) : Ex × St :=
  if kAt L s.i = 1 then (numE (E.num (tAt L s.i)), s.on.node)
  else if kAt L s.i = 2 then (textE (tAt L s.i), s.on.node)
  else if kAt L s.i = 5 then (if E.err (tAt L s.i) = 0 then (zeroE, s.bad) else (errE (E.err (tAt L s.i)), s.on.node))
  else if kAt L s.i = 3 then
    (if isW L (s.i + 1) [58] then
      (if kAt L (s.i + 2) = 3 ∧ E.rok (tAt L (s.i + 2)) = true ∧ (E.ref (tAt L (s.i + 2))).1 = [] then (rangeE (E.ref (tAt L s.i)) (E.ref (tAt L (s.i + 2))), s.on.on.on.node) else (zeroE, s.on.on.bad))
     else (refE (E.ref (tAt L s.i)), s.on.node))
  else (zeroE, s.bad)
def argS(ks:List Ex)(s:St):St:=⟨s.i,s.bd || decide (30<ks.length+1),s.n⟩
def treeF (E : Env) (L : List Wd) : Nat → Nat → St → Option (Ex × St)
  | 0, _, _ => none
  | f + 1, lv, s =>
    if s.bd then some (zeroE, s) else if lv = 5 then aheadF E L f s
    else (treeF E L f (lv + 1) s).bind fun r => loopF E L f lv r.1 r.2
  where
  loopF (E : Env) (L : List Wd) : Nat → Nat → Ex → St → Option (Ex × St)
  | 0, _, _, _ => none
  | f + 1, lv, x, s =>
    if s.bd = false ∧ stg L s.i = lv then
      (treeF E L f (lv + 1) s.on).bind fun r => loopF E L f lv (binE (tAt L s.i) x r.1) r.2.node
    else some (x, s)
  aheadF (E : Env) (L : List Wd) : Nat → St → Option (Ex × St)
  | 0, _ => none
  | f + 1, s => if isW L s.i [45] then (treeF E L f 5 s.on).bind fun r => some (negE r.1, r.2.node) else firstF E L f s
  firstF (E : Env) (L : List Wd) : Nat → St → Option (Ex × St)
  | 0, _ => none
  | f + 1, s =>
    if isW L s.i [40] then (treeF E L f 1 s.on).bind fun r => some (r.1, closeS L r.2)
    else if kAt L s.i = 4 then
      (if tAt L s.i = truW ∨ tAt L s.i = flsW then some (boolE (decide (tAt L s.i = truW)), s.on.node)
       else if isW L (s.i + 1) [40] then (if 20 < (tAt L s.i).length then some (callE (tAt L s.i) [], s.on.on.bad) else argsF E L f (tAt L s.i) [] s.on.on)
       else some (callE (tAt L s.i) [], s.on.bad))
    else some (oneF E L s)
  argsF (E : Env) (L : List Wd) : Nat → List UInt8 → List Ex → St → Option (Ex × St)
  | 0, _, _, _ => none
  | f + 1, t, ks, s =>
    if s.bd then some (callE t ks, s.node) else if isW L s.i [41] then some (callE t ks, s.on.node)
    else if ks ≠ [] ∧ isW L s.i [44] = false then some (callE t ks, s.bad)
    else (treeF E L f 1 (if ks = [] then s else s.on)).bind fun r => argsF E L f t (ks ++ [r.1]) (argS ks r.2)
def poneF (E : Env) (L : List Wd) (i : Nat) : Option (Ex × Nat) :=
  if kAt L i = 1 then (if E.nok (tAt L i) then some (numE (E.num (tAt L i)), i + 1) else none)
  else if kAt L i = 2 then some (textE (tAt L i), i + 1)
  else if kAt L i = 5 then some (errE (E.err (tAt L i)), i + 1)
  else if kAt L i = 3 then
    (if E.rok (tAt L i) = false then none
     else if isW L (i + 1) [58] then
      (if kAt L (i + 2) = 3 ∧ E.rok (tAt L (i + 2)) = true ∧ (E.ref (tAt L (i + 2))).1 = [] then some (rangeE (E.ref (tAt L i)) (E.ref (tAt L (i + 2))), i + 3) else none)
     else some (refE (E.ref (tAt L i)), i + 1))
  else none
def ptF (E : Env) (L : List Wd) : Nat → Nat → Nat → Option (Option (Ex × Nat))
  | 0, _, _ => none
  | f + 1, lv, i => (paF E L f i).bind fun o => match o with
    | none => some none
    | some r => plF E L f lv r.1 r.2
  where
  plF (E : Env) (L : List Wd) : Nat → Nat → Ex → Nat → Option (Option (Ex × Nat))
  | 0, _, _, _ => none
  | f + 1, lv, x, j =>
    if lv ≤ stg L j then (ptF E L f (stg L j + 1) (j + 1)).bind fun o => match o with
      | none => some none
      | some r => plF E L f lv (binE (tAt L j) x r.1) r.2
    else some (some (x, j))
  paF (E : Env) (L : List Wd) : Nat → Nat → Option (Option (Ex × Nat))
  | 0, _ => none
  | f + 1, i => if isW L i [45] then (paF E L f (i + 1)).bind fun o => match o with
      | none => some none
      | some r => some (some (negE r.1, r.2))
    else pfF E L f i
  pfF (E : Env) (L : List Wd) : Nat → Nat → Option (Option (Ex × Nat))
  | 0, _ => none
  | f + 1, i =>
    if isW L i [40] then (ptF E L f 1 (i + 1)).bind fun o => match o with
      | none => some none
      | some r => some (if isW L r.2 [41] then some (r.1, r.2 + 1) else none)
    else if kAt L i = 4 then
      (if tAt L i = truW ∨ tAt L i = flsW then some (some (boolE (decide (tAt L i = truW)), i + 1))
       else if E.nam (tAt L i) = true ∧ isW L (i + 1) [40] = true then
         (if isW L (i + 2) [41] then some (some (callE (tAt L i) [], i + 3)) else pgF E L f (tAt L i) [] (i + 2))
       else some none)
    else some (poneF E L i)
  pgF (E : Env) (L : List Wd) : Nat → List UInt8 → List Ex → Nat → Option (Option (Ex × Nat))
  | 0, _, _, _ => none
  | f + 1, t, ks, i =>
    if ks.length < 30 then (ptF E L f 1 i).bind fun o => match o with
      | none => some none
      | some r => if isW L r.2 [44] then pgF E L f t (ks ++ [r.1]) (r.2 + 1) else some (if isW L r.2 [41] then some (callE t (ks ++ [r.1]), r.2 + 1) else none)
    else some none
end Go.Proofs.YtgheopdadfnilaaGreatDoor
namespace Go.Proofs.YtgheopdadfnilaaGreatDoor
open Go.RowKit
def joinB(c:UInt8):Bool:=
 decide (65≤c.toNat∧c.toNat≤90) || (decide (97≤c.toNat∧c.toNat≤122) || (decide (48≤c.toNat∧c.toNat≤57) || (c == 36 || (c == 33 || c == 46))))
def tru:List UInt8:=[84,82,85,69]
def fls:List UInt8:=[70,65,76,83,69]
def kindJ(t:List UInt8)(called:Bool):Nat:=
 if V.pf (V.parseO t) then 1 else if refF t then 3 else if t=tru∨t=fls∨(called=true∧allL t=true) then 4 else 0
def bad:Nat × List UInt8 × Nat:=(0,[],0)
def joinW(l:List UInt8):Nat × List UInt8 × Nat:=
 if kindJ (l.takeWhile joinB) (Lib.hasPrefix (l.dropWhile joinB) [40])=0 then bad
 else (kindJ (l.takeWhile joinB) (Lib.hasPrefix (l.dropWhile joinB) [40]),l.takeWhile joinB,(l.takeWhile joinB).length)
def quoF:List UInt8→List UInt8→Nat→Option (List UInt8 × Nat)
 |[],_,_=>none
 |[c],acc,n=>if c=34 then some (acc,n+1) else none
 |c::d::r,acc,n=>if c=34 then (if d=34 then quoF r (acc++[34]) (n+2) else some (acc,n+1)) else quoF (d::r) (acc++[c]) (n+1)
def quoP:Option (List UInt8 × Nat)→Nat × List UInt8 × Nat
 |none=>bad
 |some (t,n)=>if V.mtB t then (2,t,n) else bad
def quoW(l:List UInt8):Nat × List UInt8 × Nat:=quoP (quoF (l.drop 1) [] 1)
def errP:Option Int→Nat × List UInt8 × Nat
 |none=>bad
 |some e=>(5,enL e,(enL e).length)
def errF(l:List UInt8):Option Int:=[1,2,3,4,5,6,7].find? (fun e=>Lib.hasPrefix l (enL e))
def errW(l:List UInt8):Nat × List UInt8 × Nat:=errP (errF l)
def sigP:Option (List UInt8)→Nat × List UInt8 × Nat
 |none=>bad
 |some t=>(6,t,t.length)
def sigF(l:List UInt8):Option (List UInt8):=sgL.find? (fun t=>Lib.hasPrefix l t)
def sigW(l:List UInt8):Nat × List UInt8 × Nat:=sigP (sigF l)
def wordF(l:List UInt8):Nat × List UInt8 × Nat:=
 if l.headD 0=34 then quoW l else if l.headD 0=35 then errW l else if joinB (l.headD 0) then joinW l else sigW l
def scanG:Nat→List UInt8→Nat→List Wd→Option (List Wd) × Nat
 |0,_,_,acc=>(some acc,0)
 |_+1,[],_,acc=>(some acc,0)
 |f+1,c::r,at',acc=>
  if c=32 then scanG f r (at'+1) acc
  else if (wordF (c::r)).2.2=0 then (none,at')
  else scanG f ((c::r).drop (wordF (c::r)).2.2) (at'+(wordF (c::r)).2.2) (acc++[⟨(wordF (c::r)).1,(wordF (c::r)).2.1,at'⟩])
theorem scanG_fuel:∀ (f g:Nat) (l:List UInt8) (a:Nat) (acc:List Wd),l.length≤f→l.length≤g→scanG f l a acc=scanG g l a acc:=by
 intro f
 induction f with
 |zero=>
  intro g l a acc h _
  have e:l=[]:=List.eq_nil_of_length_eq_zero (by omega)
  subst e;cases g <;> rfl
 |succ f ih=>
  intro g l a acc h h'
  cases l with
  |nil=>cases g <;> rfl
  |cons c r=>
   cases g with
   |zero=>simp at h'
   |succ g=>
    simp only [List.length_cons]at h h'
    unfold scanG
    split
    ·exact ih g r _ _ (by omega) (by omega)
    ·split
     ·rfl
     ·rename_i hn
      exact ih g _ _ _ (by rw [List.length_drop,List.length_cons];omega) (by rw [List.length_drop,List.length_cons];omega)
def scanF(l:List UInt8)(a:Nat)(acc:List Wd):Option (List Wd) × Nat:=scanG l.length l a acc
theorem scanF_nil(a:Nat)(acc:List Wd):scanF [] a acc=(some acc,0):=rfl
theorem scanF_blank(r:List UInt8)(a:Nat)(acc:List Wd):scanF (32::r) a acc=scanF r (a+1) acc:=by
 unfold scanF
 rw [List.length_cons,scanG];exact if_pos rfl
theorem scanF_bad{l:List UInt8}(a:Nat)(acc:List Wd)(h0:l≠[])(h1:l.headD 0≠32)(h:(wordF l).2.2=0):scanF l a acc=(none,a):=by
 unfold scanF
 cases l with
 |nil=>exact absurd rfl h0
 |cons c r=>
  simp only [List.headD_cons]at h1
  rw [List.length_cons,scanG,if_neg h1,if_pos h]
theorem scanF_word{l:List UInt8}(a:Nat)(acc:List Wd)(h0:l≠[])(h1:l.headD 0≠32)(h:(wordF l).2.2≠0):scanF l a acc=scanF (l.drop (wordF l).2.2) (a+(wordF l).2.2) (acc++[⟨(wordF l).1,(wordF l).2.1,a⟩]):=by
 unfold scanF
 cases l with
 |nil=>exact absurd rfl h0
 |cons c r=>
  simp only [List.headD_cons]at h1
  rw [List.length_cons,scanG,if_neg h1,if_neg h];refine scanG_fuel _ _ _ _ _ ?_ (Nat.le_refl _)
  rw [List.length_drop,List.length_cons];omega
def blk(l:List UInt8):Nat:=(l.takeWhile (· == 32)).length
theorem blk_le(l:List UInt8):blk l≤l.length:=by
 unfold blk
 exact (List.takeWhile_prefix _).length_le
theorem blk_zero{l:List UInt8}(h:l.headD 0≠32):blk l=0:=by
 unfold blk
 cases l with
 |nil=>rfl
 |cons c r=>
  simp only [List.headD_cons]at h
  rw [List.takeWhile_cons,if_neg (by simpa using h)]
  rfl
theorem blk_succ(r:List UInt8):blk (32::r)=blk r+1:=by
 unfold blk
 rw [List.takeWhile_cons,if_pos (by rfl),List.length_cons]
theorem scanF_blk(l:List UInt8)(a:Nat)(acc:List Wd):scanF l a acc=scanF (l.drop (blk l)) (a+blk l) acc:=by
 induction l generalizing a with
 |nil=>rfl
 |cons c r ih=>
  by_cases h:c=32
  ·subst h
   rw [scanF_blank,blk_succ,ih,List.drop_succ_cons,show a+1+blk r=a+(blk r+1) by omega]
  ·rw [blk_zero (by simpa using h)]
   rfl
theorem head_blk(l:List UInt8)(h:blk l<l.length):(l.drop (blk l)).headD 0≠32:=by
 induction l with
 |nil=>simp at h
 |cons c r ih=>
  by_cases hc:c=32
  ·subst hc
   rw [blk_succ]at h ⊢;rw [List.drop_succ_cons];exact ih (by simpa using h)
  ·rw [blk_zero (by simpa using hc)]
   simpa using hc
theorem quoF_not{c:UInt8}{r acc:List UInt8}{n:Nat}(h:c≠34):quoF (c::r) acc n=quoF r (acc++[c]) (n+1):=by
 cases r with
 |nil=>simp [quoF,h]
 |cons d r=>simp [quoF,h]
theorem quoF_two{r acc:List UInt8}{n:Nat}:quoF (34::34::r) acc n=quoF r (acc++[34]) (n+2):=by simp [quoF]
theorem quoF_end{r acc:List UInt8}{n:Nat}(h:Lib.hasPrefix r [34]=false):quoF (34::r) acc n=some (acc,n+1):=by
 cases r with
 |nil=>simp [quoF]
 |cons d r=>
  have hd:d≠34:=fun e=>by subst e;simp [Lib.hasPrefix]at h
  simp [quoF,hd]
theorem two_of{r:List UInt8}(h:Lib.hasPrefix r [34]=true):∃ r',r=34::r':=by
 cases r with
 |nil=>simp [Lib.hasPrefix]at h
 |cons d r=>
  refine ⟨r,?_⟩
  simp [Lib.hasPrefix]at h
  rw [←h]
end Go.Proofs.YtgheopdadfnilaaGreatDoor
namespace Go.Proofs.YtgheopdadfnilaaGreatDoor
open Go.RowKit
set_option linter.unusedVariables false
set_option linter.unusedSimpArgs false
theorem Q.block{a w:World}(h:Q a w){b:Nat}(hb:b<a.heap.size):w.heap[b]?=a.heap[b]?:=Below.block h b hb
def wd(x:Wd):List Value:=[.int .i64 (x.k:Int),.string ⟨x.t.toArray⟩,.int .i64 (x.p:Int)]
theorem wd_len(x:Wd):(wd x).length=3:=rfl
theorem wd_one(x:Wd):∀ u∈wd x,u.oneCell'=true:=by
 intro u hu
 simp [wd]at hu
 rcases hu with rfl|rfl|rfl <;> rfl
section
variable {α:Type} (enc:α→List Value)
def flat(L:List α):List Value:=L.flatMap enc
theorem flat_nil:flat enc []=[]:=rfl
theorem flat_cons(x:α)(L:List α):flat enc (x::L)=enc x++flat enc L:=by unfold flat;simp
theorem flat_append(L L':List α):flat enc (L++L')=flat enc L++flat enc L':=by unfold flat;simp
theorem flat_snoc(L:List α)(x:α):flat enc (L++[x])=flat enc L++enc x:=by unfold flat;simp
theorem flat_len{k:Nat}(hk:∀ x,(enc x).length=k)(L:List α):(flat enc L).length=L.length*k:=by
 induction L with
 |nil=>simp [flat]
 |cons x L ih=>rw [flat_cons,List.length_append,ih,hk,List.length_cons,Nat.succ_mul];omega
theorem flat_at{k:Nat}(hk:∀ x,(enc x).length=k)(L:List α)(i:Nat)(h:i<L.length)(j:Nat)(hj:j<k):(flat enc L)[i*k+j]?=(enc L[i])[j]?:=by
 induction L generalizing i with
 |nil=>simp at h
 |cons x L ih=>
  rw [flat_cons];cases i with
  |zero=>
   rw [Nat.zero_mul,Nat.zero_add,List.getElem?_append_left (by rw [hk];exact hj)]
   simp
  |succ i=>
   have e:(i+1)*k+j=k+(i*k+j):=by rw [Nat.succ_mul];omega
   rw [e,List.getElem?_append_right (by rw [hk];omega),hk,Nat.add_sub_cancel_left,ih i (by simpa using h)]
   simp
def Ats(W:World)(b o:Nat)(x:α):Prop:=∀ (j:Nat) (u:Value),(enc x)[j]?=some u→W.cell? ⟨b,o+j,none⟩=some u
variable {enc}
theorem Ats.on{W W':World}{b o:Nat}{x:α}(h:Ats enc W b o x)(q:Q W W'):Ats enc W' b o x:=fun j u hu=>
 (q.cell (World.block_lt_of_cell? W ⟨b,o+j,none⟩ (h j u hu))).trans (h j u hu)
variable (enc)
def Sl(k:Nat)(W:World)(v:Value)(L:List α):Prop:=
 ∃ (ao:Option Addr) (cap:Nat),v=.slice ao L.length cap∧L.length≤cap∧cap≤maxLen∧(0<L.length→∃ b off,ao=some ⟨b,off,none⟩∧∀ i (h:i<L.length),Ats enc W b (off+i*k) L[i])
variable {enc}
variable {k:Nat}
theorem Sl.on{W W':World}{v:Value}{L:List α}(h:Sl enc k W v L)(q:Q W W'):Sl enc k W' v L:=by
 obtain ⟨ao,cap,hv,h1,h2,h⟩:=h;refine ⟨ao,cap,hv,h1,h2,fun hl=>?_⟩
 obtain ⟨b,off,ha,hc⟩:=h hl;exact ⟨b,off,ha,fun i hi=>(hc i hi).on q⟩
theorem Sl.len{W:World}{v:Value}{L:List α}(h:Sl enc k W v L):∃ (ao:Option Addr) (cap:Nat),v=.slice ao L.length cap∧L.length≤cap∧cap≤maxLen:=by
 obtain ⟨ao,cap,hv,h1,h2,_⟩:=h;exact ⟨ao,cap,hv,h1,h2⟩
theorem Sl.at{W:World}{v:Value}{L:List α}(h:Sl enc k W v L){i:Nat}(hi:i<L.length):∃ b off cap,v=.slice (some ⟨b,off,none⟩) L.length cap∧L.length≤cap∧cap≤maxLen∧Ats enc W b (off+i*k) L[i]:=by
 obtain ⟨ao,cap,hv,h1,h2,h⟩:=h;obtain ⟨b,off,ha,hc⟩:=h (by omega)
 subst ha;exact ⟨b,off,cap,hv,h1,h2,hc i hi⟩
theorem sl_nil(W:World):Sl enc k W (.slice none 0 0) []:=⟨none,0,rfl,Nat.le_refl _,Nat.zero_le _,fun h=>absurd h (by simp)⟩
def Own(enc:α→List Value)(e:TypeId)(k B:Nat)(W:World)(v:Value)(L:List α):Prop:=W.ownsRow B e k v L.length (flat enc L)
variable {e:TypeId} {B:Nat}
theorem own_nil(W:World):Own enc e k B W (.slice none 0 0) []:=World.ownsRow_nil _ _ _ _
theorem Own.sl{W:World}{v:Value}{L:List α}(h:Own enc e k B W v L)(hk:∀ x,(enc x).length=k)(hp:0<k):Sl enc k W v L:=by
 have h0:=h;obtain ⟨hl,h⟩:=h
 rcases h with ⟨hv,hn⟩|⟨g,cap,cur,hv,hb,hg,h1,h2,h3,h4⟩
 ·exact ⟨none,0,by rw [hv,hn],by omega,Nat.zero_le _,fun h=>by omega⟩
 ·refine ⟨some ⟨g,0,none⟩,cap,hv,h1,h2,fun _=>⟨g,0,rfl,fun i hi j u hu=>?_⟩⟩
  have hj:j<k:=by rw [←hk L[i]];exact (List.getElem?_eq_some_iff.1 hu).1
  unfold Own at h0
  rw [hv]at h0;have:i*k+j<L.length*k:=Nat.lt_of_lt_of_le (Nat.add_lt_add_left hj _) (by rw [←Nat.succ_mul];exact Nat.mul_le_mul_right _ hi)
  rw [Nat.zero_add,h0.cellAt (i*k+j) this,flat_at enc hk L i hi j hj];exact hu
theorem Own.alloc{W:World}{v:Value}{L:List α}(h:Own enc e k B W v L)(o:Obj):Own enc e k B (W.alloc o) v L:=World.ownsRow.alloc h o
theorem Own.on{W W':World}{v:Value}{L:List α}(h:Own enc e k B W v L)(q:Q W W'):Own enc e k B W' v L:=by
 obtain ⟨hl,h⟩:=h;refine ⟨hl,?_⟩
 rcases h with h|⟨g,cap,cur,hv,hb,hg,h1,h2,h3,h4⟩
 ·exact .inl h
 ·have hlt:g<W.heap.size:=by
   rcases Nat.lt_or_ge g W.heap.size with h'|h'
   ·exact h'
   ·rw [Array.getElem?_eq_none h']at hg;cases hg
  exact .inr ⟨g,cap,cur,hv,hb,by rw [Below.block q g hlt];exact hg,h1,h2,h3,h4⟩
theorem Own.blk{W:World}{v:Value}{L:List α}(h:Own enc e k B W v L):∀ j,v.ownBlock=some j→B≤j:=by
 intro j hj
 obtain ⟨_,h⟩:=h
 rcases h with ⟨hv,_⟩|⟨g,cap,cur,hv,hg,_⟩
 ·rw [hv]at hj;cases hj
 ·rw [hv]at hj
  cases hj
  exact hg
theorem Own.lt{W:World}{v:Value}{L:List α}(h:Own enc e k B W v L):∀ j,v.ownBlock=some j→j<W.heap.size:=by
 intro j hj
 obtain ⟨_,h⟩:=h
 rcases h with ⟨hv,_⟩|⟨g,cap,cur,hv,_,hg,_⟩
 ·rw [hv]at hj;cases hj
 ·rw [hv]at hj
  cases hj
  rcases Nat.lt_or_ge g W.heap.size with h'|h'
  ·exact h'
  ·rw [Array.getElem?_eq_none h']at hg;cases hg
theorem Own.grown{W W':World}{row:Option Nat}{v:Value}{L:List α}(h:Own enc e k B W v L)(g:W.grownBy W' row)(hr:v.ownBlock=none∨v.ownBlock≠row):Own enc e k B W' v L:=World.ownsRow.kept h g hr
theorem own_snoc{W:World}{v:Value}{L:List α}{x:α}(h:W.ownsRow B e k v (L.length+1) (flat enc L++enc x)):Own enc e k B W v (L++[x]):=by
 unfold Own
 rw [flat_snoc,List.length_append];exact h
theorem own_snoc'{W:World}{v:Value}{L:List α}{x:α}{n:Nat}(h:W.ownsRow B e k v n (flat enc L++enc x))(hn:n=L.length+1):Own enc e k B W v (L++[x]):=own_snoc (hn ▸ h)
theorem news_new(W:World)(cs:List Value)(t:TypeId):∀ j u,cs[j]?=some u→(W.alloc (.cells cs.toArray t)).cell? ((⟨W.heap.size,0,none⟩:Addr).add j)=some u:=by
 intro j u hu
 have hj:j<cs.length:=(List.getElem?_eq_some_iff.1 hu).1
 have e:((⟨W.heap.size,0,none⟩:Addr).add j)=⟨W.heap.size,j,none⟩:=by
  unfold Addr.add
  by_cases h:j=0
  ·subst h;simp
  ·simp [h]
 rw [e];rw [World.cell?_alloc_new]
 simpa using hu
theorem news_at(W:World)(cs:List Value)(t:TypeId)(b:Nat)(hb:b=W.heap.size):∀ j u,cs[j]?=some u→(W.alloc (.cells cs.toArray t)).cell? ((⟨b,0,none⟩:Addr).add j)=some u:=by
 subst hb;exact news_new W cs t
theorem Own.shape{W:World}{v:Value}{L:List α}(h:Own enc e k B W v L)(hl:0<L.length):∃ g cap,v=.slice (some ⟨g,0,none⟩) L.length cap∧B≤g∧g<W.heap.size∧L.length≤cap∧cap≤maxLen:=by
 have hlt:=h.lt;obtain ⟨_,h⟩:=h
 rcases h with ⟨hv,hn⟩|⟨g,cap,cur,hv,hb,hg,h1,h2,_⟩
 ·omega
 ·exact ⟨g,cap,hv,hb,hlt g (by rw [hv];rfl),h1,h2⟩
theorem Own.cell{W:World}{g cap i:Nat}{L:List α}(h:Own enc e k B W (.slice (some ⟨g,0,none⟩) L.length cap) L)(hk:∀ x,(enc x).length=k)(hi:i<L.length):Ats enc W g (i*k) L[i]:=by
 intro j u hu
 have hj:j<k:=by rw [←hk L[i]];exact (List.getElem?_eq_some_iff.1 hu).1
 have:i*k+j<L.length*k:=Nat.lt_of_lt_of_le (Nat.add_lt_add_left hj _) (by rw [←Nat.succ_mul];exact Nat.mul_le_mul_right _ hi)
 rw [World.ownsRow.cellAt h (i*k+j) this,flat_at enc hk L i hi j hj];exact hu
end
def Inf(e:TypeId)(z:Value)(k by':Nat)(i:TypeInfo):Prop:=Tryz.prog.info? e=some i∧i.zero=some z∧i.size=k∧i.bytes=by'
theorem inf_of{e:TypeId}{z:Value}{k b:Nat}(h:(Tryz.prog.info? e).map (fun i=>(i.zero,i.size,i.bytes))=some (some z,k,b)):∃ i,Inf e z k b i:=by
 obtain ⟨i,hi,hz⟩:=Option.map_eq_some_iff.1 h;simp only [Prod.mk.injEq]at hz
 exact ⟨i,hi,hz.1,hz.2.1,hz.2.2⟩
theorem info31:(Tryz.prog.info? 141).map (fun i=>(i.zero,i.size,i.bytes))=some (some (.agg #[.int .i64 0,.string ⟨#[]⟩,.int .i64 0]),3,32):=by kernel_rfl
end Go.Proofs.YtgheopdadfnilaaGreatDoor
namespace Go.Proofs.YtgheopdadfnilaaGreatDoor
theorem mono_ref(E:Env)(L:List Wd):∀ f:Nat,
  (∀ lv s r,treeF E L f lv s=some r→treeF E L (f+1) lv s=some r) ∧
  (∀ lv x s r,treeF.loopF E L f lv x s=some r→treeF.loopF E L (f+1) lv x s=some r) ∧
  (∀ s r,treeF.aheadF E L f s=some r→treeF.aheadF E L (f+1) s=some r) ∧
  (∀ s r,treeF.firstF E L f s=some r→treeF.firstF E L (f+1) s=some r) ∧
  (∀ t ks s r,treeF.argsF E L f t ks s=some r→treeF.argsF E L (f+1) t ks s=some r):=by
 intro f
 induction f with
 |zero=>
  refine ⟨?_,?_,?_,?_,?_⟩
  ·intro lv s r h;unfold treeF at h;cases h
  ·intro lv x s r h;unfold treeF.loopF at h;cases h
  ·intro s r h;unfold treeF.aheadF at h;cases h
  ·intro s r h;unfold treeF.firstF at h;cases h
  ·intro t ks s r h;unfold treeF.argsF at h;cases h
 |succ f ih=>
  obtain ⟨iT,iL,iA,iF,iG⟩:=ih;refine ⟨?_,?_,?_,?_,?_⟩
  ·intro lv s r h
   rw [treeF]at h ⊢
   (revert h;split <;> intro h)
   ·exact h
   ·(revert h;split <;> intro h)
    ·exact iA _ _ h
    ·obtain ⟨r1,h1,h2⟩:=Option.bind_eq_some_iff.1 h
     exact Option.bind_eq_some_iff.2 ⟨r1,iT _ _ _ h1,iL _ _ _ _ h2⟩
  ·intro lv x s r h
   rw [treeF.loopF]at h ⊢
   (revert h;split <;> intro h)
   ·obtain ⟨r1,h1,h2⟩:=Option.bind_eq_some_iff.1 h
    exact Option.bind_eq_some_iff.2 ⟨r1,iT _ _ _ h1,iL _ _ _ _ h2⟩
   ·exact h
  ·intro s r h
   rw [treeF.aheadF]at h ⊢
   (revert h;split <;> intro h)
   ·obtain ⟨r1,h1,h2⟩:=Option.bind_eq_some_iff.1 h
    exact Option.bind_eq_some_iff.2 ⟨r1,iT _ _ _ h1,h2⟩
   ·exact iF _ _ h
  ·intro s r h
   rw [treeF.firstF]at h ⊢
   (revert h;split <;> intro h)
   ·obtain ⟨r1,h1,h2⟩:=Option.bind_eq_some_iff.1 h
    exact Option.bind_eq_some_iff.2 ⟨r1,iT _ _ _ h1,h2⟩
   ·(revert h;split <;> intro h)
    ·(revert h;split <;> intro h)
     ·exact h
     ·(revert h;split <;> intro h)
      ·(revert h;split <;> intro h)
       ·exact h
       ·exact iG _ _ _ _ h
      ·exact h
    ·exact h
  ·intro t ks s r h
   rw [treeF.argsF]at h ⊢
   (revert h;split <;> intro h)
   ·exact h
   ·(revert h;split <;> intro h)
    ·exact h
    ·(revert h;split <;> intro h)
     ·exact h
     ·obtain ⟨r1,h1,h2⟩:=Option.bind_eq_some_iff.1 h
      exact Option.bind_eq_some_iff.2 ⟨r1,iT _ _ _ h1,iG _ _ _ _ h2⟩
theorem treeF_le{E:Env}{L:List Wd}{f g lv:Nat}{s:St}{r:Ex × St}(h:treeF E L f lv s=some r)(hg:f≤g):treeF E L g lv s=some r:=by
 obtain ⟨d,rfl⟩:=Nat.le.dest hg;clear hg
 induction d with
 |zero=>exact h
 |succ d ih=>exact (mono_ref E L _).1 _ _ _ ih
theorem loopF_le{E:Env}{L:List Wd}{f g lv:Nat}{x:Ex}{s:St}{r:Ex × St}(h:treeF.loopF E L f lv x s=some r)(hg:f≤g):treeF.loopF E L g lv x s=some r:=by
 obtain ⟨d,rfl⟩:=Nat.le.dest hg;clear hg
 induction d with
 |zero=>exact h
 |succ d ih=>exact (mono_ref E L _).2.1 _ _ _ _ ih
theorem argsF_le{E:Env}{L:List Wd}{f g:Nat}{t:List UInt8}{ks:List Ex}{s:St}{r:Ex × St}(h:treeF.argsF E L f t ks s=some r)(hg:f≤g):treeF.argsF E L g t ks s=some r:=by
 obtain ⟨d,rfl⟩:=Nat.le.dest hg;clear hg
 induction d with
 |zero=>exact h
 |succ d ih=>exact (mono_ref E L _).2.2.2.2 _ _ _ _ ih
theorem mono_pro(E:Env)(L:List Wd):∀ f:Nat,
  (∀ lv i o,ptF E L f lv i=some o→ptF E L (f+1) lv i=some o) ∧
  (∀ lv x i o,ptF.plF E L f lv x i=some o→ptF.plF E L (f+1) lv x i=some o) ∧
  (∀ i o,ptF.paF E L f i=some o→ptF.paF E L (f+1) i=some o) ∧
  (∀ i o,ptF.pfF E L f i=some o→ptF.pfF E L (f+1) i=some o) ∧
  (∀ t ks i o,ptF.pgF E L f t ks i=some o→ptF.pgF E L (f+1) t ks i=some o):=by
 intro f
 induction f with
 |zero=>
  refine ⟨?_,?_,?_,?_,?_⟩
  ·intro lv s r h;unfold ptF at h;cases h
  ·intro lv x s r h;unfold ptF.plF at h;cases h
  ·intro s r h;unfold ptF.paF at h;cases h
  ·intro s r h;unfold ptF.pfF at h;cases h
  ·intro t ks s r h;unfold ptF.pgF at h;cases h
 |succ f ih=>
  obtain ⟨iT,iL,iA,iF,iG⟩:=ih;refine ⟨?_,?_,?_,?_,?_⟩
  ·intro lv i o h
   rw [ptF]at h ⊢;obtain ⟨o1,h1,h2⟩:=Option.bind_eq_some_iff.1 h;refine Option.bind_eq_some_iff.2 ⟨o1,iA _ _ h1,?_⟩
   cases o1 with
   |none=>exact h2
   |some r=>exact iL _ _ _ _ h2
  ·intro lv x j o h
   rw [ptF.plF]at h ⊢
   (revert h;split <;> intro h)
   ·obtain ⟨o1,h1,h2⟩:=Option.bind_eq_some_iff.1 h
    refine Option.bind_eq_some_iff.2 ⟨o1,iT _ _ _ h1,?_⟩
    cases o1 with
    |none=>exact h2
    |some r=>exact iL _ _ _ _ h2
   ·exact h
  ·intro i o h
   rw [ptF.paF]at h ⊢
   (revert h;split <;> intro h)
   ·obtain ⟨o1,h1,h2⟩:=Option.bind_eq_some_iff.1 h
    exact Option.bind_eq_some_iff.2 ⟨o1,iA _ _ h1,h2⟩
   ·exact iF _ _ h
  ·intro i o h
   rw [ptF.pfF]at h ⊢
   (revert h;split <;> intro h)
   ·obtain ⟨o1,h1,h2⟩:=Option.bind_eq_some_iff.1 h
    exact Option.bind_eq_some_iff.2 ⟨o1,iT _ _ _ h1,h2⟩
   ·(revert h;split <;> intro h)
    ·(revert h;split <;> intro h)
     ·exact h
     ·(revert h;split <;> intro h)
      ·(revert h;split <;> intro h)
       ·exact h
       ·exact iG _ _ _ _ h
      ·exact h
    ·exact h
  ·intro t ks i o h
   rw [ptF.pgF]at h ⊢
   (revert h;split <;> intro h)
   ·obtain ⟨o1,h1,h2⟩:=Option.bind_eq_some_iff.1 h
    refine Option.bind_eq_some_iff.2 ⟨o1,iT _ _ _ h1,?_⟩
    cases o1 with
    |none=>exact h2
    |some r=>
     simp only at h2 ⊢
     (revert h2;split <;> intro h2)
     ·exact iG _ _ _ _ h2
     ·exact h2
   ·exact h
theorem ptF_le{E:Env}{L:List Wd}{f g lv i:Nat}{o:Option (Ex × Nat)}(h:ptF E L f lv i=some o)(hg:f≤g):ptF E L g lv i=some o:=by
 obtain ⟨d,rfl⟩:=Nat.le.dest hg;clear hg
 induction d with
 |zero=>exact h
 |succ d ih=>exact (mono_pro E L _).1 _ _ _ ih
theorem plF_le{E:Env}{L:List Wd}{f g lv i:Nat}{x:Ex}{o:Option (Ex × Nat)}(h:ptF.plF E L f lv x i=some o)(hg:f≤g):ptF.plF E L g lv x i=some o:=by
 obtain ⟨d,rfl⟩:=Nat.le.dest hg;clear hg
 induction d with
 |zero=>exact h
 |succ d ih=>exact (mono_pro E L _).2.1 _ _ _ _ ih
theorem paF_le{E:Env}{L:List Wd}{f g i:Nat}{o:Option (Ex × Nat)}(h:ptF.paF E L f i=some o)(hg:f≤g):ptF.paF E L g i=some o:=by
 obtain ⟨d,rfl⟩:=Nat.le.dest hg;clear hg
 induction d with
 |zero=>exact h
 |succ d ih=>exact (mono_pro E L _).2.2.1 _ _ ih
theorem pgF_le{E:Env}{L:List Wd}{f g i:Nat}{t:List UInt8}{ks:List Ex}{o:Option (Ex × Nat)}(h:ptF.pgF E L f t ks i=some o)(hg:f≤g):ptF.pgF E L g t ks i=some o:=by
 obtain ⟨d,rfl⟩:=Nat.le.dest hg;clear hg
 induction d with
 |zero=>exact h
 |succ d ih=>exact (mono_pro E L _).2.2.2.2 _ _ _ _ ih
def Ends(L:List Wd):Prop:=∀ i,i<L.length→kAt L i≠7→i+1<L.length
structure Fwd (L:List Wd) (s s':St):Prop where
 le:s.i≤s'.i
 lt:s'.i<L.length
 nd:s'.n+s.i≤s.n+s'.i
 bd:s.bd=true→s'.bd=true
theorem Fwd.refl{L:List Wd}{s:St}(h:s.i<L.length):Fwd L s s:=⟨Nat.le_refl _,h,by omega,id⟩
theorem Fwd.trans{L:List Wd}{a b c:St}(h:Fwd L a b)(k:Fwd L b c):Fwd L a c:=⟨Nat.le_trans h.le k.le,k.lt,by have:=h.nd;have:=k.nd;omega,fun e=>k.bd (h.bd e)⟩
theorem Fwd.bad{L:List Wd}{a b:St}(h:Fwd L a b):Fwd L a b.bad:=⟨h.le,h.lt,h.nd,fun _=>rfl⟩
theorem on_i(s:St):s.on.i=s.i+1:=rfl
theorem on_n(s:St):s.on.n=s.n:=rfl
theorem on_bd(s:St):s.on.bd=s.bd:=rfl
theorem node_i(s:St):s.node.i=s.i:=rfl
theorem node_n(s:St):s.node.n=s.n+1:=rfl
theorem node_bd(s:St):s.node.bd=s.bd:=rfl
theorem bad_i(s:St):s.bad.i=s.i:=rfl
theorem bad_n(s:St):s.bad.n=s.n:=rfl
theorem argS_i(ks:List Ex)(s:St):(argS ks s).i=s.i:=rfl
theorem argS_n(ks:List Ex)(s:St):(argS ks s).n=s.n:=rfl
theorem argS_bd(ks:List Ex)(s:St):(argS ks s).bd=(s.bd || decide (30<ks.length+1)):=rfl
theorem Ends.on{L:List Wd}(hE:Ends L){s:St}(h:s.i<L.length)(hk:kAt L s.i≠7):Fwd L s s.on∧s.on.i<L.length:=⟨⟨Nat.le_succ _,hE _ h hk,by simp only [on_i,on_n];omega,id⟩,hE _ h hk⟩
theorem Ends.sign{L:List Wd}(hE:Ends L){i:Nat}{t:List UInt8}(h:isW L i t=true):i+1<L.length:=by
 obtain ⟨h1,h2,_⟩:=isW_six h;exact hE i h1 (by omega)
theorem stg_six{L:List Wd}{i:Nat}(h:0<stg L i):kAt L i=6:=by
 unfold stg at h
 split at h
 ·assumption
 ·omega
theorem stg_le(L:List Wd)(i:Nat):stg L i≤4:=by
 unfold stg
 split
 ·exact lvl_le _
 ·omega
theorem one_fwd{E:Env}{L:List Wd}(hE:Ends L){s:St}(h:s.i<L.length):Fwd L s (oneF E L s).2∧((oneF E L s).2.bd=false→s.i<(oneF E L s).2.i):=by
 have one:kAt L s.i≠7→Fwd L s s.on.node∧(s.on.node.bd=false→s.i<s.on.node.i):=fun hk=>by
  have:=hE _ h hk
  exact ⟨⟨by simp only [node_i,on_i];omega,this,by simp only [node_i,node_n,on_n,on_i];omega,id⟩,fun _=>by simp only [node_i,on_i];omega⟩
 unfold oneF
 split
 ·rename_i hk;exact one (by omega)
 ·split
  ·rename_i hk;exact one (by omega)
  ·split
   ·rename_i hk
    split
    ·exact ⟨(Fwd.refl h).bad,fun e=>by cases e⟩
    ·exact one (by omega)
   ·split
    ·rename_i hk
     split
     ·rename_i hc
      have h2:=hE.sign hc
      split
      ·rename_i hr
       have h3:=hE (s.i+2) h2 (by rw [hr.1];decide)
       exact ⟨⟨by simp only [node_i,on_i];omega,h3,by simp only [node_i,node_n,on_n,on_i];omega,id⟩,fun _=>by simp only [node_i,on_i];omega⟩
      ·exact ⟨⟨by simp only [bad_i,on_i];omega,h2,by simp only [bad_i,bad_n,on_n,on_i];omega,fun _=>rfl⟩,fun e=>by cases e⟩
     ·exact one (by omega)
    ·exact ⟨(Fwd.refl h).bad,fun e=>by cases e⟩
theorem close_fwd{L:List Wd}(hE:Ends L){s:St}(h:s.i<L.length):Fwd L s (closeS L s):=by
 unfold closeS
 split
 ·exact Fwd.refl h
 ·split
  ·rename_i hc
   exact (hE.on h (by have:=(isW_six hc).2.1;omega)).1
  ·exact (Fwd.refl h).bad
theorem close_bd{L:List Wd}{s:St}(h:s.bd=true):(closeS L s).bd=true:=by unfold closeS;rw [if_pos h];exact h
theorem fwd_all(E:Env)(L:List Wd)(hE:Ends L):∀ f:Nat,
  (∀ lv s r,1≤lv→treeF E L f lv s=some r→s.i<L.length→Fwd L s r.2∧(r.2.bd=false→s.i<r.2.i)) ∧
  (∀ lv x s r,1≤lv→treeF.loopF E L f lv x s=some r→s.i<L.length→Fwd L s r.2) ∧
  (∀ s r,treeF.aheadF E L f s=some r→s.i<L.length→Fwd L s r.2∧(r.2.bd=false→s.i<r.2.i)) ∧
  (∀ s r,treeF.firstF E L f s=some r→s.i<L.length→Fwd L s r.2∧(r.2.bd=false→s.i<r.2.i)) ∧
  (∀ t ks s r,treeF.argsF E L f t ks s=some r→s.i<L.length→s.i≤r.2.i∧r.2.i<L.length∧r.2.n+s.i≤s.n+r.2.i+1∧(s.bd=true→r.2.bd=true)):=by
 intro f
 induction f with
 |zero=>
  refine ⟨?_,?_,?_,?_,?_⟩
  ·intro lv s r _ h;unfold treeF at h;cases h
  ·intro lv x s r _ h;unfold treeF.loopF at h;cases h
  ·intro s r h;unfold treeF.aheadF at h;cases h
  ·intro s r h;unfold treeF.firstF at h;cases h
  ·intro t ks s r h;unfold treeF.argsF at h;cases h
 |succ f ih=>
  obtain ⟨iT,iL,iA,iF,iG⟩:=ih;refine ⟨?_,?_,?_,?_,?_⟩
  ·intro lv s r hv h hs
   rw [treeF]at h
   split at h
   ·rename_i hb
    cases h
    exact ⟨Fwd.refl hs,fun e=>by rw [hb]at e;cases e⟩
   ·split at h
    ·exact iA _ _ h hs
    ·obtain ⟨r1,h1,h2⟩:=Option.bind_eq_some_iff.1 h
     obtain ⟨a1,a2⟩:=iT _ _ _ (by omega) h1 hs
     have a3:=iL _ _ _ _ hv h2 a1.lt;refine ⟨a1.trans a3,fun e=>?_⟩
     have:r1.2.bd=false:=by
      cases hc:r1.2.bd
      ·rfl
      ·rw [a3.bd hc]at e;cases e
     have:=a2 this
     have:=a3.le
     omega
  ·intro lv x s r hv h hs
   rw [treeF.loopF]at h
   split at h
   ·rename_i hc
    obtain ⟨r1,h1,h2⟩:=Option.bind_eq_some_iff.1 h;obtain ⟨b1,b2⟩:=hE.on hs (by have:=stg_six (L:=L) (i:=s.i) (by omega);omega)
    obtain ⟨a1,a2⟩:=iT _ _ _ (by omega) h1 b2
    have a3:=iL _ _ _ _ hv h2 a1.lt;have c1:=a1.le;have c2:=a1.nd;have c3:=a3.le;have c4:=a3.nd;simp only [on_i,on_n,node_i,node_n]at c1 c2 c3 c4
    exact ⟨by omega,a3.lt,by omega,fun e=>by rw [hc.1]at e;cases e⟩
   ·cases h
    exact Fwd.refl hs
  ·intro s r h hs
   rw [treeF.aheadF]at h
   split at h
   ·rename_i hc
    obtain ⟨r1,h1,h2⟩:=Option.bind_eq_some_iff.1 h;cases h2
    have b2:=hE.sign hc;obtain ⟨a1,a2⟩:=iT _ _ _ (by omega) h1 b2
    have c1:=a1.le;have c2:=a1.nd;simp only [on_i,on_n]at c1 c2
    exact ⟨⟨by simp only [node_i];omega,a1.lt,by simp only [node_i,node_n];omega,a1.bd⟩,fun _=>by simp only [node_i];omega⟩
   ·exact iF _ _ h hs
  ·intro s r h hs
   rw [treeF.firstF]at h
   split at h
   ·rename_i hc
    obtain ⟨r1,h1,h2⟩:=Option.bind_eq_some_iff.1 h;cases h2
    have b2:=hE.sign hc;obtain ⟨a1,a2⟩:=iT _ _ _ (by omega) h1 b2
    have a3:=close_fwd hE a1.lt;have c1:=a1.le;have c2:=a1.nd;have c3:=a3.le;have c4:=a3.nd;simp only [on_i,on_n]at c1 c2
    exact ⟨⟨by simp only;omega,a3.lt,by simp only;omega,fun e=>a3.bd (a1.bd e)⟩,fun _=>by simp only;omega⟩
   ·split at h
    ·rename_i hk
     have b1:=hE _ hs (by omega)
     split at h
     ·cases h
      exact ⟨⟨by simp only [node_i,on_i];omega,b1,by simp only [node_i,node_n,on_n,on_i];omega,id⟩,fun _=>by simp only [node_i,on_i];omega⟩
     ·split at h
      ·rename_i hc
       have b2:=hE.sign hc
       split at h
       ·cases h
        exact ⟨⟨by simp only [bad_i,on_i];omega,b2,by simp only [bad_i,bad_n,on_n,on_i];omega,fun _=>rfl⟩,fun e=>by cases e⟩
       ·obtain ⟨c1,c2,c3,c4⟩:=iG _ _ _ _ h b2
        simp only [on_i,on_n]at c1 c3
        exact ⟨⟨by omega,c2,by omega,c4⟩,fun _=>by omega⟩
      ·cases h
       exact ⟨⟨by simp only [bad_i,on_i];omega,b1,by simp only [bad_i,bad_n,on_n,on_i];omega,fun _=>rfl⟩,fun e=>by cases e⟩
    ·cases h
     exact one_fwd hE hs
  ·intro t ks s r h hs
   rw [treeF.argsF]at h
   split at h
   ·cases h
    exact ⟨by simp only [node_i];omega,hs,by simp only [node_i,node_n];omega,id⟩
   ·rename_i hb
    split at h
    ·rename_i hc
     cases h
     exact ⟨by simp only [node_i,on_i];omega,hE.sign hc,by simp only [node_i,node_n,on_n,on_i];omega,id⟩
    ·split at h
     ·cases h
      exact ⟨by simp only [bad_i];omega,hs,by simp only [bad_i,bad_n];omega,fun _=>rfl⟩
     ·rename_i hn
      obtain ⟨r1,h1,h2⟩:=Option.bind_eq_some_iff.1 h;have hs2:(if ks=[] then s else s.on).i<L.length∧s.i≤(if ks=[] then s else s.on).i∧(if ks=[] then s else s.on).n=s.n:=by
       split
       ·exact ⟨hs,Nat.le_refl _,rfl⟩
       ·rename_i hne
        refine ⟨?_,by simp only [on_i];omega,rfl⟩
        have:isW L s.i [44]=true:=by
         cases hw:isW L s.i [44]
         ·exact absurd ⟨hne,hw⟩ hn
         ·rfl
        exact hE.sign this
      obtain ⟨a1,_⟩:=iT _ _ _ (by omega) h1 hs2.1
      obtain ⟨c1,c2,c3,c4⟩:=iG _ _ _ _ h2 a1.lt;simp only [argS_i,argS_n]at c1 c3
      have d1:=a1.le;have d2:=a1.nd;exact ⟨by omega,c2,by omega,fun e=>absurd e hb⟩
theorem total_ref(E:Env)(L:List Wd)(hE:Ends L):∀ (d:Nat) (s:St),L.length-s.i≤d→s.i<L.length→∀ lv,1≤lv→lv≤5→∃ f r,treeF E L f lv s=some r:=by
 intro d
 induction d with
 |zero=>intro s h1 h2;omega
 |succ d ih=>
  intro s hd hs
  have IH:∀ s1:St,s.i<s1.i→s1.i<L.length→∀ lv,1≤lv→lv≤5→∃ f r,treeF E L f lv s1=some r:=fun s1 h1 h2 lv h3 h4=>ih s1 (by omega) h2 lv h3 h4
  have LT:∀ (m:Nat) (s1:St) (x:Ex) (lv:Nat),L.length-s1.i≤m→s.i≤s1.i→s1.i<L.length→1≤lv→∃ f r,treeF.loopF E L f lv x s1=some r:=by
   intro m
   induction m with
   |zero=>intro s1 x lv h1 h2 h3 h4;omega
   |succ m ihm=>
    intro s1 x lv h1 h2 h3 h4
    by_cases hc:s1.bd=false∧stg L s1.i=lv
    ·have b2:s1.on.i<L.length:=hE _ h3 (by have:=stg_six (L:=L) (i:=s1.i) (by omega);omega)
     have hl:=stg_le L s1.i;obtain ⟨f,r,hf⟩:=IH s1.on (by simp only [on_i];omega) b2 (lv+1) (by omega) (by omega)
     have hw:=((fwd_all E L hE f).1 _ _ _ (by omega) hf b2).1
     have hle:=hw.le;simp only [on_i]at hle
     obtain ⟨g,q,hg⟩:=ihm r.2.node (binE (tAt L s1.i) x r.1) lv (by simp only [node_i];omega) (by simp only [node_i];omega) hw.lt h4
     refine ⟨max f g+1,q,?_⟩
     rw [treeF.loopF,if_pos hc];exact Option.bind_eq_some_iff.2 ⟨r,treeF_le hf (Nat.le_max_left _ _),loopF_le hg (Nat.le_max_right _ _)⟩
    ·exact ⟨1,_,by rw [treeF.loopF,if_neg hc]⟩
  have GT:∀ (m:Nat) (s1:St) (t:List UInt8) (ks:List Ex),L.length-s1.i≤m→s.i<s1.i→s1.i<L.length→∃ f r,treeF.argsF E L f t ks s1=some r:=by
   intro m
   induction m with
   |zero=>intro s1 t ks h1 h2 h3;omega
   |succ m ihm=>
    intro s1 t ks h1 h2 h3
    by_cases hb:s1.bd=true
    ·exact ⟨1,_,by rw [treeF.argsF,if_pos hb]⟩
    ·by_cases h41:isW L s1.i [41]=true
     ·exact ⟨1,_,by rw [treeF.argsF,if_neg hb,if_pos h41]⟩
     ·by_cases hn:ks≠[]∧isW L s1.i [44]=false
      ·exact ⟨1,_,by rw [treeF.argsF,if_neg hb,if_neg h41,if_pos hn]⟩
      ·have hs2:(if ks=[] then s1 else s1.on).i<L.length∧s1.i≤(if ks=[] then s1 else s1.on).i:=by
        split
        ·exact ⟨h3,Nat.le_refl _⟩
        ·rename_i hne
         refine ⟨?_,by simp only [on_i];omega⟩
         have:isW L s1.i [44]=true:=by
          cases hw:isW L s1.i [44]
          ·exact absurd ⟨hne,hw⟩ hn
          ·rfl
         exact hE.sign this
       obtain ⟨f,r,hf⟩:=IH (if ks=[] then s1 else s1.on) (by omega) hs2.1 1 (by omega) (by omega)
       obtain ⟨a1,a2⟩:=(fwd_all E L hE f).1 _ _ _ (by omega) hf hs2.1
       have hle:=a1.le;by_cases hr:r.2.bd=true
       ·refine ⟨f+1+1,(callE t (ks++[r.1]),(argS ks r.2).node),?_⟩
        rw [treeF.argsF,if_neg hb,if_neg h41,if_neg hn];refine Option.bind_eq_some_iff.2 ⟨r,treeF_le hf (by omega),?_⟩
        rw [treeF.argsF,if_pos (by rw [argS_bd,hr];rfl)]
       ·have:=a2 (by simpa using hr)
        obtain ⟨g,q,hg⟩:=ihm (argS ks r.2) t (ks++[r.1]) (by simp only [argS_i];omega) (by simp only [argS_i];omega) a1.lt
        refine ⟨max f g+1,q,?_⟩
        rw [treeF.argsF,if_neg hb,if_neg h41,if_neg hn];exact Option.bind_eq_some_iff.2 ⟨r,treeF_le hf (Nat.le_max_left _ _),argsF_le hg (Nat.le_max_right _ _)⟩
  have FT:∃ f r,treeF.firstF E L f s=some r:=by
   by_cases h40:isW L s.i [40]=true
   ·have b2:=hE.sign h40
    obtain ⟨f,r,hf⟩:=IH s.on (by simp only [on_i];omega) b2 1 (by omega) (by omega)
    exact ⟨f+1,_,by rw [treeF.firstF,if_pos h40];exact Option.bind_eq_some_iff.2 ⟨r,hf,rfl⟩⟩
   ·by_cases hk:kAt L s.i=4
    ·by_cases ht:tAt L s.i=truW∨tAt L s.i=flsW
     ·exact ⟨1,_,by rw [treeF.firstF,if_neg h40,if_pos hk,if_pos ht]⟩
     ·by_cases hc:isW L (s.i+1) [40]=true
      ·by_cases hl:20<(tAt L s.i).length
       ·exact ⟨1,_,by rw [treeF.firstF,if_neg h40,if_pos hk,if_neg ht,if_pos hc,if_pos hl]⟩
       ·have b2:=hE.sign hc
        obtain ⟨f,r,hf⟩:=GT L.length s.on.on (tAt L s.i) [] (by omega) (by simp only [on_i];omega) b2
        exact ⟨f+1,r,by rw [treeF.firstF,if_neg h40,if_pos hk,if_neg ht,if_pos hc,if_neg hl];exact hf⟩
      ·exact ⟨1,_,by rw [treeF.firstF,if_neg h40,if_pos hk,if_neg ht,if_neg hc]⟩
    ·exact ⟨1,_,by rw [treeF.firstF,if_neg h40,if_neg hk]⟩
  have AT:∃ f r,treeF.aheadF E L f s=some r:=by
   by_cases h45:isW L s.i [45]=true
   ·have b2:=hE.sign h45
    obtain ⟨f,r,hf⟩:=IH s.on (by simp only [on_i];omega) b2 5 (by omega) (by omega)
    exact ⟨f+1,_,by rw [treeF.aheadF,if_pos h45];exact Option.bind_eq_some_iff.2 ⟨r,hf,rfl⟩⟩
   ·obtain ⟨f,r,hf⟩:=FT
    exact ⟨f+1,r,by rw [treeF.aheadF,if_neg h45];exact hf⟩
  by_cases hb:s.bd=true
  ·intro lv _ _
   exact ⟨1,_,by rw [treeF,if_pos hb]⟩
  ·have T5:∃ f r,treeF E L f 5 s=some r:=by
    obtain ⟨f,r,hf⟩:=AT;exact ⟨f+1,r,by rw [treeF,if_neg hb,if_pos rfl];exact hf⟩
   have TS:∀ lv,1≤lv→lv<5→(∃ f r,treeF E L f (lv+1) s=some r)→∃ f r,treeF E L f lv s=some r:=by
    intro lv h1 h2 ⟨f,r,hf⟩
    obtain ⟨a1,_⟩:=(fwd_all E L hE f).1 _ _ _ (by omega) hf hs
    obtain ⟨g,q,hg⟩:=LT L.length r.2 r.1 lv (by omega) a1.le a1.lt h1
    refine ⟨max f g+1,q,?_⟩
    rw [treeF,if_neg hb,if_neg (by omega)]
    exact Option.bind_eq_some_iff.2 ⟨r,treeF_le hf (Nat.le_max_left _ _),loopF_le hg (Nat.le_max_right _ _)⟩
   have T4:=TS 4 (by omega) (by omega) T5
   have T3:=TS 3 (by omega) (by omega) T4
   have T2:=TS 2 (by omega) (by omega) T3
   have T1:=TS 1 (by omega) (by omega) T2
   intro lv h1 h2
   have:lv=1∨lv=2∨lv=3∨lv=4∨lv=5:=by omega
   rcases this with rfl|rfl|rfl|rfl|rfl
   ·exact T1
   ·exact T2
   ·exact T3
   ·exact T4
   ·exact T5
end Go.Proofs.YtgheopdadfnilaaGreatDoor
