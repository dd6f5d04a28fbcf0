/- counterpaneref5.Ref, walked: n. -/
import Derived.Test.YtgheopdadfnilaaGreatDoorKf04
import Derived.Test.YtgheopdadfnilaaGreatDoorKf08
import Derived.Deep.CutBlock
import Derived.Deep.CutRange
import Derived.Test.YtgheopdadfnilaaGreatDoorKf01
import Derived.Test.YtgheopdadfnilaaGreatDoorKf10
import Derived.Test.YtgheopdadfnilaaGreatDoorKf12
set_option linter.unusedVariables false
set_option linter.unusedSimpArgs false
set_option maxRecDepth 100000
set_option maxHeartbeats 8000000
namespace Go.Proofs.YtgheopdadfnilaaGreatDoor
open Go.RowKit
def rfR(sh:ByteArray)(cf:Bool)(n col:Int)(ra ca:Bool):Value:=
 if cf=true∧1≤n then .tuple #[.agg #[.string sh,.int .i64 (n-1),.int .i64 col,.bool ra,.bool ca],.bool true] else .tuple #[.agg #[.string ⟨#[]⟩,.int .i64 0,.int .i64 0,.bool false,.bool false],.bool false]
abbrev Z25:Obj:=.cells #[.string ⟨#[]⟩,.int .i64 0,.int .i64 0,.bool false,.bool false] 63
abbrev R25 (sh:ByteArray) (ra ca:Bool):Obj:=.cells #[.string sh,.int .i64 0,.int .i64 0,.bool ra,.bool ca] 63
def Dl(C T:ByteArray)(b:Bool):Prop:=(b=true∧∃ h:0<C.size,C[0]=36∧C.extract 1 C.size=T)∨(b=false∧(∀ h:0<C.size,C[0]≠36)∧C=T)
theorem rref_free(C T E R G:ByteArray)(k:Nat)(ca ra cf:Bool)(col n:Int)(w:World)(hs:C.size≤4000000000)(h33:Hid ((33:UInt8) ∉ C.data.toList))
  (hd1:Dl C T ca) (hd2:Dl R G ra) (hk:Hid (k=lead T.data.toList)) (hkT:k≤T.size) (hT:T.size≤4000000000) (eE:T.extract 0 k=E) (eR:T.extract k T.size=R)
  (HK:Hid (∀ W,Calls Tryz.prog 136 #[.string E] W fun e w'=>e=.returned (.tuple #[.int .i64 col,.bool cf])∧w'=W))
  (n0:-1≤n) (n1:n≤2199023255552)
  (HN:Hid (∀ W,Calls Tryz.prog 137 #[.string G,.int .i64 2199023255552] W fun e w'=>e=.returned (.int .i64 n)∧w'=W)) :
  Calls Tryz.prog 103 #[.string C] w fun e w'=>e=.returned (rfR ⟨#[]⟩ cf n col ra ca)∧Q w w':=by
 go_enter Tryz.func103,Tryz.ntmps103
 go_upto_block 0 with fail
 go_cut [0,3,5] from 10 to 32 (fun x o i W=>x=.string C∧o=.bool false∧W=((w.alloc Z25).alloc (R25 ⟨#[]⟩ false false)))
 case first=>
  go_wp2_with fail
  go_loop [0,3,5] (fun x o i=>∃ j:Nat,x=.string C∧o=.bool false∧j≤C.size∧i=.int .i64 j) (fun _ _ i=>C.size-(intOf i).toNat)
  case atStart=>exact ⟨0,rfl,rfl,Nat.zero_le _,rfl⟩
  case round=>
   obtain ⟨j,rfl,rfl,hj,rfl⟩:=hrel;by_cases hlt:j<C.size
   ·have hn':((C[j].toNat:Int) == 33)=false:=byte_ne (n:=33) (by omega) (fun e=>h33.out (by have h:=get_mem C j hlt;rw [e]at h;exact h))
    go_wp2_with fail
    go_round
    case rel=>exact ⟨j+1,rfl,rfl,by omega,by go_num⟩
    case measure=>simp [intOf];omega
   ·go_wp2_with fail
    go_meet
    exact ⟨rfl,rfl,rfl⟩
 case rest=>
  obtain ⟨rfl,rfl,rfl⟩:=hcut;go_upto_region 10 with fail
  go_cut [40] from 33 to 39 (fun x W=>x=.bool ca∧W=((w.alloc Z25).alloc (R25 ⟨#[]⟩ false false)))
  case first=>
   rcases hd1 with ⟨rfl,h,h36,eT⟩|⟨rfl,hne,rfl⟩
   ·have h36':(C[0].toNat:Int)=36:=by rw [h36];rfl
    clear h36;go_wp2_with fail
    go_meet
    exact ⟨rfl,rfl⟩
   ·by_cases hz:0<C.size
    ·have h36':((C[0].toNat:Int) == 36)=false:=byte_ne (n:=36) (by omega) (hne hz)
     clear hne;go_wp2_with fail
     go_meet
     exact ⟨rfl,rfl⟩
    ·clear hne
     go_wp2_with fail
     go_meet
     exact ⟨rfl,rfl⟩
  case rest=>
   obtain ⟨rfl,rfl⟩:=hcut;go_upto_if 40 with fail
   go_cut [0] from 33 to 43 (fun x W=>x=.string T∧W=((w.alloc Z25).alloc (R25 ⟨#[]⟩ false ca)))
   case first=>
    rcases hd1 with ⟨rfl,h,h36,eT⟩|⟨rfl,hne,rfl⟩
    ·go_wp2_with fail
     go_meet
     exact ⟨rfl,rfl⟩
    ·go_wp2_with fail
     go_meet
     exact ⟨rfl,rfl⟩
   case rest=>
    obtain ⟨rfl,rfl⟩:=hcut;go_upto_block 2 with fail
    go_cut [6] from 44 to 61 (fun x W=>x=.int .i64 (k:Int)∧W=((w.alloc Z25).alloc (R25 ⟨#[]⟩ false ca)))
    case first=>
     go_wp2_with fail
     go_loop [6] (fun i=>∃ j:Nat,j≤T.size∧i=.int .i64 j∧Hid (allL (T.data.toList.take j)=true)) (fun i=>T.size-(intOf i).toNat)
     case atStart=>exact ⟨0,Nat.zero_le _,rfl,rfl⟩
     case round=>
      obtain ⟨j,hj,rfl,ha⟩:=hrel;by_cases hlt:j<T.size
      ·by_cases hd:let1 T[j]=true
       ·have ha':Hid (allL (T.data.toList.take (j+1))=true):=by
         show _=_
         have:=ha.out
         rw [take_snoc T j hlt,allL_app,this];unfold allL
         simp [hd]
        have b0:65≤(T[j].toNat:Int):=by unfold let1 at hd;simp at hd;omega
        have b1:(T[j].toNat:Int)≤90:=by unfold let1 at hd;simp at hd;omega
        clear hd;go_wp2_with fail
        go_round
        case rel=>exact ⟨j+1,by omega,by go_num,ha'⟩
        case measure=>simp [intOf];omega
       ·have hN:Hid (j=k):=by
         show _=_
         have h1:=lead_at (T.data.toList.take j) (T.data.toList.drop (j+1)) T[j] ha.out (by simpa using hd)
         rw [←drop_cons T j hlt,List.take_append_drop,List.length_take,len_data]at h1;have:=hk.out
         omega
        by_cases b0:(T[j].toNat:Int)<65
        ·have b0':¬ 65≤(T[j].toNat:Int):=by omega
         clear hd b0;go_wp2_with fail
         go_meet
         exact ⟨by rw [hN.out],rfl⟩
        ·have b1:¬ (T[j].toNat:Int)≤90:=by unfold let1 at hd;simp at hd;omega
         have b0':65≤(T[j].toNat:Int):=by omega
         clear hd b0;go_wp2_with fail
         go_meet
         exact ⟨by rw [hN.out],rfl⟩
      ·have hN:Hid (j=k):=by
        show _=_
        have:=ha.out
        rw [take_all T j (by omega)]at this
        rw [hk.out,lead_all _ this,len_data];omega
       go_wp2_with fail
       go_meet
       exact ⟨by rw [hN.out],rfl⟩
    case rest=>
     obtain ⟨rfl,rfl⟩:=hcut;go_upto_region 18 with (go_at_call 136;refine (HK.out _).mono ?_;rintro e w1 ⟨rfl,rfl⟩)
     go_upto_region 18 with fail
     go_cut [79] from 72 to 78 (fun x W=>x=.bool ra∧W=((w.alloc Z25).alloc (R25 ⟨#[]⟩ false ca)))
     case first=>
      rcases hd2 with ⟨rfl,h,h36,eT⟩|⟨rfl,hne,rfl⟩
      ·have h36':(R[0].toNat:Int)=36:=by rw [h36];rfl
       clear h36;go_wp2_with fail
       go_meet
       exact ⟨rfl,rfl⟩
      ·by_cases hz:0<R.size
       ·have h36':((R[0].toNat:Int) == 36)=false:=byte_ne (n:=36) (by omega) (hne hz)
        clear hne;go_wp2_with fail
        go_meet
        exact ⟨rfl,rfl⟩
       ·clear hne
        go_wp2_with fail
        go_meet
        exact ⟨rfl,rfl⟩
     case rest=>
      obtain ⟨rfl,rfl⟩:=hcut;go_upto_if 79 with fail
      go_cut [0] from 72 to 82 (fun x W=>x=.string G∧W=((w.alloc Z25).alloc (R25 ⟨#[]⟩ ra ca)))
      case first=>
       rcases hd2 with ⟨rfl,h,h36,eT⟩|⟨rfl,hne,rfl⟩
       ·go_wp2_with fail
        go_meet
        exact ⟨rfl,rfl⟩
       ·go_wp2_with fail
        go_meet
        exact ⟨rfl,rfl⟩
      case rest=>
       obtain ⟨rfl,rfl⟩:=hcut;have HV:Hid (rfR ⟨#[]⟩ cf n col ra ca=if cf=true∧1≤n then .tuple #[.agg #[.string ⟨#[]⟩,.int .i64 (n-1),.int .i64 col,.bool ra,.bool ca],.bool true] else .tuple #[.agg #[.string ⟨#[]⟩,.int .i64 0,.int .i64 0,.bool false,.bool false],.bool false]):=rfl
       cases cf
       ·go_wp2_with (go_at_call 137;refine (HN.out _).mono ?_;rintro e w1 ⟨rfl,rfl⟩)
        refine bodyPost_ret (v:=.tuple #[.agg #[.string ⟨#[]⟩,.int .i64 0,.int .i64 0,.bool false,.bool false],.bool false]) (by simp [results,Tryz.results103,go_sem]) rfl ⟨by rw [HV.out];rfl,?_⟩
        repeat' (first|with_reducible exact Q.refl _|with_reducible refine Q.alloc ?_ _|with_reducible refine Q.setCell ?_ (by omega) _)
       by_cases hn:n<1
       ·go_wp2_with (go_at_call 137;refine (HN.out _).mono ?_;rintro e w1 ⟨rfl,rfl⟩)
        refine bodyPost_ret (v:=.tuple #[.agg #[.string ⟨#[]⟩,.int .i64 0,.int .i64 0,.bool false,.bool false],.bool false]) (by simp [results,Tryz.results103,go_sem]) rfl ⟨by rw [HV.out,if_neg (by omega)],?_⟩
        repeat' (first|with_reducible exact Q.refl _|with_reducible refine Q.alloc ?_ _|with_reducible refine Q.setCell ?_ (by omega) _)
       ·go_wp2_with (go_at_call 137;refine (HN.out _).mono ?_;rintro e w1 ⟨rfl,rfl⟩)
        refine bodyPost_ret (v:=.tuple #[.agg #[.string ⟨#[]⟩,.int .i64 (n-1),.int .i64 col,.bool ra,.bool ca],.bool true]) (by simp [results,Tryz.results103,go_sem]) rfl ⟨by rw [HV.out,if_pos (by first|exact ⟨rfl,by omega⟩|exact ⟨trivial,by omega⟩)],?_⟩
        repeat' (first|with_reducible exact Q.refl _|with_reducible refine Q.alloc ?_ _|with_reducible refine Q.setCell ?_ (by omega) _)
theorem rref_other(S A C T E R G:ByteArray)(k:Nat)(ca ra cf:Bool)(col n:Int)(w:World)(hs:S.size≤4000000000)(hC:C.size≤4000000000)(j:Nat)(hj:j<S.size)(hsj:(S[j].toNat:Int)=33)(hno:Hid ((33:UInt8) ∉ S.data.toList.take j))(eA:S.extract 0 j=A)(eC:S.extract (j+1) S.size=C)
  (HI:Hid (∀ W,Calls Tryz.prog 101 #[.string A] W fun e w'=>e=.returned (.bool true)∧w'=W))
  (hd1:Dl C T ca) (hd2:Dl R G ra) (hk:Hid (k=lead T.data.toList)) (hkT:k≤T.size) (hT:T.size≤4000000000) (eE:T.extract 0 k=E) (eR:T.extract k T.size=R)
  (HK:Hid (∀ W,Calls Tryz.prog 136 #[.string E] W fun e w'=>e=.returned (.tuple #[.int .i64 col,.bool cf])∧w'=W))
  (n0:-1≤n) (n1:n≤2199023255552)
  (HN:Hid (∀ W,Calls Tryz.prog 137 #[.string G,.int .i64 2199023255552] W fun e w'=>e=.returned (.int .i64 n)∧w'=W)) :
  Calls Tryz.prog 103 #[.string S] w fun e w'=>e=.returned (rfR A cf n col ra ca)∧Q w w':=by
 go_enter Tryz.func103,Tryz.ntmps103
 go_upto_block 0 with fail
 go_cut [0,3,5] from 10 to 32 (fun x o i W=>x=.string C∧o=.bool false∧W=((w.alloc Z25).alloc (R25 A false false)))
 case first=>
  go_wp2_with fail
  go_loop [0,3,5] (fun x o i=>∃ i':Nat,x=.string S∧o=.bool false∧i'≤j∧i=.int .i64 i') (fun _ _ i=>S.size-(intOf i).toNat)
  case atStart=>exact ⟨0,rfl,rfl,Nat.zero_le _,rfl⟩
  case round=>
   obtain ⟨i,rfl,rfl,hi,rfl⟩:=hrel;by_cases hlt:i<j
   ·have hn':((S[i].toNat:Int) == 33)=false:=byte_ne (n:=33) (by omega) (fun e=>hno.out (by
     have h:S[i]∈S.data.toList.take (i+1):=by rw [take_snoc S i (by omega)];simp
     rw [e]at h;exact List.mem_of_mem_take (i:=i+1) (by rw [List.take_take,Nat.min_eq_left (by omega)];exact h)))
    have hlt':i<S.size:=by omega
    go_wp2_with fail
    go_round
    case rel=>exact ⟨i+1,rfl,rfl,by omega,by go_num⟩
    case measure=>simp [intOf];omega
   ·obtain rfl:i=j:=by omega
    go_wp2_with (go_at_call 101;refine (HI.out _).mono ?_;rintro e w1 ⟨rfl,rfl⟩)
    go_meet
    exact ⟨rfl,rfl,rfl⟩
 case rest=>
  obtain ⟨rfl,rfl,rfl⟩:=hcut;go_upto_region 10 with fail
  go_cut [40] from 33 to 39 (fun x W=>x=.bool ca∧W=((w.alloc Z25).alloc (R25 A false false)))
  case first=>
   rcases hd1 with ⟨rfl,h,h36,eT⟩|⟨rfl,hne,rfl⟩
   ·have h36':(C[0].toNat:Int)=36:=by rw [h36];rfl
    clear h36;go_wp2_with fail
    go_meet
    exact ⟨rfl,rfl⟩
   ·by_cases hz:0<C.size
    ·have h36':((C[0].toNat:Int) == 36)=false:=byte_ne (n:=36) (by omega) (hne hz)
     clear hne;go_wp2_with fail
     go_meet
     exact ⟨rfl,rfl⟩
    ·clear hne
     go_wp2_with fail
     go_meet
     exact ⟨rfl,rfl⟩
  case rest=>
   obtain ⟨rfl,rfl⟩:=hcut;go_upto_if 40 with fail
   go_cut [0] from 33 to 43 (fun x W=>x=.string T∧W=((w.alloc Z25).alloc (R25 A false ca)))
   case first=>
    rcases hd1 with ⟨rfl,h,h36,eT⟩|⟨rfl,hne,rfl⟩
    ·go_wp2_with fail
     go_meet
     exact ⟨rfl,rfl⟩
    ·go_wp2_with fail
     go_meet
     exact ⟨rfl,rfl⟩
   case rest=>
    obtain ⟨rfl,rfl⟩:=hcut;go_upto_block 2 with fail
    go_cut [6] from 44 to 61 (fun x W=>x=.int .i64 (k:Int)∧W=((w.alloc Z25).alloc (R25 A false ca)))
    case first=>
     go_wp2_with fail
     go_loop [6] (fun i=>∃ j:Nat,j≤T.size∧i=.int .i64 j∧Hid (allL (T.data.toList.take j)=true)) (fun i=>T.size-(intOf i).toNat)
     case atStart=>exact ⟨0,Nat.zero_le _,rfl,rfl⟩
     case round=>
      obtain ⟨j,hj,rfl,ha⟩:=hrel;by_cases hlt:j<T.size
      ·by_cases hd:let1 T[j]=true
       ·have ha':Hid (allL (T.data.toList.take (j+1))=true):=by
         show _=_
         have:=ha.out
         rw [take_snoc T j hlt,allL_app,this];unfold allL
         simp [hd]
        have b0:65≤(T[j].toNat:Int):=by unfold let1 at hd;simp at hd;omega
        have b1:(T[j].toNat:Int)≤90:=by unfold let1 at hd;simp at hd;omega
        clear hd;go_wp2_with fail
        go_round
        case rel=>exact ⟨j+1,by omega,by go_num,ha'⟩
        case measure=>simp [intOf];omega
       ·have hN:Hid (j=k):=by
         show _=_
         have h1:=lead_at (T.data.toList.take j) (T.data.toList.drop (j+1)) T[j] ha.out (by simpa using hd)
         rw [←drop_cons T j hlt,List.take_append_drop,List.length_take,len_data]at h1;have:=hk.out
         omega
        by_cases b0:(T[j].toNat:Int)<65
        ·have b0':¬ 65≤(T[j].toNat:Int):=by omega
         clear hd b0;go_wp2_with fail
         go_meet
         exact ⟨by rw [hN.out],rfl⟩
        ·have b1:¬ (T[j].toNat:Int)≤90:=by unfold let1 at hd;simp at hd;omega
         have b0':65≤(T[j].toNat:Int):=by omega
         clear hd b0;go_wp2_with fail
         go_meet
         exact ⟨by rw [hN.out],rfl⟩
      ·have hN:Hid (j=k):=by
        show _=_
        have:=ha.out
        rw [take_all T j (by omega)]at this
        rw [hk.out,lead_all _ this,len_data];omega
       go_wp2_with fail
       go_meet
       exact ⟨by rw [hN.out],rfl⟩
    case rest=>
     obtain ⟨rfl,rfl⟩:=hcut;go_upto_region 18 with (go_at_call 136;refine (HK.out _).mono ?_;rintro e w1 ⟨rfl,rfl⟩)
     go_upto_region 18 with fail
     go_cut [79] from 72 to 78 (fun x W=>x=.bool ra∧W=((w.alloc Z25).alloc (R25 A false ca)))
     case first=>
      rcases hd2 with ⟨rfl,h,h36,eT⟩|⟨rfl,hne,rfl⟩
      ·have h36':(R[0].toNat:Int)=36:=by rw [h36];rfl
       clear h36;go_wp2_with fail
       go_meet
       exact ⟨rfl,rfl⟩
      ·by_cases hz:0<R.size
       ·have h36':((R[0].toNat:Int) == 36)=false:=byte_ne (n:=36) (by omega) (hne hz)
        clear hne;go_wp2_with fail
        go_meet
        exact ⟨rfl,rfl⟩
       ·clear hne
        go_wp2_with fail
        go_meet
        exact ⟨rfl,rfl⟩
     case rest=>
      obtain ⟨rfl,rfl⟩:=hcut;go_upto_if 79 with fail
      go_cut [0] from 72 to 82 (fun x W=>x=.string G∧W=((w.alloc Z25).alloc (R25 A ra ca)))
      case first=>
       rcases hd2 with ⟨rfl,h,h36,eT⟩|⟨rfl,hne,rfl⟩
       ·go_wp2_with fail
        go_meet
        exact ⟨rfl,rfl⟩
       ·go_wp2_with fail
        go_meet
        exact ⟨rfl,rfl⟩
      case rest=>
       obtain ⟨rfl,rfl⟩:=hcut;have HV:Hid (rfR A cf n col ra ca=if cf=true∧1≤n then .tuple #[.agg #[.string A,.int .i64 (n-1),.int .i64 col,.bool ra,.bool ca],.bool true] else .tuple #[.agg #[.string ⟨#[]⟩,.int .i64 0,.int .i64 0,.bool false,.bool false],.bool false]):=rfl
       cases cf
       ·go_wp2_with (go_at_call 137;refine (HN.out _).mono ?_;rintro e w1 ⟨rfl,rfl⟩)
        refine bodyPost_ret (v:=.tuple #[.agg #[.string ⟨#[]⟩,.int .i64 0,.int .i64 0,.bool false,.bool false],.bool false]) (by simp [results,Tryz.results103,go_sem]) rfl ⟨by rw [HV.out];rfl,?_⟩
        repeat' (first|with_reducible exact Q.refl _|with_reducible refine Q.alloc ?_ _|with_reducible refine Q.setCell ?_ (by omega) _)
       by_cases hn:n<1
       ·go_wp2_with (go_at_call 137;refine (HN.out _).mono ?_;rintro e w1 ⟨rfl,rfl⟩)
        refine bodyPost_ret (v:=.tuple #[.agg #[.string ⟨#[]⟩,.int .i64 0,.int .i64 0,.bool false,.bool false],.bool false]) (by simp [results,Tryz.results103,go_sem]) rfl ⟨by rw [HV.out,if_neg (by omega)],?_⟩
        repeat' (first|with_reducible exact Q.refl _|with_reducible refine Q.alloc ?_ _|with_reducible refine Q.setCell ?_ (by omega) _)
       ·go_wp2_with (go_at_call 137;refine (HN.out _).mono ?_;rintro e w1 ⟨rfl,rfl⟩)
        refine bodyPost_ret (v:=.tuple #[.agg #[.string A,.int .i64 (n-1),.int .i64 col,.bool ra,.bool ca],.bool true]) (by simp [results,Tryz.results103,go_sem]) rfl ⟨by rw [HV.out,if_pos (by first|exact ⟨rfl,by omega⟩|exact ⟨trivial,by omega⟩)],?_⟩
        repeat' (first|with_reducible exact Q.refl _|with_reducible refine Q.alloc ?_ _|with_reducible refine Q.setCell ?_ (by omega) _)
theorem rref_none(S A C:ByteArray)(w:World)(hs:S.size≤4000000000)(hC:C.size≤4000000000)(j:Nat)(hj:j<S.size)(hsj:(S[j].toNat:Int)=33)(hno:Hid ((33:UInt8) ∉ S.data.toList.take j))(eA:S.extract 0 j=A)(eC:S.extract (j+1) S.size=C)
  (HI:Hid (∀ W,Calls Tryz.prog 101 #[.string A] W fun e w'=>e=.returned (.bool false)∧w'=W))
  :
  Calls Tryz.prog 103 #[.string S] w fun e w'=>e=.returned (rfR ⟨#[]⟩ false 0 0 false false)∧Q w w':=by
 go_enter Tryz.func103,Tryz.ntmps103
 go_wp2_with fail
 go_loop [0,3,5] (fun x o i=>∃ i':Nat,x=.string S∧o=.bool false∧i'≤j∧i=.int .i64 i') (fun _ _ i=>S.size-(intOf i).toNat)
 case atStart=>exact ⟨0,rfl,rfl,Nat.zero_le _,rfl⟩
 case round=>
  obtain ⟨i,rfl,rfl,hi,rfl⟩:=hrel;by_cases hlt:i<j
  ·have hn':((S[i].toNat:Int) == 33)=false:=byte_ne (n:=33) (by omega) (fun e=>hno.out (by
    have h:S[i]∈S.data.toList.take (i+1):=by rw [take_snoc S i (by omega)];simp
    rw [e]at h;exact List.mem_of_mem_take (i:=i+1) (by rw [List.take_take,Nat.min_eq_left (by omega)];exact h)))
   have hlt':i<S.size:=by omega
   go_wp2_with fail
   go_round
   case rel=>exact ⟨i+1,rfl,rfl,by omega,by go_num⟩
   case measure=>simp [intOf];omega
  ·obtain rfl:i=j:=by omega
   go_wp2_with (go_at_call 101;refine (HI.out _).mono ?_;rintro e w1 ⟨rfl,rfl⟩)
   refine bodyPost_ret (v:=.tuple #[.agg #[.string ⟨#[]⟩,.int .i64 0,.int .i64 0,.bool false,.bool false],.bool false]) (by simp [results,Tryz.results103,go_sem]) rfl ⟨rfl,?_⟩
   repeat' (first|with_reducible exact Q.refl _|with_reducible refine Q.alloc ?_ _|with_reducible refine Q.setCell ?_ (by omega) _)
theorem dl_of(C:ByteArray):Dl C ⟨(Lib.trimPrefix C.data.toList [36]).toArray⟩ (Lib.hasPrefix C.data.toList [36]):=by
 unfold Dl
 cases hb:Lib.hasPrefix C.data.toList [36]
 ·refine .inr ⟨rfl,fun h e=>?_,?_⟩
  ·have h1:=drop_cons C 0 h
   rw [List.drop_zero]at h1;rw [h1,e]at hb;unfold Lib.hasPrefix at hb
   simp at hb
  ·have:Lib.trimPrefix C.data.toList [36]=C.data.toList:=by unfold Lib.trimPrefix;rw [hb];rfl
   rw [this]
 ·have hp:0<C.size:=by
   rcases Nat.eq_zero_or_pos C.size with h|h
   ·rw [show C.data.toList=[] from List.eq_nil_of_length_eq_zero (by rw [len_data];exact h)]at hb
    unfold Lib.hasPrefix at hb
    simp at hb
   ·exact h
  refine .inl ⟨rfl,hp,?_,?_⟩
  ·have h1:=drop_cons C 0 hp
   rw [List.drop_zero]at h1;rw [h1]at hb;unfold Lib.hasPrefix at hb
   simp at hb
   exact hb.symm
  ·apply bytes_eq
   rw [Lib.extract_data];have:Lib.trimPrefix C.data.toList [36]=C.data.toList.drop 1:=by unfold Lib.trimPrefix;rw [hb];rfl
   rw [this];exact List.take_of_length_le (by rw [List.length_drop,len_data];omega)
theorem numR_lo(l:List UInt8)(m:Nat):-1≤numR l m:=by unfold numR;split <;> omega
theorem numR_hi(l:List UInt8)(m:Nat):numR l m≤(m:Int):=by
 unfold numR
 split
 ·rename_i h
  unfold numF at h
  simp only [Bool.and_eq_true,decide_eq_true_eq]at h
  omega
 ·omega
theorem rf_eq(sh c:List UInt8) :
  rfR ⟨sh.toArray⟩ (colF ((Lib.trimPrefix c [36]).takeWhile let1)) (numR (Lib.trimPrefix ((Lib.trimPrefix c [36]).dropWhile let1) [36]) 2199023255552) (colK ((Lib.trimPrefix c [36]).takeWhile let1))
   (Lib.hasPrefix ((Lib.trimPrefix c [36]).dropWhile let1) [36]) (Lib.hasPrefix c [36])=.tuple #[refA (if tailF c then tailT sh c else noT),.bool (tailF c)]:=by
 unfold rfR tailF tailT numR colK
 cases colF ((Lib.trimPrefix c [36]).takeWhile let1)
 ·rfl
 cases numF (Lib.trimPrefix ((Lib.trimPrefix c [36]).dropWhile let1) [36]) 2199023255552
 ·rw [if_neg (by simp)]
  rfl
 generalize val (Lib.trimPrefix ((Lib.trimPrefix c [36]).dropWhile let1) [36])=v;by_cases h:v=0
 ·rw [if_neg (by simp;omega),decide_eq_false (by omega)]
  rfl
 ·rw [if_pos (by simp;omega),decide_eq_true h]
  rfl
structure RT (C T E R G:ByteArray) (k:Nat) (ca ra cf:Bool) (col n:Int):Prop where
 hd1:Dl C T ca
 hd2:Dl R G ra
 hk:k=lead T.data.toList
 hkT:k≤T.size
 hT:T.size≤4000000000
 eE:T.extract 0 k=E
 eR:T.extract k T.size=R
 HK:∀ W,Calls Tryz.prog 136 #[.string E] W fun e w'=>e=.returned (.tuple #[.int .i64 col,.bool cf])∧w'=W
 n0:-1≤n
 n1:n≤2199023255552
 HN:∀ W,Calls Tryz.prog 137 #[.string G,.int .i64 2199023255552] W fun e w'=>e=.returned (.int .i64 n)∧w'=W
theorem rt_of(C:ByteArray)(hs:C.size≤4000000000) :
  ∃ T E R G,RT C T E R G (lead (Lib.trimPrefix C.data.toList [36])) (Lib.hasPrefix C.data.toList [36]) (Lib.hasPrefix ((Lib.trimPrefix C.data.toList [36]).dropWhile let1) [36])
   (colF ((Lib.trimPrefix C.data.toList [36]).takeWhile let1)) (colK ((Lib.trimPrefix C.data.toList [36]).takeWhile let1)) (numR (Lib.trimPrefix ((Lib.trimPrefix C.data.toList [36]).dropWhile let1) [36]) 2199023255552):=by
 have l1:=Lib.trimPrefix_le C.data.toList [36];rw [len_data]at l1;have d1:=dl_of C;generalize Lib.trimPrefix C.data.toList [36]=t at *;have l2:=lead_le t;have e1:((⟨t.toArray⟩:ByteArray).extract 0 (lead t)).data.toList=t.takeWhile let1:=by
  rw [Lib.extract_data,←take_lead]
  rfl
 have e2:((⟨t.toArray⟩:ByteArray).extract (lead t) (⟨t.toArray⟩:ByteArray).size).data.toList=t.dropWhile let1:=by
  rw [Lib.extract_data,←drop_lead,size_mk];exact List.take_of_length_le (by simp)
 have l3:=Lib.trimPrefix_le (t.dropWhile let1) [36];have l4:(t.dropWhile let1).length≤t.length:=by rw [←drop_lead,List.length_drop];omega
 have hK:=fun W=>rcol_any ((⟨t.toArray⟩:ByteArray).extract 0 (lead t)) W (by rw [ByteArray.size_extract,size_mk];omega)
 rw [e1]at hK;have d2:=dl_of ((⟨t.toArray⟩:ByteArray).extract (lead t) (⟨t.toArray⟩:ByteArray).size);rw [e2]at d2
 exact ⟨_,_,_,_,d1,d2,rfl,by rw [size_mk];exact l2,by rw [size_mk];omega,rfl,rfl,hK,numR_lo _ _,numR_hi _ _,
  fun W=>num_any ⟨(Lib.trimPrefix (t.dropWhile let1) [36]).toArray⟩ 2199023255552 2199023255552 W rfl (by omega) (by omega) (by rw [size_mk];omega)⟩
theorem rref_any(s:ByteArray)(w:World)(hs:s.size≤4000000000) :
  Calls Tryz.prog 103 #[.string s] w fun e w'=>e=.returned (.tuple #[refA (refT s.data.toList),.bool (refF s.data.toList)])∧Q w w':=by
 rcases cut_any 33 s.data.toList with ⟨a,b,ea,hna⟩|hno
 ·have ec:=cut_at 33 a b hna
  rw [←ea]at ec;obtain ⟨e1,e2⟩:=ref_other ec;have hlen:=congrArg List.length ea;rw [len_data,List.length_append,List.length_cons]at hlen;have hj:a.length<s.size:=by omega
  have htake:s.data.toList.take a.length=a:=by rw [ea,List.take_left]
  have hget:s[a.length]=33:=by
   have h1:=drop_cons s a.length hj;rw [ea,List.drop_left]at h1;exact (List.cons.inj h1).1.symm
  have eA:s.extract 0 a.length=⟨a.toArray⟩:=bytes_eq (by rw [Lib.extract_data];exact htake)
  have eC:s.extract (a.length+1) s.size=⟨b.toArray⟩:=bytes_eq (by
   rw [Lib.extract_data,show s.data.toList.drop (a.length+1)=b by
    have h1:=drop_cons s a.length hj;rw [ea,List.drop_left]at h1;rw [ea];exact (List.cons.inj h1).2.symm]
   exact List.take_of_length_le (by omega))
  have HI:=fun W=>rid_any ⟨a.toArray⟩ W (by rw [size_mk];omega)
  simp only at HI
  rw [e1,e2];cases hi:idB a
  ·rw [hi]at HI
   exact (rref_none s _ _ w hs (by rw [size_mk];omega) a.length hj (by rw [hget];rfl) (by show _ ∉ _;rw [htake];exact hna) eA eC HI).mono fun e w' h=>h
  ·rw [hi]at HI
   obtain ⟨T,E,R,G,h⟩:=rt_of ⟨b.toArray⟩ (by rw [size_mk];omega)
   refine (rref_other s _ _ T E R G _ _ _ _ _ _ w hs (by rw [size_mk];omega) a.length hj (by rw [hget];rfl) (by show _ ∉ _;rw [htake];exact hna) eA eC HI h.hd1 h.hd2 h.hk h.hkT h.hT h.eE h.eR h.HK h.n0 h.n1 h.HN).mono fun e w' g=>⟨?_,g.2⟩
   rw [g.1,rf_eq a b,Bool.true_and]
 ·have ec:=cut_free 33 s.data.toList hno
  obtain ⟨e1,e2⟩:=ref_free ec;rw [e1,e2];obtain ⟨T,E,R,G,h⟩:=rt_of s hs;refine (rref_free s T E R G _ _ _ _ _ _ w hs hno h.hd1 h.hd2 h.hk h.hkT h.hT h.eE h.eR h.HK h.n0 h.n1 h.HN).mono fun e w' g=>⟨?_,g.2⟩
  rw [g.1];exact congrArg Ending.returned (rf_eq [] s.data.toList)
theorem quoF_le:∀ (l acc:List UInt8) (n:Nat) (t:List UInt8) (m:Nat),quoF l acc n=some (t,m)→n<m∧m≤n+l.length
 |[],_,_,_,_,h=>by simp [quoF]at h
 |[c],acc,n,t,m,h=>by
  unfold quoF at h
  split at h
  ·simp only [Option.some.injEq,Prod.mk.injEq]at h
   simp
   omega
  ·cases h
 |c::d::r,acc,n,t,m,h=>by
  unfold quoF at h
  split at h
  ·split at h
   ·have:=quoF_le r _ _ _ _ h
    simp
    omega
   ·simp only [Option.some.injEq,Prod.mk.injEq]at h
    simp
    omega
  ·have:=quoF_le (d::r) _ _ _ _ h
   simp at this ⊢
   omega
theorem prefix_len{l p:List UInt8}(h:Lib.hasPrefix l p=true):p.length≤l.length:=by
 unfold Lib.hasPrefix at h
 rw [List.isPrefixOf_iff_prefix]at h;exact h.length_le
theorem len_tw(l:List UInt8)(p:UInt8→Bool):(l.takeWhile p).length≤l.length:=(List.takeWhile_prefix _).length_le
theorem word_len(l:List UInt8):(wordF l).2.2≤l.length:=by
 unfold wordF
 split
 ·rename_i h
  have hl:0<l.length:=by
   cases l with
   |nil=>exact absurd h (by decide)
   |cons c r=>simp
  unfold quoW
  cases hq:quoF (l.drop 1) [] 1 with
  |none=>simp [quoP,bad]
  |some p=>
   obtain ⟨t,m⟩:=p;have:=quoF_le _ _ _ _ _ hq
   simp only [quoP]
   split
   ·rw [List.length_drop]at this
    simp only
    omega
   ·simp [bad]
 ·split
  ·unfold errW
   cases he:errF l with
   |none=>simp [errP,bad]
   |some e=>
    unfold errF at he
    have h2:=List.find?_some he;exact prefix_len h2
  ·split
   ·unfold joinW
    split
    ·simp [bad]
    ·exact len_tw _ _
   ·unfold sigW
    cases he:sigF l with
    |none=>simp [sigP,bad]
    |some e=>
     unfold sigF at he
     have h2:=List.find?_some he;exact prefix_len h2
def rwv(q:Nat × List UInt8 × Nat)(i:Nat):Value:=.tuple #[.agg #[.int .i64 (q.1:Int),.string ⟨q.2.1.toArray⟩,.int .i64 (if q.2.2=0 then 0 else (i:Int))],.int .i64 (q.2.2:Int)]
theorem ret_rw{q:Nat × List UInt8 × Nat}{i a n:Nat}{k m:Int}{s:ByteArray}{l:List UInt8}(h:q=(a,l,n))(hn:n≠0)(hk:k=(a:Int))(hs:s.data.toList=l)(hm:m=(n:Int)) :
  Ending.returned (.tuple #[.agg #[.int .i64 k,.string s,.int .i64 (i:Int)],.int .i64 m])=.returned (rwv q i):=by
 subst h hk hm hs;unfold rwv
 simp only [if_neg hn]
theorem ret_rbad{q:Nat × List UInt8 × Nat}{i:Nat}(h:q=bad) :
  Ending.returned (.tuple #[.agg #[.int .i64 0,.string ⟨#[]⟩,.int .i64 0],.int .i64 0])=.returned (rwv q i):=by
 subst h
 rfl
structure WB (w W:World):Prop where
 q:Q w W
 lt:w.heap.size<W.heap.size
 c0:W.cell? ⟨w.heap.size,0,none⟩=some (.int .i64 0)
 c1:W.cell? ⟨w.heap.size,1,none⟩=some (.string ⟨#[]⟩)
 c2:W.cell? ⟨w.heap.size,2,none⟩=some (.int .i64 0)
 f0:W.frozen? ⟨w.heap.size,0,none⟩=false
 f1:W.frozen? ⟨w.heap.size,1,none⟩=false
 f2:W.frozen? ⟨w.heap.size,2,none⟩=false
theorem WB.start(w:World):WB w (w.alloc (.cells #[.int .i64 0,.string ⟨#[]⟩,.int .i64 0] 74)):=by
 refine ⟨(Q.refl _).alloc _,by simp,?_,?_,?_,?_,?_,?_⟩
 all_goals simp [World.cell?_alloc_new,World.frozen?_alloc_new]
theorem WB.on{w W W':World}(h:WB w W)(q:Q W W'):WB w W':=
 ⟨h.q.trans q,q.lt h.lt,(q.cell h.lt).trans h.c0,(q.cell h.lt).trans h.c1,(q.cell h.lt).trans h.c2,
  (Below.frozen q (p:=⟨w.heap.size,0,none⟩) h.lt).trans h.f0,(Below.frozen q (p:=⟨w.heap.size,1,none⟩) h.lt).trans h.f1,(Below.frozen q (p:=⟨w.heap.size,2,none⟩) h.lt).trans h.f2⟩
structure RunAt (s:ByteArray) (i M:Nat) (T:ByteArray):Prop where
 lo:i<M
 le:M≤s.size
 eT:s.extract i M=T
 lT:T.data.toList=(s.data.toList.drop i).takeWhile joinB
 zT:T.size=M-i
 yes:∀ k (h:k<s.size),i≤k→k<M→joinB s[k]=true
 no:∀ (h:M<s.size),joinB s[M]=false
 beh:(s.data.toList.drop i).dropWhile joinB=s.data.toList.drop M
theorem run_at(s:ByteArray)(i:Nat)(h:i<s.size)(hj:joinB s[i]=true):∃ M T,RunAt s i M T∧M=i+((s.data.toList.drop i).takeWhile joinB).length:=by
 have hl:=tw_len (s.data.toList.drop i) joinB;rw [List.length_drop,len_data]at hl;have h1:0<((s.data.toList.drop i).takeWhile joinB).length:=by
  rw [drop_cons s i h,List.takeWhile_cons,if_pos hj];simp
 refine ⟨_,_,⟨by omega,by omega,rfl,?_,by simp;omega,fun k hk h2 h3=>?_,fun hk=>?_,?_⟩,rfl⟩
 ·rw [Lib.extract_data]
  simp only [Nat.add_sub_cancel_left]
  exact tw_take _ _
 ·have:=tw_in (s.data.toList.drop i) joinB (k-i) (by omega) (by rw [List.length_drop,len_data];omega)
  rw [List.getElem_drop]at this;have e:i+(k-i)=k:=by omega
  simp only [e]at this
  exact this
 ·have:=tw_out (s.data.toList.drop i) joinB (by rw [List.length_drop,len_data];omega)
  rw [List.getElem_drop]at this;exact this
 ·rw [←tw_drop,List.drop_drop]
theorem pk_pos{t:List UInt8}(h:Lib.hasPrefix t [45]=false):0≤V.pk (V.parseO t):=by
 unfold V.parseO
 rw [h]
 split
 ·unfold V.pk V.keep
  simp only
  split
  ·unfold V.sgn
   simp
  ·exact Int.le_refl _
 ·exact Int.le_refl _
theorem no_minus(T:ByteArray)(hp:0<T.size)(h:T[0]≠45):Lib.hasPrefix T.data.toList [45]=false:=by
 have:=headD_get T hp
 cases hl:T.data.toList with
 |nil=>rfl
 |cons c r=>
  rw [hl]at this;simp only [List.headD_cons]at this
  rw [←this]at h;rw [Bool.eq_false_iff];intro hx
  unfold Lib.hasPrefix at hx
  rw [List.isPrefixOf_iff_prefix,List.cons_prefix_cons]at hx;exact h hx.1.symm
theorem rword_num(s T:ByteArray)(i M:Nat)(w:World)(hs:s.size≤100000)(hi:i<s.size)(hr:RunAt s i M T)(hj:joinB s[i]=true)
  (hT0:0<T.size) (pn:Int) (HP:Hid (∀ W,Calls Tryz.prog 44 #[.string T] W fun e w'=>e=.returned (.tuple #[.int .i64 pn,.bool true])∧Q W w')) (pn0:0≤pn) (h45:((T[0].toNat:Int) == 45)=false)
  (HF:Hid (wordF (s.data.toList.drop i)=(1,T.data.toList,M-i))) :
  Calls Tryz.prog 72 #[.string s,.int .i64 (i:Int)] w fun e w'=>e=.returned (rwv (wordF (s.data.toList.drop i)) i)∧Q w w':=by
 obtain ⟨lo,le,eT,lT,zT,yes,no,beh⟩:=hr;have HY:=hid yes;have HN:=hid no;have HJ0:=hid (fun W=>solid_any s[i] W)
 rw [hj]at HJ0;have JJ:=hid (WB.start w);clear yes no lT beh hj;have hMi:(i:Int)≤(M:Int):=by omega
 have hMs:(M:Int)≤(s.size:Int):=by omega
 generalize wordF (s.data.toList.drop i)=wf at HF ⊢;go_enter Tryz.func72,Tryz.ntmps72
 go_wp2_with (go_at_call 102;refine (HJ0.out _).mono ?_;rintro e w9 ⟨rfl,h9⟩;replace h9:=h9.symm;subst h9)
 go_loop [6] (fun x=>∃ k:Nat,i≤k∧k≤M∧x=.int .i64 (k:Int)) (fun x=>s.size-(intOf x).toNat)
 case atStart=>exact ⟨i,by omega,by omega,rfl⟩
 case round=>
  obtain ⟨k,hk0,hk,rfl⟩:=hrel;by_cases hlt:k<M
  ·have hks:k<s.size:=by omega
   have HJ:=hid (fun W=>solid_any s[k] W)
   rw [HY.out k hks hk0 hlt]at HJ;go_wp2_with (go_at_call 102;refine (HJ.out _).mono ?_;rintro e w9 ⟨rfl,h9⟩;replace h9:=h9.symm;subst h9)
   go_round
   case rel=>exact ⟨k+1,by omega,by omega,by go_num⟩
   case measure=>simp [intOf];omega
  ·have e:k=M:=by omega
   subst e;clear hk hlt;by_cases hend:k<s.size
   ·have HJ:=hid (fun W=>solid_any s[k] W)
    rw [HN.out hend]at HJ;go_wp2_with (first|(go_at_call 102;refine (HJ.out _).mono ?_;rintro e w9 ⟨rfl,h9⟩;replace h9:=h9.symm;subst h9)|(go_at_call 44;refine (HP.out _).mono ?_;rintro e w1 ⟨rfl,q1⟩;have J1:=hid (JJ.out.on q1);clear q1;have d0:=J1.out.c0;have d1:=J1.out.c1;have d2:=J1.out.c2;have g0:=J1.out.f0;have g1:=J1.out.f1;have g2:=J1.out.f2))
    refine bodyPost_ret (v:=.tuple #[.agg #[.int .i64 1,.string T,.int .i64 (i:Int)],.int .i64 ((k:Int)-(i:Int))]) (by simp [results,Tryz.results72,go_sem,d0,d1,d2,g0,g1,g2]) rfl ⟨ret_rw HF.out (by omega) rfl rfl (by omega),?_⟩
    repeat' (first|with_reducible exact J1.out.q|with_reducible refine Q.setCell ?_ (Nat.le_refl _) _|with_reducible refine Q.drewN ?_ _|with_reducible refine Q.drew ?_|with_reducible refine Q.alloc ?_ _)
   ·go_wp2_with (first|(go_at_call 44;refine (HP.out _).mono ?_;rintro e w1 ⟨rfl,q1⟩;have J1:=hid (JJ.out.on q1);clear q1;have d0:=J1.out.c0;have d1:=J1.out.c1;have d2:=J1.out.c2;have g0:=J1.out.f0;have g1:=J1.out.f1;have g2:=J1.out.f2))
    refine bodyPost_ret (v:=.tuple #[.agg #[.int .i64 1,.string T,.int .i64 (i:Int)],.int .i64 ((k:Int)-(i:Int))]) (by simp [results,Tryz.results72,go_sem,d0,d1,d2,g0,g1,g2]) rfl ⟨ret_rw HF.out (by omega) rfl rfl (by omega),?_⟩
    repeat' (first|with_reducible exact J1.out.q|with_reducible refine Q.setCell ?_ (Nat.le_refl _) _|with_reducible refine Q.drewN ?_ _|with_reducible refine Q.drew ?_|with_reducible refine Q.alloc ?_ _)
end Go.Proofs.YtgheopdadfnilaaGreatDoor
