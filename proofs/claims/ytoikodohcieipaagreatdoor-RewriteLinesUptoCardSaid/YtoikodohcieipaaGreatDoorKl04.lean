/- counterpaneref5.num: what it r. -/
import Derived.Test.YtoikodohcieipaaGreatDoorKl00
import Derived.Deep.RegionHeld3
import Derived.Deep.CutBlock
import Derived.Deep.CutRange
import Derived.Laws.Bits64b
import Derived.Deep.RegionHeld
set_option linter.unusedVariables false
set_option linter.unusedSimpArgs false
set_option maxRecDepth 100000
set_option maxHeartbeats 8000000
namespace Go.Proofs.YtoikodohcieipaaGreatDoor
open Go.RowKit
theorem val_lt(l:List UInt8)(h:allD l=true):val l+1≤10 ^ l.length:=by
 revert h
 refine rev_ind (P:=fun l=>allD l=true→val l+1≤10 ^ l.length) (fun _=>by simp [val]) ?_ l
 ·intro l c ih h
  rw [allD_app,Bool.and_eq_true]at h;have h1:=ih h.1;have h2:=allD_mem h.2 (c:=c) (by simp)
  rw [val_snoc,List.length_append,List.length_singleton,Nat.pow_succ];omega
theorem val_fifteen(l:List UInt8)(h:allD l=true)(h9:l.length≤15):val l≤999999999999999:=by
 have h1:=val_lt l h;have h2:10 ^ l.length≤10 ^ 15:=Nat.pow_le_pow_right (by omega) h9
 omega
theorem num_any(s:ByteArray)(m:Nat)(M:Int)(w:World)(hM:Hid (M=(m:Int)))(M0:0≤M)(M1:M≤2199023255552)(hs:s.size≤9223372036854775807) :
  Calls Tryz.prog 96 #[.string s,.int .i64 M] w fun e w'=>e=.returned (.int .i64 (numR s.data.toList m))∧w'=w:=by
 have HF:∀ b:Bool,numF s.data.toList m=b→Hid (numR s.data.toList m=if b then (val s.data.toList:Int) else -1):=by
  intro b e
  show _=_
  unfold numR
  rw [e]
 have et:=hid (Lib.toList_data s);by_cases h0:s.size=0
 ·have e0:s.toList=[]:=by rw [Lib.toList_data];exact List.eq_nil_of_length_eq_zero (by rw [len_data];exact h0)
  have hF:=HF false (by rw [←et.out,e0];rfl)
  have h1:(s.size:Int)<1:=by omega
  clear h0;go_enter Tryz.func96,Tryz.ntmps96
  go_wp2
  go_ret
  exact ⟨ret_int (by rw [hF.out];rfl),rfl⟩
 ·have hp:0<s.size:=by omega
  by_cases hg:15<s.size
  ·have hF:=HF false (numF_long _ _ (by rw [len_data];exact hg) (by have:=hM.out;omega))
   have h1:¬ (s.size:Int)<1:=by omega
   clear h0;go_enter Tryz.func96,Tryz.ntmps96
   go_wp2
   go_ret
   exact ⟨ret_int (by rw [hF.out];rfl),rfl⟩
  have hh:=hid (headD_get s hp);by_cases hz:s[0]=48∧1<s.size
  ·have hF:=HF false (numF_zero (by rw [hh.out];exact hz.1) (by rw [len_data];exact hz.2))
   have hc:(s[0].toNat:Int)=48:=by rw [hz.1];rfl
   have h1:=hz.2;clear hz h0;go_enter Tryz.func96,Tryz.ntmps96
   go_wp2
   go_ret
   exact ⟨ret_int (by rw [hF.out];rfl),rfl⟩
  ·have HZ:Hid (¬ (s.data.toList.headD 0=48∧1<s.data.toList.length)):=by
    show ¬ _
    rw [hh.out,len_data];exact hz
   have hc:((s[0].toNat:Int) == 48)=false∨((s[0].toNat:Int)=48∧¬ 1<(s.size:Int)):=by
    by_cases h:s[0]=48
    ·exact .inr ⟨by rw [h];rfl,fun g=>hz ⟨h,by omega⟩⟩
    ·exact .inl (byte_ne (n:=48) (by omega) h)
   clear hz h0
   rcases hc with hc|⟨hc,h1⟩
   ·go_enter Tryz.func96,Tryz.ntmps96
    go_wp2
    go_loop [5,6] (fun a i=>∃ (k:Nat) (n:Int),k≤s.size∧i=.int .i64 k∧a=.int .i64 n∧0≤n∧n≤999999999999999∧Hid (allD (s.data.toList.take k)=true∧n=(val (s.data.toList.take k):Int))) (fun _ i=>s.size-(intOf i).toNat)
    case atStart=>exact ⟨0,0,Nat.zero_le _,rfl,rfl,by omega,by omega,rfl,rfl⟩
    case round=>
     obtain ⟨k,n,hk,rfl,rfl,n0,n1,hn⟩:=hrel;by_cases hlt:k<s.size
     ·by_cases hd:dig s[k]=true
      ·have b0:48≤(s[k].toNat:Int):=by unfold dig at hd;simp at hd;omega
       have b1:(s[k].toNat:Int)≤57:=by unfold dig at hd;simp at hd;omega
       have hv:Hid (allD (s.data.toList.take (k+1))=true∧(val (s.data.toList.take (k+1)):Int)=n*10+((s[k].toNat:Int)-48)):=by
        have:=hn.out
        refine ⟨?_,?_⟩
        ·rw [take_snoc s k hlt,allD_app,this.1]
         unfold allD
         simp [hd]
        ·rw [take_snoc s k hlt,val_snoc,this.2]
         omega
       have hb:=val_fifteen _ hv.out.1 (by rw [List.length_take];omega)
       have hb':n*10+((s[k].toNat:Int)-48)≤999999999999999:=by have:=hv.out.2;omega
       clear hd hb;go_wp2
       go_round
       case rel=>exact ⟨k+1,n*10+((s[k].toNat:Int)-48),by omega,by go_num,by go_num,by omega,by omega,hv.out.1,hv.out.2.symm⟩
       case measure=>simp [intOf];omega
      ·have hF:=HF false (numF_nodig (allD_no s k hlt (by simpa using hd)))
       by_cases b0:(s[k].toNat:Int)<48
       ·clear hd
        go_wp2
        go_ret
        exact ⟨ret_int (by rw [hF.out];rfl),rfl⟩
       ·have b1:57<(s[k].toNat:Int):=by unfold dig at hd;simp at hd;omega
        clear hd;go_wp2
        go_ret
        exact ⟨ret_int (by rw [hF.out];rfl),rfl⟩
     ·have hN:Hid (allD s.data.toList=true∧n=(val s.data.toList:Int)):=by have:=hn.out;rw [take_all s k (by omega)]at this;exact this
      by_cases hb:M<n
      ·have hF:=HF false (numF_great (by have:=hN.out.2;have:=hM.out;omega))
       go_wp2
       go_ret
       exact ⟨ret_int (by rw [hF.out];rfl),rfl⟩
      ·have hF:=HF true (numF_yes (ne_of_pos hp) HZ.out hN.out.1 (by have:=hN.out.2;have:=hM.out;omega))
       go_wp2
       go_ret
       exact ⟨ret_int (by rw [hF.out,hN.out.2];rfl),rfl⟩
   ·go_enter Tryz.func96,Tryz.ntmps96
    go_wp2
    go_loop [5,6] (fun a i=>∃ (k:Nat) (n:Int),k≤s.size∧i=.int .i64 k∧a=.int .i64 n∧0≤n∧n≤999999999999999∧Hid (allD (s.data.toList.take k)=true∧n=(val (s.data.toList.take k):Int))) (fun _ i=>s.size-(intOf i).toNat)
    case atStart=>exact ⟨0,0,Nat.zero_le _,rfl,rfl,by omega,by omega,rfl,rfl⟩
    case round=>
     obtain ⟨k,n,hk,rfl,rfl,n0,n1,hn⟩:=hrel;by_cases hlt:k<s.size
     ·by_cases hd:dig s[k]=true
      ·have b0:48≤(s[k].toNat:Int):=by unfold dig at hd;simp at hd;omega
       have b1:(s[k].toNat:Int)≤57:=by unfold dig at hd;simp at hd;omega
       have hv:Hid (allD (s.data.toList.take (k+1))=true∧(val (s.data.toList.take (k+1)):Int)=n*10+((s[k].toNat:Int)-48)):=by
        have:=hn.out
        refine ⟨?_,?_⟩
        ·rw [take_snoc s k hlt,allD_app,this.1]
         unfold allD
         simp [hd]
        ·rw [take_snoc s k hlt,val_snoc,this.2]
         omega
       have hb:=val_fifteen _ hv.out.1 (by rw [List.length_take];omega)
       have hb':n*10+((s[k].toNat:Int)-48)≤999999999999999:=by have:=hv.out.2;omega
       clear hd hb;go_wp2
       go_round
       case rel=>exact ⟨k+1,n*10+((s[k].toNat:Int)-48),by omega,by go_num,by go_num,by omega,by omega,hv.out.1,hv.out.2.symm⟩
       case measure=>simp [intOf];omega
      ·have hF:=HF false (numF_nodig (allD_no s k hlt (by simpa using hd)))
       by_cases b0:(s[k].toNat:Int)<48
       ·clear hd
        go_wp2
        go_ret
        exact ⟨ret_int (by rw [hF.out];rfl),rfl⟩
       ·have b1:57<(s[k].toNat:Int):=by unfold dig at hd;simp at hd;omega
        clear hd;go_wp2
        go_ret
        exact ⟨ret_int (by rw [hF.out];rfl),rfl⟩
     ·have hN:Hid (allD s.data.toList=true∧n=(val s.data.toList:Int)):=by have:=hn.out;rw [take_all s k (by omega)]at this;exact this
      by_cases hb:M<n
      ·have hF:=HF false (numF_great (by have:=hN.out.2;have:=hM.out;omega))
       go_wp2
       go_ret
       exact ⟨ret_int (by rw [hF.out];rfl),rfl⟩
      ·have hF:=HF true (numF_yes (ne_of_pos hp) HZ.out hN.out.1 (by have:=hN.out.2;have:=hM.out;omega))
       go_wp2
       go_ret
       exact ⟨ret_int (by rw [hF.out,hN.out.2];rfl),rfl⟩
theorem own_none0{s:ByteArray}(h:s.size=0∨∃ h:0<s.size,s[0]≠99):ownK s.data.toList=-1:=by
 unfold ownK
 rw [if_neg];unfold Lib.hasPrefix
 rcases h with h|⟨h,h0⟩
 ·rw [show s.data.toList=[] from List.eq_nil_of_length_eq_zero (by rw [len_data];exact h)]
  simp
 ·have e:=drop_cons s 0 h
  rw [List.drop_zero]at e;rw [e];simp [Ne.symm h0]
theorem own_c{s:ByteArray}(h:0<s.size)(h0:s[0]=99):ownK s.data.toList=ownP (Lib.cut (s.data.toList.drop 1) [110]):=by
 have e:=drop_cons s 0 h;rw [List.drop_zero,h0]at e;have hp:Lib.hasPrefix s.data.toList [99]=true:=by rw [e];unfold Lib.hasPrefix;simp
 unfold ownK
 rw [if_pos hp];unfold Lib.trimPrefix
 rw [if_pos hp]
 rfl
theorem ownP_R(a b:List UInt8):ownP (a,b,true)=if numR b 999999<0 then -1 else numR a 15:=by
 unfold ownP numR
 cases numF a 15 <;> cases numF b 999999 <;> simp <;> omega
theorem rowner_any(s:ByteArray)(w:World)(hs:s.size<4294967281) :
  Calls Tryz.prog 78 #[.string s] w fun e w'=>e=.returned (.int .i64 (ownK s.data.toList))∧w'=w:=by
 by_cases hz:s.size=0∨∃ h:0<s.size,s[0]≠99
 ·have HO:=hid (own_none0 hz)
  have hz':∀ h:0<s.size,((s[0].toNat:Int) == 99)=false:=fun h=>by
   rcases hz with g|⟨_,g⟩
   ·omega
   ·exact byte_ne (n:=99) (by omega) g
  clear hz;go_enter Tryz.func78,Tryz.ntmps78
  go_wp2
  go_loop [3] (fun i=>∃ k:Nat,1≤k∧k≤s.size+1∧i=.int .i64 k) (fun i=>s.size+1-(intOf i).toNat)
  case atStart=>exact ⟨1,by omega,by omega,rfl⟩
  case round=>
   obtain ⟨k,k1,hk,rfl⟩:=hrel;by_cases hlt:k<s.size
   ·have h0:=hz' (by omega)
    by_cases hn:s[k]=110
    ·have hn':(s[k].toNat:Int)=110:=by rw [hn];rfl
     clear hn;go_wp2
     go_round
     case rel=>exact ⟨k+1,by omega,by omega,by go_num⟩
     case measure=>simp [intOf];omega
    ·have hn':((s[k].toNat:Int) == 110)=false:=byte_ne (n:=110) (by omega) hn
     clear hn;go_wp2
     go_round
     case rel=>exact ⟨k+1,by omega,by omega,by go_num⟩
     case measure=>simp [intOf];omega
   ·go_wp2
    go_ret
    exact ⟨ret_int HO.out.symm,rfl⟩
 ·have hp:0<s.size:=by
   rcases Nat.eq_zero_or_pos s.size with h|h
   ·exact absurd (.inl h) hz
   ·exact h
  have hc:s[0]=99:=by
   by_cases h:s[0]=99
   ·exact h
   ·exact absurd (.inr ⟨hp,h⟩) hz
  have HO:=hid (own_c hp hc);have hc':(s[0].toNat:Int)=99:=by rw [hc];rfl
  clear hz hc;go_enter Tryz.func78,Tryz.ntmps78
  go_wp2
  go_loop [3] (fun i=>∃ k:Nat,1≤k∧k≤s.size∧i=.int .i64 k∧Hid ((110:UInt8) ∉ (s.data.toList.take k).drop 1)) (fun i=>s.size+1-(intOf i).toNat)
  case atStart=>exact ⟨1,by omega,by omega,rfl,by show _ ∉ _;rw [List.drop_take];simp⟩
  case round=>
   obtain ⟨k,k1,hk,rfl,ha⟩:=hrel;by_cases hlt:k<s.size
   ·by_cases hn:s[k]=110
    ·have hn':(s[k].toNat:Int)=110:=by rw [hn];rfl
     have eL:s.data.toList.drop 1=(s.data.toList.take k).drop 1++110::s.data.toList.drop (k+1):=by
      have e1:s.data.toList=s.data.toList.take k++s.data.toList.drop k:=(List.take_append_drop _ _).symm
      rw [drop_cons s k hlt,hn]at e1;have e2:=congrArg (List.drop 1) e1;rw [List.drop_append_of_le_length (by rw [List.length_take,len_data];omega)]at e2
      exact e2
     have HR:Hid (ownK s.data.toList=if numR (s.data.toList.drop (k+1)) 999999<0 then -1 else numR ((s.data.toList.take k).drop 1) 15):=by
      show _=_
      rw [HO.out,eL,cut_at 110 _ _ ha.out,ownP_R]
     have eA:(s.extract 1 k).data.toList=(s.data.toList.take k).drop 1:=by
      rw [Lib.extract_data,List.drop_take]
     have eB:(s.extract (k+1) s.size).data.toList=s.data.toList.drop (k+1):=by
      rw [Lib.extract_data];exact List.take_of_length_le (by rw [List.length_drop,len_data];omega)
     have HA:=hid (fun W=>num_any (s.extract 1 k) 15 15 W rfl (by omega) (by omega) (by simp only [ByteArray.size_extract];omega))
     have HB:=hid (fun W=>num_any (s.extract (k+1) s.size) 999999 999999 W rfl (by omega) (by omega) (by simp only [ByteArray.size_extract];omega))
     rw [eA]at HA;rw [eB]at HB;obtain ⟨A,qA⟩:∃ A,s.extract 1 k=A:=⟨_,rfl⟩;obtain ⟨B,qB⟩:∃ B,s.extract (k+1) s.size=B:=⟨_,rfl⟩;rw [qA]at HA;rw [qB]at HB;generalize numR ((s.data.toList.take k).drop 1) 15=X at *;generalize numR (s.data.toList.drop (k+1)) 999999=Y at *;clear hn eL eA eB HO;by_cases hY:Y<0
     ·go_wp2_with (first|(go_at_call_of 96 A;refine (HA.out _).mono ?_;rintro e w1 ⟨rfl,rfl⟩)|(go_at_call_of 96 B;refine (HB.out _).mono ?_;rintro e w2 ⟨rfl,rfl⟩))
      go_ret
      exact ⟨ret_int (by rw [HR.out,if_pos hY]),rfl⟩
     ·go_wp2_with (first|(go_at_call_of 96 A;refine (HA.out _).mono ?_;rintro e w1 ⟨rfl,rfl⟩)|(go_at_call_of 96 B;refine (HB.out _).mono ?_;rintro e w2 ⟨rfl,rfl⟩))
      go_ret
      exact ⟨ret_int (by rw [HR.out,if_neg (by omega)]),rfl⟩
    ·have hn':((s[k].toNat:Int) == 110)=false:=byte_ne (n:=110) (by omega) hn
     have ha':Hid ((110:UInt8) ∉ (s.data.toList.take (k+1)).drop 1):=by
      show _ ∉ _
      rw [take_snoc s k hlt,List.drop_append_of_le_length (by rw [List.length_take,len_data];omega),List.mem_append]
      intro h
      rcases h with h|h
      ·exact ha.out h
      ·simp at h
       exact hn h.symm
     clear hn;go_wp2
     go_round
     case rel=>exact ⟨k+1,by omega,by omega,by go_num,ha'⟩
     case measure=>simp [intOf];omega
   ·have HF:Hid (ownK s.data.toList=-1):=by
     show _=_
     have h1:=ha.out;rw [take_all s k (by omega)]at h1
     rw [HO.out,cut_free 110 _ h1]
     rfl
    go_wp2
    go_ret
    exact ⟨ret_int HF.out.symm,rfl⟩
theorem rid_any(s:ByteArray)(w:World)(hs:s.size<4294967281) :
  Calls Tryz.prog 60 #[.string s] w fun e w'=>e=.returned (.bool (idB s.data.toList))∧w'=w:=by
 have HO:=hid (fun W=>rowner_any s W hs)
 have HI:Hid (idB s.data.toList=decide (0≤ownK s.data.toList)):=rfl
 generalize ownK s.data.toList=K at *;clear hs;go_enter Tryz.func60,Tryz.ntmps60
 go_wp2_with (go_at_call 78;refine (HO.out _).mono ?_;rintro e w1 ⟨rfl,rfl⟩)
 go_ret
 exact ⟨ret_bool HI.out.symm,rfl⟩
abbrev rv (sh:ByteArray) (row col:Int) (ra ca:Bool):Value:=.agg #[.string sh,.int .i64 row,.int .i64 col,.bool ra,.bool ca]
def mayR(sh:List UInt8)(row col:Int):Bool:=(sh.isEmpty || idB sh)&&(decide (0≤row∧row<2199023255552)&&decide (0≤col∧col<2199023255552))
theorem rmay_any(sh:ByteArray)(row col:Int)(ra ca:Bool)(w:World)(hs:sh.size≤4000000000) :
  Calls Tryz.prog 32 #[rv sh row col ra ca] w fun e w'=>e=.returned (.bool (mayR sh.data.toList row col))∧Q w w':=by
 have HI:=hid (fun W=>rid_any sh W (by omega))
 have HV:Hid (mayR sh.data.toList row col=((sh.data.toList.isEmpty || idB sh.data.toList)&&(decide (0≤row∧row<2199023255552)&&decide (0≤col∧col<2199023255552)))):=rfl
 have et:=hid (Lib.toList_data sh);have main:∀ X:Bool,(sh.data.toList.isEmpty || idB sh.data.toList)=X→Hid (mayR sh.data.toList row col=(X&&(decide (0≤row∧row<2199023255552)&&decide (0≤col∧col<2199023255552)))):=fun X e=>by show _=_;rw [HV.out,e]
 by_cases he:sh.toList=[]
 ·have HX:=main true (by rw [←et.out,he];rfl)
  have he':(sh.toList == [])=true:=by rw [he];rfl
  clear main HV;by_cases a:0≤row
  ·by_cases b:row<2199023255552
   ·by_cases c:0≤col
    ·by_cases d:col<2199023255552
     ·go_enter Tryz.func32,Tryz.ntmps32
      go_wp2
      go_ret
      exact ⟨ret_bool (by rw [HX.out,Bool.eq_iff_iff];simp;omega),(Q.refl _).alloc _⟩
     ·go_enter Tryz.func32,Tryz.ntmps32
      go_wp2
      go_ret
      exact ⟨ret_bool (by rw [HX.out,Bool.eq_iff_iff];simp;omega),(Q.refl _).alloc _⟩
    ·go_enter Tryz.func32,Tryz.ntmps32
     go_wp2
     go_ret
     exact ⟨ret_bool (by rw [HX.out,Bool.eq_iff_iff];simp;omega),(Q.refl _).alloc _⟩
   ·go_enter Tryz.func32,Tryz.ntmps32
    go_wp2
    go_ret
    exact ⟨ret_bool (by rw [HX.out,Bool.eq_iff_iff];simp;omega),(Q.refl _).alloc _⟩
  ·go_enter Tryz.func32,Tryz.ntmps32
   go_wp2
   go_ret
   exact ⟨ret_bool (by rw [HX.out,Bool.eq_iff_iff];simp;omega),(Q.refl _).alloc _⟩
 ·have he':(sh.toList == [])=false:=by simpa using he
  have hei:sh.data.toList.isEmpty=false:=by
   rw [←et.out];cases hh:sh.toList
   ·exact absurd hh he
   ·rfl
  cases hB:idB sh.data.toList
  ·have HX:=main false (by rw [hei,hB];rfl)
   rw [hB]at HI;clear main HV he hei;go_enter Tryz.func32,Tryz.ntmps32
   go_wp2_with (go_at_call 60;refine (HI.out _).mono ?_;rintro e w1 ⟨rfl,rfl⟩)
   go_ret
   exact ⟨ret_bool (by rw [HX.out];rfl),(Q.refl _).alloc _⟩
  ·have HX:=main true (by rw [hei,hB];rfl)
   rw [hB]at HI;clear main HV he hei;by_cases a:0≤row
   ·by_cases b:row<2199023255552
    ·by_cases c:0≤col
     ·by_cases d:col<2199023255552
      ·go_enter Tryz.func32,Tryz.ntmps32
       go_wp2_with (go_at_call 60;refine (HI.out _).mono ?_;rintro e w1 ⟨rfl,rfl⟩)
       go_ret
       exact ⟨ret_bool (by rw [HX.out,Bool.eq_iff_iff];simp;omega),(Q.refl _).alloc _⟩
      ·go_enter Tryz.func32,Tryz.ntmps32
       go_wp2_with (go_at_call 60;refine (HI.out _).mono ?_;rintro e w1 ⟨rfl,rfl⟩)
       go_ret
       exact ⟨ret_bool (by rw [HX.out,Bool.eq_iff_iff];simp;omega),(Q.refl _).alloc _⟩
     ·go_enter Tryz.func32,Tryz.ntmps32
      go_wp2_with (go_at_call 60;refine (HI.out _).mono ?_;rintro e w1 ⟨rfl,rfl⟩)
      go_ret
      exact ⟨ret_bool (by rw [HX.out,Bool.eq_iff_iff];simp;omega),(Q.refl _).alloc _⟩
    ·go_enter Tryz.func32,Tryz.ntmps32
     go_wp2_with (go_at_call 60;refine (HI.out _).mono ?_;rintro e w1 ⟨rfl,rfl⟩)
     go_ret
     exact ⟨ret_bool (by rw [HX.out,Bool.eq_iff_iff];simp;omega),(Q.refl _).alloc _⟩
   ·go_enter Tryz.func32,Tryz.ntmps32
    go_wp2_with (go_at_call 60;refine (HI.out _).mono ?_;rintro e w1 ⟨rfl,rfl⟩)
    go_ret
    exact ⟨ret_bool (by rw [HX.out,Bool.eq_iff_iff];simp;omega),(Q.refl _).alloc _⟩
end Go.Proofs.YtoikodohcieipaaGreatDoor
namespace Go.Proofs.YtoikodohcieipaaGreatDoor
open Go.RowKit Go.Sort
theorem dec_small{m:Nat}(h:m<10):Lib.decDigits m=[UInt8.ofNat (48+m % 10)]:=by
 rw [Lib.decDigits_one h,Nat.mod_eq_of_lt h]
theorem nDigits_le(N:Nat)(h:N<18446744073709551616):Lib.nDigits N≤20:=by
 rcases Nat.eq_zero_or_pos N with h0|h0
 ·subst h0
  have h1:=congrArg List.length (dec_small (m:=0) (by omega))
  rw [Lib.decDigits_length]at h1;have h2:([UInt8.ofNat (48+0 % 10)]:List UInt8).length=1:=rfl
  omega
 ·have:=Lib.numDigits_eq N h0 h
  split at this <;> omega
theorem Q.grow(w:World)(k:Nat)(os:Array Obj):Q w (grow (w.drewN k) os):=by
 refine Q.trans ((Q.refl w).drewN k) ?_
 refine ⟨rfl,rfl,rfl,by simp [Go.Sort.grow],fun i hi=>?_⟩
 show ((w.drewN k).heap++os)[i]?=(w.drewN k).heap[i]?
 rw [Array.getElem?_append_left hi]
def shX(sh:List UInt8):List UInt8:=if sh.isEmpty then [] else sh++[33]
def prL(sh:List UInt8)(row col:Int)(ra ca:Bool):List UInt8:=(((shX sh++sgS ca)++cnL col)++sgS ra)++Lib.decDigits (row+1).toNat
def prR(sh:List UInt8)(row col:Int)(ra ca:Bool):List UInt8:=if mayR sh row col then prL sh row col ra ca else []
theorem sg_len(b:Bool):(sgS b).length≤1:=by cases b <;> decide
theorem cn_len(n:Int):(cnL n).length≤9:=by
 unfold cnL
 split
 ·exact nm_nine _ (by omega)
 ·simp
theorem shX_len(l:List UInt8):(shX l).length≤l.length+1:=by
 unfold shX
 split
 ·simp
 ·simp
theorem dec_len(u:Nat)(h:u≤2199023255552):(Lib.decDigits u).length≤20:=by
 rw [Lib.decDigits_length];exact nDigits_le u (by omega)
structure Cat (SH SA NM SB DC X1 X2 X3 X4:ByteArray):Prop where
 e1:SH++SA=X1
 e2:X1++NM=X2
 e3:X2++SB=X3
 e4:X3++DC=X4
 z0:SH.size≤100000
 z1:X1.size≤100000
 z2:X2.size≤100000
 z3:X3.size≤100000
 z4:X4.size≤100000
 y1:SA.size≤100000
 y2:NM.size≤100000
 y3:SB.size≤100000
 y4:DC.size≤100000
theorem cat_of(sh:List UInt8)(row col:Int)(ra ca:Bool)(hs:sh.length≤1000)(r0:0≤row)(r1:row<2199023255552) :
  ∃ X1 X2 X3,Cat ⟨(shX sh).toArray⟩ ⟨(sgS ca).toArray⟩ ⟨(cnL col).toArray⟩ ⟨(sgS ra).toArray⟩ ⟨(Lib.decDigits (row+1).toNat).toArray⟩ X1 X2 X3 ⟨(prL sh row col ra ca).toArray⟩:=by
 have h1:=shX_len sh;have h2:=sg_len ca;have h3:=sg_len ra;have h4:=cn_len col;have h5:=dec_len (row+1).toNat (by omega)
 refine ⟨⟨(shX sh++sgS ca).toArray⟩,⟨((shX sh++sgS ca)++cnL col).toArray⟩,⟨(((shX sh++sgS ca)++cnL col)++sgS ra).toArray⟩,bytes_cat _ _,bytes_cat _ _,bytes_cat _ _,bytes_cat _ _,?_,?_,?_,?_,?_,?_,?_,?_,?_⟩
 all_goals
  rw [size_mk]
  try unfold prL
  try simp only [List.length_append]
  omega
theorem fmt_any(n:Int)(w:World)(hw:Lib.TabIs Tryz.prog w "internal/strconv.uint64pow10" .u64 Lib.pow10Tab)(n0:0≤n)(n1:n≤2199023255552) :
  Calls Tryz.prog 112 #[.int .i64 n,.int .i64 10] w fun e w'=>e=.returned (.string ⟨(Lib.decDigits n.toNat).toArray⟩)∧Q w w':=by
 refine (Tryz.strconv_FormatInt_10 n (by omega) (by omega) w hw).mono ?_
 rintro e w' ⟨rfl,k,os,rfl⟩
 refine ⟨ret_str ?_,Q.grow w k os⟩
 obtain ⟨m,rfl⟩:=Int.eq_ofNat_of_zero_le n0
 rfl
structure PB (w W:World) (sh:ByteArray) (row col:Int) (ra ca:Bool):Prop where
 q:Q w W
 c0:W.cell? ⟨w.heap.size,0,none⟩=some (.string sh)
 c1:W.cell? ⟨w.heap.size,1,none⟩=some (.int .i64 row)
 c2:W.cell? ⟨w.heap.size,2,none⟩=some (.int .i64 col)
 c3:W.cell? ⟨w.heap.size,3,none⟩=some (.bool ra)
 c4:W.cell? ⟨w.heap.size,4,none⟩=some (.bool ca)
theorem PB.start(w:World)(sh:ByteArray)(row col:Int)(ra ca:Bool):PB w (w.alloc (.cells #[.string sh,.int .i64 row,.int .i64 col,.bool ra,.bool ca] 40)) sh row col ra ca:=by
 refine ⟨(Q.refl _).alloc _,?_,?_,?_,?_,?_⟩ <;> (rw [World.cell?_alloc_new];rfl)
theorem PB.on{w W W':World}{sh:ByteArray}{row col:Int}{ra ca:Bool}(h:PB w W sh row col ra ca)(q:Q W W'):PB w W' sh row col ra ca:=by
 have hb:w.heap.size<W.heap.size:=World.block_lt_of_cell? W ⟨w.heap.size,0,none⟩ h.c0
 exact ⟨h.q.trans q,by rw [q.cell hb];exact h.c0,by rw [q.cell hb];exact h.c1,by rw [q.cell hb];exact h.c2,by rw [q.cell hb];exact h.c3,by rw [q.cell hb];exact h.c4⟩
end Go.Proofs.YtoikodohcieipaaGreatDoor
namespace Go.Proofs.YtoikodohcieipaaGreatDoor
open Go.RowKit
theorem print_plain(sh SH SA NM SB DC X1 X2 X3 X4:ByteArray)(row col:Int)(ra ca:Bool)(w:World)(hz:sh.size≤1000)
  (HM1:Hid (∀ W,Calls Tryz.prog 108 #[.int .i64 row] W fun e w'=>e=.returned (.bool true)∧w'=W))
  (HM2:Hid (∀ W,Calls Tryz.prog 108 #[.int .i64 col] W fun e w'=>e=.returned (.bool true)∧w'=W))
  (hE:(sh.toList == [])=true)
  (HS1:Hid (∀ W,Calls Tryz.prog 110 #[.bool ca] W fun e w'=>e=.returned (.string SA)∧w'=W))
  (HS2:Hid (∀ W,Calls Tryz.prog 110 #[.bool ra] W fun e w'=>e=.returned (.string SB)∧w'=W))
  (HN:Hid (∀ W,Calls Tryz.prog 111 #[.int .i64 col] W fun e w'=>e=.returned (.string NM)∧Q W w'))
  (HF:Hid (∀ W,Q w W→Calls Tryz.prog 112 #[.int .i64 (row+1),.int .i64 10] W fun e w'=>e=.returned (.string DC)∧Q W w'))
  (r0:0≤row) (r1:row<2199023255552) (hc:Cat ⟨#[]⟩ SA NM SB DC X1 X2 X3 X4) :
  Calls Tryz.prog 105 #[rv sh row col ra ca] w fun e w'=>e=.returned (.string X4)∧Q w w':=by
 obtain ⟨e1,e2,e3,e4,z0,z1,z2,z3,z4,y1,y2,y3,y4⟩:=hc;have k1:¬ 9223372036854775807<SA.size:=by omega
 have k2:¬ 9223372036854775807<X1.size+NM.size:=by omega
 have k3:¬ 9223372036854775807<X2.size+SB.size:=by omega
 have k4:¬ 9223372036854775807<X3.size+DC.size:=by omega
 have hwr:IntKind.i64.wrap (row+1)=row+1:=by rw [IntKind.wrap_i64];omega
 have J:=hid (PB.start w sh row col ra ca);go_enter Tryz.func105,Tryz.ntmps105
 go_upto_region 8 with (first|(go_at_call_of 108 row;refine (HM1.out _).mono ?_;rintro e w1 ⟨rfl,rfl⟩)|(go_at_call_of 108 col;refine (HM2.out _).mono ?_;rintro e w1 ⟨rfl,rfl⟩))
 have hk0:Hid ((w.alloc (.cells #[.string sh,.int .i64 row,.int .i64 col,.bool ra,.bool ca] 40)).drew.cell? ⟨w.heap.size,1,none⟩=some (.int .i64 row)∧(w.alloc (.cells #[.string sh,.int .i64 row,.int .i64 col,.bool ra,.bool ca] 40)).drew.cell? ⟨w.heap.size,2,none⟩=some (.int .i64 col)∧(w.alloc (.cells #[.string sh,.int .i64 row,.int .i64 col,.bool ra,.bool ca] 40)).drew.cell? ⟨w.heap.size,3,none⟩=some (.bool ra)∧(w.alloc (.cells #[.string sh,.int .i64 row,.int .i64 col,.bool ra,.bool ca] 40)).drew.cell? ⟨w.heap.size,4,none⟩=some (.bool ca)):=⟨J.out.c1,J.out.c2,J.out.c3,J.out.c4⟩
 go_region_held3 (fun W=>W.cell? ⟨w.heap.size,1,none⟩=some (.int .i64 row)∧W.cell? ⟨w.heap.size,2,none⟩=some (.int .i64 col)∧W.cell? ⟨w.heap.size,3,none⟩=some (.bool ra)∧W.cell? ⟨w.heap.size,4,none⟩=some (.bool ca)) (with_reducible (first|exact hk0.out|exact hk1.out|exact hk2.out))
  (first
   |(go_at_call_of 110 ca;refine (HS1.out _).mono ?_;rintro r w9 ⟨rfl,rfl⟩)
   |(go_at_call_of 110 ra;refine (HS2.out _).mono ?_;rintro r w9 ⟨rfl,rfl⟩)
   |(go_at_call 111;refine (HN.out _).mono ?_;rintro r w5 ⟨rfl,q5⟩;replace J:=hid (J.out.on (Q.trans (Q.drew (Q.refl _)) q5));have hk1:Hid (w5.cell? ⟨w.heap.size,1,none⟩=some (.int .i64 row)∧w5.cell? ⟨w.heap.size,2,none⟩=some (.int .i64 col)∧w5.cell? ⟨w.heap.size,3,none⟩=some (.bool ra)∧w5.cell? ⟨w.heap.size,4,none⟩=some (.bool ca)):=⟨J.out.c1,J.out.c2,J.out.c3,J.out.c4⟩)
   |(go_at_call 112;refine (HF.out _ J.out.q).mono ?_;rintro r w6 ⟨rfl,q6⟩;replace J:=hid (J.out.on q6);have hk2:Hid (w6.cell? ⟨w.heap.size,1,none⟩=some (.int .i64 row)∧w6.cell? ⟨w.heap.size,2,none⟩=some (.int .i64 col)∧w6.cell? ⟨w.heap.size,3,none⟩=some (.bool ra)∧w6.cell? ⟨w.heap.size,4,none⟩=some (.bool ca)):=⟨J.out.c1,J.out.c2,J.out.c3,J.out.c4⟩))
 go_wp2
 go_ret
 exact ⟨rfl,J.out.q⟩
theorem print_sheet(sh SH SA NM SB DC X1 X2 X3 X4:ByteArray)(row col:Int)(ra ca:Bool)(w:World)(hz:sh.size≤1000)
  (HM1:Hid (∀ W,Calls Tryz.prog 108 #[.int .i64 row] W fun e w'=>e=.returned (.bool true)∧w'=W))
  (HM2:Hid (∀ W,Calls Tryz.prog 108 #[.int .i64 col] W fun e w'=>e=.returned (.bool true)∧w'=W))
  (hE:(sh.toList == [])=false)
  (HI:Hid (∀ W,Q w W→Calls Tryz.prog 109 #[.string sh] W fun e w'=>e=.returned (.bool true)∧Q W w')) (eS:sh++⟨#[33]⟩=SH)
  (HS1:Hid (∀ W,Calls Tryz.prog 110 #[.bool ca] W fun e w'=>e=.returned (.string SA)∧w'=W))
  (HS2:Hid (∀ W,Calls Tryz.prog 110 #[.bool ra] W fun e w'=>e=.returned (.string SB)∧w'=W))
  (HN:Hid (∀ W,Calls Tryz.prog 111 #[.int .i64 col] W fun e w'=>e=.returned (.string NM)∧Q W w'))
  (HF:Hid (∀ W,Q w W→Calls Tryz.prog 112 #[.int .i64 (row+1),.int .i64 10] W fun e w'=>e=.returned (.string DC)∧Q W w'))
  (r0:0≤row) (r1:row<2199023255552) (hc:Cat SH SA NM SB DC X1 X2 X3 X4) :
  Calls Tryz.prog 105 #[rv sh row col ra ca] w fun e w'=>e=.returned (.string X4)∧Q w w':=by
 obtain ⟨e1,e2,e3,e4,z0,z1,z2,z3,z4,y1,y2,y3,y4⟩:=hc;have k1:¬ 9223372036854775807<SH.size+SA.size:=by omega
 have k2:¬ 9223372036854775807<X1.size+NM.size:=by omega
 have k3:¬ 9223372036854775807<X2.size+SB.size:=by omega
 have k4:¬ 9223372036854775807<X3.size+DC.size:=by omega
 have hwr:IntKind.i64.wrap (row+1)=row+1:=by rw [IntKind.wrap_i64];omega
 have J:=hid (PB.start w sh row col ra ca);go_enter Tryz.func105,Tryz.ntmps105
 go_upto_region 8 with (first|(go_at_call_of 108 row;refine (HM1.out _).mono ?_;rintro e w1 ⟨rfl,rfl⟩)|(go_at_call_of 108 col;refine (HM2.out _).mono ?_;rintro e w1 ⟨rfl,rfl⟩)|(go_at_call 109;refine (HI.out _ (by repeat (first|exact Q.refl _|refine Q.drewN ?_ _|refine Q.alloc ?_ _))).mono ?_;rintro e w3 ⟨rfl,q3⟩;replace J:=hid (J.out.on q3);have d0:=J.out.c0;have d1:=J.out.c1;have d2:=J.out.c2;have d3:=J.out.c3;have d4:=J.out.c4))
 have hk0:Hid (w3.drew.cell? ⟨w.heap.size,1,none⟩=some (.int .i64 row)∧w3.drew.cell? ⟨w.heap.size,2,none⟩=some (.int .i64 col)∧w3.drew.cell? ⟨w.heap.size,3,none⟩=some (.bool ra)∧w3.drew.cell? ⟨w.heap.size,4,none⟩=some (.bool ca)):=⟨J.out.c1,J.out.c2,J.out.c3,J.out.c4⟩
 go_region_held3 (fun W=>W.cell? ⟨w.heap.size,1,none⟩=some (.int .i64 row)∧W.cell? ⟨w.heap.size,2,none⟩=some (.int .i64 col)∧W.cell? ⟨w.heap.size,3,none⟩=some (.bool ra)∧W.cell? ⟨w.heap.size,4,none⟩=some (.bool ca)) (with_reducible (first|exact hk0.out|exact hk1.out|exact hk2.out))
  (first
   |(go_at_call_of 110 ca;refine (HS1.out _).mono ?_;rintro r w9 ⟨rfl,rfl⟩)
   |(go_at_call_of 110 ra;refine (HS2.out _).mono ?_;rintro r w9 ⟨rfl,rfl⟩)
   |(go_at_call 111;refine (HN.out _).mono ?_;rintro r w5 ⟨rfl,q5⟩;replace J:=hid (J.out.on (Q.trans (Q.drew (Q.refl _)) q5));have hk1:Hid (w5.cell? ⟨w.heap.size,1,none⟩=some (.int .i64 row)∧w5.cell? ⟨w.heap.size,2,none⟩=some (.int .i64 col)∧w5.cell? ⟨w.heap.size,3,none⟩=some (.bool ra)∧w5.cell? ⟨w.heap.size,4,none⟩=some (.bool ca)):=⟨J.out.c1,J.out.c2,J.out.c3,J.out.c4⟩)
   |(go_at_call 112;refine (HF.out _ J.out.q).mono ?_;rintro r w6 ⟨rfl,q6⟩;replace J:=hid (J.out.on q6);have hk2:Hid (w6.cell? ⟨w.heap.size,1,none⟩=some (.int .i64 row)∧w6.cell? ⟨w.heap.size,2,none⟩=some (.int .i64 col)∧w6.cell? ⟨w.heap.size,3,none⟩=some (.bool ra)∧w6.cell? ⟨w.heap.size,4,none⟩=some (.bool ca)):=⟨J.out.c1,J.out.c2,J.out.c3,J.out.c4⟩))
 go_wp2
 go_ret
 exact ⟨rfl,J.out.q⟩
end Go.Proofs.YtoikodohcieipaaGreatDoor
namespace Go.Proofs.YtoikodohcieipaaGreatDoor.V
open Go.RowKit
theorem or_nat(a b:Nat)(ha:a<4294967296)(hb:b<4294967296):bits BinOp.or IntKind.u64 (a:Int) (b:Int)=((a ||| b:Nat):Int)∧a ||| b<4294967296:=by
 refine ⟨bits_or_u64_nat a b (by omega) (by omega),?_⟩
 exact Nat.or_lt_two_pow (n:=32) ha hb
theorem or_four(a b c d:Int)(a0:0≤a)(a1:a<4294967296)(b0:0≤b)(b1:b<4294967296)(c0:0≤c)(c1:c<4294967296)(d0:0≤d)(d1:d<4294967296)(h:0<a∨0<b∨0<c∨0<d) :
  (bits BinOp.or IntKind.u64 (bits BinOp.or IntKind.u64 (bits BinOp.or IntKind.u64 a b) c) d != 0)=true:=by
 obtain ⟨a,rfl⟩:=Int.eq_ofNat_of_zero_le a0;obtain ⟨b,rfl⟩:=Int.eq_ofNat_of_zero_le b0;obtain ⟨c,rfl⟩:=Int.eq_ofNat_of_zero_le c0;obtain ⟨d,rfl⟩:=Int.eq_ofNat_of_zero_le d0;obtain ⟨e1,l1⟩:=or_nat a b (by omega) (by omega)
 obtain ⟨e2,l2⟩:=or_nat (a ||| b) c l1 (by omega)
 obtain ⟨e3,_⟩:=or_nat (a ||| b ||| c) d l2 (by omega)
 rw [e1,e2,e3,bne_iff_ne];intro hz
 have hz':a ||| b ||| c ||| d=0:=by omega
 rw [Nat.or_eq_zero_iff,Nat.or_eq_zero_iff,Nat.or_eq_zero_iff]at hz';omega
theorem fix_big(a0 a1 a2 a3 a4 a5 a:Int)(neg:Bool)(w:World)(ha:Dg a0 a1 a2 a3 a4 a5 a)(h:18446744073709551616≤a) :
  Calls Tryz.prog 100 #[.agg #[.int .u64 a0,.int .u64 a1,.int .u64 a2,.int .u64 a3,.int .u64 a4,.int .u64 a5],.bool neg] w fun e w'=>e=.returned (.tuple #[.int .i64 (keep (sgn a neg)),.bool (fitB (sgn a neg))])∧Q w w':=by
 have hf:fitB (sgn a neg)=false:=by
  apply fitB_no
  cases neg
  ·show a<_∨_<a;omega
  ·show -a<_∨_ < -a;omega
 rw [hf,keep_no hf];obtain ⟨x0,y0,x1,y1,x2,y2,x3,y3,x4,y4,x5,y5,ea⟩:=ha;have hb:=or_four a2 a3 a4 a5 x2 y2 x3 y3 x4 y4 x5 y5 (by omega)
 clear ea h hf;go_enter Tryz.func100,Tryz.ntmps100
 go_wp2
 go_ret2
 exact ⟨rfl,(by repeat (first|exact Q.refl _|refine Q.drew ?_|refine Q.alloc ?_ _))⟩
theorem fix_facts(a0 a1 a2 a3 a4 a5 a:Int)(ha:Dg a0 a1 a2 a3 a4 a5 a)(h:a<18446744073709551616):a2=0∧a3=0∧a4=0∧a5=0∧0≤a∧a0+a1*4294967296=a:=by
 obtain ⟨x0,y0,x1,y1,x2,y2,x3,y3,x4,y4,x5,y5,ea⟩:=ha;omega
theorem fix_small(a0 a1 a:Int)(neg:Bool)(w:World)(x0:0≤a0)(y0:a0<4294967296)(x1:0≤a1)(y1:a1<4294967296)(e:Hid (a0+a1*4294967296=a)) :
  Calls Tryz.prog 100 #[.agg #[.int .u64 a0,.int .u64 a1,.int .u64 0,.int .u64 0,.int .u64 0,.int .u64 0],.bool neg] w fun e w'=>e=.returned (.tuple #[.int .i64 (keep (sgn a neg)),.bool (fitB (sgn a neg))])∧Q w w':=by
 cases neg
 ·have es:sgn a false=a:=rfl
  rw [es];clear es;by_cases h:a<9223372036854775808
  ·have hf:fitB a=true:=fitB_yes (by have:=e.out;omega) (by omega)
   rw [hf,keep_yes hf];have h1:a0+a1*4294967296<9223372036854775808:=by have:=e.out;omega
   clear hf h;go_enter Tryz.func100,Tryz.ntmps100
   go_wp2
   go_ret2
   exact ⟨ret_pair e.out,(by repeat (first|exact Q.refl _|refine Q.drew ?_|refine Q.alloc ?_ _))⟩
  ·have hf:fitB a=false:=fitB_no (by omega)
   rw [hf,keep_no hf];have h1:9223372036854775808≤a0+a1*4294967296:=by have:=e.out;omega
   clear hf h;go_enter Tryz.func100,Tryz.ntmps100
   go_wp2
   go_ret2
   exact ⟨rfl,(by repeat (first|exact Q.refl _|refine Q.drew ?_|refine Q.alloc ?_ _))⟩
 ·have es:sgn a true=-a:=rfl
  rw [es];clear es;by_cases h:9223372036854775808<a
  ·have hf:fitB (-a)=false:=fitB_no (by omega)
   rw [hf,keep_no hf];have h1:9223372036854775808<a0+a1*4294967296:=by have:=e.out;omega
   clear hf h;go_enter Tryz.func100,Tryz.ntmps100
   go_wp2
   go_ret2
   exact ⟨rfl,(by repeat (first|exact Q.refl _|refine Q.drew ?_|refine Q.alloc ?_ _))⟩
  ·have hf:fitB (-a)=true:=fitB_yes (by omega) (by have:=e.out;omega)
   rw [hf,keep_yes hf];have h1:a0+a1*4294967296≤9223372036854775808:=by have:=e.out;omega
   by_cases hz:a=0
   ·have z0:a0=0:=by have:=e.out;omega
    have z1:a1=0:=by have:=e.out;omega
    subst hz z0 z1;clear hf h h1;go_enter Tryz.func100,Tryz.ntmps100
    go_wp2
    go_ret2
    exact ⟨rfl,(by repeat (first|exact Q.refl _|refine Q.drew ?_|refine Q.alloc ?_ _))⟩
   ·have h2:0<a0+a1*4294967296:=by have:=e.out;omega
    clear hf h hz;go_enter Tryz.func100,Tryz.ntmps100
    go_wp2
    go_ret2
    exact ⟨ret_pair (by have:=e.out;omega),(by repeat (first|exact Q.refl _|refine Q.drew ?_|refine Q.alloc ?_ _))⟩
theorem fix_any(a0 a1 a2 a3 a4 a5 a:Int)(neg:Bool)(w:World)(ha:Dg a0 a1 a2 a3 a4 a5 a) :
  Calls Tryz.prog 100 #[.agg #[.int .u64 a0,.int .u64 a1,.int .u64 a2,.int .u64 a3,.int .u64 a4,.int .u64 a5],.bool neg] w fun e w'=>e=.returned (.tuple #[.int .i64 (keep (sgn a neg)),.bool (fitB (sgn a neg))])∧Q w w':=by
 by_cases h:a<18446744073709551616
 ·obtain ⟨rfl,rfl,rfl,rfl,_,e⟩:=fix_facts a0 a1 a2 a3 a4 a5 a ha h
  exact fix_small a0 a1 a neg w ha.l0 ha.h0 ha.l1 ha.h1 e
 ·exact fix_big a0 a1 a2 a3 a4 a5 a neg w ha (by omega)
theorem one_exact(n:Int)(w:World)(h0:0≤n)(h1:n<18446744073709551616) :
  Calls Tryz.prog 99 #[.int .u64 n] w fun e w'=>e=.returned (.agg #[.int .u64 (n % 4294967296),.int .u64 (n / 4294967296),.int .u64 0,.int .u64 0,.int .u64 0,.int .u64 0])∧∃ o1 o2:Obj,w'=(w.alloc o1).alloc o2:=by
 go_enter Tryz.func99,Tryz.ntmps99
 go_wp2
 exact bodyPost_ret (v:=.agg #[.int .u64 (n % 4294967296),.int .u64 (n / 4294967296),.int .u64 0,.int .u64 0,.int .u64 0,.int .u64 0]) (by simp [results,Tryz.results99,go_sem]) rfl ⟨rfl,_,_,rfl⟩
theorem prod_bound(a b:Int)(a0:0≤a)(a1:a<4294967296)(b0:0≤b)(b1:b<4294967296):0≤a*b∧a*b≤18446744065119617025:=by
 refine ⟨Int.mul_nonneg a0 b0,?_⟩
 have h:=Int.mul_le_mul (show a≤4294967295 by omega) (show b≤4294967295 by omega) b0 (by omega)
 omega
theorem prod_split(a b0 b1 n:Int)(hn:n=b0+b1*4294967296):a*n=a*b0+a*b1*4294967296:=by
 rw [hn,Int.mul_add,←Int.mul_assoc]
theorem prod_all(a0 a1 a2 a3 a4 a5 a n:Int)(ea:a=a0+a1*4294967296+a2*18446744073709551616+a3*79228162514264337593543950336+a4*340282366920938463463374607431768211456+a5*1461501637330902918203684832716283019655932542976) :
  a*n=a0*n+a1*n*4294967296+a2*n*18446744073709551616+a3*n*79228162514264337593543950336+a4*n*340282366920938463463374607431768211456+a5*n*1461501637330902918203684832716283019655932542976:=by
 rw [ea,Int.add_mul,Int.add_mul,Int.add_mul,Int.add_mul,Int.add_mul,Int.mul_right_comm a1,Int.mul_right_comm a2,Int.mul_right_comm a3,Int.mul_right_comm a4,Int.mul_right_comm a5]
structure Row (W:World) (b:Nat) (r0 r1 r2 r3 r4 r5:Int):Prop where
 c0:W.cell? ⟨b,0,none⟩=some (.int .u64 r0)
 c1:W.cell? ⟨b,1,none⟩=some (.int .u64 r1)
 c2:W.cell? ⟨b,2,none⟩=some (.int .u64 r2)
 c3:W.cell? ⟨b,3,none⟩=some (.int .u64 r3)
 c4:W.cell? ⟨b,4,none⟩=some (.int .u64 r4)
 c5:W.cell? ⟨b,5,none⟩=some (.int .u64 r5)
 f0:W.frozen? ⟨b,0,none⟩=false
 f1:W.frozen? ⟨b,1,none⟩=false
 f2:W.frozen? ⟨b,2,none⟩=false
 f3:W.frozen? ⟨b,3,none⟩=false
 f4:W.frozen? ⟨b,4,none⟩=false
 f5:W.frozen? ⟨b,5,none⟩=false
 big:b<W.heap.size
theorem Row.drew{W:World}{b:Nat}{r0 r1 r2 r3 r4 r5:Int}(h:Row W b r0 r1 r2 r3 r4 r5):Row W.drew b r0 r1 r2 r3 r4 r5:=
 ⟨h.c0,h.c1,h.c2,h.c3,h.c4,h.c5,h.f0,h.f1,h.f2,h.f3,h.f4,h.f5,h.big⟩
theorem Row.far{W:World}{b b' k:Nat}{v:Value}{r0 r1 r2 r3 r4 r5:Int}(h:Row W b r0 r1 r2 r3 r4 r5)(hb:b'≠b):Row (W.setCell ⟨b',k,none⟩ v) b r0 r1 r2 r3 r4 r5:=by
 constructor
 all_goals first
  |(rw [World.cell?_setCell_far _ _ _ _ hb];first|exact h.c0|exact h.c1|exact h.c2|exact h.c3|exact h.c4|exact h.c5)
  |(rw [World.frozen?_setCell];first|exact h.f0|exact h.f1|exact h.f2|exact h.f3|exact h.f4|exact h.f5)
  |(rw [World.size_setCell];exact h.big)
theorem Row.set0{W:World}{b:Nat}{v r0 r1 r2 r3 r4 r5:Int}(h:Row W b r0 r1 r2 r3 r4 r5):Row (W.setCell ⟨b,0,none⟩ (.int .u64 v)) b v r1 r2 r3 r4 r5:=by
 constructor
 ·exact World.cell?_setCell_same _ _ _ h.c0
 ·rw [World.cell?_setCell_other _ _ _ _ (by simp)];exact h.c1
 ·rw [World.cell?_setCell_other _ _ _ _ (by simp)];exact h.c2
 ·rw [World.cell?_setCell_other _ _ _ _ (by simp)];exact h.c3
 ·rw [World.cell?_setCell_other _ _ _ _ (by simp)];exact h.c4
 ·rw [World.cell?_setCell_other _ _ _ _ (by simp)];exact h.c5
 ·rw [World.frozen?_setCell];exact h.f0
 ·rw [World.frozen?_setCell];exact h.f1
 ·rw [World.frozen?_setCell];exact h.f2
 ·rw [World.frozen?_setCell];exact h.f3
 ·rw [World.frozen?_setCell];exact h.f4
 ·rw [World.frozen?_setCell];exact h.f5
 ·rw [World.size_setCell];exact h.big
theorem Row.set1{W:World}{b:Nat}{v r0 r1 r2 r3 r4 r5:Int}(h:Row W b r0 r1 r2 r3 r4 r5):Row (W.setCell ⟨b,1,none⟩ (.int .u64 v)) b r0 v r2 r3 r4 r5:=by
 constructor
 ·rw [World.cell?_setCell_other _ _ _ _ (by simp)];exact h.c0
 ·exact World.cell?_setCell_same _ _ _ h.c1
 ·rw [World.cell?_setCell_other _ _ _ _ (by simp)];exact h.c2
 ·rw [World.cell?_setCell_other _ _ _ _ (by simp)];exact h.c3
 ·rw [World.cell?_setCell_other _ _ _ _ (by simp)];exact h.c4
 ·rw [World.cell?_setCell_other _ _ _ _ (by simp)];exact h.c5
 ·rw [World.frozen?_setCell];exact h.f0
 ·rw [World.frozen?_setCell];exact h.f1
 ·rw [World.frozen?_setCell];exact h.f2
 ·rw [World.frozen?_setCell];exact h.f3
 ·rw [World.frozen?_setCell];exact h.f4
 ·rw [World.frozen?_setCell];exact h.f5
 ·rw [World.size_setCell];exact h.big
theorem Row.set2{W:World}{b:Nat}{v r0 r1 r2 r3 r4 r5:Int}(h:Row W b r0 r1 r2 r3 r4 r5):Row (W.setCell ⟨b,2,none⟩ (.int .u64 v)) b r0 r1 v r3 r4 r5:=by
 constructor
 ·rw [World.cell?_setCell_other _ _ _ _ (by simp)];exact h.c0
 ·rw [World.cell?_setCell_other _ _ _ _ (by simp)];exact h.c1
 ·exact World.cell?_setCell_same _ _ _ h.c2
 ·rw [World.cell?_setCell_other _ _ _ _ (by simp)];exact h.c3
 ·rw [World.cell?_setCell_other _ _ _ _ (by simp)];exact h.c4
 ·rw [World.cell?_setCell_other _ _ _ _ (by simp)];exact h.c5
 ·rw [World.frozen?_setCell];exact h.f0
 ·rw [World.frozen?_setCell];exact h.f1
 ·rw [World.frozen?_setCell];exact h.f2
 ·rw [World.frozen?_setCell];exact h.f3
 ·rw [World.frozen?_setCell];exact h.f4
 ·rw [World.frozen?_setCell];exact h.f5
 ·rw [World.size_setCell];exact h.big
theorem Row.set3{W:World}{b:Nat}{v r0 r1 r2 r3 r4 r5:Int}(h:Row W b r0 r1 r2 r3 r4 r5):Row (W.setCell ⟨b,3,none⟩ (.int .u64 v)) b r0 r1 r2 v r4 r5:=by
 constructor
 ·rw [World.cell?_setCell_other _ _ _ _ (by simp)];exact h.c0
 ·rw [World.cell?_setCell_other _ _ _ _ (by simp)];exact h.c1
 ·rw [World.cell?_setCell_other _ _ _ _ (by simp)];exact h.c2
 ·exact World.cell?_setCell_same _ _ _ h.c3
 ·rw [World.cell?_setCell_other _ _ _ _ (by simp)];exact h.c4
 ·rw [World.cell?_setCell_other _ _ _ _ (by simp)];exact h.c5
 ·rw [World.frozen?_setCell];exact h.f0
 ·rw [World.frozen?_setCell];exact h.f1
 ·rw [World.frozen?_setCell];exact h.f2
 ·rw [World.frozen?_setCell];exact h.f3
 ·rw [World.frozen?_setCell];exact h.f4
 ·rw [World.frozen?_setCell];exact h.f5
 ·rw [World.size_setCell];exact h.big
theorem Row.set4{W:World}{b:Nat}{v r0 r1 r2 r3 r4 r5:Int}(h:Row W b r0 r1 r2 r3 r4 r5):Row (W.setCell ⟨b,4,none⟩ (.int .u64 v)) b r0 r1 r2 r3 v r5:=by
 constructor
 ·rw [World.cell?_setCell_other _ _ _ _ (by simp)];exact h.c0
 ·rw [World.cell?_setCell_other _ _ _ _ (by simp)];exact h.c1
 ·rw [World.cell?_setCell_other _ _ _ _ (by simp)];exact h.c2
 ·rw [World.cell?_setCell_other _ _ _ _ (by simp)];exact h.c3
 ·exact World.cell?_setCell_same _ _ _ h.c4
 ·rw [World.cell?_setCell_other _ _ _ _ (by simp)];exact h.c5
 ·rw [World.frozen?_setCell];exact h.f0
 ·rw [World.frozen?_setCell];exact h.f1
 ·rw [World.frozen?_setCell];exact h.f2
 ·rw [World.frozen?_setCell];exact h.f3
 ·rw [World.frozen?_setCell];exact h.f4
 ·rw [World.frozen?_setCell];exact h.f5
 ·rw [World.size_setCell];exact h.big
theorem Row.set5{W:World}{b:Nat}{v r0 r1 r2 r3 r4 r5:Int}(h:Row W b r0 r1 r2 r3 r4 r5):Row (W.setCell ⟨b,5,none⟩ (.int .u64 v)) b r0 r1 r2 r3 r4 v:=by
 constructor
 ·rw [World.cell?_setCell_other _ _ _ _ (by simp)];exact h.c0
 ·rw [World.cell?_setCell_other _ _ _ _ (by simp)];exact h.c1
 ·rw [World.cell?_setCell_other _ _ _ _ (by simp)];exact h.c2
 ·rw [World.cell?_setCell_other _ _ _ _ (by simp)];exact h.c3
 ·rw [World.cell?_setCell_other _ _ _ _ (by simp)];exact h.c4
 ·exact World.cell?_setCell_same _ _ _ h.c5
 ·rw [World.frozen?_setCell];exact h.f0
 ·rw [World.frozen?_setCell];exact h.f1
 ·rw [World.frozen?_setCell];exact h.f2
 ·rw [World.frozen?_setCell];exact h.f3
 ·rw [World.frozen?_setCell];exact h.f4
 ·rw [World.frozen?_setCell];exact h.f5
 ·rw [World.size_setCell];exact h.big
theorem Row.on{W W':World}{b:Nat}{r0 r1 r2 r3 r4 r5:Int}(h:Row W b r0 r1 r2 r3 r4 r5)(q:Q W W'):Row W' b r0 r1 r2 r3 r4 r5:=by
 have hb:=h.big
 constructor
 ·rw [q.cell hb];exact h.c0
 ·rw [q.cell hb];exact h.c1
 ·rw [q.cell hb];exact h.c2
 ·rw [q.cell hb];exact h.c3
 ·rw [q.cell hb];exact h.c4
 ·rw [q.cell hb];exact h.c5
 ·rw [Below.frozen q (p:=⟨b,0,none⟩) hb];exact h.f0
 ·rw [Below.frozen q (p:=⟨b,1,none⟩) hb];exact h.f1
 ·rw [Below.frozen q (p:=⟨b,2,none⟩) hb];exact h.f2
 ·rw [Below.frozen q (p:=⟨b,3,none⟩) hb];exact h.f3
 ·rw [Below.frozen q (p:=⟨b,4,none⟩) hb];exact h.f4
 ·rw [Below.frozen q (p:=⟨b,5,none⟩) hb];exact h.f5
 ·exact q.lt hb
theorem Q.setCell{a w:World}(h:Q a w){b k:Nat}(hb:a.heap.size≤b)(v:Value):Q a (w.setCell ⟨b,k,none⟩ v):=Below.setCell h hb v
def tsum(k:Nat)(N0 N1 N2 N3 N4 N5:Int):Int:=
 match k with
 |0=>0
 |1=>0+N0*1
 |2=>0+N0*1+N1*4294967296
 |3=>0+N0*1+N1*4294967296+N2*18446744073709551616
 |4=>0+N0*1+N1*4294967296+N2*18446744073709551616+N3*79228162514264337593543950336
 |5=>0+N0*1+N1*4294967296+N2*18446744073709551616+N3*79228162514264337593543950336+N4*340282366920938463463374607431768211456
 |_=>0+N0*1+N1*4294967296+N2*18446744073709551616+N3*79228162514264337593543950336+N4*340282366920938463463374607431768211456+N5*1461501637330902918203684832716283019655932542976
structure TI (k:Nat) (N0 N1 N2 N3 N4 N5 r0 r1 r2 r3 r4 r5:Int):Prop where
 l0:0≤r0
 u0:r0<4294967296
 l1:0≤r1
 u1:r1<4294967296
 l2:0≤r2
 u2:r2<4294967296
 l3:0≤r3
 u3:r3<4294967296
 l4:0≤r4
 u4:r4<4294967296
 l5:0≤r5
 u5:r5<4294967296
 z0:k=0→r0=0
 z1:k+2≤1→r1=0
 z2:k+2≤2→r2=0
 z3:k+2≤3→r3=0
 z4:k+2≤4→r4=0
 z5:k+2≤5→r5=0
 e:r0+r1*4294967296+r2*18446744073709551616+r3*79228162514264337593543950336+r4*340282366920938463463374607431768211456+r5*1461501637330902918203684832716283019655932542976=tsum k N0 N1 N2 N3 N4 N5
theorem step_of(x:Int)(h:0≤x∧x<18446744073709551616):∃ r c:Int,x % 4294967296=r∧x / 4294967296=c∧0≤r∧r<4294967296∧0≤c∧c<4294967296∧x=r+c*4294967296:=
 ⟨_,_,rfl,rfl,by omega,by omega,by omega,by omega,by omega⟩
theorem room2{r p:Int}(h:0≤p∧p≤18446744065119617025)(r0:0≤r)(r1:r<4294967296):0≤r+p∧r+p<18446744073709551616:=by omega
theorem room3{c r p:Int}(h:0≤p∧p≤18446744065119617025)(r0:0≤r)(r1:r<4294967296)(c0:0≤c)(c1:c<4294967296):0≤c+(r+p)∧c+(r+p)<18446744073709551616:=by omega
theorem wrap_in{p:Int}(h:0≤p∧p≤18446744065119617025):IntKind.u64.wrap p=p:=by rw [IntKind.wrap_u64];omega
theorem ti_next0(N0 N1 N2 N3 N4 N5 r0 r1 r2 r3 r4 r5 x p q c y d T:Int)(h:TI 0 N0 N1 N2 N3 N4 N5 r0 r1 r2 r3 r4 r5)(e0:r0+p=x+c*4294967296)(lx:0≤x)(ux:x<4294967296)(lc:0≤c)(e1:c+(r1+q)=y+d*4294967296)(ly:0≤y)(uy:y<4294967296)(ld:0≤d)(ud:d<4294967296)(hN:N0=p+q*4294967296)(lq:0≤q)
  (hT:T=tsum 6 N0 N1 N2 N3 N4 N5) (hlt:T<6277101735386680763835789423207666416102355444464034512896) (n0:0≤N0) (n1:0≤N1) (n2:0≤N2) (n3:0≤N3) (n4:0≤N4) (n5:0≤N5):TI 1 N0 N1 N2 N3 N4 N5 x y (r2+d) r3 r4 r5:=by
 obtain ⟨l0,u0,l1,u1,l2,u2,l3,u3,l4,u4,l5,u5,z0,z1,z2,z3,z4,z5,e⟩:=h;simp only [tsum]at e hT
 have zz:=z2 (by omega)
 constructor
 all_goals first|omega|(intro hk;omega)|(simp only [tsum];omega)
theorem ti_next1(N0 N1 N2 N3 N4 N5 r0 r1 r2 r3 r4 r5 x p q c y d T:Int)(h:TI 1 N0 N1 N2 N3 N4 N5 r0 r1 r2 r3 r4 r5)(e0:r1+p=x+c*4294967296)(lx:0≤x)(ux:x<4294967296)(lc:0≤c)(e1:c+(r2+q)=y+d*4294967296)(ly:0≤y)(uy:y<4294967296)(ld:0≤d)(ud:d<4294967296)(hN:N1=p+q*4294967296)(lq:0≤q)
  (hT:T=tsum 6 N0 N1 N2 N3 N4 N5) (hlt:T<6277101735386680763835789423207666416102355444464034512896) (n0:0≤N0) (n1:0≤N1) (n2:0≤N2) (n3:0≤N3) (n4:0≤N4) (n5:0≤N5):TI 2 N0 N1 N2 N3 N4 N5 r0 x y (r3+d) r4 r5:=by
 obtain ⟨l0,u0,l1,u1,l2,u2,l3,u3,l4,u4,l5,u5,z0,z1,z2,z3,z4,z5,e⟩:=h;simp only [tsum]at e hT
 have zz:=z3 (by omega)
 constructor
 all_goals first|omega|(intro hk;omega)|(simp only [tsum];omega)
theorem ti_next2(N0 N1 N2 N3 N4 N5 r0 r1 r2 r3 r4 r5 x p q c y d T:Int)(h:TI 2 N0 N1 N2 N3 N4 N5 r0 r1 r2 r3 r4 r5)(e0:r2+p=x+c*4294967296)(lx:0≤x)(ux:x<4294967296)(lc:0≤c)(e1:c+(r3+q)=y+d*4294967296)(ly:0≤y)(uy:y<4294967296)(ld:0≤d)(ud:d<4294967296)(hN:N2=p+q*4294967296)(lq:0≤q)
  (hT:T=tsum 6 N0 N1 N2 N3 N4 N5) (hlt:T<6277101735386680763835789423207666416102355444464034512896) (n0:0≤N0) (n1:0≤N1) (n2:0≤N2) (n3:0≤N3) (n4:0≤N4) (n5:0≤N5):TI 3 N0 N1 N2 N3 N4 N5 r0 r1 x y (r4+d) r5:=by
 obtain ⟨l0,u0,l1,u1,l2,u2,l3,u3,l4,u4,l5,u5,z0,z1,z2,z3,z4,z5,e⟩:=h;simp only [tsum]at e hT
 have zz:=z4 (by omega)
 constructor
 all_goals first|omega|(intro hk;omega)|(simp only [tsum];omega)
theorem ti_next3(N0 N1 N2 N3 N4 N5 r0 r1 r2 r3 r4 r5 x p q c y d T:Int)(h:TI 3 N0 N1 N2 N3 N4 N5 r0 r1 r2 r3 r4 r5)(e0:r3+p=x+c*4294967296)(lx:0≤x)(ux:x<4294967296)(lc:0≤c)(e1:c+(r4+q)=y+d*4294967296)(ly:0≤y)(uy:y<4294967296)(ld:0≤d)(ud:d<4294967296)(hN:N3=p+q*4294967296)(lq:0≤q)
  (hT:T=tsum 6 N0 N1 N2 N3 N4 N5) (hlt:T<6277101735386680763835789423207666416102355444464034512896) (n0:0≤N0) (n1:0≤N1) (n2:0≤N2) (n3:0≤N3) (n4:0≤N4) (n5:0≤N5):TI 4 N0 N1 N2 N3 N4 N5 r0 r1 r2 x y (r5+d):=by
 obtain ⟨l0,u0,l1,u1,l2,u2,l3,u3,l4,u4,l5,u5,z0,z1,z2,z3,z4,z5,e⟩:=h;simp only [tsum]at e hT
 have zz:=z5 (by omega)
 constructor
 all_goals first|omega|(intro hk;omega)|(simp only [tsum];omega)
theorem ti_next4(N0 N1 N2 N3 N4 N5 r0 r1 r2 r3 r4 r5 x p q c y d T:Int)(h:TI 4 N0 N1 N2 N3 N4 N5 r0 r1 r2 r3 r4 r5)(e0:r4+p=x+c*4294967296)(lx:0≤x)(ux:x<4294967296)(lc:0≤c)(e1:c+(r5+q)=y+d*4294967296)(ly:0≤y)(uy:y<4294967296)(ld:0≤d)(ud:d<4294967296)(hN:N4=p+q*4294967296)(lq:0≤q)
  (hT:T=tsum 6 N0 N1 N2 N3 N4 N5) (hlt:T<6277101735386680763835789423207666416102355444464034512896) (n0:0≤N0) (n1:0≤N1) (n2:0≤N2) (n3:0≤N3) (n4:0≤N4) (n5:0≤N5):TI 5 N0 N1 N2 N3 N4 N5 r0 r1 r2 r3 x y:=by
 obtain ⟨l0,u0,l1,u1,l2,u2,l3,u3,l4,u4,l5,u5,z0,z1,z2,z3,z4,z5,e⟩:=h;simp only [tsum]at e hT
 constructor
 all_goals first|omega|(intro hk;omega)|(simp only [tsum];omega)
theorem ti_next5(N0 N1 N2 N3 N4 N5 r0 r1 r2 r3 r4 r5 x p q c T:Int)(h:TI 5 N0 N1 N2 N3 N4 N5 r0 r1 r2 r3 r4 r5)(e0:r5+p=x+c*4294967296)(lx:0≤x)(ux:x<4294967296)(lc:0≤c)(hN:N5=p+q*4294967296)(lq:0≤q)
  (hT:T=tsum 6 N0 N1 N2 N3 N4 N5) (hlt:T<6277101735386680763835789423207666416102355444464034512896) (n0:0≤N0) (n1:0≤N1) (n2:0≤N2) (n3:0≤N3) (n4:0≤N4) (n5:0≤N5):TI 6 N0 N1 N2 N3 N4 N5 r0 r1 r2 r3 r4 x:=by
 obtain ⟨l0,u0,l1,u1,l2,u2,l3,u3,l4,u4,l5,u5,z0,z1,z2,z3,z4,z5,e⟩:=h;simp only [tsum]at e hT
 constructor
 all_goals first|omega|(intro hk;omega)|(simp only [tsum];omega)
end Go.Proofs.YtoikodohcieipaaGreatDoor.V
namespace Go.Proofs.YtoikodohcieipaaGreatDoor
open Go.RowKit
def rfR(sh:ByteArray)(cf:Bool)(n col:Int)(ra ca:Bool):Value:=
 if cf=true∧1≤n then .tuple #[.agg #[.string sh,.int .i64 (n-1),.int .i64 col,.bool ra,.bool ca],.bool true] else .tuple #[.agg #[.string ⟨#[]⟩,.int .i64 0,.int .i64 0,.bool false,.bool false],.bool false]
abbrev Z25:Obj:=.cells #[.string ⟨#[]⟩,.int .i64 0,.int .i64 0,.bool false,.bool false] 40
abbrev R25 (sh:ByteArray) (ra ca:Bool):Obj:=.cells #[.string sh,.int .i64 0,.int .i64 0,.bool ra,.bool ca] 40
def Dl(C T:ByteArray)(b:Bool):Prop:=(b=true∧∃ h:0<C.size,C[0]=36∧C.extract 1 C.size=T)∨(b=false∧(∀ h:0<C.size,C[0]≠36)∧C=T)
theorem rref_free(C T E R G:ByteArray)(k:Nat)(ca ra cf:Bool)(col n:Int)(w:World)(hs:C.size≤4000000000)(h33:Hid ((33:UInt8) ∉ C.data.toList))
  (hd1:Dl C T ca) (hd2:Dl R G ra) (hk:Hid (k=lead T.data.toList)) (hkT:k≤T.size) (hT:T.size≤4000000000) (eE:T.extract 0 k=E) (eR:T.extract k T.size=R)
  (HK:Hid (∀ W,Calls Tryz.prog 101 #[.string E] W fun e w'=>e=.returned (.tuple #[.int .i64 col,.bool cf])∧w'=W))
  (n0:-1≤n) (n1:n≤2199023255552)
  (HN:Hid (∀ W,Calls Tryz.prog 96 #[.string G,.int .i64 2199023255552] W fun e w'=>e=.returned (.int .i64 n)∧w'=W)) :
  Calls Tryz.prog 83 #[.string C] w fun e w'=>e=.returned (rfR ⟨#[]⟩ cf n col ra ca)∧Q w w':=by
 go_enter Tryz.func83,Tryz.ntmps83
 go_upto_block 0 with fail
 go_cut [0,3,5] from 10 to 32 (fun x o i W=>x=.string C∧o=.bool false∧W=((w.alloc Z25).alloc (R25 ⟨#[]⟩ false false)))
 case first=>
  go_wp2_with fail
  go_loop [0,3,5] (fun x o i=>∃ j:Nat,x=.string C∧o=.bool false∧j≤C.size∧i=.int .i64 j) (fun _ _ i=>C.size-(intOf i).toNat)
  case atStart=>exact ⟨0,rfl,rfl,Nat.zero_le _,rfl⟩
  case round=>
   obtain ⟨j,rfl,rfl,hj,rfl⟩:=hrel;by_cases hlt:j<C.size
   ·have hn':((C[j].toNat:Int) == 33)=false:=byte_ne (n:=33) (by omega) (fun e=>h33.out (by have h:=get_mem C j hlt;rw [e]at h;exact h))
    go_wp2_with fail
    go_round
    case rel=>exact ⟨j+1,rfl,rfl,by omega,by go_num⟩
    case measure=>simp [intOf];omega
   ·go_wp2_with fail
    go_meet
    exact ⟨rfl,rfl,rfl⟩
 case rest=>
  obtain ⟨rfl,rfl,rfl⟩:=hcut;go_upto_region 10 with fail
  go_cut [40] from 33 to 39 (fun x W=>x=.bool ca∧W=((w.alloc Z25).alloc (R25 ⟨#[]⟩ false false)))
  case first=>
   rcases hd1 with ⟨rfl,h,h36,eT⟩|⟨rfl,hne,rfl⟩
   ·have h36':(C[0].toNat:Int)=36:=by rw [h36];rfl
    clear h36;go_wp2_with fail
    go_meet
    exact ⟨rfl,rfl⟩
   ·by_cases hz:0<C.size
    ·have h36':((C[0].toNat:Int) == 36)=false:=byte_ne (n:=36) (by omega) (hne hz)
     clear hne;go_wp2_with fail
     go_meet
     exact ⟨rfl,rfl⟩
    ·clear hne
     go_wp2_with fail
     go_meet
     exact ⟨rfl,rfl⟩
  case rest=>
   obtain ⟨rfl,rfl⟩:=hcut;go_upto_if 40 with fail
   go_cut [0] from 33 to 43 (fun x W=>x=.string T∧W=((w.alloc Z25).alloc (R25 ⟨#[]⟩ false ca)))
   case first=>
    rcases hd1 with ⟨rfl,h,h36,eT⟩|⟨rfl,hne,rfl⟩
    ·go_wp2_with fail
     go_meet
     exact ⟨rfl,rfl⟩
    ·go_wp2_with fail
     go_meet
     exact ⟨rfl,rfl⟩
   case rest=>
    obtain ⟨rfl,rfl⟩:=hcut;go_upto_block 2 with fail
    go_cut [6] from 44 to 61 (fun x W=>x=.int .i64 (k:Int)∧W=((w.alloc Z25).alloc (R25 ⟨#[]⟩ false ca)))
    case first=>
     go_wp2_with fail
     go_loop [6] (fun i=>∃ j:Nat,j≤T.size∧i=.int .i64 j∧Hid (allL (T.data.toList.take j)=true)) (fun i=>T.size-(intOf i).toNat)
     case atStart=>exact ⟨0,Nat.zero_le _,rfl,rfl⟩
     case round=>
      obtain ⟨j,hj,rfl,ha⟩:=hrel;by_cases hlt:j<T.size
      ·by_cases hd:let1 T[j]=true
       ·have ha':Hid (allL (T.data.toList.take (j+1))=true):=by
         show _=_
         have:=ha.out
         rw [take_snoc T j hlt,allL_app,this];unfold allL
         simp [hd]
        have b0:65≤(T[j].toNat:Int):=by unfold let1 at hd;simp at hd;omega
        have b1:(T[j].toNat:Int)≤90:=by unfold let1 at hd;simp at hd;omega
        clear hd;go_wp2_with fail
        go_round
        case rel=>exact ⟨j+1,by omega,by go_num,ha'⟩
        case measure=>simp [intOf];omega
       ·have hN:Hid (j=k):=by
         show _=_
         have h1:=lead_at (T.data.toList.take j) (T.data.toList.drop (j+1)) T[j] ha.out (by simpa using hd)
         rw [←drop_cons T j hlt,List.take_append_drop,List.length_take,len_data]at h1;have:=hk.out
         omega
        by_cases b0:(T[j].toNat:Int)<65
        ·have b0':¬ 65≤(T[j].toNat:Int):=by omega
         clear hd b0;go_wp2_with fail
         go_meet
         exact ⟨by rw [hN.out],rfl⟩
        ·have b1:¬ (T[j].toNat:Int)≤90:=by unfold let1 at hd;simp at hd;omega
         have b0':65≤(T[j].toNat:Int):=by omega
         clear hd b0;go_wp2_with fail
         go_meet
         exact ⟨by rw [hN.out],rfl⟩
      ·have hN:Hid (j=k):=by
        show _=_
        have:=ha.out
        rw [take_all T j (by omega)]at this
        rw [hk.out,lead_all _ this,len_data];omega
       go_wp2_with fail
       go_meet
       exact ⟨by rw [hN.out],rfl⟩
    case rest=>
     obtain ⟨rfl,rfl⟩:=hcut;go_upto_region 18 with (go_at_call 101;refine (HK.out _).mono ?_;rintro e w1 ⟨rfl,rfl⟩)
     go_upto_region 18 with fail
     go_cut [79] from 72 to 78 (fun x W=>x=.bool ra∧W=((w.alloc Z25).alloc (R25 ⟨#[]⟩ false ca)))
     case first=>
      rcases hd2 with ⟨rfl,h,h36,eT⟩|⟨rfl,hne,rfl⟩
      ·have h36':(R[0].toNat:Int)=36:=by rw [h36];rfl
       clear h36;go_wp2_with fail
       go_meet
       exact ⟨rfl,rfl⟩
      ·by_cases hz:0<R.size
       ·have h36':((R[0].toNat:Int) == 36)=false:=byte_ne (n:=36) (by omega) (hne hz)
        clear hne;go_wp2_with fail
        go_meet
        exact ⟨rfl,rfl⟩
       ·clear hne
        go_wp2_with fail
        go_meet
        exact ⟨rfl,rfl⟩
     case rest=>
      obtain ⟨rfl,rfl⟩:=hcut;go_upto_if 79 with fail
      go_cut [0] from 72 to 82 (fun x W=>x=.string G∧W=((w.alloc Z25).alloc (R25 ⟨#[]⟩ ra ca)))
      case first=>
       rcases hd2 with ⟨rfl,h,h36,eT⟩|⟨rfl,hne,rfl⟩
       ·go_wp2_with fail
        go_meet
        exact ⟨rfl,rfl⟩
       ·go_wp2_with fail
        go_meet
        exact ⟨rfl,rfl⟩
      case rest=>
       obtain ⟨rfl,rfl⟩:=hcut;have HV:Hid (rfR ⟨#[]⟩ cf n col ra ca=if cf=true∧1≤n then .tuple #[.agg #[.string ⟨#[]⟩,.int .i64 (n-1),.int .i64 col,.bool ra,.bool ca],.bool true] else .tuple #[.agg #[.string ⟨#[]⟩,.int .i64 0,.int .i64 0,.bool false,.bool false],.bool false]):=rfl
       cases cf
       ·go_wp2_with (go_at_call 96;refine (HN.out _).mono ?_;rintro e w1 ⟨rfl,rfl⟩)
        refine bodyPost_ret (v:=.tuple #[.agg #[.string ⟨#[]⟩,.int .i64 0,.int .i64 0,.bool false,.bool false],.bool false]) (by simp [results,Tryz.results83,go_sem]) rfl ⟨by rw [HV.out];rfl,?_⟩
        repeat' (first|with_reducible exact Q.refl _|with_reducible refine Q.alloc ?_ _|with_reducible refine Q.setCell ?_ (by omega) _)
       by_cases hn:n<1
       ·go_wp2_with (go_at_call 96;refine (HN.out _).mono ?_;rintro e w1 ⟨rfl,rfl⟩)
        refine bodyPost_ret (v:=.tuple #[.agg #[.string ⟨#[]⟩,.int .i64 0,.int .i64 0,.bool false,.bool false],.bool false]) (by simp [results,Tryz.results83,go_sem]) rfl ⟨by rw [HV.out,if_neg (by omega)],?_⟩
        repeat' (first|with_reducible exact Q.refl _|with_reducible refine Q.alloc ?_ _|with_reducible refine Q.setCell ?_ (by omega) _)
       ·go_wp2_with (go_at_call 96;refine (HN.out _).mono ?_;rintro e w1 ⟨rfl,rfl⟩)
        refine bodyPost_ret (v:=.tuple #[.agg #[.string ⟨#[]⟩,.int .i64 (n-1),.int .i64 col,.bool ra,.bool ca],.bool true]) (by simp [results,Tryz.results83,go_sem]) rfl ⟨by rw [HV.out,if_pos (by first|exact ⟨rfl,by omega⟩|exact ⟨trivial,by omega⟩)],?_⟩
        repeat' (first|with_reducible exact Q.refl _|with_reducible refine Q.alloc ?_ _|with_reducible refine Q.setCell ?_ (by omega) _)
theorem rref_other(S A C T E R G:ByteArray)(k:Nat)(ca ra cf:Bool)(col n:Int)(w:World)(hs:S.size≤4000000000)(hC:C.size≤4000000000)(j:Nat)(hj:j<S.size)(hsj:(S[j].toNat:Int)=33)(hno:Hid ((33:UInt8) ∉ S.data.toList.take j))(eA:S.extract 0 j=A)(eC:S.extract (j+1) S.size=C)
  (HI:Hid (∀ W,Calls Tryz.prog 60 #[.string A] W fun e w'=>e=.returned (.bool true)∧w'=W))
  (hd1:Dl C T ca) (hd2:Dl R G ra) (hk:Hid (k=lead T.data.toList)) (hkT:k≤T.size) (hT:T.size≤4000000000) (eE:T.extract 0 k=E) (eR:T.extract k T.size=R)
  (HK:Hid (∀ W,Calls Tryz.prog 101 #[.string E] W fun e w'=>e=.returned (.tuple #[.int .i64 col,.bool cf])∧w'=W))
  (n0:-1≤n) (n1:n≤2199023255552)
  (HN:Hid (∀ W,Calls Tryz.prog 96 #[.string G,.int .i64 2199023255552] W fun e w'=>e=.returned (.int .i64 n)∧w'=W)) :
  Calls Tryz.prog 83 #[.string S] w fun e w'=>e=.returned (rfR A cf n col ra ca)∧Q w w':=by
 go_enter Tryz.func83,Tryz.ntmps83
 go_upto_block 0 with fail
 go_cut [0,3,5] from 10 to 32 (fun x o i W=>x=.string C∧o=.bool false∧W=((w.alloc Z25).alloc (R25 A false false)))
 case first=>
  go_wp2_with fail
  go_loop [0,3,5] (fun x o i=>∃ i':Nat,x=.string S∧o=.bool false∧i'≤j∧i=.int .i64 i') (fun _ _ i=>S.size-(intOf i).toNat)
  case atStart=>exact ⟨0,rfl,rfl,Nat.zero_le _,rfl⟩
  case round=>
   obtain ⟨i,rfl,rfl,hi,rfl⟩:=hrel;by_cases hlt:i<j
   ·have hn':((S[i].toNat:Int) == 33)=false:=byte_ne (n:=33) (by omega) (fun e=>hno.out (by
     have h:S[i]∈S.data.toList.take (i+1):=by rw [take_snoc S i (by omega)];simp
     rw [e]at h;exact List.mem_of_mem_take (i:=i+1) (by rw [List.take_take,Nat.min_eq_left (by omega)];exact h)))
    have hlt':i<S.size:=by omega
    go_wp2_with fail
    go_round
    case rel=>exact ⟨i+1,rfl,rfl,by omega,by go_num⟩
    case measure=>simp [intOf];omega
   ·obtain rfl:i=j:=by omega
    go_wp2_with (go_at_call 60;refine (HI.out _).mono ?_;rintro e w1 ⟨rfl,rfl⟩)
    go_meet
    exact ⟨rfl,rfl,rfl⟩
 case rest=>
  obtain ⟨rfl,rfl,rfl⟩:=hcut;go_upto_region 10 with fail
  go_cut [40] from 33 to 39 (fun x W=>x=.bool ca∧W=((w.alloc Z25).alloc (R25 A false false)))
  case first=>
   rcases hd1 with ⟨rfl,h,h36,eT⟩|⟨rfl,hne,rfl⟩
   ·have h36':(C[0].toNat:Int)=36:=by rw [h36];rfl
    clear h36;go_wp2_with fail
    go_meet
    exact ⟨rfl,rfl⟩
   ·by_cases hz:0<C.size
    ·have h36':((C[0].toNat:Int) == 36)=false:=byte_ne (n:=36) (by omega) (hne hz)
     clear hne;go_wp2_with fail
     go_meet
     exact ⟨rfl,rfl⟩
    ·clear hne
     go_wp2_with fail
     go_meet
     exact ⟨rfl,rfl⟩
  case rest=>
   obtain ⟨rfl,rfl⟩:=hcut;go_upto_if 40 with fail
   go_cut [0] from 33 to 43 (fun x W=>x=.string T∧W=((w.alloc Z25).alloc (R25 A false ca)))
   case first=>
    rcases hd1 with ⟨rfl,h,h36,eT⟩|⟨rfl,hne,rfl⟩
    ·go_wp2_with fail
     go_meet
     exact ⟨rfl,rfl⟩
    ·go_wp2_with fail
     go_meet
     exact ⟨rfl,rfl⟩
   case rest=>
    obtain ⟨rfl,rfl⟩:=hcut;go_upto_block 2 with fail
    go_cut [6] from 44 to 61 (fun x W=>x=.int .i64 (k:Int)∧W=((w.alloc Z25).alloc (R25 A false ca)))
    case first=>
     go_wp2_with fail
     go_loop [6] (fun i=>∃ j:Nat,j≤T.size∧i=.int .i64 j∧Hid (allL (T.data.toList.take j)=true)) (fun i=>T.size-(intOf i).toNat)
     case atStart=>exact ⟨0,Nat.zero_le _,rfl,rfl⟩
     case round=>
      obtain ⟨j,hj,rfl,ha⟩:=hrel;by_cases hlt:j<T.size
      ·by_cases hd:let1 T[j]=true
       ·have ha':Hid (allL (T.data.toList.take (j+1))=true):=by
         show _=_
         have:=ha.out
         rw [take_snoc T j hlt,allL_app,this];unfold allL
         simp [hd]
        have b0:65≤(T[j].toNat:Int):=by unfold let1 at hd;simp at hd;omega
        have b1:(T[j].toNat:Int)≤90:=by unfold let1 at hd;simp at hd;omega
        clear hd;go_wp2_with fail
        go_round
        case rel=>exact ⟨j+1,by omega,by go_num,ha'⟩
        case measure=>simp [intOf];omega
       ·have hN:Hid (j=k):=by
         show _=_
         have h1:=lead_at (T.data.toList.take j) (T.data.toList.drop (j+1)) T[j] ha.out (by simpa using hd)
         rw [←drop_cons T j hlt,List.take_append_drop,List.length_take,len_data]at h1;have:=hk.out
         omega
        by_cases b0:(T[j].toNat:Int)<65
        ·have b0':¬ 65≤(T[j].toNat:Int):=by omega
         clear hd b0;go_wp2_with fail
         go_meet
         exact ⟨by rw [hN.out],rfl⟩
        ·have b1:¬ (T[j].toNat:Int)≤90:=by unfold let1 at hd;simp at hd;omega
         have b0':65≤(T[j].toNat:Int):=by omega
         clear hd b0;go_wp2_with fail
         go_meet
         exact ⟨by rw [hN.out],rfl⟩
      ·have hN:Hid (j=k):=by
        show _=_
        have:=ha.out
        rw [take_all T j (by omega)]at this
        rw [hk.out,lead_all _ this,len_data];omega
       go_wp2_with fail
       go_meet
       exact ⟨by rw [hN.out],rfl⟩
    case rest=>
     obtain ⟨rfl,rfl⟩:=hcut;go_upto_region 18 with (go_at_call 101;refine (HK.out _).mono ?_;rintro e w1 ⟨rfl,rfl⟩)
     go_upto_region 18 with fail
     go_cut [79] from 72 to 78 (fun x W=>x=.bool ra∧W=((w.alloc Z25).alloc (R25 A false ca)))
     case first=>
      rcases hd2 with ⟨rfl,h,h36,eT⟩|⟨rfl,hne,rfl⟩
      ·have h36':(R[0].toNat:Int)=36:=by rw [h36];rfl
       clear h36;go_wp2_with fail
       go_meet
       exact ⟨rfl,rfl⟩
      ·by_cases hz:0<R.size
       ·have h36':((R[0].toNat:Int) == 36)=false:=byte_ne (n:=36) (by omega) (hne hz)
        clear hne;go_wp2_with fail
        go_meet
        exact ⟨rfl,rfl⟩
       ·clear hne
        go_wp2_with fail
        go_meet
        exact ⟨rfl,rfl⟩
     case rest=>
      obtain ⟨rfl,rfl⟩:=hcut;go_upto_if 79 with fail
      go_cut [0] from 72 to 82 (fun x W=>x=.string G∧W=((w.alloc Z25).alloc (R25 A ra ca)))
      case first=>
       rcases hd2 with ⟨rfl,h,h36,eT⟩|⟨rfl,hne,rfl⟩
       ·go_wp2_with fail
        go_meet
        exact ⟨rfl,rfl⟩
       ·go_wp2_with fail
        go_meet
        exact ⟨rfl,rfl⟩
      case rest=>
       obtain ⟨rfl,rfl⟩:=hcut;have HV:Hid (rfR A cf n col ra ca=if cf=true∧1≤n then .tuple #[.agg #[.string A,.int .i64 (n-1),.int .i64 col,.bool ra,.bool ca],.bool true] else .tuple #[.agg #[.string ⟨#[]⟩,.int .i64 0,.int .i64 0,.bool false,.bool false],.bool false]):=rfl
       cases cf
       ·go_wp2_with (go_at_call 96;refine (HN.out _).mono ?_;rintro e w1 ⟨rfl,rfl⟩)
        refine bodyPost_ret (v:=.tuple #[.agg #[.string ⟨#[]⟩,.int .i64 0,.int .i64 0,.bool false,.bool false],.bool false]) (by simp [results,Tryz.results83,go_sem]) rfl ⟨by rw [HV.out];rfl,?_⟩
        repeat' (first|with_reducible exact Q.refl _|with_reducible refine Q.alloc ?_ _|with_reducible refine Q.setCell ?_ (by omega) _)
       by_cases hn:n<1
       ·go_wp2_with (go_at_call 96;refine (HN.out _).mono ?_;rintro e w1 ⟨rfl,rfl⟩)
        refine bodyPost_ret (v:=.tuple #[.agg #[.string ⟨#[]⟩,.int .i64 0,.int .i64 0,.bool false,.bool false],.bool false]) (by simp [results,Tryz.results83,go_sem]) rfl ⟨by rw [HV.out,if_neg (by omega)],?_⟩
        repeat' (first|with_reducible exact Q.refl _|with_reducible refine Q.alloc ?_ _|with_reducible refine Q.setCell ?_ (by omega) _)
       ·go_wp2_with (go_at_call 96;refine (HN.out _).mono ?_;rintro e w1 ⟨rfl,rfl⟩)
        refine bodyPost_ret (v:=.tuple #[.agg #[.string A,.int .i64 (n-1),.int .i64 col,.bool ra,.bool ca],.bool true]) (by simp [results,Tryz.results83,go_sem]) rfl ⟨by rw [HV.out,if_pos (by first|exact ⟨rfl,by omega⟩|exact ⟨trivial,by omega⟩)],?_⟩
        repeat' (first|with_reducible exact Q.refl _|with_reducible refine Q.alloc ?_ _|with_reducible refine Q.setCell ?_ (by omega) _)
theorem rref_none(S A C:ByteArray)(w:World)(hs:S.size≤4000000000)(hC:C.size≤4000000000)(j:Nat)(hj:j<S.size)(hsj:(S[j].toNat:Int)=33)(hno:Hid ((33:UInt8) ∉ S.data.toList.take j))(eA:S.extract 0 j=A)(eC:S.extract (j+1) S.size=C)
  (HI:Hid (∀ W,Calls Tryz.prog 60 #[.string A] W fun e w'=>e=.returned (.bool false)∧w'=W))
  :
  Calls Tryz.prog 83 #[.string S] w fun e w'=>e=.returned (rfR ⟨#[]⟩ false 0 0 false false)∧Q w w':=by
 go_enter Tryz.func83,Tryz.ntmps83
 go_wp2_with fail
 go_loop [0,3,5] (fun x o i=>∃ i':Nat,x=.string S∧o=.bool false∧i'≤j∧i=.int .i64 i') (fun _ _ i=>S.size-(intOf i).toNat)
 case atStart=>exact ⟨0,rfl,rfl,Nat.zero_le _,rfl⟩
 case round=>
  obtain ⟨i,rfl,rfl,hi,rfl⟩:=hrel;by_cases hlt:i<j
  ·have hn':((S[i].toNat:Int) == 33)=false:=byte_ne (n:=33) (by omega) (fun e=>hno.out (by
    have h:S[i]∈S.data.toList.take (i+1):=by rw [take_snoc S i (by omega)];simp
    rw [e]at h;exact List.mem_of_mem_take (i:=i+1) (by rw [List.take_take,Nat.min_eq_left (by omega)];exact h)))
   have hlt':i<S.size:=by omega
   go_wp2_with fail
   go_round
   case rel=>exact ⟨i+1,rfl,rfl,by omega,by go_num⟩
   case measure=>simp [intOf];omega
  ·obtain rfl:i=j:=by omega
   go_wp2_with (go_at_call 60;refine (HI.out _).mono ?_;rintro e w1 ⟨rfl,rfl⟩)
   refine bodyPost_ret (v:=.tuple #[.agg #[.string ⟨#[]⟩,.int .i64 0,.int .i64 0,.bool false,.bool false],.bool false]) (by simp [results,Tryz.results83,go_sem]) rfl ⟨rfl,?_⟩
   repeat' (first|with_reducible exact Q.refl _|with_reducible refine Q.alloc ?_ _|with_reducible refine Q.setCell ?_ (by omega) _)
theorem dl_of(C:ByteArray):Dl C ⟨(Lib.trimPrefix C.data.toList [36]).toArray⟩ (Lib.hasPrefix C.data.toList [36]):=by
 unfold Dl
 cases hb:Lib.hasPrefix C.data.toList [36]
 ·refine .inr ⟨rfl,fun h e=>?_,?_⟩
  ·have h1:=drop_cons C 0 h
   rw [List.drop_zero]at h1;rw [h1,e]at hb;unfold Lib.hasPrefix at hb
   simp at hb
  ·have:Lib.trimPrefix C.data.toList [36]=C.data.toList:=by unfold Lib.trimPrefix;rw [hb];rfl
   rw [this]
 ·have hp:0<C.size:=by
   rcases Nat.eq_zero_or_pos C.size with h|h
   ·rw [show C.data.toList=[] from List.eq_nil_of_length_eq_zero (by rw [len_data];exact h)]at hb
    unfold Lib.hasPrefix at hb
    simp at hb
   ·exact h
  refine .inl ⟨rfl,hp,?_,?_⟩
  ·have h1:=drop_cons C 0 hp
   rw [List.drop_zero]at h1;rw [h1]at hb;unfold Lib.hasPrefix at hb
   simp at hb
   exact hb.symm
  ·apply bytes_eq
   rw [Lib.extract_data];have:Lib.trimPrefix C.data.toList [36]=C.data.toList.drop 1:=by unfold Lib.trimPrefix;rw [hb];rfl
   rw [this];exact List.take_of_length_le (by rw [List.length_drop,len_data];omega)
theorem numR_lo(l:List UInt8)(m:Nat):-1≤numR l m:=by unfold numR;split <;> omega
theorem numR_hi(l:List UInt8)(m:Nat):numR l m≤(m:Int):=by
 unfold numR
 split
 ·rename_i h
  unfold numF at h
  simp only [Bool.and_eq_true,decide_eq_true_eq]at h
  omega
 ·omega
theorem rf_eq(sh c:List UInt8) :
  rfR ⟨sh.toArray⟩ (colF ((Lib.trimPrefix c [36]).takeWhile let1)) (numR (Lib.trimPrefix ((Lib.trimPrefix c [36]).dropWhile let1) [36]) 2199023255552) (colK ((Lib.trimPrefix c [36]).takeWhile let1))
   (Lib.hasPrefix ((Lib.trimPrefix c [36]).dropWhile let1) [36]) (Lib.hasPrefix c [36])=.tuple #[refA (if tailF c then tailT sh c else noT),.bool (tailF c)]:=by
 unfold rfR tailF tailT numR colK
 cases colF ((Lib.trimPrefix c [36]).takeWhile let1)
 ·rfl
 cases numF (Lib.trimPrefix ((Lib.trimPrefix c [36]).dropWhile let1) [36]) 2199023255552
 ·rw [if_neg (by simp)]
  rfl
 generalize val (Lib.trimPrefix ((Lib.trimPrefix c [36]).dropWhile let1) [36])=v;by_cases h:v=0
 ·rw [if_neg (by simp;omega),decide_eq_false (by omega)]
  rfl
 ·rw [if_pos (by simp;omega),decide_eq_true h]
  rfl
structure RT (C T E R G:ByteArray) (k:Nat) (ca ra cf:Bool) (col n:Int):Prop where
 hd1:Dl C T ca
 hd2:Dl R G ra
 hk:k=lead T.data.toList
 hkT:k≤T.size
 hT:T.size≤4000000000
 eE:T.extract 0 k=E
 eR:T.extract k T.size=R
 HK:∀ W,Calls Tryz.prog 101 #[.string E] W fun e w'=>e=.returned (.tuple #[.int .i64 col,.bool cf])∧w'=W
 n0:-1≤n
 n1:n≤2199023255552
 HN:∀ W,Calls Tryz.prog 96 #[.string G,.int .i64 2199023255552] W fun e w'=>e=.returned (.int .i64 n)∧w'=W
theorem rt_of(C:ByteArray)(hs:C.size≤4000000000) :
  ∃ T E R G,RT C T E R G (lead (Lib.trimPrefix C.data.toList [36])) (Lib.hasPrefix C.data.toList [36]) (Lib.hasPrefix ((Lib.trimPrefix C.data.toList [36]).dropWhile let1) [36])
   (colF ((Lib.trimPrefix C.data.toList [36]).takeWhile let1)) (colK ((Lib.trimPrefix C.data.toList [36]).takeWhile let1)) (numR (Lib.trimPrefix ((Lib.trimPrefix C.data.toList [36]).dropWhile let1) [36]) 2199023255552):=by
 have l1:=Lib.trimPrefix_le C.data.toList [36];rw [len_data]at l1;have d1:=dl_of C;generalize Lib.trimPrefix C.data.toList [36]=t at *;have l2:=lead_le t;have e1:((⟨t.toArray⟩:ByteArray).extract 0 (lead t)).data.toList=t.takeWhile let1:=by
  rw [Lib.extract_data,←take_lead]
  rfl
 have e2:((⟨t.toArray⟩:ByteArray).extract (lead t) (⟨t.toArray⟩:ByteArray).size).data.toList=t.dropWhile let1:=by
  rw [Lib.extract_data,←drop_lead,size_mk];exact List.take_of_length_le (by simp)
 have l3:=Lib.trimPrefix_le (t.dropWhile let1) [36];have l4:(t.dropWhile let1).length≤t.length:=by rw [←drop_lead,List.length_drop];omega
 have hK:=fun W=>rcol_any ((⟨t.toArray⟩:ByteArray).extract 0 (lead t)) W (by rw [ByteArray.size_extract,size_mk];omega)
 rw [e1]at hK;have d2:=dl_of ((⟨t.toArray⟩:ByteArray).extract (lead t) (⟨t.toArray⟩:ByteArray).size);rw [e2]at d2
 exact ⟨_,_,_,_,d1,d2,rfl,by rw [size_mk];exact l2,by rw [size_mk];omega,rfl,rfl,hK,numR_lo _ _,numR_hi _ _,
  fun W=>num_any ⟨(Lib.trimPrefix (t.dropWhile let1) [36]).toArray⟩ 2199023255552 2199023255552 W rfl (by omega) (by omega) (by rw [size_mk];omega)⟩
theorem rref_any(s:ByteArray)(w:World)(hs:s.size≤4000000000) :
  Calls Tryz.prog 83 #[.string s] w fun e w'=>e=.returned (.tuple #[refA (refT s.data.toList),.bool (refF s.data.toList)])∧Q w w':=by
 rcases cut_any 33 s.data.toList with ⟨a,b,ea,hna⟩|hno
 ·have ec:=cut_at 33 a b hna
  rw [←ea]at ec;obtain ⟨e1,e2⟩:=ref_other ec;have hlen:=congrArg List.length ea;rw [len_data,List.length_append,List.length_cons]at hlen;have hj:a.length<s.size:=by omega
  have htake:s.data.toList.take a.length=a:=by rw [ea,List.take_left]
  have hget:s[a.length]=33:=by
   have h1:=drop_cons s a.length hj;rw [ea,List.drop_left]at h1;exact (List.cons.inj h1).1.symm
  have eA:s.extract 0 a.length=⟨a.toArray⟩:=bytes_eq (by rw [Lib.extract_data];exact htake)
  have eC:s.extract (a.length+1) s.size=⟨b.toArray⟩:=bytes_eq (by
   rw [Lib.extract_data,show s.data.toList.drop (a.length+1)=b by
    have h1:=drop_cons s a.length hj;rw [ea,List.drop_left]at h1;rw [ea];exact (List.cons.inj h1).2.symm]
   exact List.take_of_length_le (by omega))
  have HI:=fun W=>rid_any ⟨a.toArray⟩ W (by rw [size_mk];omega)
  simp only at HI
  rw [e1,e2];cases hi:idB a
  ·rw [hi]at HI
   exact (rref_none s _ _ w hs (by rw [size_mk];omega) a.length hj (by rw [hget];rfl) (by show _ ∉ _;rw [htake];exact hna) eA eC HI).mono fun e w' h=>h
  ·rw [hi]at HI
   obtain ⟨T,E,R,G,h⟩:=rt_of ⟨b.toArray⟩ (by rw [size_mk];omega)
   refine (rref_other s _ _ T E R G _ _ _ _ _ _ w hs (by rw [size_mk];omega) a.length hj (by rw [hget];rfl) (by show _ ∉ _;rw [htake];exact hna) eA eC HI h.hd1 h.hd2 h.hk h.hkT h.hT h.eE h.eR h.HK h.n0 h.n1 h.HN).mono fun e w' g=>⟨?_,g.2⟩
   rw [g.1,rf_eq a b,Bool.true_and]
 ·have ec:=cut_free 33 s.data.toList hno
  obtain ⟨e1,e2⟩:=ref_free ec;rw [e1,e2];obtain ⟨T,E,R,G,h⟩:=rt_of s hs;refine (rref_free s T E R G _ _ _ _ _ _ w hs hno h.hd1 h.hd2 h.hk h.hkT h.hT h.eE h.eR h.HK h.n0 h.n1 h.HN).mono fun e w' g=>⟨?_,g.2⟩
  rw [g.1];exact congrArg Ending.returned (rf_eq [] s.data.toList)
end Go.Proofs.YtoikodohcieipaaGreatDoor
