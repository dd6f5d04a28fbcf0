/- Package value and its referenc. -/
import Derived.Test.YtngnakdbhkjbjaaGreatDoorKm00
import Derived.Lib.ItoaMem
import Derived.Great.Ranges
set_option linter.unusedVariables false
set_option linter.unusedSimpArgs false
set_option maxRecDepth 100000
set_option maxHeartbeats 8000000
namespace Go.Proofs.YtngnakdbhkjbjaaGreatDoor.V
open Go.RowKit
theorem vret_str{a b:List UInt8}(h:a=b):Ending.returned (.string ⟨a.toArray⟩)=.returned (.string ⟨b.toArray⟩):=by rw [h]
theorem enL_no{e:Int}(h:e<1∨7<e):[]=enL e:=by
 unfold enL
 rw [if_neg (by omega),if_neg (by omega),if_neg (by omega),if_neg (by omega),if_neg (by omega),if_neg (by omega),if_neg (by omega)]
theorem name_any(e:Int)(w:World)(h:Nam w):Calls Tryz.prog 64 #[.int .i64 e] w fun x w'=>x=.returned (.string ⟨(enL e).toArray⟩)∧w'=w:=by
 by_cases h0:e<0
 ·have H:=hid (enL_no (e:=e) (by omega))
  go_enter Tryz.func64,Tryz.ntmps64
  go_wp2
  go_ret
  exact ⟨vret_str H.out,rfl⟩
 ·by_cases h8:8≤e
  ·have H:=hid (enL_no (e:=e) (by omega))
   go_enter Tryz.func64,Tryz.ntmps64
   go_wp2
   go_ret
   exact ⟨vret_str H.out,rfl⟩
  ·have c0:=h.2 0 (by omega)
   have c1:=h.2 1 (by omega)
   have c2:=h.2 2 (by omega)
   have c3:=h.2 3 (by omega)
   have c4:=h.2 4 (by omega)
   have c5:=h.2 5 (by omega)
   have c6:=h.2 6 (by omega)
   have c7:=h.2 7 (by omega)
   clear h
   rcases (by omega:e=0∨e=1∨e=2∨e=3∨e=4∨e=5∨e=6∨e=7) with rfl|rfl|rfl|rfl|rfl|rfl|rfl|rfl
   all_goals
    clear h0 h8;go_enter Tryz.func64,Tryz.ntmps64
    go_wp2
    go_ret
    exact ⟨rfl,rfl⟩
def mtB(l:List UInt8):Bool:=decide (l.length≤200)&&Lib.validD l
theorem mayText_any(s:ByteArray)(w:World)(h:Std w)(hs:(s.size:Int)≤9223372036854775000):Calls Tryz.prog 63 #[.string s] w fun x w'=>x=.returned (.bool (mtB s.data.toList))∧Q w w':=by
 have hl:s.data.toList.length=s.size:=by simp
 by_cases h1:(s.size:Int)≤200
 ·have H:Hid (Lib.validD s.data.toList=mtB s.data.toList):=by show _=_;unfold mtB;rw [hl];simp;omega
  have HC:=hid (Tryz.utf8_ValidString s w (by omega) h.utf)
  clear hl;go_enter Tryz.func63,Tryz.ntmps63
  go_wp2_with (go_at_call 80;refine HC.out.mono ?_;rintro e w1 ⟨rfl,q1⟩)
  go_ret
  exact ⟨vret_bool H.out,q1⟩
 ·have H:Hid (false=mtB s.data.toList):=by show _=_;unfold mtB;rw [hl];simp;intro;omega
  clear hl;go_enter Tryz.func63,Tryz.ntmps63
  go_wp2
  go_ret
  exact ⟨vret_bool H.out,Q.refl _⟩
end Go.Proofs.YtngnakdbhkjbjaaGreatDoor.V
namespace Go.Proofs.YtngnakdbhkjbjaaGreatDoor
open Go.RowKit
theorem numF_zero{l:List UInt8}{m:Nat}(h:l.headD 0=48)(h1:1<l.length):numF l m=false:=by
 unfold numF
 rw [h,decide_eq_true h1];simp
theorem numF_nodig{l:List UInt8}{m:Nat}(h:allD l=false):numF l m=false:=by
 unfold numF
 rw [h];simp
theorem numF_great{l:List UInt8}{m:Nat}(h:m<val l):numF l m=false:=by
 unfold numF
 rw [decide_eq_false (show ¬ val l≤m by omega)]
 simp
theorem numF_yes{l:List UInt8}{m:Nat}(h0:l≠[])(h1:¬ (l.headD 0=48∧1<l.length))(h2:allD l=true)(h3:val l≤m):numF l m=true:=by
 unfold numF
 rw [h2,decide_eq_true h3];have e0:l.isEmpty=false:=by cases l;exact absurd rfl h0;rfl
 have e1:(l.headD 0 == 48&&decide (1<l.length))=false:=by
  rw [Bool.and_eq_false_iff];by_cases h:l.headD 0=48
  ·exact .inr (decide_eq_false fun g=>h1 ⟨h,g⟩)
  ·exact .inl (beq_eq_false_iff_ne.2 h)
 rw [e0,e1]
 rfl
theorem allD_no(s:ByteArray)(k:Nat)(h:k<s.size)(hd:dig s[k]=false):allD s.data.toList=false:=by
 unfold allD
 rw [List.all_eq_false];exact ⟨s[k],get_mem s k h,by simp [hd]⟩
theorem byte_ne{c:UInt8}{n:Nat}(hn:n<256)(h:c≠UInt8.ofNat n):((c.toNat:Int) == (n:Int))=false:=by
 rw [beq_eq_false_iff_ne];intro e
 apply h
 apply UInt8.toNat_inj.1
 have:(UInt8.ofNat n).toNat=n % 256:=UInt8.toNat_ofNat'
 rw [this];omega
theorem ne_of_pos{s:ByteArray}(h:0<s.size):s.data.toList≠[]:=fun e=>by
 have h1:=congrArg List.length e;rw [len_data,List.length_nil]at h1;omega
theorem toList_ne{s:ByteArray}(h:0<s.size):(s.toList == [])=false:=by
 rw [Lib.toList_data,beq_eq_false_iff_ne];exact ne_of_pos h
theorem number_any(s:ByteArray)(m:Nat)(M:Int)(w:World)(hM:Hid (M=(m:Int)))(M0:0≤M)(M1:M≤2199023255552)(hs:s.size≤9223372036854775807) :
  Calls Tryz.prog 58 #[.string s,.int .i64 M] w fun e w'=>e=.returned (.tuple #[.int .i64 (numK s.data.toList m),.bool (numF s.data.toList m)])∧w'=w:=by
 have HF:∀ b:Bool,numF s.data.toList m=b→Hid (numF s.data.toList m=b∧numK s.data.toList m=if b then (val s.data.toList:Int) else 0):=by
  intro b e
  exact ⟨e,by unfold numK;rw [e]⟩
 have et:=hid (Lib.toList_data s);by_cases h0:s.size=0
 ·have e0:s.toList=[]:=by rw [Lib.toList_data];exact List.eq_nil_of_length_eq_zero (by rw [len_data];exact h0)
  have hF:=HF false (by rw [←et.out,e0];rfl)
  clear h0;go_enter Tryz.func58,Tryz.ntmps58
  go_wp2
  go_ret2
  exact ⟨by rw [hF.out.1,hF.out.2];rfl,rfl⟩
 ·have hp:0<s.size:=by omega
  have e0:=toList_ne hp;have hh:=hid (headD_get s hp);by_cases hz:s[0]=48∧1<s.size
  ·have hF:=HF false (numF_zero (by rw [hh.out];exact hz.1) (by rw [len_data];exact hz.2))
   have hc:(s[0].toNat:Int)=48:=by rw [hz.1];rfl
   have h1:=hz.2;clear hz h0;go_enter Tryz.func58,Tryz.ntmps58
   go_wp2
   go_ret2
   exact ⟨by rw [hF.out.1,hF.out.2];rfl,rfl⟩
  ·have HZ:Hid (¬ (s.data.toList.headD 0=48∧1<s.data.toList.length)):=by
    show ¬ _
    rw [hh.out,len_data];exact hz
   have hc:((s[0].toNat:Int) == 48)=false∨((s[0].toNat:Int)=48∧¬ 1<(s.size:Int)):=by
    by_cases h:s[0]=48
    ·exact .inr ⟨by rw [h];rfl,fun g=>hz ⟨h,by omega⟩⟩
    ·exact .inl (byte_ne (n:=48) (by omega) h)
   clear hz h0
   rcases hc with hc|⟨hc,h1⟩
   ·go_enter Tryz.func58,Tryz.ntmps58
    go_wp2
    go_loop [6,22] (fun a i=>∃ (k:Nat) (n:Int),k≤s.size∧i=.int .i64 k∧a=.int .i64 n∧0≤n∧n≤M∧Hid (allD (s.data.toList.take k)=true∧n=(val (s.data.toList.take k):Int))) (fun _ i=>s.size-(intOf i).toNat)
    case atStart=>exact ⟨0,0,Nat.zero_le _,rfl,rfl,by omega,by omega,rfl,rfl⟩
    case round=>
     obtain ⟨k,n,hk,rfl,rfl,n0,n1,hn⟩:=hrel;by_cases hlt:k<s.size
     ·by_cases hd:dig s[k]=true
      ·have b0:48≤(s[k].toNat:Int):=by unfold dig at hd;simp at hd;omega
       have b1:(s[k].toNat:Int)≤57:=by unfold dig at hd;simp at hd;omega
       have hv:Hid (allD (s.data.toList.take (k+1))=true∧(val (s.data.toList.take (k+1)):Int)=n*10+((s[k].toNat:Int)-48)):=by
        have:=hn.out
        refine ⟨?_,?_⟩
        ·rw [take_snoc s k hlt,allD_app,this.1]
         unfold allD
         simp [hd]
        ·rw [take_snoc s k hlt,val_snoc,this.2]
         omega
       clear hd;by_cases hb:M<n*10+((s[k].toNat:Int)-48)
       ·have hF:=HF false (numF_great (by
         have h1:=val_ge (s.data.toList.take (k+1)) (s.data.toList.drop (k+1));rw [List.take_append_drop]at h1;have h2:=hv.out.2;have h3:=hM.out;omega))
        go_wp2
        go_ret2
        exact ⟨by rw [hF.out.1,hF.out.2];rfl,rfl⟩
       ·go_wp2
        go_round
        case rel=>exact ⟨k+1,n*10+((s[k].toNat:Int)-48),by omega,by go_num,rfl,by omega,by omega,hv.out.1,hv.out.2.symm⟩
        case measure=>simp [intOf];omega
      ·have hF:=HF false (numF_nodig (allD_no s k hlt (by simpa using hd)))
       by_cases b0:(s[k].toNat:Int)<48
       ·clear hd
        go_wp2
        go_ret2
        exact ⟨by rw [hF.out.1,hF.out.2];rfl,rfl⟩
       ·have b1:57<(s[k].toNat:Int):=by unfold dig at hd;simp at hd;omega
        clear hd;go_wp2
        go_ret2
        exact ⟨by rw [hF.out.1,hF.out.2];rfl,rfl⟩
     ·have hN:Hid (allD s.data.toList=true∧n=(val s.data.toList:Int)):=by have:=hn.out;rw [take_all s k (by omega)]at this;exact this
      have hF:=HF true (numF_yes (ne_of_pos hp) HZ.out hN.out.1 (by have:=hN.out.2;have:=hM.out;omega))
      go_wp2
      go_ret2
      exact ⟨by rw [hF.out.1,hF.out.2,hN.out.2];rfl,rfl⟩
   ·go_enter Tryz.func58,Tryz.ntmps58
    go_wp2
    go_loop [6,22] (fun a i=>∃ (k:Nat) (n:Int),k≤s.size∧i=.int .i64 k∧a=.int .i64 n∧0≤n∧n≤M∧Hid (allD (s.data.toList.take k)=true∧n=(val (s.data.toList.take k):Int))) (fun _ i=>s.size-(intOf i).toNat)
    case atStart=>exact ⟨0,0,Nat.zero_le _,rfl,rfl,by omega,by omega,rfl,rfl⟩
    case round=>
     obtain ⟨k,n,hk,rfl,rfl,n0,n1,hn⟩:=hrel;by_cases hlt:k<s.size
     ·by_cases hd:dig s[k]=true
      ·have b0:48≤(s[k].toNat:Int):=by unfold dig at hd;simp at hd;omega
       have b1:(s[k].toNat:Int)≤57:=by unfold dig at hd;simp at hd;omega
       have hv:Hid (allD (s.data.toList.take (k+1))=true∧(val (s.data.toList.take (k+1)):Int)=n*10+((s[k].toNat:Int)-48)):=by
        have:=hn.out
        refine ⟨?_,?_⟩
        ·rw [take_snoc s k hlt,allD_app,this.1]
         unfold allD
         simp [hd]
        ·rw [take_snoc s k hlt,val_snoc,this.2]
         omega
       clear hd;by_cases hb:M<n*10+((s[k].toNat:Int)-48)
       ·have hF:=HF false (numF_great (by
         have h1:=val_ge (s.data.toList.take (k+1)) (s.data.toList.drop (k+1));rw [List.take_append_drop]at h1;have h2:=hv.out.2;have h3:=hM.out;omega))
        go_wp2
        go_ret2
        exact ⟨by rw [hF.out.1,hF.out.2];rfl,rfl⟩
       ·go_wp2
        go_round
        case rel=>exact ⟨k+1,n*10+((s[k].toNat:Int)-48),by omega,by go_num,rfl,by omega,by omega,hv.out.1,hv.out.2.symm⟩
        case measure=>simp [intOf];omega
      ·have hF:=HF false (numF_nodig (allD_no s k hlt (by simpa using hd)))
       by_cases b0:(s[k].toNat:Int)<48
       ·clear hd
        go_wp2
        go_ret2
        exact ⟨by rw [hF.out.1,hF.out.2];rfl,rfl⟩
       ·have b1:57<(s[k].toNat:Int):=by unfold dig at hd;simp at hd;omega
        clear hd;go_wp2
        go_ret2
        exact ⟨by rw [hF.out.1,hF.out.2];rfl,rfl⟩
     ·have hN:Hid (allD s.data.toList=true∧n=(val s.data.toList:Int)):=by have:=hn.out;rw [take_all s k (by omega)]at this;exact this
      have hF:=HF true (numF_yes (ne_of_pos hp) HZ.out hN.out.1 (by have:=hN.out.2;have:=hM.out;omega))
      go_wp2
      go_ret2
      exact ⟨by rw [hF.out.1,hF.out.2,hN.out.2];rfl,rfl⟩
theorem owner_any(s:ByteArray)(w:World)(hw:Std w)(hs:s.size<4294967281) :
  Calls Tryz.prog 38 #[.string s] w fun e w'=>e=.returned (.int .i64 (ownK s.data.toList))∧Q w w':=by
 have hl:=Lib.trimPrefix_le s.data.toList [99];rw [len_data]at hl;have HO:Hid (ownK s.data.toList=if Lib.hasPrefix s.data.toList [99] then ownP (Lib.cut (Lib.trimPrefix s.data.toList [99]) [110]) else -1):=rfl
 have HP:Hid (∀ W,Calls Tryz.prog 56 #[.string s,.string ⟨#[99]⟩] W fun e w'=>e=.returned (.tuple #[.string ⟨(Lib.trimPrefix s.data.toList [99]).toArray⟩,.bool (Lib.hasPrefix s.data.toList [99])])∧w'=W):=fun W=>Tryz.strings_CutPrefix s ⟨#[99]⟩ W
 generalize Lib.trimPrefix s.data.toList [99]=t at *;generalize Lib.hasPrefix s.data.toList [99]=ng at *;have HC:Hid (∀ W,Q w W→Calls Tryz.prog 57 #[.string ⟨t.toArray⟩,.string ⟨#[110]⟩] W fun e w'=>e=.returned (.tuple #[.string ⟨(Lib.cut t [110]).1.toArray⟩,.string ⟨(Lib.cut t [110]).2.1.toArray⟩,.bool (Lib.cut t [110]).2.2])∧∃ n,w'=W.drewN n):=by
  intro W q
  obtain ⟨m,hm⟩:=(hw.on q).len;exact Tryz.strings_Cut ⟨t.toArray⟩ ⟨#[110]⟩ m W (by rw [size_mk];omega) hm
 have hcl:=cut_le 110 t;generalize Lib.cut t [110]=p at *;obtain ⟨a,b,f⟩:=p;simp only at HC hcl
 have HA:=hid (fun W=>number_any ⟨a.toArray⟩ 15 15 W rfl (by omega) (by omega) (by rw [size_mk];omega))
 have HB:=hid (fun W=>number_any ⟨b.toArray⟩ 999999 999999 W rfl (by omega) (by omega) (by rw [size_mk];omega))
 simp only at HA HB
 unfold numK at HA HB
 generalize (⟨a.toArray⟩:ByteArray)=A at *;generalize (⟨b.toArray⟩:ByteArray)=B at *;generalize (⟨t.toArray⟩:ByteArray)=T at *;unfold ownP at HO
 simp only at HO
 generalize numF a 15=fa at *;generalize numF b 999999=fb at *;generalize ((val a:Nat):Int)=va at *;generalize ((val b:Nat):Int)=vb at *;clear hs hcl hl hw
 rcases ng with _|_
 ·go_enter Tryz.func38,Tryz.ntmps38
  go_wp2_with (first|(go_at_call 56;refine (HP.out _).mono ?_;rintro e w1 ⟨rfl,rfl⟩)|(go_at_call 57;refine (HC.out _ (Q.refl _)).mono ?_;rintro e w2 ⟨rfl,nn,rfl⟩)|(go_at_call_of 58 A;refine (HA.out _).mono ?_;rintro e w3 ⟨rfl,rfl⟩)|(go_at_call_of 58 B;refine (HB.out _).mono ?_;rintro e w4 ⟨rfl,rfl⟩))
  go_ret
  exact ⟨ret_int (by rw [HO.out];rfl),Q.refl _⟩
 rcases f with _|_
 ·go_enter Tryz.func38,Tryz.ntmps38
  go_wp2_with (first|(go_at_call 56;refine (HP.out _).mono ?_;rintro e w1 ⟨rfl,rfl⟩)|(go_at_call 57;refine (HC.out _ (Q.refl _)).mono ?_;rintro e w2 ⟨rfl,nn,rfl⟩)|(go_at_call_of 58 A;refine (HA.out _).mono ?_;rintro e w3 ⟨rfl,rfl⟩)|(go_at_call_of 58 B;refine (HB.out _).mono ?_;rintro e w4 ⟨rfl,rfl⟩))
  go_ret
  exact ⟨ret_int (by rw [HO.out];rfl),(Q.refl _).drewN _⟩
 rcases fa with _|_ <;> rcases fb with _|_
 ·go_enter Tryz.func38,Tryz.ntmps38
  go_wp2_with (first|(go_at_call 56;refine (HP.out _).mono ?_;rintro e w1 ⟨rfl,rfl⟩)|(go_at_call 57;refine (HC.out _ (Q.refl _)).mono ?_;rintro e w2 ⟨rfl,nn,rfl⟩)|(go_at_call_of 58 A;refine (HA.out _).mono ?_;rintro e w3 ⟨rfl,rfl⟩)|(go_at_call_of 58 B;refine (HB.out _).mono ?_;rintro e w4 ⟨rfl,rfl⟩))
  go_ret
  exact ⟨ret_int (by rw [HO.out];rfl),(Q.refl _).drewN _⟩
 ·go_enter Tryz.func38,Tryz.ntmps38
  go_wp2_with (first|(go_at_call 56;refine (HP.out _).mono ?_;rintro e w1 ⟨rfl,rfl⟩)|(go_at_call 57;refine (HC.out _ (Q.refl _)).mono ?_;rintro e w2 ⟨rfl,nn,rfl⟩)|(go_at_call_of 58 A;refine (HA.out _).mono ?_;rintro e w3 ⟨rfl,rfl⟩)|(go_at_call_of 58 B;refine (HB.out _).mono ?_;rintro e w4 ⟨rfl,rfl⟩))
  go_ret
  exact ⟨ret_int (by rw [HO.out];rfl),(Q.refl _).drewN _⟩
 ·go_enter Tryz.func38,Tryz.ntmps38
  go_wp2_with (first|(go_at_call 56;refine (HP.out _).mono ?_;rintro e w1 ⟨rfl,rfl⟩)|(go_at_call 57;refine (HC.out _ (Q.refl _)).mono ?_;rintro e w2 ⟨rfl,nn,rfl⟩)|(go_at_call_of 58 A;refine (HA.out _).mono ?_;rintro e w3 ⟨rfl,rfl⟩)|(go_at_call_of 58 B;refine (HB.out _).mono ?_;rintro e w4 ⟨rfl,rfl⟩))
  go_ret
  exact ⟨ret_int (by rw [HO.out];rfl),(Q.refl _).drewN _⟩
 ·go_enter Tryz.func38,Tryz.ntmps38
  go_wp2_with (first|(go_at_call 56;refine (HP.out _).mono ?_;rintro e w1 ⟨rfl,rfl⟩)|(go_at_call 57;refine (HC.out _ (Q.refl _)).mono ?_;rintro e w2 ⟨rfl,nn,rfl⟩)|(go_at_call_of 58 A;refine (HA.out _).mono ?_;rintro e w3 ⟨rfl,rfl⟩)|(go_at_call_of 58 B;refine (HB.out _).mono ?_;rintro e w4 ⟨rfl,rfl⟩))
  go_ret
  exact ⟨ret_int (by rw [HO.out];rfl),(Q.refl _).drewN _⟩
def idB(l:List UInt8):Bool:=decide (0≤ownK l)
theorem id_any(s:ByteArray)(w:World)(hw:Std w)(hs:s.size<4294967281) :
  Calls Tryz.prog 25 #[.string s] w fun e w'=>e=.returned (.bool (idB s.data.toList))∧Q w w':=by
 have HO:=hid (owner_any s w hw hs);have HI:Hid (idB s.data.toList=decide (0≤ownK s.data.toList)):=rfl
 generalize ownK s.data.toList=K at *;clear hw hs;go_enter Tryz.func25,Tryz.ntmps25
 go_wp2_with (go_at_call 38;refine HO.out.mono ?_;rintro e w1 ⟨rfl,q1⟩)
 go_ret
 exact ⟨ret_bool HI.out.symm,q1⟩
theorem allL_no(s:ByteArray)(k:Nat)(h:k<s.size)(hd:let1 s[k]=false):allL s.data.toList=false:=by
 unfold allL
 rw [List.all_eq_false];exact ⟨s[k],get_mem s k h,by simp [hd]⟩
end Go.Proofs.YtngnakdbhkjbjaaGreatDoor
namespace Go.Proofs.YtngnakdbhkjbjaaGreatDoor.V
open Go.RowKit
theorem size_mk(l:List UInt8):(⟨l.toArray⟩:ByteArray).size=l.length:=by simp [ByteArray.size]
end Go.Proofs.YtngnakdbhkjbjaaGreatDoor.V
namespace Go.Proofs.YtngnakdbhkjbjaaGreatDoor
open Go.RowKit
structure RM (W:World) (B:Nat) (l:List UInt8):Prop where
 cells:∀ o:Nat,o<9→∃ v,W.cell? ⟨B,o,none⟩=some (.int .u8 v)
 tail:∀ j (h:j<l.length),W.cell? ⟨B,9-l.length+j,none⟩=some (.int .u8 (l[j].toNat:Int))
 free:∀ o:Nat,o<9→W.frozen? ⟨B,o,none⟩=false
 big:B<W.heap.size
theorem RM.set{W:World}{B k:Nat}{l:List UInt8}(h:RM W B l)(hk:k+l.length=8)(c:UInt8):RM (W.setCell ⟨B,k,none⟩ (.int .u8 (c.toNat:Int))) B (c::l):=by
 refine ⟨fun o ho=>?_,fun j hj=>?_,fun o ho=>?_,?_⟩
 ·by_cases e:o=k
  ·subst e
   obtain ⟨v,hv⟩:=h.cells o ho
   exact ⟨_,World.cell?_setCell_same _ _ _ hv⟩
  ·rw [World.cell?_setCell_other _ _ _ _ (by simp [Ne.symm e])]
   exact h.cells o ho
 ·have e9:9-(c::l).length=k:=by rw [List.length_cons];omega
  rw [e9]
  match j,hj with
  |0,_=>
   obtain ⟨v,hv⟩:=h.cells k (by omega)
   exact World.cell?_setCell_same _ _ _ hv
  |j+1,hj=>
   rw [World.cell?_setCell_other _ _ _ _ (by simp)]
   have h1:=h.tail j (by simpa using hj)
   rw [show 9-l.length+j=k+(j+1) by omega]at h1
   exact h1
 ·rw [World.frozen?_setCell];exact h.free o ho
 ·rw [World.size_setCell];exact h.big
theorem RM.start(w:World):RM (w.alloc (.cells #[.int .u8 0,.int .u8 0,.int .u8 0,.int .u8 0,.int .u8 0,.int .u8 0,.int .u8 0,.int .u8 0,.int .u8 0] 153)) w.heap.size []:=by
 refine ⟨fun o ho=>⟨0,?_⟩,fun j hj=>absurd hj (by simp),fun o ho=>World.frozen?_alloc_new _ _ _ _,by rw [World.size_alloc];omega⟩
 rw [World.cell?_alloc_new]
 rcases (by omega:o=0∨o=1∨o=2∨o=3∨o=4∨o=5∨o=6∨o=7∨o=8) with rfl|rfl|rfl|rfl|rfl|rfl|rfl|rfl|rfl <;> rfl
theorem name_yes(n:Int)(N:Nat)(w:World)(hN:Hid (n+1=(N:Int)))(n0:0≤n)(n1:n<2199023255552) :
  Calls Tryz.prog 123 #[.int .i64 n] w fun e w'=>e=.returned (.string ⟨(nmL N).toArray⟩)∧Q w w':=by
 have HM:=hid (fun W=>mayline_any n W)
 rw [show decide (0≤n∧n<2199023255552)=true from decide_eq_true ⟨n0,n1⟩]at HM
 have hal:Tryz.prog.arrayLen 153=9:=by kernel_rfl
 have HS:=hid (RM.start w);go_enter Tryz.func123,Tryz.ntmps123
 go_wp2_with (go_at_call 121;refine (HM.out _).mono ?_;rintro e w1 ⟨rfl,rfl⟩)
 go_loopw [0,4] (fun a b W=>∃ (x:Int) (m k:Nat) (l:List UInt8),a=.int .i64 x∧b=.int .i64 (k:Int)∧k+l.length=9∧Hid (x=(m:Int))∧0≤x∧x≤2199023255552∧NI N m l∧RM W w1.heap.size l∧Q w1 W) (fun a b _=>(intOf a).toNat)
 case atStart=>exact ⟨n+1,N,9,[],rfl,rfl,rfl,hN,by omega,by omega,List.append_nil _,HS.out,(Q.refl _).alloc _⟩
 case round=>
  obtain ⟨x,m,k,l,rfl,rfl,hk,hx,x0,x1,di,hr,hq⟩:=hrel;have hl20:=di.len (by have:=hN.out;omega)
  have HD:=hid di;have HR:=hid hr;have HQ:=hid hq;clear di hr hq;by_cases hp:0<x
  ·obtain ⟨p,rfl⟩:∃ p,m=p+1:=⟨m-1,by have:=hx.out;omega⟩
   have hne:0<(nmL (p+1)).length:=List.length_pos_iff.2 (nm_ne _ (by omega))
   obtain ⟨k,rfl⟩:∃ k',k=k'+1:=⟨k-1,by omega⟩
   have HN:=hid (HD.out.next);have hc:((UInt8.ofNat (65+p % 26)).toNat:Int)=65+(x-1) % 26:=by rw [nm_nat p,hx.out];omega
   obtain ⟨c,ec⟩:∃ c,c=UInt8.ofNat (65+p % 26):=⟨_,rfl⟩;rw [←ec]at HN hc;have hx':Hid ((x-1) / 26=((p / 26:Nat):Int)):=by show _=_;rw [hx.out];omega
   obtain ⟨v,hv⟩:=HR.out.cells k (by omega)
   have hf:=HR.out.free k (by omega)
   have hbg:=HR.out.big;have HW:=hid (HR.out.set (k:=k) (by omega) c)
   rw [hc]at HW;clear ec hc HD;go_wp2
   go_roundw
   case rel=>exact ⟨(x-1) / 26,p / 26,k,c::l,rfl,rfl,by rw [List.length_cons];omega,hx',by omega,by omega,HN.out,HW.out,HQ.out.setCell (Nat.le_refl _) _⟩
   case measure=>
    simp only [intOf]
    omega
  ·have hm0:m=0:=by have:=hx.out;omega
   subst hm0;have HF:Hid (l=nmL N):=by have:=HD.out;unfold NI at this;rw [nmL]at this;exact this
   have hlp:0<l.length:=by rw [HF.out];exact List.length_pos_iff.2 (nm_ne _ (by have:=hN.out;omega))
   have hsl:∀ W,(Instr.sliceAt 153 (.pointer (some ⟨w1.heap.size,0,none⟩)) (some (.int .i64 (k:Int))) none none).run Tryz.prog W=.ok (.slice (some ⟨w1.heap.size,k,none⟩) l.length l.length) W:=fun W=>by
    rw [run_sliceAt_array_l W 153 ⟨w1.heap.size,0,none⟩ (by kernel_rfl) .i64 (k:Int) (by omega) (by rw [hal];omega)]
    go_simp
    omega
   have hcv:(convert 154 9 (.slice (some ⟨w1.heap.size,k,none⟩) l.length l.length)).run Tryz.prog wr=.ok (.string ⟨l.toArray⟩) wr:=
    run_convert_bytes_back (P:=Tryz.prog) wr 154 9 5 ⟨w1.heap.size,k,none⟩ l.length l Tryz.underlying154 Tryz.underlying5 Tryz.underlying9 (fun j hj=>by
     have h1:=HR.out.tail j hj;rw [show 9-l.length+j=k+j by omega]at h1
     rw [Lib.add_plain];exact h1)
   clear HD;go_wp2
   go_ret
   exact ⟨ret_str (by rw [HF.out]),HQ.out⟩
theorem name_any(n:Int)(w:World) :
  Calls Tryz.prog 123 #[.int .i64 n] w fun e w'=>e=.returned (.string ⟨(cnL n).toArray⟩)∧Q w w':=by
 by_cases h:0≤n∧n<2199023255552
 ·unfold cnL
  rw [if_pos h];exact name_yes n _ w (by show _=_;omega) h.1 h.2
 ·have HC:Hid (cnL n=[]):=by show _=_;unfold cnL;rw [if_neg h]
  have HM:=hid (fun W=>mayline_any n W)
  rw [show decide (0≤n∧n<2199023255552)=false from decide_eq_false h]at HM
  clear h;go_enter Tryz.func123,Tryz.ntmps123
  go_wp2_with (go_at_call 121;refine (HM.out _).mono ?_;rintro e w1 ⟨rfl,rfl⟩)
  go_ret
  exact ⟨ret_str (by rw [HC.out]),Q.refl _⟩
theorem om5(k:Int)(sh:ByteArray)(x2 x3 x4 x5 x6 x7 x8 x9 x10 x11 x12 x13 x14 x15 x16 x17 x18 x19 x20 x21 x22:Value)(w:World)(p1:Bool)(ib eb:Bool)(k0:(k == 1)=false)(k1:(k == 2)=false)(k2:(k == 3)=false)(k3:(k == 4)=false)(k4:(k == 5)=true)(H0:Hid ((#[.int .i64 k,.string sh,x2,x3,x4,x5,x6,x7,x8,x9,x10,x11,x12,x13,x14,x15,x16,x17,x18,x19,x20,x21,x22]:Array Value).all (·.oneCell')=true))(H1:Hid (∀ V,Q w V→Calls Tryz.prog 24 #[x22] V fun e V'=>e=.returned (.bool p1)∧Q V V'))(HI:Hid (∀ V,Q w V→Calls Tryz.prog 25 #[.string sh] V fun e V'=>e=.returned (.bool ib)∧Q V V'))(HE:Hid (∀ V,Q w V→Calls Tryz.prog 10 #[.agg #[.int .i64 k,.string sh,x2,x3,x4,x5,x6,x7,x8,x9,x10,x11,x12,x13,x14,x15,x16,x17,x18,x19,x20,x21,.string ⟨#[]⟩],.agg #[.int .i64 k,.string sh,.int .i64 0,.int .i64 0,.bool false,.int .i64 0,.int .i64 0,.string ⟨#[]⟩,.bool false,.int .i64 0,.int .i64 0,.int .i64 0,.string ⟨#[]⟩,.bool false,.int .i64 0,.slice none 0 0,.slice none 0 0,.int .i64 0,.int .i64 0,.int .i64 0,.slice none 0 0,.int .i64 0,.string ⟨#[]⟩]] V fun e V'=>e=.returned (.bool eb)∧Q V V')):Calls Tryz.prog 8 #[.agg #[.int .i64 k,.string sh,x2,x3,x4,x5,x6,x7,x8,x9,x10,x11,x12,x13,x14,x15,x16,x17,x18,x19,x20,x21,x22]] w fun e V'=>e=.returned (.bool (p1&&(ib&&eb)))∧Q w V':=by
 go_enter Tryz.func8,Tryz.ntmps8
 go_upto_region 1 with fail
 have Z1:=hid (cq_new w [.int .i64 k,.string sh,x2,x3,x4,x5,x6,x7,x8,x9,x10,x11,x12,x13,x14,x15,x16,x17,x18,x19,x20,x21,x22]);rw [show ([.int .i64 k,.string sh,x2,x3,x4,x5,x6,x7,x8,x9,x10,x11,x12,x13,x14,x15,x16,x17,x18,x19,x20,x21,x22]:List Value).toArray=#[.int .i64 k,.string sh,x2,x3,x4,x5,x6,x7,x8,x9,x10,x11,x12,x13,x14,x15,x16,x17,x18,x19,x20,x21,x22] from rfl]at Z1
 have QA:Hid (Q w (w.alloc (.cells #[.int .i64 k,.string sh,x2,x3,x4,x5,x6,x7,x8,x9,x10,x11,x12,x13,x14,x15,x16,x17,x18,x19,x20,x21,x22] 35))):=hid ((Q.refl w).alloc _)
 generalize w.alloc (.cells #[.int .i64 k,.string sh,x2,x3,x4,x5,x6,x7,x8,x9,x10,x11,x12,x13,x14,x15,x16,x17,x18,x19,x20,x21,x22] 35)=w1 at Z1 QA ⊢;generalize w.heap.size=b0 at Z1 ⊢;refine two (F:=?F) (fun HF=>?both) ?rest
 case both=>
  refine wp_region_any (by kernel_rfl) ?_
  change wpAny _ _ _ _ _ _ _ (World.drew _)
  refine wpAny_ready (rs:=[0,1]) (by kernel_rfl) (by simp) ?_
  refine AllReady.cons rfl (fun K hK=>?_) (AllReady.cons rfl (fun K hK=>?_) AllReady.nil)
  ·refine step_load_row (by rfl) _ (by rfl) b0 (by rfl) [.int .i64 k,.string sh,x2,x3,x4,x5,x6,x7,x8,x9,x10,x11,x12,x13,x14,x15,x16,x17,x18,x19,x20,x21,x22] (Z1.out.on (Q.refl _).drew) (by rfl) (hK _ _ ?_)
   clear hK K;refine wpAny_ready (rs:=[1]) (by kernel_rfl) (by simp) ?_
   refine AllReady.cons rfl (fun K hK=>?_) AllReady.nil
   go_simp
   refine hK _ _ ?_
   clear hK K;refine wpAny_ready (rs:=[2]) (by kernel_rfl) (by simp) ?_
   refine AllReady.cons rfl (fun K hK=>?_) AllReady.nil
   go_simp
   refine hK _ _ ?_
   clear hK K;refine wpAny_ready (rs:=[3]) (by kernel_rfl) (by simp) ?_
   refine AllReady.cons rfl (fun K hK=>?_) AllReady.nil
   refine step_store_row (by rfl) 35 _ _ (by rfl) w1.heap.size #[.int .i64 k,.string sh,x2,x3,x4,x5,x6,x7,x8,x9,x10,x11,x12,x13,x14,x15,x16,x17,x18,x19,x20,x21,x22] (by rfl) (by rfl) 35 #[.int .i64 0,.string ⟨#[]⟩,.int .i64 0,.int .i64 0,.bool false,.int .i64 0,.int .i64 0,.string ⟨#[]⟩,.bool false,.int .i64 0,.int .i64 0,.int .i64 0,.string ⟨#[]⟩,.bool false,.int .i64 0,.slice none 0 0,.slice none 0 0,.int .i64 0,.int .i64 0,.int .i64 0,.slice none 0 0,.int .i64 0,.string ⟨#[]⟩] (heap_alloc_last w1 _) info35 (by rfl) H0.out (hK _ _ ?_)
   clear hK K;refine wpAny_done (by kernel_rfl) ?_ _
   rw [set_new];exact HF
  ·go_simp
   refine hK _ _ ?_
   clear hK K;refine wpAny_ready (rs:=[0,2]) (by kernel_rfl) (by simp) ?_
   refine AllReady.cons rfl (fun K hK=>?_) (AllReady.cons rfl (fun K hK=>?_) AllReady.nil)
   ·refine step_load_row (by rfl) _ (by rfl) b0 (by rfl) [.int .i64 k,.string sh,x2,x3,x4,x5,x6,x7,x8,x9,x10,x11,x12,x13,x14,x15,x16,x17,x18,x19,x20,x21,x22] (Z1.out.on (((Q.refl _).alloc _).drew)) (by rfl) (hK _ _ ?_)
    clear hK K;refine wpAny_ready (rs:=[2]) (by kernel_rfl) (by simp) ?_
    refine AllReady.cons rfl (fun K hK=>?_) AllReady.nil
    go_simp
    refine hK _ _ ?_
    clear hK K;refine wpAny_ready (rs:=[3]) (by kernel_rfl) (by simp) ?_
    refine AllReady.cons rfl (fun K hK=>?_) AllReady.nil
    refine step_store_row (by rfl) 35 _ _ (by rfl) w1.heap.size #[.int .i64 k,.string sh,x2,x3,x4,x5,x6,x7,x8,x9,x10,x11,x12,x13,x14,x15,x16,x17,x18,x19,x20,x21,x22] (by rfl) (by rfl) 35 #[.int .i64 0,.string ⟨#[]⟩,.int .i64 0,.int .i64 0,.bool false,.int .i64 0,.int .i64 0,.string ⟨#[]⟩,.bool false,.int .i64 0,.int .i64 0,.int .i64 0,.string ⟨#[]⟩,.bool false,.int .i64 0,.slice none 0 0,.slice none 0 0,.int .i64 0,.int .i64 0,.int .i64 0,.slice none 0 0,.int .i64 0,.string ⟨#[]⟩] (heap_alloc_last w1 _) info35 (by rfl) H0.out (hK _ _ ?_)
    clear hK K;refine wpAny_done (by kernel_rfl) ?_ _
    rw [set_new];exact HF
   ·go_simp
    refine hK _ _ ?_
    clear hK K;refine wpAny_ready (rs:=[0]) (by kernel_rfl) (by simp) ?_
    refine AllReady.cons rfl (fun K hK=>?_) AllReady.nil
    refine step_load_row (by rfl) _ (by rfl) b0 (by rfl) [.int .i64 k,.string sh,x2,x3,x4,x5,x6,x7,x8,x9,x10,x11,x12,x13,x14,x15,x16,x17,x18,x19,x20,x21,x22] (Z1.out.on (((Q.refl _).alloc _).drew)) (by rfl) (hK _ _ ?_)
    clear hK K;refine wpAny_ready (rs:=[3]) (by kernel_rfl) (by simp) ?_
    refine AllReady.cons rfl (fun K hK=>?_) AllReady.nil
    refine step_store_row (by rfl) 35 _ _ (by rfl) w1.heap.size #[.int .i64 k,.string sh,x2,x3,x4,x5,x6,x7,x8,x9,x10,x11,x12,x13,x14,x15,x16,x17,x18,x19,x20,x21,x22] (by rfl) (by rfl) 35 #[.int .i64 0,.string ⟨#[]⟩,.int .i64 0,.int .i64 0,.bool false,.int .i64 0,.int .i64 0,.string ⟨#[]⟩,.bool false,.int .i64 0,.int .i64 0,.int .i64 0,.string ⟨#[]⟩,.bool false,.int .i64 0,.slice none 0 0,.slice none 0 0,.int .i64 0,.int .i64 0,.int .i64 0,.slice none 0 0,.int .i64 0,.string ⟨#[]⟩] (heap_alloc_last w1 _) info35 (by rfl) H0.out (hK _ _ ?_)
    clear hK K;refine wpAny_done (by kernel_rfl) ?_ _
    rw [set_new];exact HF
 have Z2:=hid ((cq_new w1 [.int .i64 k,.string sh,x2,x3,x4,x5,x6,x7,x8,x9,x10,x11,x12,x13,x14,x15,x16,x17,x18,x19,x20,x21,x22]).on (Q.refl _).drew);rw [show ([.int .i64 k,.string sh,x2,x3,x4,x5,x6,x7,x8,x9,x10,x11,x12,x13,x14,x15,x16,x17,x18,x19,x20,x21,x22]:List Value).toArray=#[.int .i64 k,.string sh,x2,x3,x4,x5,x6,x7,x8,x9,x10,x11,x12,x13,x14,x15,x16,x17,x18,x19,x20,x21,x22] from rfl]at Z2
 have Z0:=hid (Z1.out.on (((Q.refl w1).alloc (.cells #[.int .i64 k,.string sh,x2,x3,x4,x5,x6,x7,x8,x9,x10,x11,x12,x13,x14,x15,x16,x17,x18,x19,x20,x21,x22] 35)).drew));have QB:Hid (Q w ((w1.alloc (.cells #[.int .i64 k,.string sh,x2,x3,x4,x5,x6,x7,x8,x9,x10,x11,x12,x13,x14,x15,x16,x17,x18,x19,x20,x21,x22] 35)).drew)):=hid ((QA.out.alloc _).drew)
 have hb1:w.heap.size≤w1.heap.size:=QA.out.size
 have hne:b0≠w1.heap.size:=Nat.ne_of_lt Z1.out.l
 generalize (w1.alloc (.cells #[.int .i64 k,.string sh,x2,x3,x4,x5,x6,x7,x8,x9,x10,x11,x12,x13,x14,x15,x16,x17,x18,x19,x20,x21,x22] 35)).drew=w2 at Z0 Z2 QB ⊢;generalize w1.heap.size=b1x at Z2 hb1 hne ⊢;clear Z1 QA;have d0:=Z0.out.c 0 _ rfl;have d22:=Z0.out.c 22 _ rfl;have u22:=Z2.out.c 22 _ rfl;have uf22:=Z2.out.f 22;cases p1 with
 |false=>
  go_wp2_with (first|(go_at_call 24;refine (H1.out _ QB.out).mono ?_;rintro e9 v0 ⟨rfl,q9⟩;have QC0:Hid (Q w v0):=hid (QB.out.trans q9);have Z10:=hid (Z0.out.on q9);have Z20:=hid (Z2.out.on q9);clear q9;have d0_0:=Z10.out.c 0 _ rfl;have d0_22:=Z10.out.c 22 _ rfl;have u0_22:=Z20.out.c 22 _ rfl;have uf0_22:=Z20.out.f 22))
  go_ret
  exact ⟨rfl,by repeat (first|exact QC0.out|refine Q.setCell ?_ hb1 _)⟩
 |true=>
  go_upto_region 17 with (first|(go_at_call 24;refine (H1.out _ QB.out).mono ?_;rintro e9 v0 ⟨rfl,q9⟩;have QC0:Hid (Q w v0):=hid (QB.out.trans q9);have Z10:=hid (Z0.out.on q9);have Z20:=hid (Z2.out.on q9);clear q9;have d0_0:=Z10.out.c 0 _ rfl;have d0_22:=Z10.out.c 22 _ rfl;have u0_22:=Z20.out.c 22 _ rfl;have uf0_22:=Z20.out.f 22))
  have QV:Hid (Q w (v0.setCell ⟨b1x,22,none⟩ (.string ⟨#[]⟩))):=hid (by repeat (first|exact QC0.out|refine Q.setCell ?_ hb1 _))
  have Z1V:Hid (Cq (v0.setCell ⟨b1x,22,none⟩ (.string ⟨#[]⟩)) b0 [.int .i64 k,.string sh,x2,x3,x4,x5,x6,x7,x8,x9,x10,x11,x12,x13,x14,x15,x16,x17,x18,x19,x20,x21,x22]):=hid ((Z10.out.oth hne 22 (.string ⟨#[]⟩)))
  have Z2V:Hid (Cq (v0.setCell ⟨b1x,22,none⟩ (.string ⟨#[]⟩)) b1x [.int .i64 k,.string sh,x2,x3,x4,x5,x6,x7,x8,x9,x10,x11,x12,x13,x14,x15,x16,x17,x18,x19,x20,x21,.string ⟨#[]⟩]):=hid ((Z20.out.put 22 (.string ⟨#[]⟩)))
  generalize (v0.setCell ⟨b1x,22,none⟩ (.string ⟨#[]⟩))=V at QV Z1V Z2V ⊢;clear d0 d22 u22 uf22 d0_0 d0_22 u0_22 uf0_22;have g0:=Z1V.out.c 0 _ rfl;have g1:=Z1V.out.c 1 _ rfl;cases ib with
  |false=>
   go_wp2_with (go_at_call 25;refine (HI.out _ QV.out).mono ?_;rintro e9 y1 ⟨rfl,q9⟩;have QY:Hid (Q w y1):=hid (QV.out.trans q9);clear q9)
   go_ret
   exact ⟨rfl,QY.out⟩
  |true=>
   go_wp2_with (first|(go_at_call 25;refine (HI.out _ QV.out).mono ?_;rintro e9 y1 ⟨rfl,q9⟩;have QY:Hid (Q w y1):=hid (QV.out.trans q9);have Z1Y:=hid (Z1V.out.on q9);have Z2Y:=hid (Z2V.out.on q9);clear q9;have g0':=Z1Y.out.c 0 _ rfl;have g1':=Z1Y.out.c 1 _ rfl)|(refine wpl_loadg _ (by rfl) (by rfl) b1x (by rfl) [.int .i64 k,.string sh,x2,x3,x4,x5,x6,x7,x8,x9,x10,x11,x12,x13,x14,x15,x16,x17,x18,x19,x20,x21,.string ⟨#[]⟩] Z2Y.out (by rfl) ?_)|(refine wpl_buildg _ (by rfl) (by rfl) #[.int .i64 k,.string sh,.int .i64 0,.int .i64 0,.bool false,.int .i64 0,.int .i64 0,.string ⟨#[]⟩,.bool false,.int .i64 0,.int .i64 0,.int .i64 0,.string ⟨#[]⟩,.bool false,.int .i64 0,.slice none 0 0,.slice none 0 0,.int .i64 0,.int .i64 0,.int .i64 0,.slice none 0 0,.int .i64 0,.string ⟨#[]⟩] (by kernel_rfl) ?_)|(go_at_call 10;refine (HE.out _ QY.out).mono ?_;rintro e9 y2 ⟨rfl,q9⟩;have QY2:Hid (Q w y2):=hid (QY.out.trans q9);clear q9))
   go_ret
   exact ⟨rfl,QY2.out⟩
theorem om6(k:Int)(sh:ByteArray)(x2 x3 x4 x5 x6 x7 x8 x9 x10 x11 x12 x13 x14 x15 x16 x17 x18 x19 x20 x21 x22:Value)(w:World)(p1:Bool)(ib eb:Bool)(k0:(k == 1)=false)(k1:(k == 2)=false)(k2:(k == 3)=false)(k3:(k == 4)=false)(k4:(k == 5)=false)(k5:(k == 6)=true)(H0:Hid ((#[.int .i64 k,.string sh,x2,x3,x4,x5,x6,x7,x8,x9,x10,x11,x12,x13,x14,x15,x16,x17,x18,x19,x20,x21,x22]:Array Value).all (·.oneCell')=true))(H1:Hid (∀ V,Q w V→Calls Tryz.prog 24 #[x22] V fun e V'=>e=.returned (.bool p1)∧Q V V'))(HI:Hid (∀ V,Q w V→Calls Tryz.prog 25 #[.string sh] V fun e V'=>e=.returned (.bool ib)∧Q V V'))(HE:Hid (∀ V,Q w V→Calls Tryz.prog 10 #[.agg #[.int .i64 k,.string sh,x2,x3,x4,x5,x6,x7,x8,x9,x10,x11,x12,x13,x14,x15,x16,x17,x18,x19,x20,x21,.string ⟨#[]⟩],.agg #[.int .i64 k,.string sh,.int .i64 0,.int .i64 0,.bool false,.int .i64 0,.int .i64 0,.string ⟨#[]⟩,.bool false,.int .i64 0,.int .i64 0,.int .i64 0,.string ⟨#[]⟩,.bool false,.int .i64 0,.slice none 0 0,.slice none 0 0,.int .i64 0,.int .i64 0,.int .i64 0,.slice none 0 0,.int .i64 0,.string ⟨#[]⟩]] V fun e V'=>e=.returned (.bool eb)∧Q V V')):Calls Tryz.prog 8 #[.agg #[.int .i64 k,.string sh,x2,x3,x4,x5,x6,x7,x8,x9,x10,x11,x12,x13,x14,x15,x16,x17,x18,x19,x20,x21,x22]] w fun e V'=>e=.returned (.bool (p1&&(ib&&eb)))∧Q w V':=by
 go_enter Tryz.func8,Tryz.ntmps8
 go_upto_region 1 with fail
 have Z1:=hid (cq_new w [.int .i64 k,.string sh,x2,x3,x4,x5,x6,x7,x8,x9,x10,x11,x12,x13,x14,x15,x16,x17,x18,x19,x20,x21,x22]);rw [show ([.int .i64 k,.string sh,x2,x3,x4,x5,x6,x7,x8,x9,x10,x11,x12,x13,x14,x15,x16,x17,x18,x19,x20,x21,x22]:List Value).toArray=#[.int .i64 k,.string sh,x2,x3,x4,x5,x6,x7,x8,x9,x10,x11,x12,x13,x14,x15,x16,x17,x18,x19,x20,x21,x22] from rfl]at Z1
 have QA:Hid (Q w (w.alloc (.cells #[.int .i64 k,.string sh,x2,x3,x4,x5,x6,x7,x8,x9,x10,x11,x12,x13,x14,x15,x16,x17,x18,x19,x20,x21,x22] 35))):=hid ((Q.refl w).alloc _)
 generalize w.alloc (.cells #[.int .i64 k,.string sh,x2,x3,x4,x5,x6,x7,x8,x9,x10,x11,x12,x13,x14,x15,x16,x17,x18,x19,x20,x21,x22] 35)=w1 at Z1 QA ⊢;generalize w.heap.size=b0 at Z1 ⊢;refine two (F:=?F) (fun HF=>?both) ?rest
 case both=>
  refine wp_region_any (by kernel_rfl) ?_
  change wpAny _ _ _ _ _ _ _ (World.drew _)
  refine wpAny_ready (rs:=[0,1]) (by kernel_rfl) (by simp) ?_
  refine AllReady.cons rfl (fun K hK=>?_) (AllReady.cons rfl (fun K hK=>?_) AllReady.nil)
  ·refine step_load_row (by rfl) _ (by rfl) b0 (by rfl) [.int .i64 k,.string sh,x2,x3,x4,x5,x6,x7,x8,x9,x10,x11,x12,x13,x14,x15,x16,x17,x18,x19,x20,x21,x22] (Z1.out.on (Q.refl _).drew) (by rfl) (hK _ _ ?_)
   clear hK K;refine wpAny_ready (rs:=[1]) (by kernel_rfl) (by simp) ?_
   refine AllReady.cons rfl (fun K hK=>?_) AllReady.nil
   go_simp
   refine hK _ _ ?_
   clear hK K;refine wpAny_ready (rs:=[2]) (by kernel_rfl) (by simp) ?_
   refine AllReady.cons rfl (fun K hK=>?_) AllReady.nil
   go_simp
   refine hK _ _ ?_
   clear hK K;refine wpAny_ready (rs:=[3]) (by kernel_rfl) (by simp) ?_
   refine AllReady.cons rfl (fun K hK=>?_) AllReady.nil
   refine step_store_row (by rfl) 35 _ _ (by rfl) w1.heap.size #[.int .i64 k,.string sh,x2,x3,x4,x5,x6,x7,x8,x9,x10,x11,x12,x13,x14,x15,x16,x17,x18,x19,x20,x21,x22] (by rfl) (by rfl) 35 #[.int .i64 0,.string ⟨#[]⟩,.int .i64 0,.int .i64 0,.bool false,.int .i64 0,.int .i64 0,.string ⟨#[]⟩,.bool false,.int .i64 0,.int .i64 0,.int .i64 0,.string ⟨#[]⟩,.bool false,.int .i64 0,.slice none 0 0,.slice none 0 0,.int .i64 0,.int .i64 0,.int .i64 0,.slice none 0 0,.int .i64 0,.string ⟨#[]⟩] (heap_alloc_last w1 _) info35 (by rfl) H0.out (hK _ _ ?_)
   clear hK K;refine wpAny_done (by kernel_rfl) ?_ _
   rw [set_new];exact HF
  ·go_simp
   refine hK _ _ ?_
   clear hK K;refine wpAny_ready (rs:=[0,2]) (by kernel_rfl) (by simp) ?_
   refine AllReady.cons rfl (fun K hK=>?_) (AllReady.cons rfl (fun K hK=>?_) AllReady.nil)
   ·refine step_load_row (by rfl) _ (by rfl) b0 (by rfl) [.int .i64 k,.string sh,x2,x3,x4,x5,x6,x7,x8,x9,x10,x11,x12,x13,x14,x15,x16,x17,x18,x19,x20,x21,x22] (Z1.out.on (((Q.refl _).alloc _).drew)) (by rfl) (hK _ _ ?_)
    clear hK K;refine wpAny_ready (rs:=[2]) (by kernel_rfl) (by simp) ?_
    refine AllReady.cons rfl (fun K hK=>?_) AllReady.nil
    go_simp
    refine hK _ _ ?_
    clear hK K;refine wpAny_ready (rs:=[3]) (by kernel_rfl) (by simp) ?_
    refine AllReady.cons rfl (fun K hK=>?_) AllReady.nil
    refine step_store_row (by rfl) 35 _ _ (by rfl) w1.heap.size #[.int .i64 k,.string sh,x2,x3,x4,x5,x6,x7,x8,x9,x10,x11,x12,x13,x14,x15,x16,x17,x18,x19,x20,x21,x22] (by rfl) (by rfl) 35 #[.int .i64 0,.string ⟨#[]⟩,.int .i64 0,.int .i64 0,.bool false,.int .i64 0,.int .i64 0,.string ⟨#[]⟩,.bool false,.int .i64 0,.int .i64 0,.int .i64 0,.string ⟨#[]⟩,.bool false,.int .i64 0,.slice none 0 0,.slice none 0 0,.int .i64 0,.int .i64 0,.int .i64 0,.slice none 0 0,.int .i64 0,.string ⟨#[]⟩] (heap_alloc_last w1 _) info35 (by rfl) H0.out (hK _ _ ?_)
    clear hK K;refine wpAny_done (by kernel_rfl) ?_ _
    rw [set_new];exact HF
   ·go_simp
    refine hK _ _ ?_
    clear hK K;refine wpAny_ready (rs:=[0]) (by kernel_rfl) (by simp) ?_
    refine AllReady.cons rfl (fun K hK=>?_) AllReady.nil
    refine step_load_row (by rfl) _ (by rfl) b0 (by rfl) [.int .i64 k,.string sh,x2,x3,x4,x5,x6,x7,x8,x9,x10,x11,x12,x13,x14,x15,x16,x17,x18,x19,x20,x21,x22] (Z1.out.on (((Q.refl _).alloc _).drew)) (by rfl) (hK _ _ ?_)
    clear hK K;refine wpAny_ready (rs:=[3]) (by kernel_rfl) (by simp) ?_
    refine AllReady.cons rfl (fun K hK=>?_) AllReady.nil
    refine step_store_row (by rfl) 35 _ _ (by rfl) w1.heap.size #[.int .i64 k,.string sh,x2,x3,x4,x5,x6,x7,x8,x9,x10,x11,x12,x13,x14,x15,x16,x17,x18,x19,x20,x21,x22] (by rfl) (by rfl) 35 #[.int .i64 0,.string ⟨#[]⟩,.int .i64 0,.int .i64 0,.bool false,.int .i64 0,.int .i64 0,.string ⟨#[]⟩,.bool false,.int .i64 0,.int .i64 0,.int .i64 0,.string ⟨#[]⟩,.bool false,.int .i64 0,.slice none 0 0,.slice none 0 0,.int .i64 0,.int .i64 0,.int .i64 0,.slice none 0 0,.int .i64 0,.string ⟨#[]⟩] (heap_alloc_last w1 _) info35 (by rfl) H0.out (hK _ _ ?_)
    clear hK K;refine wpAny_done (by kernel_rfl) ?_ _
    rw [set_new];exact HF
 have Z2:=hid ((cq_new w1 [.int .i64 k,.string sh,x2,x3,x4,x5,x6,x7,x8,x9,x10,x11,x12,x13,x14,x15,x16,x17,x18,x19,x20,x21,x22]).on (Q.refl _).drew);rw [show ([.int .i64 k,.string sh,x2,x3,x4,x5,x6,x7,x8,x9,x10,x11,x12,x13,x14,x15,x16,x17,x18,x19,x20,x21,x22]:List Value).toArray=#[.int .i64 k,.string sh,x2,x3,x4,x5,x6,x7,x8,x9,x10,x11,x12,x13,x14,x15,x16,x17,x18,x19,x20,x21,x22] from rfl]at Z2
 have Z0:=hid (Z1.out.on (((Q.refl w1).alloc (.cells #[.int .i64 k,.string sh,x2,x3,x4,x5,x6,x7,x8,x9,x10,x11,x12,x13,x14,x15,x16,x17,x18,x19,x20,x21,x22] 35)).drew));have QB:Hid (Q w ((w1.alloc (.cells #[.int .i64 k,.string sh,x2,x3,x4,x5,x6,x7,x8,x9,x10,x11,x12,x13,x14,x15,x16,x17,x18,x19,x20,x21,x22] 35)).drew)):=hid ((QA.out.alloc _).drew)
 have hb1:w.heap.size≤w1.heap.size:=QA.out.size
 have hne:b0≠w1.heap.size:=Nat.ne_of_lt Z1.out.l
 generalize (w1.alloc (.cells #[.int .i64 k,.string sh,x2,x3,x4,x5,x6,x7,x8,x9,x10,x11,x12,x13,x14,x15,x16,x17,x18,x19,x20,x21,x22] 35)).drew=w2 at Z0 Z2 QB ⊢;generalize w1.heap.size=b1x at Z2 hb1 hne ⊢;clear Z1 QA;have d0:=Z0.out.c 0 _ rfl;have d22:=Z0.out.c 22 _ rfl;have u22:=Z2.out.c 22 _ rfl;have uf22:=Z2.out.f 22;cases p1 with
 |false=>
  go_wp2_with (first|(go_at_call 24;refine (H1.out _ QB.out).mono ?_;rintro e9 v0 ⟨rfl,q9⟩;have QC0:Hid (Q w v0):=hid (QB.out.trans q9);have Z10:=hid (Z0.out.on q9);have Z20:=hid (Z2.out.on q9);clear q9;have d0_0:=Z10.out.c 0 _ rfl;have d0_22:=Z10.out.c 22 _ rfl;have u0_22:=Z20.out.c 22 _ rfl;have uf0_22:=Z20.out.f 22))
  go_ret
  exact ⟨rfl,by repeat (first|exact QC0.out|refine Q.setCell ?_ hb1 _)⟩
 |true=>
  go_upto_region 17 with (first|(go_at_call 24;refine (H1.out _ QB.out).mono ?_;rintro e9 v0 ⟨rfl,q9⟩;have QC0:Hid (Q w v0):=hid (QB.out.trans q9);have Z10:=hid (Z0.out.on q9);have Z20:=hid (Z2.out.on q9);clear q9;have d0_0:=Z10.out.c 0 _ rfl;have d0_22:=Z10.out.c 22 _ rfl;have u0_22:=Z20.out.c 22 _ rfl;have uf0_22:=Z20.out.f 22))
  have QV:Hid (Q w (v0.setCell ⟨b1x,22,none⟩ (.string ⟨#[]⟩))):=hid (by repeat (first|exact QC0.out|refine Q.setCell ?_ hb1 _))
  have Z1V:Hid (Cq (v0.setCell ⟨b1x,22,none⟩ (.string ⟨#[]⟩)) b0 [.int .i64 k,.string sh,x2,x3,x4,x5,x6,x7,x8,x9,x10,x11,x12,x13,x14,x15,x16,x17,x18,x19,x20,x21,x22]):=hid ((Z10.out.oth hne 22 (.string ⟨#[]⟩)))
  have Z2V:Hid (Cq (v0.setCell ⟨b1x,22,none⟩ (.string ⟨#[]⟩)) b1x [.int .i64 k,.string sh,x2,x3,x4,x5,x6,x7,x8,x9,x10,x11,x12,x13,x14,x15,x16,x17,x18,x19,x20,x21,.string ⟨#[]⟩]):=hid ((Z20.out.put 22 (.string ⟨#[]⟩)))
  generalize (v0.setCell ⟨b1x,22,none⟩ (.string ⟨#[]⟩))=V at QV Z1V Z2V ⊢;clear d0 d22 u22 uf22 d0_0 d0_22 u0_22 uf0_22;have g0:=Z1V.out.c 0 _ rfl;have g1:=Z1V.out.c 1 _ rfl;cases ib with
  |false=>
   go_wp2_with (go_at_call 25;refine (HI.out _ QV.out).mono ?_;rintro e9 y1 ⟨rfl,q9⟩;have QY:Hid (Q w y1):=hid (QV.out.trans q9);clear q9)
   go_ret
   exact ⟨rfl,QY.out⟩
  |true=>
   go_wp2_with (first|(go_at_call 25;refine (HI.out _ QV.out).mono ?_;rintro e9 y1 ⟨rfl,q9⟩;have QY:Hid (Q w y1):=hid (QV.out.trans q9);have Z1Y:=hid (Z1V.out.on q9);have Z2Y:=hid (Z2V.out.on q9);clear q9;have g0':=Z1Y.out.c 0 _ rfl;have g1':=Z1Y.out.c 1 _ rfl)|(refine wpl_loadg _ (by rfl) (by rfl) b1x (by rfl) [.int .i64 k,.string sh,x2,x3,x4,x5,x6,x7,x8,x9,x10,x11,x12,x13,x14,x15,x16,x17,x18,x19,x20,x21,.string ⟨#[]⟩] Z2Y.out (by rfl) ?_)|(refine wpl_buildg _ (by rfl) (by rfl) #[.int .i64 k,.string sh,.int .i64 0,.int .i64 0,.bool false,.int .i64 0,.int .i64 0,.string ⟨#[]⟩,.bool false,.int .i64 0,.int .i64 0,.int .i64 0,.string ⟨#[]⟩,.bool false,.int .i64 0,.slice none 0 0,.slice none 0 0,.int .i64 0,.int .i64 0,.int .i64 0,.slice none 0 0,.int .i64 0,.string ⟨#[]⟩] (by kernel_rfl) ?_)|(go_at_call 10;refine (HE.out _ QY.out).mono ?_;rintro e9 y2 ⟨rfl,q9⟩;have QY2:Hid (Q w y2):=hid (QY.out.trans q9);clear q9))
   go_ret
   exact ⟨rfl,QY2.out⟩
theorem om7(k:Int)(sh:ByteArray)(x2 x3 x4 x5 x6 x7 x8 x9 x10 x11 x12 x13 x14 x15 x16 x17 x18 x19 x20 x21 x22:Value)(w:World)(ib eb:Bool)(k0:(k == 1)=false)(k1:(k == 2)=false)(k2:(k == 3)=false)(k3:(k == 4)=false)(k4:(k == 5)=false)(k5:(k == 6)=false)(k6:(k == 7)=true)(H0:Hid ((#[.int .i64 k,.string sh,x2,x3,x4,x5,x6,x7,x8,x9,x10,x11,x12,x13,x14,x15,x16,x17,x18,x19,x20,x21,x22]:Array Value).all (·.oneCell')=true))(HI:Hid (∀ V,Q w V→Calls Tryz.prog 25 #[.string sh] V fun e V'=>e=.returned (.bool ib)∧Q V V'))(HE:Hid (∀ V,Q w V→Calls Tryz.prog 10 #[.agg #[.int .i64 k,.string sh,x2,x3,x4,x5,x6,x7,x8,x9,x10,x11,x12,x13,x14,x15,x16,x17,x18,x19,x20,x21,x22],.agg #[.int .i64 k,.string sh,.int .i64 0,.int .i64 0,.bool false,.int .i64 0,.int .i64 0,.string ⟨#[]⟩,.bool false,.int .i64 0,.int .i64 0,.int .i64 0,.string ⟨#[]⟩,.bool false,.int .i64 0,.slice none 0 0,.slice none 0 0,.int .i64 0,.int .i64 0,.int .i64 0,.slice none 0 0,.int .i64 0,.string ⟨#[]⟩]] V fun e V'=>e=.returned (.bool eb)∧Q V V')):Calls Tryz.prog 8 #[.agg #[.int .i64 k,.string sh,x2,x3,x4,x5,x6,x7,x8,x9,x10,x11,x12,x13,x14,x15,x16,x17,x18,x19,x20,x21,x22]] w fun e V'=>e=.returned (.bool (true&&(ib&&eb)))∧Q w V':=by
 go_enter Tryz.func8,Tryz.ntmps8
 go_upto_region 1 with fail
 have Z1:=hid (cq_new w [.int .i64 k,.string sh,x2,x3,x4,x5,x6,x7,x8,x9,x10,x11,x12,x13,x14,x15,x16,x17,x18,x19,x20,x21,x22]);rw [show ([.int .i64 k,.string sh,x2,x3,x4,x5,x6,x7,x8,x9,x10,x11,x12,x13,x14,x15,x16,x17,x18,x19,x20,x21,x22]:List Value).toArray=#[.int .i64 k,.string sh,x2,x3,x4,x5,x6,x7,x8,x9,x10,x11,x12,x13,x14,x15,x16,x17,x18,x19,x20,x21,x22] from rfl]at Z1
 have QA:Hid (Q w (w.alloc (.cells #[.int .i64 k,.string sh,x2,x3,x4,x5,x6,x7,x8,x9,x10,x11,x12,x13,x14,x15,x16,x17,x18,x19,x20,x21,x22] 35))):=hid ((Q.refl w).alloc _)
 generalize w.alloc (.cells #[.int .i64 k,.string sh,x2,x3,x4,x5,x6,x7,x8,x9,x10,x11,x12,x13,x14,x15,x16,x17,x18,x19,x20,x21,x22] 35)=w1 at Z1 QA ⊢;generalize w.heap.size=b0 at Z1 ⊢;refine two (F:=?F) (fun HF=>?both) ?rest
 case both=>
  refine wp_region_any (by kernel_rfl) ?_
  change wpAny _ _ _ _ _ _ _ (World.drew _)
  refine wpAny_ready (rs:=[0,1]) (by kernel_rfl) (by simp) ?_
  refine AllReady.cons rfl (fun K hK=>?_) (AllReady.cons rfl (fun K hK=>?_) AllReady.nil)
  ·refine step_load_row (by rfl) _ (by rfl) b0 (by rfl) [.int .i64 k,.string sh,x2,x3,x4,x5,x6,x7,x8,x9,x10,x11,x12,x13,x14,x15,x16,x17,x18,x19,x20,x21,x22] (Z1.out.on (Q.refl _).drew) (by rfl) (hK _ _ ?_)
   clear hK K;refine wpAny_ready (rs:=[1]) (by kernel_rfl) (by simp) ?_
   refine AllReady.cons rfl (fun K hK=>?_) AllReady.nil
   go_simp
   refine hK _ _ ?_
   clear hK K;refine wpAny_ready (rs:=[2]) (by kernel_rfl) (by simp) ?_
   refine AllReady.cons rfl (fun K hK=>?_) AllReady.nil
   go_simp
   refine hK _ _ ?_
   clear hK K;refine wpAny_ready (rs:=[3]) (by kernel_rfl) (by simp) ?_
   refine AllReady.cons rfl (fun K hK=>?_) AllReady.nil
   refine step_store_row (by rfl) 35 _ _ (by rfl) w1.heap.size #[.int .i64 k,.string sh,x2,x3,x4,x5,x6,x7,x8,x9,x10,x11,x12,x13,x14,x15,x16,x17,x18,x19,x20,x21,x22] (by rfl) (by rfl) 35 #[.int .i64 0,.string ⟨#[]⟩,.int .i64 0,.int .i64 0,.bool false,.int .i64 0,.int .i64 0,.string ⟨#[]⟩,.bool false,.int .i64 0,.int .i64 0,.int .i64 0,.string ⟨#[]⟩,.bool false,.int .i64 0,.slice none 0 0,.slice none 0 0,.int .i64 0,.int .i64 0,.int .i64 0,.slice none 0 0,.int .i64 0,.string ⟨#[]⟩] (heap_alloc_last w1 _) info35 (by rfl) H0.out (hK _ _ ?_)
   clear hK K;refine wpAny_done (by kernel_rfl) ?_ _
   rw [set_new];exact HF
  ·go_simp
   refine hK _ _ ?_
   clear hK K;refine wpAny_ready (rs:=[0,2]) (by kernel_rfl) (by simp) ?_
   refine AllReady.cons rfl (fun K hK=>?_) (AllReady.cons rfl (fun K hK=>?_) AllReady.nil)
   ·refine step_load_row (by rfl) _ (by rfl) b0 (by rfl) [.int .i64 k,.string sh,x2,x3,x4,x5,x6,x7,x8,x9,x10,x11,x12,x13,x14,x15,x16,x17,x18,x19,x20,x21,x22] (Z1.out.on (((Q.refl _).alloc _).drew)) (by rfl) (hK _ _ ?_)
    clear hK K;refine wpAny_ready (rs:=[2]) (by kernel_rfl) (by simp) ?_
    refine AllReady.cons rfl (fun K hK=>?_) AllReady.nil
    go_simp
    refine hK _ _ ?_
    clear hK K;refine wpAny_ready (rs:=[3]) (by kernel_rfl) (by simp) ?_
    refine AllReady.cons rfl (fun K hK=>?_) AllReady.nil
    refine step_store_row (by rfl) 35 _ _ (by rfl) w1.heap.size #[.int .i64 k,.string sh,x2,x3,x4,x5,x6,x7,x8,x9,x10,x11,x12,x13,x14,x15,x16,x17,x18,x19,x20,x21,x22] (by rfl) (by rfl) 35 #[.int .i64 0,.string ⟨#[]⟩,.int .i64 0,.int .i64 0,.bool false,.int .i64 0,.int .i64 0,.string ⟨#[]⟩,.bool false,.int .i64 0,.int .i64 0,.int .i64 0,.string ⟨#[]⟩,.bool false,.int .i64 0,.slice none 0 0,.slice none 0 0,.int .i64 0,.int .i64 0,.int .i64 0,.slice none 0 0,.int .i64 0,.string ⟨#[]⟩] (heap_alloc_last w1 _) info35 (by rfl) H0.out (hK _ _ ?_)
    clear hK K;refine wpAny_done (by kernel_rfl) ?_ _
    rw [set_new];exact HF
   ·go_simp
    refine hK _ _ ?_
    clear hK K;refine wpAny_ready (rs:=[0]) (by kernel_rfl) (by simp) ?_
    refine AllReady.cons rfl (fun K hK=>?_) AllReady.nil
    refine step_load_row (by rfl) _ (by rfl) b0 (by rfl) [.int .i64 k,.string sh,x2,x3,x4,x5,x6,x7,x8,x9,x10,x11,x12,x13,x14,x15,x16,x17,x18,x19,x20,x21,x22] (Z1.out.on (((Q.refl _).alloc _).drew)) (by rfl) (hK _ _ ?_)
    clear hK K;refine wpAny_ready (rs:=[3]) (by kernel_rfl) (by simp) ?_
    refine AllReady.cons rfl (fun K hK=>?_) AllReady.nil
    refine step_store_row (by rfl) 35 _ _ (by rfl) w1.heap.size #[.int .i64 k,.string sh,x2,x3,x4,x5,x6,x7,x8,x9,x10,x11,x12,x13,x14,x15,x16,x17,x18,x19,x20,x21,x22] (by rfl) (by rfl) 35 #[.int .i64 0,.string ⟨#[]⟩,.int .i64 0,.int .i64 0,.bool false,.int .i64 0,.int .i64 0,.string ⟨#[]⟩,.bool false,.int .i64 0,.int .i64 0,.int .i64 0,.string ⟨#[]⟩,.bool false,.int .i64 0,.slice none 0 0,.slice none 0 0,.int .i64 0,.int .i64 0,.int .i64 0,.slice none 0 0,.int .i64 0,.string ⟨#[]⟩] (heap_alloc_last w1 _) info35 (by rfl) H0.out (hK _ _ ?_)
    clear hK K;refine wpAny_done (by kernel_rfl) ?_ _
    rw [set_new];exact HF
 have Z2:=hid ((cq_new w1 [.int .i64 k,.string sh,x2,x3,x4,x5,x6,x7,x8,x9,x10,x11,x12,x13,x14,x15,x16,x17,x18,x19,x20,x21,x22]).on (Q.refl _).drew);rw [show ([.int .i64 k,.string sh,x2,x3,x4,x5,x6,x7,x8,x9,x10,x11,x12,x13,x14,x15,x16,x17,x18,x19,x20,x21,x22]:List Value).toArray=#[.int .i64 k,.string sh,x2,x3,x4,x5,x6,x7,x8,x9,x10,x11,x12,x13,x14,x15,x16,x17,x18,x19,x20,x21,x22] from rfl]at Z2
 have Z0:=hid (Z1.out.on (((Q.refl w1).alloc (.cells #[.int .i64 k,.string sh,x2,x3,x4,x5,x6,x7,x8,x9,x10,x11,x12,x13,x14,x15,x16,x17,x18,x19,x20,x21,x22] 35)).drew));have QB:Hid (Q w ((w1.alloc (.cells #[.int .i64 k,.string sh,x2,x3,x4,x5,x6,x7,x8,x9,x10,x11,x12,x13,x14,x15,x16,x17,x18,x19,x20,x21,x22] 35)).drew)):=hid ((QA.out.alloc _).drew)
 have hb1:w.heap.size≤w1.heap.size:=QA.out.size
 have hne:b0≠w1.heap.size:=Nat.ne_of_lt Z1.out.l
 generalize (w1.alloc (.cells #[.int .i64 k,.string sh,x2,x3,x4,x5,x6,x7,x8,x9,x10,x11,x12,x13,x14,x15,x16,x17,x18,x19,x20,x21,x22] 35)).drew=w2 at Z0 Z2 QB ⊢;generalize w1.heap.size=b1x at Z2 hb1 hne ⊢;clear Z1 QA;have d0:=Z0.out.c 0 _ rfl;go_upto_region 17 with fail
 have QV:=QB;have Z1V:=Z0;have Z2V:=Z2;clear d0;have g0:=Z1V.out.c 0 _ rfl;have g1:=Z1V.out.c 1 _ rfl;cases ib with
 |false=>
  go_wp2_with (go_at_call 25;refine (HI.out _ QV.out).mono ?_;rintro e9 y1 ⟨rfl,q9⟩;have QY:Hid (Q w y1):=hid (QV.out.trans q9);clear q9)
  go_ret
  exact ⟨rfl,QY.out⟩
 |true=>
  go_wp2_with (first|(go_at_call 25;refine (HI.out _ QV.out).mono ?_;rintro e9 y1 ⟨rfl,q9⟩;have QY:Hid (Q w y1):=hid (QV.out.trans q9);have Z1Y:=hid (Z1V.out.on q9);have Z2Y:=hid (Z2V.out.on q9);clear q9;have g0':=Z1Y.out.c 0 _ rfl;have g1':=Z1Y.out.c 1 _ rfl)|(refine wpl_loadg _ (by rfl) (by rfl) b1x (by rfl) [.int .i64 k,.string sh,x2,x3,x4,x5,x6,x7,x8,x9,x10,x11,x12,x13,x14,x15,x16,x17,x18,x19,x20,x21,x22] Z2Y.out (by rfl) ?_)|(refine wpl_buildg _ (by rfl) (by rfl) #[.int .i64 k,.string sh,.int .i64 0,.int .i64 0,.bool false,.int .i64 0,.int .i64 0,.string ⟨#[]⟩,.bool false,.int .i64 0,.int .i64 0,.int .i64 0,.string ⟨#[]⟩,.bool false,.int .i64 0,.slice none 0 0,.slice none 0 0,.int .i64 0,.int .i64 0,.int .i64 0,.slice none 0 0,.int .i64 0,.string ⟨#[]⟩] (by kernel_rfl) ?_)|(go_at_call 10;refine (HE.out _ QY.out).mono ?_;rintro e9 y2 ⟨rfl,q9⟩;have QY2:Hid (Q w y2):=hid (QY.out.trans q9);clear q9))
  go_ret
  exact ⟨rfl,QY2.out⟩
theorem wpl_boxq{w:World}{ops:Array Oper}{rest:List Oper}{o:Oper}{a:Act}{Q':Exit→Act→World→Prop}(x:Operand)(ho:o.op=.box 35 x)(hg:o.guard=none)(cs:List Value)(hx:(a.eval x).cells=cs.toArray)
  (h:∀ w' N,Cq w' N cs→Q w w'→wpList Tryz.prog ops Q' rest (a.put o.dst (.pointer (some ⟨N,0,none⟩))) w'):wpList Tryz.prog ops Q' (o::rest) a w:=
 Great.wpList_boxTo hg 35 x ho _ rfl _ rfl _ hx (h _ _ (cq_new w cs) ((Q.refl w).alloc _))
theorem eo_0(k:Int)(k':Int)(sh:ByteArray)(sh':ByteArray)(row:Int)(row':Int)(col:Int)(col':Int)(x4:Value)(x4':Value)(x5:Value)(x5':Value)(x6:Value)(x6':Value)(x7:Value)(x7':Value)(x8:Value)(x8':Value)(x9:Value)(x9':Value)(x10:Value)(x10':Value)(x11:Value)(x11':Value)(x12:Value)(x12':Value)(x13:Value)(x13':Value)(x14:Value)(x14':Value)(x15:Value)(x15':Value)(x16:Value)(x16':Value)(lk:Int)(lk':Int)(la:Int)(la':Int)(lt:Int)(lt':Int)(ra:Option Addr)(rl rc:Nat)(ra':Option Addr)(rl' rc':Nat)(fm:Int)(fm':Int)(nm:ByteArray)(nm':ByteArray)(w:World)(e0:(k == k')=false):Calls Tryz.prog 11 #[.agg #[.int .i64 k,.string sh,.int .i64 row,.int .i64 col,x4,x5,x6,x7,x8,x9,x10,x11,x12,x13,x14,x15,x16,.int .i64 lk,.int .i64 la,.int .i64 lt,.slice ra rl rc,.int .i64 fm,.string nm],.agg #[.int .i64 k',.string sh',.int .i64 row',.int .i64 col',x4',x5',x6',x7',x8',x9',x10',x11',x12',x13',x14',x15',x16',.int .i64 lk',.int .i64 la',.int .i64 lt',.slice ra' rl' rc',.int .i64 fm',.string nm']] w fun e W'=>e=.returned (.bool false)∧Q w W':=by
 have T0:Hid True:=hid trivial
 go_enter Tryz.func11,Tryz.ntmps11
 go_upto_region 1 with (first
  |(with_reducible refine wpl_boxq _ (by with_unfolding_all rfl) (by with_unfolding_all rfl) [.int .i64 k,.string sh,.int .i64 row,.int .i64 col,x4,x5,x6,x7,x8,x9,x10,x11,x12,x13,x14,x15,x16,.int .i64 lk,.int .i64 la,.int .i64 lt,.slice ra rl rc,.int .i64 fm,.string nm] (by with_unfolding_all rfl) ?_;intro w1 b0 hZ hQ;have Z1:=hid hZ;have Q1:=hid hQ;have T1:Hid True:=hid trivial;clear hZ hQ T0)
  |(clear T1;with_reducible refine wpl_boxq _ (by with_unfolding_all rfl) (by with_unfolding_all rfl) [.int .i64 k',.string sh',.int .i64 row',.int .i64 col',x4',x5',x6',x7',x8',x9',x10',x11',x12',x13',x14',x15',x16',.int .i64 lk',.int .i64 la',.int .i64 lt',.slice ra' rl' rc',.int .i64 fm',.string nm'] (by with_unfolding_all rfl) ?_;intro w2 b1 hZ hQ;have Z1b:=hid (Z1.out.on hQ);have Z2:=hid hZ;have Q2:=hid (Q1.out.trans hQ);clear hZ hQ Z1;have d0:=Z1b.out.c 0 _ rfl;have d1:=Z1b.out.c 1 _ rfl;have d2:=Z1b.out.c 2 _ rfl;have d3:=Z1b.out.c 3 _ rfl;have d4:=Z1b.out.c 4 _ rfl;have d5:=Z1b.out.c 5 _ rfl;have d6:=Z1b.out.c 6 _ rfl;have d7:=Z1b.out.c 7 _ rfl;have d8:=Z1b.out.c 8 _ rfl;have d9:=Z1b.out.c 9 _ rfl;have d10:=Z1b.out.c 10 _ rfl;have d11:=Z1b.out.c 11 _ rfl;have d12:=Z1b.out.c 12 _ rfl;have d13:=Z1b.out.c 13 _ rfl;have d14:=Z1b.out.c 14 _ rfl;have d15:=Z1b.out.c 15 _ rfl;have d16:=Z1b.out.c 16 _ rfl;have d17:=Z1b.out.c 17 _ rfl;have d18:=Z1b.out.c 18 _ rfl;have d19:=Z1b.out.c 19 _ rfl;have d20:=Z1b.out.c 20 _ rfl;have d21:=Z1b.out.c 21 _ rfl;have d22:=Z1b.out.c 22 _ rfl;have n0:=Z2.out.c 0 _ rfl;have n1:=Z2.out.c 1 _ rfl;have n2:=Z2.out.c 2 _ rfl;have n3:=Z2.out.c 3 _ rfl;have n4:=Z2.out.c 4 _ rfl;have n5:=Z2.out.c 5 _ rfl;have n6:=Z2.out.c 6 _ rfl;have n7:=Z2.out.c 7 _ rfl;have n8:=Z2.out.c 8 _ rfl;have n9:=Z2.out.c 9 _ rfl;have n10:=Z2.out.c 10 _ rfl;have n11:=Z2.out.c 11 _ rfl;have n12:=Z2.out.c 12 _ rfl;have n13:=Z2.out.c 13 _ rfl;have n14:=Z2.out.c 14 _ rfl;have n15:=Z2.out.c 15 _ rfl;have n16:=Z2.out.c 16 _ rfl;have n17:=Z2.out.c 17 _ rfl;have n18:=Z2.out.c 18 _ rfl;have n19:=Z2.out.c 19 _ rfl;have n20:=Z2.out.c 20 _ rfl;have n21:=Z2.out.c 21 _ rfl;have n22:=Z2.out.c 22 _ rfl))
 refine wp_region_lit ?_
 dsimp only [List.append]
 go_wp2_with fail
 go_ret
 exact ⟨rfl,Q2.out⟩
theorem eo_1(k:Int)(sh:ByteArray)(sh':ByteArray)(row:Int)(row':Int)(col:Int)(col':Int)(x4:Value)(x4':Value)(x5:Value)(x5':Value)(x6:Value)(x6':Value)(x7:Value)(x7':Value)(x8:Value)(x8':Value)(x9:Value)(x9':Value)(x10:Value)(x10':Value)(x11:Value)(x11':Value)(x12:Value)(x12':Value)(x13:Value)(x13':Value)(x14:Value)(x14':Value)(x15:Value)(x15':Value)(x16:Value)(x16':Value)(lk:Int)(lk':Int)(la:Int)(la':Int)(lt:Int)(lt':Int)(ra:Option Addr)(rl rc:Nat)(ra':Option Addr)(rl' rc':Nat)(fm:Int)(fm':Int)(nm:ByteArray)(nm':ByteArray)(w:World)(e1:(sh.toList == sh'.toList)=false):Calls Tryz.prog 11 #[.agg #[.int .i64 k,.string sh,.int .i64 row,.int .i64 col,x4,x5,x6,x7,x8,x9,x10,x11,x12,x13,x14,x15,x16,.int .i64 lk,.int .i64 la,.int .i64 lt,.slice ra rl rc,.int .i64 fm,.string nm],.agg #[.int .i64 k,.string sh',.int .i64 row',.int .i64 col',x4',x5',x6',x7',x8',x9',x10',x11',x12',x13',x14',x15',x16',.int .i64 lk',.int .i64 la',.int .i64 lt',.slice ra' rl' rc',.int .i64 fm',.string nm']] w fun e W'=>e=.returned (.bool false)∧Q w W':=by
 have T0:Hid True:=hid trivial
 go_enter Tryz.func11,Tryz.ntmps11
 go_upto_region 1 with (first
  |(with_reducible refine wpl_boxq _ (by with_unfolding_all rfl) (by with_unfolding_all rfl) [.int .i64 k,.string sh,.int .i64 row,.int .i64 col,x4,x5,x6,x7,x8,x9,x10,x11,x12,x13,x14,x15,x16,.int .i64 lk,.int .i64 la,.int .i64 lt,.slice ra rl rc,.int .i64 fm,.string nm] (by with_unfolding_all rfl) ?_;intro w1 b0 hZ hQ;have Z1:=hid hZ;have Q1:=hid hQ;have T1:Hid True:=hid trivial;clear hZ hQ T0)
  |(clear T1;with_reducible refine wpl_boxq _ (by with_unfolding_all rfl) (by with_unfolding_all rfl) [.int .i64 k,.string sh',.int .i64 row',.int .i64 col',x4',x5',x6',x7',x8',x9',x10',x11',x12',x13',x14',x15',x16',.int .i64 lk',.int .i64 la',.int .i64 lt',.slice ra' rl' rc',.int .i64 fm',.string nm'] (by with_unfolding_all rfl) ?_;intro w2 b1 hZ hQ;have Z1b:=hid (Z1.out.on hQ);have Z2:=hid hZ;have Q2:=hid (Q1.out.trans hQ);clear hZ hQ Z1;have d0:=Z1b.out.c 0 _ rfl;have d1:=Z1b.out.c 1 _ rfl;have d2:=Z1b.out.c 2 _ rfl;have d3:=Z1b.out.c 3 _ rfl;have d4:=Z1b.out.c 4 _ rfl;have d5:=Z1b.out.c 5 _ rfl;have d6:=Z1b.out.c 6 _ rfl;have d7:=Z1b.out.c 7 _ rfl;have d8:=Z1b.out.c 8 _ rfl;have d9:=Z1b.out.c 9 _ rfl;have d10:=Z1b.out.c 10 _ rfl;have d11:=Z1b.out.c 11 _ rfl;have d12:=Z1b.out.c 12 _ rfl;have d13:=Z1b.out.c 13 _ rfl;have d14:=Z1b.out.c 14 _ rfl;have d15:=Z1b.out.c 15 _ rfl;have d16:=Z1b.out.c 16 _ rfl;have d17:=Z1b.out.c 17 _ rfl;have d18:=Z1b.out.c 18 _ rfl;have d19:=Z1b.out.c 19 _ rfl;have d20:=Z1b.out.c 20 _ rfl;have d21:=Z1b.out.c 21 _ rfl;have d22:=Z1b.out.c 22 _ rfl;have n0:=Z2.out.c 0 _ rfl;have n1:=Z2.out.c 1 _ rfl;have n2:=Z2.out.c 2 _ rfl;have n3:=Z2.out.c 3 _ rfl;have n4:=Z2.out.c 4 _ rfl;have n5:=Z2.out.c 5 _ rfl;have n6:=Z2.out.c 6 _ rfl;have n7:=Z2.out.c 7 _ rfl;have n8:=Z2.out.c 8 _ rfl;have n9:=Z2.out.c 9 _ rfl;have n10:=Z2.out.c 10 _ rfl;have n11:=Z2.out.c 11 _ rfl;have n12:=Z2.out.c 12 _ rfl;have n13:=Z2.out.c 13 _ rfl;have n14:=Z2.out.c 14 _ rfl;have n15:=Z2.out.c 15 _ rfl;have n16:=Z2.out.c 16 _ rfl;have n17:=Z2.out.c 17 _ rfl;have n18:=Z2.out.c 18 _ rfl;have n19:=Z2.out.c 19 _ rfl;have n20:=Z2.out.c 20 _ rfl;have n21:=Z2.out.c 21 _ rfl;have n22:=Z2.out.c 22 _ rfl))
 refine wp_region_lit ?_
 dsimp only [List.append]
 go_wp2_with fail
 go_ret
 exact ⟨rfl,Q2.out⟩
theorem eo_2(k:Int)(sh:ByteArray)(sh':ByteArray)(row:Int)(row':Int)(col:Int)(col':Int)(x4:Value)(x4':Value)(x5:Value)(x5':Value)(x6:Value)(x6':Value)(x7:Value)(x7':Value)(x8:Value)(x8':Value)(x9:Value)(x9':Value)(x10:Value)(x10':Value)(x11:Value)(x11':Value)(x12:Value)(x12':Value)(x13:Value)(x13':Value)(x14:Value)(x14':Value)(x15:Value)(x15':Value)(x16:Value)(x16':Value)(lk:Int)(lk':Int)(la:Int)(la':Int)(lt:Int)(lt':Int)(ra:Option Addr)(rl rc:Nat)(ra':Option Addr)(rl' rc':Nat)(fm:Int)(fm':Int)(nm:ByteArray)(nm':ByteArray)(w:World)(e1:(sh.toList == sh'.toList)=true)(e2:(row == row')=false):Calls Tryz.prog 11 #[.agg #[.int .i64 k,.string sh,.int .i64 row,.int .i64 col,x4,x5,x6,x7,x8,x9,x10,x11,x12,x13,x14,x15,x16,.int .i64 lk,.int .i64 la,.int .i64 lt,.slice ra rl rc,.int .i64 fm,.string nm],.agg #[.int .i64 k,.string sh',.int .i64 row',.int .i64 col',x4',x5',x6',x7',x8',x9',x10',x11',x12',x13',x14',x15',x16',.int .i64 lk',.int .i64 la',.int .i64 lt',.slice ra' rl' rc',.int .i64 fm',.string nm']] w fun e W'=>e=.returned (.bool false)∧Q w W':=by
 have T0:Hid True:=hid trivial
 go_enter Tryz.func11,Tryz.ntmps11
 go_upto_region 1 with (first
  |(with_reducible refine wpl_boxq _ (by with_unfolding_all rfl) (by with_unfolding_all rfl) [.int .i64 k,.string sh,.int .i64 row,.int .i64 col,x4,x5,x6,x7,x8,x9,x10,x11,x12,x13,x14,x15,x16,.int .i64 lk,.int .i64 la,.int .i64 lt,.slice ra rl rc,.int .i64 fm,.string nm] (by with_unfolding_all rfl) ?_;intro w1 b0 hZ hQ;have Z1:=hid hZ;have Q1:=hid hQ;have T1:Hid True:=hid trivial;clear hZ hQ T0)
  |(clear T1;with_reducible refine wpl_boxq _ (by with_unfolding_all rfl) (by with_unfolding_all rfl) [.int .i64 k,.string sh',.int .i64 row',.int .i64 col',x4',x5',x6',x7',x8',x9',x10',x11',x12',x13',x14',x15',x16',.int .i64 lk',.int .i64 la',.int .i64 lt',.slice ra' rl' rc',.int .i64 fm',.string nm'] (by with_unfolding_all rfl) ?_;intro w2 b1 hZ hQ;have Z1b:=hid (Z1.out.on hQ);have Z2:=hid hZ;have Q2:=hid (Q1.out.trans hQ);clear hZ hQ Z1;have d0:=Z1b.out.c 0 _ rfl;have d1:=Z1b.out.c 1 _ rfl;have d2:=Z1b.out.c 2 _ rfl;have d3:=Z1b.out.c 3 _ rfl;have d4:=Z1b.out.c 4 _ rfl;have d5:=Z1b.out.c 5 _ rfl;have d6:=Z1b.out.c 6 _ rfl;have d7:=Z1b.out.c 7 _ rfl;have d8:=Z1b.out.c 8 _ rfl;have d9:=Z1b.out.c 9 _ rfl;have d10:=Z1b.out.c 10 _ rfl;have d11:=Z1b.out.c 11 _ rfl;have d12:=Z1b.out.c 12 _ rfl;have d13:=Z1b.out.c 13 _ rfl;have d14:=Z1b.out.c 14 _ rfl;have d15:=Z1b.out.c 15 _ rfl;have d16:=Z1b.out.c 16 _ rfl;have d17:=Z1b.out.c 17 _ rfl;have d18:=Z1b.out.c 18 _ rfl;have d19:=Z1b.out.c 19 _ rfl;have d20:=Z1b.out.c 20 _ rfl;have d21:=Z1b.out.c 21 _ rfl;have d22:=Z1b.out.c 22 _ rfl;have n0:=Z2.out.c 0 _ rfl;have n1:=Z2.out.c 1 _ rfl;have n2:=Z2.out.c 2 _ rfl;have n3:=Z2.out.c 3 _ rfl;have n4:=Z2.out.c 4 _ rfl;have n5:=Z2.out.c 5 _ rfl;have n6:=Z2.out.c 6 _ rfl;have n7:=Z2.out.c 7 _ rfl;have n8:=Z2.out.c 8 _ rfl;have n9:=Z2.out.c 9 _ rfl;have n10:=Z2.out.c 10 _ rfl;have n11:=Z2.out.c 11 _ rfl;have n12:=Z2.out.c 12 _ rfl;have n13:=Z2.out.c 13 _ rfl;have n14:=Z2.out.c 14 _ rfl;have n15:=Z2.out.c 15 _ rfl;have n16:=Z2.out.c 16 _ rfl;have n17:=Z2.out.c 17 _ rfl;have n18:=Z2.out.c 18 _ rfl;have n19:=Z2.out.c 19 _ rfl;have n20:=Z2.out.c 20 _ rfl;have n21:=Z2.out.c 21 _ rfl;have n22:=Z2.out.c 22 _ rfl))
 refine wp_region_lit ?_
 dsimp only [List.append]
 go_wp2_with fail
 go_ret
 exact ⟨rfl,Q2.out⟩
theorem eo_3(k:Int)(sh:ByteArray)(sh':ByteArray)(row:Int)(col:Int)(col':Int)(x4:Value)(x4':Value)(x5:Value)(x5':Value)(x6:Value)(x6':Value)(x7:Value)(x7':Value)(x8:Value)(x8':Value)(x9:Value)(x9':Value)(x10:Value)(x10':Value)(x11:Value)(x11':Value)(x12:Value)(x12':Value)(x13:Value)(x13':Value)(x14:Value)(x14':Value)(x15:Value)(x15':Value)(x16:Value)(x16':Value)(lk:Int)(lk':Int)(la:Int)(la':Int)(lt:Int)(lt':Int)(ra:Option Addr)(rl rc:Nat)(ra':Option Addr)(rl' rc':Nat)(fm:Int)(fm':Int)(nm:ByteArray)(nm':ByteArray)(w:World)(e1:(sh.toList == sh'.toList)=true)(e3:(col == col')=false):Calls Tryz.prog 11 #[.agg #[.int .i64 k,.string sh,.int .i64 row,.int .i64 col,x4,x5,x6,x7,x8,x9,x10,x11,x12,x13,x14,x15,x16,.int .i64 lk,.int .i64 la,.int .i64 lt,.slice ra rl rc,.int .i64 fm,.string nm],.agg #[.int .i64 k,.string sh',.int .i64 row,.int .i64 col',x4',x5',x6',x7',x8',x9',x10',x11',x12',x13',x14',x15',x16',.int .i64 lk',.int .i64 la',.int .i64 lt',.slice ra' rl' rc',.int .i64 fm',.string nm']] w fun e W'=>e=.returned (.bool false)∧Q w W':=by
 have T0:Hid True:=hid trivial
 go_enter Tryz.func11,Tryz.ntmps11
 go_upto_region 1 with (first
  |(with_reducible refine wpl_boxq _ (by with_unfolding_all rfl) (by with_unfolding_all rfl) [.int .i64 k,.string sh,.int .i64 row,.int .i64 col,x4,x5,x6,x7,x8,x9,x10,x11,x12,x13,x14,x15,x16,.int .i64 lk,.int .i64 la,.int .i64 lt,.slice ra rl rc,.int .i64 fm,.string nm] (by with_unfolding_all rfl) ?_;intro w1 b0 hZ hQ;have Z1:=hid hZ;have Q1:=hid hQ;have T1:Hid True:=hid trivial;clear hZ hQ T0)
  |(clear T1;with_reducible refine wpl_boxq _ (by with_unfolding_all rfl) (by with_unfolding_all rfl) [.int .i64 k,.string sh',.int .i64 row,.int .i64 col',x4',x5',x6',x7',x8',x9',x10',x11',x12',x13',x14',x15',x16',.int .i64 lk',.int .i64 la',.int .i64 lt',.slice ra' rl' rc',.int .i64 fm',.string nm'] (by with_unfolding_all rfl) ?_;intro w2 b1 hZ hQ;have Z1b:=hid (Z1.out.on hQ);have Z2:=hid hZ;have Q2:=hid (Q1.out.trans hQ);clear hZ hQ Z1;have d0:=Z1b.out.c 0 _ rfl;have d1:=Z1b.out.c 1 _ rfl;have d2:=Z1b.out.c 2 _ rfl;have d3:=Z1b.out.c 3 _ rfl;have d4:=Z1b.out.c 4 _ rfl;have d5:=Z1b.out.c 5 _ rfl;have d6:=Z1b.out.c 6 _ rfl;have d7:=Z1b.out.c 7 _ rfl;have d8:=Z1b.out.c 8 _ rfl;have d9:=Z1b.out.c 9 _ rfl;have d10:=Z1b.out.c 10 _ rfl;have d11:=Z1b.out.c 11 _ rfl;have d12:=Z1b.out.c 12 _ rfl;have d13:=Z1b.out.c 13 _ rfl;have d14:=Z1b.out.c 14 _ rfl;have d15:=Z1b.out.c 15 _ rfl;have d16:=Z1b.out.c 16 _ rfl;have d17:=Z1b.out.c 17 _ rfl;have d18:=Z1b.out.c 18 _ rfl;have d19:=Z1b.out.c 19 _ rfl;have d20:=Z1b.out.c 20 _ rfl;have d21:=Z1b.out.c 21 _ rfl;have d22:=Z1b.out.c 22 _ rfl;have n0:=Z2.out.c 0 _ rfl;have n1:=Z2.out.c 1 _ rfl;have n2:=Z2.out.c 2 _ rfl;have n3:=Z2.out.c 3 _ rfl;have n4:=Z2.out.c 4 _ rfl;have n5:=Z2.out.c 5 _ rfl;have n6:=Z2.out.c 6 _ rfl;have n7:=Z2.out.c 7 _ rfl;have n8:=Z2.out.c 8 _ rfl;have n9:=Z2.out.c 9 _ rfl;have n10:=Z2.out.c 10 _ rfl;have n11:=Z2.out.c 11 _ rfl;have n12:=Z2.out.c 12 _ rfl;have n13:=Z2.out.c 13 _ rfl;have n14:=Z2.out.c 14 _ rfl;have n15:=Z2.out.c 15 _ rfl;have n16:=Z2.out.c 16 _ rfl;have n17:=Z2.out.c 17 _ rfl;have n18:=Z2.out.c 18 _ rfl;have n19:=Z2.out.c 19 _ rfl;have n20:=Z2.out.c 20 _ rfl;have n21:=Z2.out.c 21 _ rfl;have n22:=Z2.out.c 22 _ rfl))
 refine wp_region_lit ?_
 dsimp only [List.append]
 go_wp2_with fail
 go_ret
 exact ⟨rfl,Q2.out⟩
end Go.Proofs.YtngnakdbhkjbjaaGreatDoor
