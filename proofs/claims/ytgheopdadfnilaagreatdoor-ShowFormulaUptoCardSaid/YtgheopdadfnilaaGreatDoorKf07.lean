/- lex.joins, ref.solid, lex.pass. -/
import Derived.Test.YtgheopdadfnilaaGreatDoorKf01
set_option linter.unusedVariables false
set_option linter.unusedSimpArgs false
set_option maxRecDepth 100000
set_option maxHeartbeats 8000000
namespace Go.Proofs.YtgheopdadfnilaaGreatDoor
open Go.RowKit
theorem join_cases{c:UInt8}{a:Bool}(h:joinB c=a):a=(decide (65≤(c.toNat:Int)∧(c.toNat:Int)≤90) || (decide (97≤(c.toNat:Int)∧(c.toNat:Int)≤122) || (decide (48≤(c.toNat:Int)∧(c.toNat:Int)≤57) || (decide ((c.toNat:Int)=36) || (decide ((c.toNat:Int)=33) || decide ((c.toNat:Int)=46)))))):=by
 have e:∀ n:Nat,n<256→(c == UInt8.ofNat n)=decide ((c.toNat:Int)=(n:Int)):=by
  intro n hn
  rw [Bool.eq_iff_iff,beq_iff_eq,decide_eq_true_eq]
  constructor
  ·intro h;subst h;simp;omega
  ·intro h
   apply UInt8.toNat_inj.1
   simp
   omega
 have e36:=e 36 (by omega)
 have e33:=e 33 (by omega)
 have e46:=e 46 (by omega)
 subst h;unfold joinB
 show _=_
 rw [show (c == 36)=decide ((c.toNat:Int)=36) from e36,show (c == 33)=decide ((c.toNat:Int)=33) from e33,show (c == 46)=decide ((c.toNat:Int)=46) from e46]
 congr 1
 ·rw [Bool.eq_iff_iff,decide_eq_true_eq,decide_eq_true_eq];omega
 congr 1
 ·rw [Bool.eq_iff_iff,decide_eq_true_eq,decide_eq_true_eq];omega
 congr 1
 ·rw [Bool.eq_iff_iff,decide_eq_true_eq,decide_eq_true_eq];omega
theorem joins_any(c:UInt8)(w:World):Calls Tryz.prog 163 #[.int .u8 c.toNat] w fun e w'=>e=.returned (.bool (joinB c))∧w'=w:=by
 have H:=join_cases (c:=c) rfl;generalize joinB c=a at H ⊢;have h0:0≤(c.toNat:Int):=by omega
 generalize (c.toNat:Int)=x at H h0 ⊢;have HH:=hid H;clear H;go_enter Tryz.func163,Tryz.ntmps163
 go_wp2
 all_goals go_ret
 all_goals exact ⟨ret_bool (by rw [HH.out,Bool.eq_iff_iff];simp_all <;> omega),rfl⟩
theorem solid_any(c:UInt8)(w:World):Calls Tryz.prog 102 #[.int .u8 c.toNat] w fun e w'=>e=.returned (.bool (joinB c))∧w'=w:=by
 have H:=join_cases (c:=c) rfl;generalize joinB c=a at H ⊢;have h0:0≤(c.toNat:Int):=by omega
 generalize (c.toNat:Int)=x at H h0 ⊢;have HH:=hid H;clear H;go_enter Tryz.func102,Tryz.ntmps102
 go_wp2
 all_goals go_ret
 all_goals exact ⟨ret_bool (by rw [HH.out,Bool.eq_iff_iff];simp_all <;> omega),rfl⟩
theorem blk_at{s:ByteArray}{k:Nat}(hk:k<s.size)(h:s[k]=32):k+blk (s.data.toList.drop k)=k+1+blk (s.data.toList.drop (k+1)):=by
 rw [drop_cons s k hk,h,blk_succ];omega
theorem blk_not{s:ByteArray}{k:Nat}(hk:k<s.size)(h:s[k]≠32):k+blk (s.data.toList.drop k)=k:=by
 rw [drop_cons s k hk,blk_zero (by simpa using h)];omega
theorem blk_end{s:ByteArray}{k:Nat}(hk:s.size≤k):k+blk (s.data.toList.drop k)=k:=by
 rw [List.drop_of_length_le (by simpa using hk)];rfl
theorem eq_byte{c:UInt8}{n:Nat}(hn:n<256)(h:c=UInt8.ofNat n):((c.toNat:Int) == (n:Int))=true:=by
 subst h;simp;omega
theorem pass_any(s:ByteArray)(k:Nat)(w:World)(hk:k≤s.size)(hs:s.size≤4000000000) :
  Calls Tryz.prog 140 #[.string s,.int .i64 k] w fun e w'=>e=.returned (.int .i64 ((k+blk (s.data.toList.drop k):Nat):Int))∧w'=w:=by
 go_enter Tryz.func140,Tryz.ntmps140
 obtain ⟨R,hR⟩:∃ R,k+blk (s.data.toList.drop k)=R:=⟨_,rfl⟩;rw [hR];have HR:=hid hR;have HK:=hid hk;clear hR hk;go_wp2
 go_loop [1] (fun x=>∃ j:Nat,j≤s.size∧x=.int .i64 (j:Int)∧Hid (j+blk (s.data.toList.drop j)=R)) (fun x=>s.size-(intOf x).toNat)
 case atStart=>exact ⟨k,HK.out,rfl,HR⟩
 case round=>
  obtain ⟨j,hj,rfl,hr⟩:=hrel;by_cases hlt:j<s.size
  ·by_cases hc:s[j]=32
   ·have e:=eq_byte (n:=32) (by omega) hc
    have HR2:=hid ((blk_at hlt hc).symm.trans hr.out);go_wp2
    go_round
    case rel=>exact ⟨j+1,by omega,by go_num,HR2⟩
    case measure=>simp [intOf];omega
   ·have e:=byte_ne (n:=32) (by omega) hc
    have HR2:=hid ((blk_not hlt hc).symm.trans hr.out);go_wp2
    go_ret
    exact ⟨ret_int (by rw [HR2.out]),rfl⟩
  ·have HR2:=hid ((blk_end (by omega)).symm.trans hr.out)
   go_wp2
   go_ret
   exact ⟨ret_int (by rw [HR2.out]),rfl⟩
theorem great_any(s:ByteArray)(w:World)(hs:s.size≤4000000000) :
  Calls Tryz.prog 197 #[.string s] w fun e w'=>e=.returned (.bool (allL s.data.toList))∧w'=w:=by
 go_enter Tryz.func197,Tryz.ntmps197
 go_wp2
 go_loop [6] (fun i=>∃ k:Nat,k≤s.size∧i=.int .i64 k∧Hid (allL (s.data.toList.take k)=true)) (fun i=>s.size-(intOf i).toNat)
 case atStart=>exact ⟨0,Nat.zero_le _,rfl,rfl⟩
 case round=>
  obtain ⟨k,hk,rfl,ha⟩:=hrel;by_cases hlt:k<s.size
  ·by_cases hd:let1 s[k]=true
   ·have ha':Hid (allL (s.data.toList.take (k+1))=true):=by
     show _=_
     have:=ha.out
     rw [take_snoc s k hlt,allL_app,this];unfold allL
     simp [hd]
    have b0:65≤(s[k].toNat:Int):=by unfold let1 at hd;simp at hd;omega
    have b1:(s[k].toNat:Int)≤90:=by unfold let1 at hd;simp at hd;omega
    clear hd;go_wp2
    go_round
    case rel=>exact ⟨k+1,by omega,by go_num,ha'⟩
    case measure=>simp [intOf];omega
   ·have hN:=hid (allL_no s k hlt (by simpa using hd))
    by_cases b0:(s[k].toNat:Int)<65
    ·clear hd
     go_wp2
     go_ret
     exact ⟨ret_bool hN.out.symm,rfl⟩
    ·have b1:90<(s[k].toNat:Int):=by unfold let1 at hd;simp at hd;omega
     clear hd;go_wp2
     go_ret
     exact ⟨ret_bool hN.out.symm,rfl⟩
  ·have hN:Hid (allL s.data.toList=true):=by
    show _=_
    have:=ha.out
    rw [take_all s k (by omega)]at this
    exact this
   go_wp2
   go_ret
   exact ⟨ret_bool hN.out.symm,rfl⟩
end Go.Proofs.YtgheopdadfnilaaGreatDoor
