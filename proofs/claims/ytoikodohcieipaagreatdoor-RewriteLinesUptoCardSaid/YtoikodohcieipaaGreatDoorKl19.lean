/- ref.word of letters and digits. -/
import Derived.Test.YtoikodohcieipaaGreatDoorKl14
set_option linter.unusedVariables false
set_option linter.unusedSimpArgs false
set_option maxRecDepth 100000
set_option maxHeartbeats 8000000
namespace Go.Proofs.YtoikodohcieipaaGreatDoor
open Go.RowKit
set_option linter.unusedVariables false
set_option linter.unusedSimpArgs false
theorem rword_ref(s T:ByteArray)(i M:Nat)(w:World)(hs:s.size≤100000)(hi:i<s.size)(hr:RunAt s i M T)(hj:joinB s[i]=true)
  (pn:Int) (rv:Value) (HP:Hid (∀ W,Calls Tryz.prog 82 #[.string T] W fun e w'=>e=.returned (.tuple #[.int .i64 pn,.bool false])∧Q W w'))
  (HRf:Hid (∀ W,Calls Tryz.prog 83 #[.string T] W fun e w'=>e=.returned (.tuple #[rv,.bool true])∧Q W w'))
  (HF:Hid (wordF (s.data.toList.drop i)=(3,T.data.toList,M-i))) :
  Calls Tryz.prog 64 #[.string s,.int .i64 (i:Int)] w fun e w'=>e=.returned (rwv (wordF (s.data.toList.drop i)) i)∧Q w w':=by
 obtain ⟨lo,le,eT,lT,zT,yes,no,beh⟩:=hr;have HY:=hid yes;have HN:=hid no;have HJ0:=hid (fun W=>solid_any s[i] W)
 rw [hj]at HJ0;have JJ:=hid (WB.start w);clear yes no lT beh hj;have hT0:0<T.size:=by omega
 have hMi:(i:Int)≤(M:Int):=by omega
 have hMs:(M:Int)≤(s.size:Int):=by omega
 generalize wordF (s.data.toList.drop i)=wf at HF ⊢;go_enter Tryz.func64,Tryz.ntmps64
 go_wp2_with (go_at_call 81;refine (HJ0.out _).mono ?_;rintro e w9 ⟨rfl,h9⟩;replace h9:=h9.symm;subst h9)
 go_loop [6] (fun x=>∃ k:Nat,i≤k∧k≤M∧x=.int .i64 (k:Int)) (fun x=>s.size-(intOf x).toNat)
 case atStart=>exact ⟨i,by omega,by omega,rfl⟩
 case round=>
  obtain ⟨k,hk0,hk,rfl⟩:=hrel;by_cases hlt:k<M
  ·have hks:k<s.size:=by omega
   have HJ:=hid (fun W=>solid_any s[k] W)
   rw [HY.out k hks hk0 hlt]at HJ;go_wp2_with (go_at_call 81;refine (HJ.out _).mono ?_;rintro e w9 ⟨rfl,h9⟩;replace h9:=h9.symm;subst h9)
   go_round
   case rel=>exact ⟨k+1,by omega,by omega,by go_num⟩
   case measure=>simp [intOf];omega
  ·have e:k=M:=by omega
   subst e;clear hk hlt;by_cases hend:k<s.size
   ·have HJ:=hid (fun W=>solid_any s[k] W)
    rw [HN.out hend]at HJ;go_wp2_with (first|(go_at_call 81;refine (HJ.out _).mono ?_;rintro e w9 ⟨rfl,h9⟩;replace h9:=h9.symm;subst h9)|(go_at_call 82;refine (HP.out _).mono ?_;rintro e w1 ⟨rfl,q1⟩;have J1:=hid (JJ.out.on q1);clear q1;have d0:=J1.out.c0;have d1:=J1.out.c1;have d2:=J1.out.c2;have g0:=J1.out.f0;have g1:=J1.out.f1;have g2:=J1.out.f2)|(go_at_call 83;refine (HRf.out _).mono ?_;rintro e w2 ⟨rfl,q2⟩;have J2:=hid (J1.out.on q2);clear q2;have k0:=J2.out.c0;have k1:=J2.out.c1;have k2:=J2.out.c2;have m0:=J2.out.f0;have m1:=J2.out.f1;have m2:=J2.out.f2))
    refine bodyPost_ret (v:=.tuple #[.agg #[.int .i64 3,.string T,.int .i64 (i:Int)],.int .i64 ((k:Int)-(i:Int))]) (by simp [results,Tryz.results64,go_sem,k0,k1,k2,m0,m1,m2]) rfl ⟨ret_rw HF.out (by omega) rfl rfl (by omega),?_⟩
    repeat' (first|with_reducible exact J2.out.q|with_reducible refine Q.setCell ?_ (Nat.le_refl _) _|with_reducible refine Q.drewN ?_ _|with_reducible refine Q.drew ?_|with_reducible refine Q.alloc ?_ _)
   ·go_wp2_with (first|(go_at_call 82;refine (HP.out _).mono ?_;rintro e w1 ⟨rfl,q1⟩;have J1:=hid (JJ.out.on q1);clear q1;have d0:=J1.out.c0;have d1:=J1.out.c1;have d2:=J1.out.c2;have g0:=J1.out.f0;have g1:=J1.out.f1;have g2:=J1.out.f2)|(go_at_call 83;refine (HRf.out _).mono ?_;rintro e w2 ⟨rfl,q2⟩;have J2:=hid (J1.out.on q2);clear q2;have k0:=J2.out.c0;have k1:=J2.out.c1;have k2:=J2.out.c2;have m0:=J2.out.f0;have m1:=J2.out.f1;have m2:=J2.out.f2))
    refine bodyPost_ret (v:=.tuple #[.agg #[.int .i64 3,.string T,.int .i64 (i:Int)],.int .i64 ((k:Int)-(i:Int))]) (by simp [results,Tryz.results64,go_sem,k0,k1,k2,m0,m1,m2]) rfl ⟨ret_rw HF.out (by omega) rfl rfl (by omega),?_⟩
    repeat' (first|with_reducible exact J2.out.q|with_reducible refine Q.setCell ?_ (Nat.le_refl _) _|with_reducible refine Q.drewN ?_ _|with_reducible refine Q.drew ?_|with_reducible refine Q.alloc ?_ _)
end Go.Proofs.YtoikodohcieipaaGreatDoor
namespace Go.Proofs.YtoikodohcieipaaGreatDoor
open Go.RowKit
set_option linter.unusedVariables false
set_option linter.unusedSimpArgs false
theorem rword_n0(s T:ByteArray)(i M:Nat)(w:World)(hs:s.size≤100000)(hi:i<s.size)(hr:RunAt s i M T)(hj:joinB s[i]=true)
  (pn:Int) (rv:Value) (HP:Hid (∀ W,Calls Tryz.prog 82 #[.string T] W fun e w'=>e=.returned (.tuple #[.int .i64 pn,.bool false])∧Q W w'))
  (HRf:Hid (∀ W,Calls Tryz.prog 83 #[.string T] W fun e w'=>e=.returned (.tuple #[rv,.bool false])∧Q W w'))
  (HL:Hid (∀ W,Calls Tryz.prog 57 #[.string T] W fun e w'=>e=.returned (.bool false)∧w'=W))
  (HF:Hid (wordF (s.data.toList.drop i)=bad)) :
  Calls Tryz.prog 64 #[.string s,.int .i64 (i:Int)] w fun e w'=>e=.returned (rwv (wordF (s.data.toList.drop i)) i)∧Q w w':=by
 obtain ⟨lo,le,eT,lT,zT,yes,no,beh⟩:=hr;have HY:=hid yes;have HN:=hid no;have HJ0:=hid (fun W=>solid_any s[i] W)
 rw [hj]at HJ0;have JJ:=hid (WB.start w);clear yes no lT beh hj;have hT0:0<T.size:=by omega
 have hMi:(i:Int)≤(M:Int):=by omega
 have hMs:(M:Int)≤(s.size:Int):=by omega
 generalize wordF (s.data.toList.drop i)=wf at HF ⊢;go_enter Tryz.func64,Tryz.ntmps64
 go_wp2_with (go_at_call 81;refine (HJ0.out _).mono ?_;rintro e w9 ⟨rfl,h9⟩;replace h9:=h9.symm;subst h9)
 go_loop [6] (fun x=>∃ k:Nat,i≤k∧k≤M∧x=.int .i64 (k:Int)) (fun x=>s.size-(intOf x).toNat)
 case atStart=>exact ⟨i,by omega,by omega,rfl⟩
 case round=>
  obtain ⟨k,hk0,hk,rfl⟩:=hrel;by_cases hlt:k<M
  ·have hks:k<s.size:=by omega
   have HJ:=hid (fun W=>solid_any s[k] W)
   rw [HY.out k hks hk0 hlt]at HJ;go_wp2_with (go_at_call 81;refine (HJ.out _).mono ?_;rintro e w9 ⟨rfl,h9⟩;replace h9:=h9.symm;subst h9)
   go_round
   case rel=>exact ⟨k+1,by omega,by omega,by go_num⟩
   case measure=>simp [intOf];omega
  ·have e:k=M:=by omega
   subst e;clear hk hlt;by_cases hend:k<s.size
   ·have HJ:=hid (fun W=>solid_any s[k] W)
    rw [HN.out hend]at HJ;go_wp2_with (first|(go_at_call 81;refine (HJ.out _).mono ?_;rintro e w9 ⟨rfl,h9⟩;replace h9:=h9.symm;subst h9)|(go_at_call 82;refine (HP.out _).mono ?_;rintro e w1 ⟨rfl,q1⟩;have J1:=hid (JJ.out.on q1);clear q1;have d0:=J1.out.c0;have d1:=J1.out.c1;have d2:=J1.out.c2;have g0:=J1.out.f0;have g1:=J1.out.f1;have g2:=J1.out.f2)|(go_at_call 83;refine (HRf.out _).mono ?_;rintro e w2 ⟨rfl,q2⟩;have J2:=hid (J1.out.on q2);clear q2;have k0:=J2.out.c0;have k1:=J2.out.c1;have k2:=J2.out.c2;have m0:=J2.out.f0;have m1:=J2.out.f1;have m2:=J2.out.f2)|(go_at_call 57;refine (HL.out _).mono ?_;rintro e w9 ⟨rfl,h9⟩;replace h9:=h9.symm;subst h9))
    refine bodyPost_ret (v:=.tuple #[.agg #[.int .i64 0,.string ⟨#[]⟩,.int .i64 0],.int .i64 0]) (by simp [results,Tryz.results64,go_sem,k0,k1,k2,m0,m1,m2]) rfl ⟨ret_rbad HF.out,?_⟩
    repeat' (first|with_reducible exact J2.out.q|with_reducible refine Q.setCell ?_ (Nat.le_refl _) _|with_reducible refine Q.drewN ?_ _|with_reducible refine Q.drew ?_|with_reducible refine Q.alloc ?_ _)
   ·go_wp2_with (first|(go_at_call 82;refine (HP.out _).mono ?_;rintro e w1 ⟨rfl,q1⟩;have J1:=hid (JJ.out.on q1);clear q1;have d0:=J1.out.c0;have d1:=J1.out.c1;have d2:=J1.out.c2;have g0:=J1.out.f0;have g1:=J1.out.f1;have g2:=J1.out.f2)|(go_at_call 83;refine (HRf.out _).mono ?_;rintro e w2 ⟨rfl,q2⟩;have J2:=hid (J1.out.on q2);clear q2;have k0:=J2.out.c0;have k1:=J2.out.c1;have k2:=J2.out.c2;have m0:=J2.out.f0;have m1:=J2.out.f1;have m2:=J2.out.f2)|(go_at_call 57;refine (HL.out _).mono ?_;rintro e w9 ⟨rfl,h9⟩;replace h9:=h9.symm;subst h9))
    refine bodyPost_ret (v:=.tuple #[.agg #[.int .i64 0,.string ⟨#[]⟩,.int .i64 0],.int .i64 0]) (by simp [results,Tryz.results64,go_sem,k0,k1,k2,m0,m1,m2]) rfl ⟨ret_rbad HF.out,?_⟩
    repeat' (first|with_reducible exact J2.out.q|with_reducible refine Q.setCell ?_ (Nat.le_refl _) _|with_reducible refine Q.drewN ?_ _|with_reducible refine Q.drew ?_|with_reducible refine Q.alloc ?_ _)
theorem rword_t(s T:ByteArray)(i M:Nat)(w:World)(hs:s.size≤100000)(hi:i<s.size)(hr:RunAt s i M T)(hj:joinB s[i]=true)
  (pn:Int) (rv:Value) (HP:Hid (∀ W,Calls Tryz.prog 82 #[.string T] W fun e w'=>e=.returned (.tuple #[.int .i64 pn,.bool false])∧Q W w'))
  (HRf:Hid (∀ W,Calls Tryz.prog 83 #[.string T] W fun e w'=>e=.returned (.tuple #[rv,.bool false])∧Q W w'))
  (HL:Hid (∀ W,Calls Tryz.prog 57 #[.string T] W fun e w'=>e=.returned (.bool true)∧w'=W)) (e1:(T.toList == [84,82,85,69])=true)
  (HF:Hid (wordF (s.data.toList.drop i)=(4,T.data.toList,M-i))) :
  Calls Tryz.prog 64 #[.string s,.int .i64 (i:Int)] w fun e w'=>e=.returned (rwv (wordF (s.data.toList.drop i)) i)∧Q w w':=by
 obtain ⟨lo,le,eT,lT,zT,yes,no,beh⟩:=hr;have HY:=hid yes;have HN:=hid no;have HJ0:=hid (fun W=>solid_any s[i] W)
 rw [hj]at HJ0;have JJ:=hid (WB.start w);clear yes no lT beh hj;have hT0:0<T.size:=by omega
 have hMi:(i:Int)≤(M:Int):=by omega
 have hMs:(M:Int)≤(s.size:Int):=by omega
 generalize wordF (s.data.toList.drop i)=wf at HF ⊢;go_enter Tryz.func64,Tryz.ntmps64
 go_wp2_with (go_at_call 81;refine (HJ0.out _).mono ?_;rintro e w9 ⟨rfl,h9⟩;replace h9:=h9.symm;subst h9)
 go_loop [6] (fun x=>∃ k:Nat,i≤k∧k≤M∧x=.int .i64 (k:Int)) (fun x=>s.size-(intOf x).toNat)
 case atStart=>exact ⟨i,by omega,by omega,rfl⟩
 case round=>
  obtain ⟨k,hk0,hk,rfl⟩:=hrel;by_cases hlt:k<M
  ·have hks:k<s.size:=by omega
   have HJ:=hid (fun W=>solid_any s[k] W)
   rw [HY.out k hks hk0 hlt]at HJ;go_wp2_with (go_at_call 81;refine (HJ.out _).mono ?_;rintro e w9 ⟨rfl,h9⟩;replace h9:=h9.symm;subst h9)
   go_round
   case rel=>exact ⟨k+1,by omega,by omega,by go_num⟩
   case measure=>simp [intOf];omega
  ·have e:k=M:=by omega
   subst e;clear hk hlt;by_cases hend:k<s.size
   ·have HJ:=hid (fun W=>solid_any s[k] W)
    rw [HN.out hend]at HJ;go_wp2_with (first|(go_at_call 81;refine (HJ.out _).mono ?_;rintro e w9 ⟨rfl,h9⟩;replace h9:=h9.symm;subst h9)|(go_at_call 82;refine (HP.out _).mono ?_;rintro e w1 ⟨rfl,q1⟩;have J1:=hid (JJ.out.on q1);clear q1;have d0:=J1.out.c0;have d1:=J1.out.c1;have d2:=J1.out.c2;have g0:=J1.out.f0;have g1:=J1.out.f1;have g2:=J1.out.f2)|(go_at_call 83;refine (HRf.out _).mono ?_;rintro e w2 ⟨rfl,q2⟩;have J2:=hid (J1.out.on q2);clear q2;have k0:=J2.out.c0;have k1:=J2.out.c1;have k2:=J2.out.c2;have m0:=J2.out.f0;have m1:=J2.out.f1;have m2:=J2.out.f2)|(go_at_call 57;refine (HL.out _).mono ?_;rintro e w9 ⟨rfl,h9⟩;replace h9:=h9.symm;subst h9))
    refine bodyPost_ret (v:=.tuple #[.agg #[.int .i64 4,.string T,.int .i64 (i:Int)],.int .i64 ((k:Int)-(i:Int))]) (by simp [results,Tryz.results64,go_sem,k0,k1,k2,m0,m1,m2]) rfl ⟨ret_rw HF.out (by omega) rfl rfl (by omega),?_⟩
    repeat' (first|with_reducible exact J2.out.q|with_reducible refine Q.setCell ?_ (Nat.le_refl _) _|with_reducible refine Q.drewN ?_ _|with_reducible refine Q.drew ?_|with_reducible refine Q.alloc ?_ _)
   ·go_wp2_with (first|(go_at_call 82;refine (HP.out _).mono ?_;rintro e w1 ⟨rfl,q1⟩;have J1:=hid (JJ.out.on q1);clear q1;have d0:=J1.out.c0;have d1:=J1.out.c1;have d2:=J1.out.c2;have g0:=J1.out.f0;have g1:=J1.out.f1;have g2:=J1.out.f2)|(go_at_call 83;refine (HRf.out _).mono ?_;rintro e w2 ⟨rfl,q2⟩;have J2:=hid (J1.out.on q2);clear q2;have k0:=J2.out.c0;have k1:=J2.out.c1;have k2:=J2.out.c2;have m0:=J2.out.f0;have m1:=J2.out.f1;have m2:=J2.out.f2)|(go_at_call 57;refine (HL.out _).mono ?_;rintro e w9 ⟨rfl,h9⟩;replace h9:=h9.symm;subst h9))
    refine bodyPost_ret (v:=.tuple #[.agg #[.int .i64 4,.string T,.int .i64 (i:Int)],.int .i64 ((k:Int)-(i:Int))]) (by simp [results,Tryz.results64,go_sem,k0,k1,k2,m0,m1,m2]) rfl ⟨ret_rw HF.out (by omega) rfl rfl (by omega),?_⟩
    repeat' (first|with_reducible exact J2.out.q|with_reducible refine Q.setCell ?_ (Nat.le_refl _) _|with_reducible refine Q.drewN ?_ _|with_reducible refine Q.drew ?_|with_reducible refine Q.alloc ?_ _)
theorem rword_f(s T:ByteArray)(i M:Nat)(w:World)(hs:s.size≤100000)(hi:i<s.size)(hr:RunAt s i M T)(hj:joinB s[i]=true)
  (pn:Int) (rv:Value) (HP:Hid (∀ W,Calls Tryz.prog 82 #[.string T] W fun e w'=>e=.returned (.tuple #[.int .i64 pn,.bool false])∧Q W w'))
  (HRf:Hid (∀ W,Calls Tryz.prog 83 #[.string T] W fun e w'=>e=.returned (.tuple #[rv,.bool false])∧Q W w'))
  (HL:Hid (∀ W,Calls Tryz.prog 57 #[.string T] W fun e w'=>e=.returned (.bool true)∧w'=W)) (e1:(T.toList == [84,82,85,69])=false) (e2:(T.toList == [70,65,76,83,69])=true)
  (HF:Hid (wordF (s.data.toList.drop i)=(4,T.data.toList,M-i))) :
  Calls Tryz.prog 64 #[.string s,.int .i64 (i:Int)] w fun e w'=>e=.returned (rwv (wordF (s.data.toList.drop i)) i)∧Q w w':=by
 obtain ⟨lo,le,eT,lT,zT,yes,no,beh⟩:=hr;have HY:=hid yes;have HN:=hid no;have HJ0:=hid (fun W=>solid_any s[i] W)
 rw [hj]at HJ0;have JJ:=hid (WB.start w);clear yes no lT beh hj;have hT0:0<T.size:=by omega
 have hMi:(i:Int)≤(M:Int):=by omega
 have hMs:(M:Int)≤(s.size:Int):=by omega
 generalize wordF (s.data.toList.drop i)=wf at HF ⊢;go_enter Tryz.func64,Tryz.ntmps64
 go_wp2_with (go_at_call 81;refine (HJ0.out _).mono ?_;rintro e w9 ⟨rfl,h9⟩;replace h9:=h9.symm;subst h9)
 go_loop [6] (fun x=>∃ k:Nat,i≤k∧k≤M∧x=.int .i64 (k:Int)) (fun x=>s.size-(intOf x).toNat)
 case atStart=>exact ⟨i,by omega,by omega,rfl⟩
 case round=>
  obtain ⟨k,hk0,hk,rfl⟩:=hrel;by_cases hlt:k<M
  ·have hks:k<s.size:=by omega
   have HJ:=hid (fun W=>solid_any s[k] W)
   rw [HY.out k hks hk0 hlt]at HJ;go_wp2_with (go_at_call 81;refine (HJ.out _).mono ?_;rintro e w9 ⟨rfl,h9⟩;replace h9:=h9.symm;subst h9)
   go_round
   case rel=>exact ⟨k+1,by omega,by omega,by go_num⟩
   case measure=>simp [intOf];omega
  ·have e:k=M:=by omega
   subst e;clear hk hlt;by_cases hend:k<s.size
   ·have HJ:=hid (fun W=>solid_any s[k] W)
    rw [HN.out hend]at HJ;go_wp2_with (first|(go_at_call 81;refine (HJ.out _).mono ?_;rintro e w9 ⟨rfl,h9⟩;replace h9:=h9.symm;subst h9)|(go_at_call 82;refine (HP.out _).mono ?_;rintro e w1 ⟨rfl,q1⟩;have J1:=hid (JJ.out.on q1);clear q1;have d0:=J1.out.c0;have d1:=J1.out.c1;have d2:=J1.out.c2;have g0:=J1.out.f0;have g1:=J1.out.f1;have g2:=J1.out.f2)|(go_at_call 83;refine (HRf.out _).mono ?_;rintro e w2 ⟨rfl,q2⟩;have J2:=hid (J1.out.on q2);clear q2;have k0:=J2.out.c0;have k1:=J2.out.c1;have k2:=J2.out.c2;have m0:=J2.out.f0;have m1:=J2.out.f1;have m2:=J2.out.f2)|(go_at_call 57;refine (HL.out _).mono ?_;rintro e w9 ⟨rfl,h9⟩;replace h9:=h9.symm;subst h9))
    refine bodyPost_ret (v:=.tuple #[.agg #[.int .i64 4,.string T,.int .i64 (i:Int)],.int .i64 ((k:Int)-(i:Int))]) (by simp [results,Tryz.results64,go_sem,k0,k1,k2,m0,m1,m2]) rfl ⟨ret_rw HF.out (by omega) rfl rfl (by omega),?_⟩
    repeat' (first|with_reducible exact J2.out.q|with_reducible refine Q.setCell ?_ (Nat.le_refl _) _|with_reducible refine Q.drewN ?_ _|with_reducible refine Q.drew ?_|with_reducible refine Q.alloc ?_ _)
   ·go_wp2_with (first|(go_at_call 82;refine (HP.out _).mono ?_;rintro e w1 ⟨rfl,q1⟩;have J1:=hid (JJ.out.on q1);clear q1;have d0:=J1.out.c0;have d1:=J1.out.c1;have d2:=J1.out.c2;have g0:=J1.out.f0;have g1:=J1.out.f1;have g2:=J1.out.f2)|(go_at_call 83;refine (HRf.out _).mono ?_;rintro e w2 ⟨rfl,q2⟩;have J2:=hid (J1.out.on q2);clear q2;have k0:=J2.out.c0;have k1:=J2.out.c1;have k2:=J2.out.c2;have m0:=J2.out.f0;have m1:=J2.out.f1;have m2:=J2.out.f2)|(go_at_call 57;refine (HL.out _).mono ?_;rintro e w9 ⟨rfl,h9⟩;replace h9:=h9.symm;subst h9))
    refine bodyPost_ret (v:=.tuple #[.agg #[.int .i64 4,.string T,.int .i64 (i:Int)],.int .i64 ((k:Int)-(i:Int))]) (by simp [results,Tryz.results64,go_sem,k0,k1,k2,m0,m1,m2]) rfl ⟨ret_rw HF.out (by omega) rfl rfl (by omega),?_⟩
    repeat' (first|with_reducible exact J2.out.q|with_reducible refine Q.setCell ?_ (Nat.le_refl _) _|with_reducible refine Q.drewN ?_ _|with_reducible refine Q.drew ?_|with_reducible refine Q.alloc ?_ _)
end Go.Proofs.YtoikodohcieipaaGreatDoor
namespace Go.Proofs.YtoikodohcieipaaGreatDoor
open Go.RowKit
set_option linter.unusedVariables false
set_option linter.unusedSimpArgs false
theorem rword_c(s T:ByteArray)(i M:Nat)(w:World)(hs:s.size≤100000)(hi:i<s.size)(hr:RunAt s i M T)(hj:joinB s[i]=true)
  (pn:Int) (rv:Value) (HP:Hid (∀ W,Calls Tryz.prog 82 #[.string T] W fun e w'=>e=.returned (.tuple #[.int .i64 pn,.bool false])∧Q W w'))
  (HRf:Hid (∀ W,Calls Tryz.prog 83 #[.string T] W fun e w'=>e=.returned (.tuple #[rv,.bool false])∧Q W w'))
  (HL:Hid (∀ W,Calls Tryz.prog 57 #[.string T] W fun e w'=>e=.returned (.bool true)∧w'=W)) (e1:(T.toList == [84,82,85,69])=false) (e2:(T.toList == [70,65,76,83,69])=false) (hM:Hid (M<s.size)) (H40:Hid (∀ h:M<s.size,s[M]=40))
  (HF:Hid (wordF (s.data.toList.drop i)=(4,T.data.toList,M-i))) :
  Calls Tryz.prog 64 #[.string s,.int .i64 (i:Int)] w fun e w'=>e=.returned (rwv (wordF (s.data.toList.drop i)) i)∧Q w w':=by
 obtain ⟨lo,le,eT,lT,zT,yes,no,beh⟩:=hr;have HY:=hid yes;have HN:=hid no;have HJ0:=hid (fun W=>solid_any s[i] W)
 rw [hj]at HJ0;have JJ:=hid (WB.start w);clear yes no lT beh hj;have hT0:0<T.size:=by omega
 have hMi:(i:Int)≤(M:Int):=by omega
 have hMs:(M:Int)≤(s.size:Int):=by omega
 generalize wordF (s.data.toList.drop i)=wf at HF ⊢;go_enter Tryz.func64,Tryz.ntmps64
 go_wp2_with (go_at_call 81;refine (HJ0.out _).mono ?_;rintro e w9 ⟨rfl,h9⟩;replace h9:=h9.symm;subst h9)
 go_loop [6] (fun x=>∃ k:Nat,i≤k∧k≤M∧x=.int .i64 (k:Int)) (fun x=>s.size-(intOf x).toNat)
 case atStart=>exact ⟨i,by omega,by omega,rfl⟩
 case round=>
  obtain ⟨k,hk0,hk,rfl⟩:=hrel;by_cases hlt:k<M
  ·have hks:k<s.size:=by omega
   have HJ:=hid (fun W=>solid_any s[k] W)
   rw [HY.out k hks hk0 hlt]at HJ;go_wp2_with (go_at_call 81;refine (HJ.out _).mono ?_;rintro e w9 ⟨rfl,h9⟩;replace h9:=h9.symm;subst h9)
   go_round
   case rel=>exact ⟨k+1,by omega,by omega,by go_num⟩
   case measure=>simp [intOf];omega
  ·have e:k=M:=by omega
   subst e;clear hk hlt;by_cases hend:k<s.size
   ·have HJ:=hid (fun W=>solid_any s[k] W)
    rw [HN.out hend]at HJ;have e40:=eq_byte (n:=40) (by omega) (H40.out hend)
    go_wp2_with (first|(go_at_call 81;refine (HJ.out _).mono ?_;rintro e w9 ⟨rfl,h9⟩;replace h9:=h9.symm;subst h9)|(go_at_call 82;refine (HP.out _).mono ?_;rintro e w1 ⟨rfl,q1⟩;have J1:=hid (JJ.out.on q1);clear q1;have d0:=J1.out.c0;have d1:=J1.out.c1;have d2:=J1.out.c2;have g0:=J1.out.f0;have g1:=J1.out.f1;have g2:=J1.out.f2)|(go_at_call 83;refine (HRf.out _).mono ?_;rintro e w2 ⟨rfl,q2⟩;have J2:=hid (J1.out.on q2);clear q2;have k0:=J2.out.c0;have k1:=J2.out.c1;have k2:=J2.out.c2;have m0:=J2.out.f0;have m1:=J2.out.f1;have m2:=J2.out.f2)|(go_at_call 57;refine (HL.out _).mono ?_;rintro e w9 ⟨rfl,h9⟩;replace h9:=h9.symm;subst h9))
    refine bodyPost_ret (v:=.tuple #[.agg #[.int .i64 4,.string T,.int .i64 (i:Int)],.int .i64 ((k:Int)-(i:Int))]) (by simp [results,Tryz.results64,go_sem,k0,k1,k2,m0,m1,m2]) rfl ⟨ret_rw HF.out (by omega) rfl rfl (by omega),?_⟩
    repeat' (first|with_reducible exact J2.out.q|with_reducible refine Q.setCell ?_ (Nat.le_refl _) _|with_reducible refine Q.drewN ?_ _|with_reducible refine Q.drew ?_|with_reducible refine Q.alloc ?_ _)
   ·exact absurd hM.out hend
theorem rword_b(s T:ByteArray)(i M:Nat)(w:World)(hs:s.size≤100000)(hi:i<s.size)(hr:RunAt s i M T)(hj:joinB s[i]=true)
  (pn:Int) (rv:Value) (HP:Hid (∀ W,Calls Tryz.prog 82 #[.string T] W fun e w'=>e=.returned (.tuple #[.int .i64 pn,.bool false])∧Q W w'))
  (HRf:Hid (∀ W,Calls Tryz.prog 83 #[.string T] W fun e w'=>e=.returned (.tuple #[rv,.bool false])∧Q W w'))
  (HL:Hid (∀ W,Calls Tryz.prog 57 #[.string T] W fun e w'=>e=.returned (.bool true)∧w'=W)) (e1:(T.toList == [84,82,85,69])=false) (e2:(T.toList == [70,65,76,83,69])=false) (H40:Hid (∀ h:M<s.size,s[M]≠40))
  (HF:Hid (wordF (s.data.toList.drop i)=bad)) :
  Calls Tryz.prog 64 #[.string s,.int .i64 (i:Int)] w fun e w'=>e=.returned (rwv (wordF (s.data.toList.drop i)) i)∧Q w w':=by
 obtain ⟨lo,le,eT,lT,zT,yes,no,beh⟩:=hr;have HY:=hid yes;have HN:=hid no;have HJ0:=hid (fun W=>solid_any s[i] W)
 rw [hj]at HJ0;have JJ:=hid (WB.start w);clear yes no lT beh hj;have hT0:0<T.size:=by omega
 have hMi:(i:Int)≤(M:Int):=by omega
 have hMs:(M:Int)≤(s.size:Int):=by omega
 generalize wordF (s.data.toList.drop i)=wf at HF ⊢;go_enter Tryz.func64,Tryz.ntmps64
 go_wp2_with (go_at_call 81;refine (HJ0.out _).mono ?_;rintro e w9 ⟨rfl,h9⟩;replace h9:=h9.symm;subst h9)
 go_loop [6] (fun x=>∃ k:Nat,i≤k∧k≤M∧x=.int .i64 (k:Int)) (fun x=>s.size-(intOf x).toNat)
 case atStart=>exact ⟨i,by omega,by omega,rfl⟩
 case round=>
  obtain ⟨k,hk0,hk,rfl⟩:=hrel;by_cases hlt:k<M
  ·have hks:k<s.size:=by omega
   have HJ:=hid (fun W=>solid_any s[k] W)
   rw [HY.out k hks hk0 hlt]at HJ;go_wp2_with (go_at_call 81;refine (HJ.out _).mono ?_;rintro e w9 ⟨rfl,h9⟩;replace h9:=h9.symm;subst h9)
   go_round
   case rel=>exact ⟨k+1,by omega,by omega,by go_num⟩
   case measure=>simp [intOf];omega
  ·have e:k=M:=by omega
   subst e;clear hk hlt;by_cases hend:k<s.size
   ·have HJ:=hid (fun W=>solid_any s[k] W)
    rw [HN.out hend]at HJ;have e40:=byte_ne (n:=40) (by omega) (H40.out hend)
    go_wp2_with (first|(go_at_call 81;refine (HJ.out _).mono ?_;rintro e w9 ⟨rfl,h9⟩;replace h9:=h9.symm;subst h9)|(go_at_call 82;refine (HP.out _).mono ?_;rintro e w1 ⟨rfl,q1⟩;have J1:=hid (JJ.out.on q1);clear q1;have d0:=J1.out.c0;have d1:=J1.out.c1;have d2:=J1.out.c2;have g0:=J1.out.f0;have g1:=J1.out.f1;have g2:=J1.out.f2)|(go_at_call 83;refine (HRf.out _).mono ?_;rintro e w2 ⟨rfl,q2⟩;have J2:=hid (J1.out.on q2);clear q2;have k0:=J2.out.c0;have k1:=J2.out.c1;have k2:=J2.out.c2;have m0:=J2.out.f0;have m1:=J2.out.f1;have m2:=J2.out.f2)|(go_at_call 57;refine (HL.out _).mono ?_;rintro e w9 ⟨rfl,h9⟩;replace h9:=h9.symm;subst h9))
    refine bodyPost_ret (v:=.tuple #[.agg #[.int .i64 0,.string ⟨#[]⟩,.int .i64 0],.int .i64 0]) (by simp [results,Tryz.results64,go_sem,k0,k1,k2,m0,m1,m2]) rfl ⟨ret_rbad HF.out,?_⟩
    repeat' (first|with_reducible exact J2.out.q|with_reducible refine Q.setCell ?_ (Nat.le_refl _) _|with_reducible refine Q.drewN ?_ _|with_reducible refine Q.drew ?_|with_reducible refine Q.alloc ?_ _)
   ·go_wp2_with (first|(go_at_call 82;refine (HP.out _).mono ?_;rintro e w1 ⟨rfl,q1⟩;have J1:=hid (JJ.out.on q1);clear q1;have d0:=J1.out.c0;have d1:=J1.out.c1;have d2:=J1.out.c2;have g0:=J1.out.f0;have g1:=J1.out.f1;have g2:=J1.out.f2)|(go_at_call 83;refine (HRf.out _).mono ?_;rintro e w2 ⟨rfl,q2⟩;have J2:=hid (J1.out.on q2);clear q2;have k0:=J2.out.c0;have k1:=J2.out.c1;have k2:=J2.out.c2;have m0:=J2.out.f0;have m1:=J2.out.f1;have m2:=J2.out.f2)|(go_at_call 57;refine (HL.out _).mono ?_;rintro e w9 ⟨rfl,h9⟩;replace h9:=h9.symm;subst h9))
    refine bodyPost_ret (v:=.tuple #[.agg #[.int .i64 0,.string ⟨#[]⟩,.int .i64 0],.int .i64 0]) (by simp [results,Tryz.results64,go_sem,k0,k1,k2,m0,m1,m2]) rfl ⟨ret_rbad HF.out,?_⟩
    repeat' (first|with_reducible exact J2.out.q|with_reducible refine Q.setCell ?_ (Nat.le_refl _) _|with_reducible refine Q.drewN ?_ _|with_reducible refine Q.drew ?_|with_reducible refine Q.alloc ?_ _)
end Go.Proofs.YtoikodohcieipaaGreatDoor
