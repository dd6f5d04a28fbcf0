/- ref.word of a text, walked. -/
import Derived.Test.YtoikodohcieipaaGreatDoorKl14
import Derived.Test.YtoikodohcieipaaGreatDoorKl16
set_option linter.unusedVariables false
set_option linter.unusedSimpArgs false
set_option maxRecDepth 100000
set_option maxHeartbeats 8000000
namespace Go.Proofs.YtoikodohcieipaaGreatDoor
open Go.RowKit
theorem str_one(s:ByteArray)(k:Nat)(h:k<s.size):(s.extract k (k+1)).data.toList=[s[k]]:=by
 rw [Lib.extract_data,drop_cons s k h];simp
theorem cat_data(a b:ByteArray):(a++b).data.toList=a.data.toList++b.data.toList:=by simp
theorem not_open{s:ByteArray}{k:Nat}(h:s.size≤k):Lib.hasPrefix (s.data.toList.drop k) [34]=false:=by
 rw [List.drop_of_length_le (by simpa using h)];rfl
theorem not_open'{s:ByteArray}{k:Nat}(h:k<s.size)(h34:s[k]≠34):Lib.hasPrefix (s.data.toList.drop k) [34]=false:=by
 rw [drop_cons s k h,Bool.eq_false_iff];intro hx
 unfold Lib.hasPrefix at hx
 rw [List.isPrefixOf_iff_prefix,List.cons_prefix_cons]at hx;exact h34 hx.1.symm
theorem rword_quo(s:ByteArray)(i:Nat)(w:World)(hs:s.size≤100000)(hi:i<s.size)(h34:s[i]=34)
  (R:Option (List UInt8 × Nat)) (HR:Hid (quoF (s.data.toList.drop (i+1)) [] 1=R)) (HF:Hid (wordF (s.data.toList.drop i)=quoP R)) :
  Calls Tryz.prog 64 #[.string s,.int .i64 (i:Int)] w fun e w'=>e=.returned (rwv (wordF (s.data.toList.drop i)) i)∧Q w w':=by
 have HJ0:=hid (fun W=>solid_any s[i] W)
 rw [show joinB s[i]=false by rw [h34];rfl]at HJ0
 have e0:=eq_byte (n:=34) (by omega) h34
 generalize wordF (s.data.toList.drop i)=wf at HF ⊢;clear h34;go_enter Tryz.func64,Tryz.ntmps64
 go_wp2_with (go_at_call 81;refine (HJ0.out _).mono ?_;rintro e w9 ⟨rfl,h9⟩;replace h9:=h9.symm;subst h9)
 go_loop [10,11] (fun x y=>∃ (k:Nat) (A:ByteArray),i+1≤k∧k≤s.size∧x=.string A∧y=.int .i64 (k:Int)∧A.size≤k∧Hid (quoF (s.data.toList.drop k) A.data.toList (k-i)=R)) (fun _ y=>s.size-(intOf y).toNat)
 case atStart=>exact ⟨i+1,⟨#[]⟩,by omega,by omega,rfl,rfl,Nat.zero_le _,by rw [show i+1-i=1 by omega];exact HR⟩
 case round=>
  obtain ⟨k,A,hk0,hk,rfl,rfl,hA,hr⟩:=hrel;by_cases hlt:k<s.size
  ·have ed:=drop_cons s k hlt
   have hr2:=hr.out;rw [ed]at hr2;by_cases hc:s[k]=34
   ·have e34:=eq_byte (n:=34) (by omega) hc
    rw [hc]at hr2;by_cases hz:k+1<s.size
    ·by_cases hc2:s[k+1]=34
     ·have e2:=eq_byte (n:=34) (by omega) hc2
      rw [drop_cons s (k+1) hz,hc2,quoF_two]at hr2;obtain ⟨C,eC⟩:∃ C,A++(⟨#[34]⟩:ByteArray)=C:=⟨_,rfl⟩;have lC:C.data.toList=A.data.toList++[34]:=by rw [←eC,cat_data]
      have zC:C.size=A.size+1:=by rw [←len_data,lC,List.length_append,len_data];rfl
      have kC:¬ 9223372036854775807<A.size+1:=by omega
      have HR2:Hid (quoF (s.data.toList.drop (k+2)) C.data.toList (k+2-i)=R):=by
       show _=_
       rw [lC,show k+2-i=k-i+2 by omega]
       exact hr2
      clear hr hr2 lC ed;go_wp2_with fail
      go_round
      case rel=>exact ⟨_,.string C,.int .i64 ((k:Int)+1+1),⟨k+2,by omega,by omega,C,rfl,by go_num,by omega,HR2⟩,rfl,rfl,rfl⟩
      case measure=>simp [intOf];omega
     ·have e2:=byte_ne (n:=34) (by omega) hc2
      rw [quoF_end (not_open' hz hc2)]at hr2;clear hr ed;have HU:=hid (fun W=>V.utf8_any A W (by omega))
      by_cases hbig:200<A.size
      ·have HB:Hid (wf=bad):=by
        show _=_
        rw [HF.out,←hr2];simp only [quoP,V.mtB,len_data,decide_eq_false (show ¬ A.size≤200 by omega),Bool.false_and]
        rfl
       clear hr2 HF;go_wp2_with fail
       refine bodyPost_ret (v:=.tuple #[.agg #[.int .i64 0,.string ⟨#[]⟩,.int .i64 0],.int .i64 0]) (by simp [results,Tryz.results64,go_sem]) rfl ⟨ret_rbad HB.out,?_⟩
       repeat' (first|with_reducible exact Q.refl _|with_reducible refine Q.setCell ?_ (Nat.le_refl _) _|with_reducible refine Q.drewN ?_ _|with_reducible refine Q.drew ?_|with_reducible refine Q.alloc ?_ _)
      ·cases hv:Lib.validD A.data.toList
       ·rw [hv]at HU
        have HB:Hid (wf=bad):=by
         show _=_
         rw [HF.out,←hr2];simp only [quoP,V.mtB,hv,Bool.and_false]
         rfl
        clear hr2 HF hv;go_wp2_with (go_at_call 55;refine (HU.out _).mono ?_;rintro e w9 ⟨rfl,h9⟩;replace h9:=h9.symm;subst h9)
        refine bodyPost_ret (v:=.tuple #[.agg #[.int .i64 0,.string ⟨#[]⟩,.int .i64 0],.int .i64 0]) (by simp [results,Tryz.results64,go_sem]) rfl ⟨ret_rbad HB.out,?_⟩
        repeat' (first|with_reducible exact Q.refl _|with_reducible refine Q.setCell ?_ (Nat.le_refl _) _|with_reducible refine Q.drewN ?_ _|with_reducible refine Q.drew ?_|with_reducible refine Q.alloc ?_ _)
       ·rw [hv]at HU
        have HB:Hid (wf=(2,A.data.toList,k-i+1)):=by
         show _=_
         rw [HF.out,←hr2];simp only [quoP,V.mtB,hv,len_data,decide_eq_true (show A.size≤200 by omega),Bool.and_true,if_true]
        clear hr2 HF hv;go_wp2_with (go_at_call 55;refine (HU.out _).mono ?_;rintro e w9 ⟨rfl,h9⟩;replace h9:=h9.symm;subst h9)
        refine bodyPost_ret (v:=.tuple #[.agg #[.int .i64 2,.string A,.int .i64 (i:Int)],.int .i64 ((k:Int)+1-(i:Int))]) (by simp [results,Tryz.results64,go_sem]) rfl ⟨ret_rw HB.out (by omega) rfl rfl (by omega),?_⟩
        repeat' (first|with_reducible exact Q.refl _|with_reducible refine Q.setCell ?_ (Nat.le_refl _) _|with_reducible refine Q.drewN ?_ _|with_reducible refine Q.drew ?_|with_reducible refine Q.alloc ?_ _)
    ·rw [quoF_end (not_open (by omega))]at hr2
     clear hr ed;have HU:=hid (fun W=>V.utf8_any A W (by omega))
     by_cases hbig:200<A.size
     ·have HB:Hid (wf=bad):=by
       show _=_
       rw [HF.out,←hr2];simp only [quoP,V.mtB,len_data,decide_eq_false (show ¬ A.size≤200 by omega),Bool.false_and]
       rfl
      clear hr2 HF;go_wp2_with fail
      refine bodyPost_ret (v:=.tuple #[.agg #[.int .i64 0,.string ⟨#[]⟩,.int .i64 0],.int .i64 0]) (by simp [results,Tryz.results64,go_sem]) rfl ⟨ret_rbad HB.out,?_⟩
      repeat' (first|with_reducible exact Q.refl _|with_reducible refine Q.setCell ?_ (Nat.le_refl _) _|with_reducible refine Q.drewN ?_ _|with_reducible refine Q.drew ?_|with_reducible refine Q.alloc ?_ _)
     ·cases hv:Lib.validD A.data.toList
      ·rw [hv]at HU
       have HB:Hid (wf=bad):=by
        show _=_
        rw [HF.out,←hr2];simp only [quoP,V.mtB,hv,Bool.and_false]
        rfl
       clear hr2 HF hv;go_wp2_with (go_at_call 55;refine (HU.out _).mono ?_;rintro e w9 ⟨rfl,h9⟩;replace h9:=h9.symm;subst h9)
       refine bodyPost_ret (v:=.tuple #[.agg #[.int .i64 0,.string ⟨#[]⟩,.int .i64 0],.int .i64 0]) (by simp [results,Tryz.results64,go_sem]) rfl ⟨ret_rbad HB.out,?_⟩
       repeat' (first|with_reducible exact Q.refl _|with_reducible refine Q.setCell ?_ (Nat.le_refl _) _|with_reducible refine Q.drewN ?_ _|with_reducible refine Q.drew ?_|with_reducible refine Q.alloc ?_ _)
      ·rw [hv]at HU
       have HB:Hid (wf=(2,A.data.toList,k-i+1)):=by
        show _=_
        rw [HF.out,←hr2];simp only [quoP,V.mtB,hv,len_data,decide_eq_true (show A.size≤200 by omega),Bool.and_true,if_true]
       clear hr2 HF hv;go_wp2_with (go_at_call 55;refine (HU.out _).mono ?_;rintro e w9 ⟨rfl,h9⟩;replace h9:=h9.symm;subst h9)
       refine bodyPost_ret (v:=.tuple #[.agg #[.int .i64 2,.string A,.int .i64 (i:Int)],.int .i64 ((k:Int)+1-(i:Int))]) (by simp [results,Tryz.results64,go_sem]) rfl ⟨ret_rw HB.out (by omega) rfl rfl (by omega),?_⟩
       repeat' (first|with_reducible exact Q.refl _|with_reducible refine Q.setCell ?_ (Nat.le_refl _) _|with_reducible refine Q.drewN ?_ _|with_reducible refine Q.drew ?_|with_reducible refine Q.alloc ?_ _)
   ·have e34:=byte_ne (n:=34) (by omega) hc
    rw [quoF_not hc]at hr2;obtain ⟨X,eX⟩:∃ X,s.extract k (k+1)=X:=⟨_,rfl⟩;have lX:X.data.toList=[s[k]]:=by rw [←eX];exact str_one s k hlt
    have zX:X.size=1:=by rw [←len_data,lX];rfl
    obtain ⟨C,eC⟩:∃ C,A++X=C:=⟨_,rfl⟩;have lC:C.data.toList=A.data.toList++[s[k]]:=by rw [←eC,cat_data,lX]
    have zC:C.size=A.size+1:=by rw [←len_data,lC,List.length_append,len_data];rfl
    have kC:¬ 9223372036854775807<A.size+X.size:=by omega
    have HR2:Hid (quoF (s.data.toList.drop (k+1)) C.data.toList (k+1-i)=R):=by
     show _=_
     rw [lC,show k+1-i=k-i+1 by omega]
     exact hr2
    have eX':s.extract k ((k:Int)+1).toNat=X:=by rw [show ((k:Int)+1).toNat=k+1 by omega];exact eX
    clear hr hr2 lC ed lX;go_wp2_with fail
    go_round
    case rel=>exact ⟨k+1,C,by omega,by omega,rfl,by go_num,by omega,HR2⟩
    case measure=>simp [intOf];omega
  ·have hr2:=hr.out
   rw [List.drop_of_length_le (by simp;omega)]at hr2
   have HB:Hid (wf=bad):=by show _=_;rw [HF.out,←hr2];rfl
   clear hr2 hr HF;go_wp2_with fail
   refine bodyPost_ret (v:=.tuple #[.agg #[.int .i64 0,.string ⟨#[]⟩,.int .i64 0],.int .i64 0]) (by simp [results,Tryz.results64,go_sem]) rfl ⟨ret_rbad HB.out,?_⟩
   repeat' (first|with_reducible exact Q.refl _|with_reducible refine Q.setCell ?_ (Nat.le_refl _) _|with_reducible refine Q.drewN ?_ _|with_reducible refine Q.drew ?_|with_reducible refine Q.alloc ?_ _)
end Go.Proofs.YtoikodohcieipaaGreatDoor
