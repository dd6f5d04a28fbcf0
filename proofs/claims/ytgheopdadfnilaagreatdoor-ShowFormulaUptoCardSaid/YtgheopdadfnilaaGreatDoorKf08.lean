/- a1.Parse, walked; a1.Parse: wh. -/
import Derived.Test.YtgheopdadfnilaaGreatDoorKf01
import Derived.Test.YtgheopdadfnilaaGreatDoorKf07
import Derived.Deep.RegionHeld3
set_option linter.unusedVariables false
set_option linter.unusedSimpArgs false
set_option maxRecDepth 100000
set_option maxHeartbeats 8000000
namespace Go.Proofs.YtgheopdadfnilaaGreatDoor
open Go.RowKit
structure Tail (C T E R G:ByteArray) (k:Nat) (ca ra cf nf:Bool) (col row:Int):Prop where
 P:∀ W,Calls Tryz.prog 40 #[.string C,.string ⟨#[36]⟩] W fun e w'=>e=.returned (.tuple #[.string T,.bool ca])∧w'=W
 L:∀ W,Calls Tryz.prog 202 #[.string T] W fun e w'=>e=.returned (.int .i64 (k:Int))∧w'=W
 hk:k≤T.size
 hT:T.size≤4294967281
 eE:T.extract 0 k=E
 eR:T.extract k T.size=R
 K:∀ W,Calls Tryz.prog 203 #[.string E] W fun e w'=>e=.returned (.tuple #[.int .i64 col,.bool cf])∧w'=W
 R:∀ W,Calls Tryz.prog 40 #[.string R,.string ⟨#[36]⟩] W fun e w'=>e=.returned (.tuple #[.string G,.bool ra])∧w'=W
 N:∀ W,Calls Tryz.prog 156 #[.string G,.int .i64 2199023255552] W fun e w'=>e=.returned (.tuple #[.int .i64 row,.bool nf])∧w'=W
 r1:0≤row
 r2:row≤2199023255552
theorem numK_lo(l:List UInt8)(m:Nat):0≤numK l m:=by unfold numK;split <;> omega
theorem numK_hi(l:List UInt8)(m:Nat):numK l m≤(m:Int):=by
 unfold numK
 split
 ·rename_i h
  unfold numF at h
  simp only [Bool.and_eq_true,decide_eq_true_eq]at h
  omega
 ·omega
theorem tail_of(C:ByteArray)(hs:C.size≤4294967281) :
  ∃ T E R G,Tail C T E R G (lead (Lib.trimPrefix C.data.toList [36])) (Lib.hasPrefix C.data.toList [36]) (Lib.hasPrefix ((Lib.trimPrefix C.data.toList [36]).dropWhile let1) [36])
   (colF ((Lib.trimPrefix C.data.toList [36]).takeWhile let1)) (numF (Lib.trimPrefix ((Lib.trimPrefix C.data.toList [36]).dropWhile let1) [36]) 2199023255552)
   (colK ((Lib.trimPrefix C.data.toList [36]).takeWhile let1)) (numK (Lib.trimPrefix ((Lib.trimPrefix C.data.toList [36]).dropWhile let1) [36]) 2199023255552):=by
 have l1:=Lib.trimPrefix_le C.data.toList [36];rw [len_data]at l1;have P0:∀ W,Calls Tryz.prog 40 #[.string C,.string ⟨#[36]⟩] W fun e w'=>e=.returned (.tuple #[.string ⟨(Lib.trimPrefix C.data.toList [36]).toArray⟩,.bool (Lib.hasPrefix C.data.toList [36])])∧w'=W:=fun W=>Tryz.strings_CutPrefix C ⟨#[36]⟩ W
 generalize Lib.trimPrefix C.data.toList [36]=t at *;have l2:=lead_le t;have e1:((⟨t.toArray⟩:ByteArray).extract 0 (lead t)).data.toList=t.takeWhile let1:=by
  rw [Lib.extract_data,←take_lead]
  rfl
 have e2:((⟨t.toArray⟩:ByteArray).extract (lead t) (⟨t.toArray⟩:ByteArray).size).data.toList=t.dropWhile let1:=by
  rw [Lib.extract_data,←drop_lead,size_mk];exact List.take_of_length_le (by simp)
 have l3:=Lib.trimPrefix_le (t.dropWhile let1) [36];have l4:(t.dropWhile let1).length≤t.length:=by rw [←drop_lead,List.length_drop];omega
 have hK:=fun W=>col_any ((⟨t.toArray⟩:ByteArray).extract 0 (lead t)) W (by rw [ByteArray.size_extract,size_mk];omega)
 rw [e1]at hK;have hR:∀ W,Calls Tryz.prog 40 #[.string ((⟨t.toArray⟩:ByteArray).extract (lead t) (⟨t.toArray⟩:ByteArray).size),.string ⟨#[36]⟩] W fun e w'=>e=.returned (.tuple #[.string ⟨(Lib.trimPrefix (t.dropWhile let1) [36]).toArray⟩,.bool (Lib.hasPrefix (t.dropWhile let1) [36])])∧w'=W:=fun W=>by
  have h:=Tryz.strings_CutPrefix ((⟨t.toArray⟩:ByteArray).extract (lead t) (⟨t.toArray⟩:ByteArray).size) ⟨#[36]⟩ W;rw [e2]at h;exact h
 exact ⟨_,_,_,⟨(Lib.trimPrefix (t.dropWhile let1) [36]).toArray⟩,P0,fun W=>leading_any ⟨t.toArray⟩ W (by rw [size_mk];omega),by rw [size_mk];exact l2,by rw [size_mk];omega,rfl,rfl,hK,hR,
  fun W=>number_any ⟨(Lib.trimPrefix (t.dropWhile let1) [36]).toArray⟩ 2199023255552 2199023255552 W rfl (by omega) (by omega) (by rw [size_mk];omega),numK_lo _ _,numK_hi _ _⟩
theorem bcell{W w1:World}(hb:Q W w1):(∀ b o,b<W.heap.size→w1.cell? ⟨b,o,none⟩=W.cell? ⟨b,o,none⟩)∧(∀ b o,b<W.heap.size→w1.frozen? ⟨b,o,none⟩=W.frozen? ⟨b,o,none⟩):=
 ⟨fun b o h=>Below.cell hb (p:=⟨b,o,none⟩) h,fun b o h=>Below.frozen hb (p:=⟨b,o,none⟩) h⟩
theorem parse_f1(C A B T E R G:ByteArray)(k:Nat)(ca ra nf:Bool)(col row:Int)(w:World)
  (HC:Hid (∀ W,Q w W→Calls Tryz.prog 110 #[.string C,.string ⟨#[33]⟩] W fun e w'=>e=.returned (.tuple #[.string A,.string B,.bool false])∧∃ n,w'=W.drewN n))
  (ht:Tail C T E R G k ca ra false nf col row)
  : Calls Tryz.prog 196 #[.string C] w fun e w'=>e=.returned (.tuple #[.agg #[.string ⟨#[]⟩,.int .i64 0,.int .i64 0,.bool false,.bool false],.bool false])∧Q w w':=by
 obtain ⟨HP,HL,hk,hT,eE,eR,HK,HR,HN,r1,r2⟩:=ht
 replace HP:=hid HP
 replace HL:=hid HL
 replace HK:=hid HK
 replace HR:=hid HR
 replace HN:=hid HN
 go_enter Tryz.func196,Tryz.ntmps196
 go_wp2_with (first|(go_at_call 110;refine (HC.out _ (by repeat (first|exact Q.refl _|refine Q.drewN ?_ _|refine Q.alloc ?_ _))).mono ?_;rintro e w2 ⟨rfl,nn,rfl⟩)|(go_at_call_of 40 C;refine (HP.out _).mono ?_;rintro e w1 ⟨rfl,rfl⟩)|(go_at_call 202;refine (HL.out _).mono ?_;rintro e w1 ⟨rfl,rfl⟩)|(go_at_call 203;refine (HK.out _).mono ?_;rintro e w1 ⟨rfl,rfl⟩))
 refine bodyPost_ret (v:=.tuple #[.agg #[.string ⟨#[]⟩,.int .i64 0,.int .i64 0,.bool false,.bool false],.bool false]) (by simp [results,Tryz.results196,go_sem]) rfl ⟨rfl,?_⟩
 repeat' (first|with_reducible exact Q.refl _|with_reducible refine Q.alloc ?_ _|with_reducible refine Q.drewN ?_ _|with_reducible refine Q.setCell ?_ (by omega) _|with_reducible refine Q.trans ?_ (by assumption))
theorem parse_f2(C A B T E R G:ByteArray)(k:Nat)(ca ra:Bool)(col row:Int)(w:World)
  (HC:Hid (∀ W,Q w W→Calls Tryz.prog 110 #[.string C,.string ⟨#[33]⟩] W fun e w'=>e=.returned (.tuple #[.string A,.string B,.bool false])∧∃ n,w'=W.drewN n))
  (ht:Tail C T E R G k ca ra true false col row)
  : Calls Tryz.prog 196 #[.string C] w fun e w'=>e=.returned (.tuple #[.agg #[.string ⟨#[]⟩,.int .i64 0,.int .i64 0,.bool false,.bool false],.bool false])∧Q w w':=by
 obtain ⟨HP,HL,hk,hT,eE,eR,HK,HR,HN,r1,r2⟩:=ht
 replace HP:=hid HP
 replace HL:=hid HL
 replace HK:=hid HK
 replace HR:=hid HR
 replace HN:=hid HN
 go_enter Tryz.func196,Tryz.ntmps196
 go_wp2_with (first|(go_at_call 110;refine (HC.out _ (by repeat (first|exact Q.refl _|refine Q.drewN ?_ _|refine Q.alloc ?_ _))).mono ?_;rintro e w2 ⟨rfl,nn,rfl⟩)|(go_at_call_of 40 C;refine (HP.out _).mono ?_;rintro e w1 ⟨rfl,rfl⟩)|(go_at_call 202;refine (HL.out _).mono ?_;rintro e w1 ⟨rfl,rfl⟩)|(go_at_call 203;refine (HK.out _).mono ?_;rintro e w1 ⟨rfl,rfl⟩)|(go_at_call_of 40 R;refine (HR.out _).mono ?_;rintro e w1 ⟨rfl,rfl⟩)|(go_at_call 156;refine (HN.out _).mono ?_;rintro e w1 ⟨rfl,rfl⟩))
 refine bodyPost_ret (v:=.tuple #[.agg #[.string ⟨#[]⟩,.int .i64 0,.int .i64 0,.bool false,.bool false],.bool false]) (by simp [results,Tryz.results196,go_sem]) rfl ⟨rfl,?_⟩
 repeat' (first|with_reducible exact Q.refl _|with_reducible refine Q.alloc ?_ _|with_reducible refine Q.drewN ?_ _|with_reducible refine Q.setCell ?_ (by omega) _|with_reducible refine Q.trans ?_ (by assumption))
theorem parse_f3(C A B T E R G:ByteArray)(k:Nat)(ca ra:Bool)(col row:Int)(w:World)
  (HC:Hid (∀ W,Q w W→Calls Tryz.prog 110 #[.string C,.string ⟨#[33]⟩] W fun e w'=>e=.returned (.tuple #[.string A,.string B,.bool false])∧∃ n,w'=W.drewN n))
  (ht:Tail C T E R G k ca ra true true col row)
  (r0:(row == 0)=true)
  : Calls Tryz.prog 196 #[.string C] w fun e w'=>e=.returned (.tuple #[.agg #[.string ⟨#[]⟩,.int .i64 0,.int .i64 0,.bool false,.bool false],.bool false])∧Q w w':=by
 obtain ⟨HP,HL,hk,hT,eE,eR,HK,HR,HN,r1,r2⟩:=ht
 replace HP:=hid HP
 replace HL:=hid HL
 replace HK:=hid HK
 replace HR:=hid HR
 replace HN:=hid HN
 go_enter Tryz.func196,Tryz.ntmps196
 go_wp2_with (first|(go_at_call 110;refine (HC.out _ (by repeat (first|exact Q.refl _|refine Q.drewN ?_ _|refine Q.alloc ?_ _))).mono ?_;rintro e w2 ⟨rfl,nn,rfl⟩)|(go_at_call_of 40 C;refine (HP.out _).mono ?_;rintro e w1 ⟨rfl,rfl⟩)|(go_at_call 202;refine (HL.out _).mono ?_;rintro e w1 ⟨rfl,rfl⟩)|(go_at_call 203;refine (HK.out _).mono ?_;rintro e w1 ⟨rfl,rfl⟩)|(go_at_call_of 40 R;refine (HR.out _).mono ?_;rintro e w1 ⟨rfl,rfl⟩)|(go_at_call 156;refine (HN.out _).mono ?_;rintro e w1 ⟨rfl,rfl⟩))
 refine bodyPost_ret (v:=.tuple #[.agg #[.string ⟨#[]⟩,.int .i64 0,.int .i64 0,.bool false,.bool false],.bool false]) (by simp [results,Tryz.results196,go_sem]) rfl ⟨rfl,?_⟩
 repeat' (first|with_reducible exact Q.refl _|with_reducible refine Q.alloc ?_ _|with_reducible refine Q.drewN ?_ _|with_reducible refine Q.setCell ?_ (by omega) _|with_reducible refine Q.trans ?_ (by assumption))
theorem parse_f4(C A B T E R G:ByteArray)(k:Nat)(ca ra:Bool)(col row:Int)(w:World)
  (HC:Hid (∀ W,Q w W→Calls Tryz.prog 110 #[.string C,.string ⟨#[33]⟩] W fun e w'=>e=.returned (.tuple #[.string A,.string B,.bool false])∧∃ n,w'=W.drewN n))
  (ht:Tail C T E R G k ca ra true true col row)
  (HX:Hid (∀ W,Calls Tryz.prog 89 #[.string ⟨#[]⟩] W fun e w'=>e=.returned (.string ⟨#[]⟩)∧Q W w'))
  (r0:(row == 0)=false)
  : Calls Tryz.prog 196 #[.string C] w fun e w'=>e=.returned (.tuple #[.agg #[.string ⟨#[]⟩,.int .i64 (row-1),.int .i64 col,.bool ra,.bool ca],.bool true])∧Q w w':=by
 obtain ⟨HP,HL,hk,hT,eE,eR,HK,HR,HN,r1,r2⟩:=ht
 replace HP:=hid HP
 replace HL:=hid HL
 replace HK:=hid HK
 replace HR:=hid HR
 replace HN:=hid HN
 go_enter Tryz.func196,Tryz.ntmps196
 go_wp2_with (first|(go_at_call 110;refine (HC.out _ (by repeat (first|exact Q.refl _|refine Q.drewN ?_ _|refine Q.alloc ?_ _))).mono ?_;rintro e w2 ⟨rfl,nn,rfl⟩)|(go_at_call_of 40 C;refine (HP.out _).mono ?_;rintro e w1 ⟨rfl,rfl⟩)|(go_at_call 202;refine (HL.out _).mono ?_;rintro e w1 ⟨rfl,rfl⟩)|(go_at_call 203;refine (HK.out _).mono ?_;rintro e w1 ⟨rfl,rfl⟩)|(go_at_call_of 40 R;refine (HR.out _).mono ?_;rintro e w1 ⟨rfl,rfl⟩)|(go_at_call 156;refine (HN.out _).mono ?_;rintro e w1 ⟨rfl,rfl⟩)|(go_at_call 89;refine (HX.out _).mono ?_;rintro e w5 ⟨rfl,q5⟩;obtain ⟨hc5,hf5⟩:=bcell q5;have z0:w.heap.size<w5.heap.size:=q5.lt (by first|exact y0|simp)))
 refine bodyPost_ret (v:=.tuple #[.agg #[.string ⟨#[]⟩,.int .i64 (row-1),.int .i64 col,.bool ra,.bool ca],.bool true]) (by simp [results,Tryz.results196,go_sem,hc5,hf5,z0]) rfl ⟨rfl,?_⟩
 repeat' (first|with_reducible exact Q.refl _|with_reducible refine Q.alloc ?_ _|with_reducible refine Q.drewN ?_ _|with_reducible refine Q.setCell ?_ (by omega) _|with_reducible refine Q.trans ?_ (by assumption))
theorem parse_o1(S C A T E R G:ByteArray)(k:Nat)(ca ra nf:Bool)(col row:Int)(w:World)
  (HC:Hid (∀ W,Q w W→Calls Tryz.prog 110 #[.string S,.string ⟨#[33]⟩] W fun e w'=>e=.returned (.tuple #[.string A,.string C,.bool true])∧∃ n,w'=W.drewN n))
  (HI:Hid (∀ W,Q w W→Calls Tryz.prog 97 #[.string A] W fun e w'=>e=.returned (.bool true)∧Q W w'))
  (ht:Tail C T E R G k ca ra false nf col row)
  : Calls Tryz.prog 196 #[.string S] w fun e w'=>e=.returned (.tuple #[.agg #[.string ⟨#[]⟩,.int .i64 0,.int .i64 0,.bool false,.bool false],.bool false])∧Q w w':=by
 obtain ⟨HP,HL,hk,hT,eE,eR,HK,HR,HN,r1,r2⟩:=ht
 replace HP:=hid HP
 replace HL:=hid HL
 replace HK:=hid HK
 replace HR:=hid HR
 replace HN:=hid HN
 go_enter Tryz.func196,Tryz.ntmps196
 go_wp2_with (first|(go_at_call 110;refine (HC.out _ (by repeat (first|exact Q.refl _|refine Q.drewN ?_ _|refine Q.alloc ?_ _))).mono ?_;rintro e w2 ⟨rfl,nn,rfl⟩)|(go_at_call 97;refine (HI.out _ (by repeat (first|exact Q.refl _|refine Q.drewN ?_ _|refine Q.alloc ?_ _))).mono ?_;rintro e w3 ⟨rfl,q3⟩;obtain ⟨hc3,hf3⟩:=bcell q3;have y0:w.heap.size<w3.heap.size:=q3.lt (by simp))|(go_at_call_of 40 C;refine (HP.out _).mono ?_;rintro e w1 ⟨rfl,rfl⟩)|(go_at_call 202;refine (HL.out _).mono ?_;rintro e w1 ⟨rfl,rfl⟩)|(go_at_call 203;refine (HK.out _).mono ?_;rintro e w1 ⟨rfl,rfl⟩))
 refine bodyPost_ret (v:=.tuple #[.agg #[.string ⟨#[]⟩,.int .i64 0,.int .i64 0,.bool false,.bool false],.bool false]) (by simp [results,Tryz.results196,go_sem,hc3,hf3,y0]) rfl ⟨rfl,?_⟩
 repeat' (first|with_reducible exact Q.refl _|with_reducible refine Q.alloc ?_ _|with_reducible refine Q.drewN ?_ _|with_reducible refine Q.setCell ?_ (by omega) _|with_reducible refine Q.trans ?_ (by assumption))
theorem parse_o2(S C A T E R G:ByteArray)(k:Nat)(ca ra:Bool)(col row:Int)(w:World)
  (HC:Hid (∀ W,Q w W→Calls Tryz.prog 110 #[.string S,.string ⟨#[33]⟩] W fun e w'=>e=.returned (.tuple #[.string A,.string C,.bool true])∧∃ n,w'=W.drewN n))
  (HI:Hid (∀ W,Q w W→Calls Tryz.prog 97 #[.string A] W fun e w'=>e=.returned (.bool true)∧Q W w'))
  (ht:Tail C T E R G k ca ra true false col row)
  : Calls Tryz.prog 196 #[.string S] w fun e w'=>e=.returned (.tuple #[.agg #[.string ⟨#[]⟩,.int .i64 0,.int .i64 0,.bool false,.bool false],.bool false])∧Q w w':=by
 obtain ⟨HP,HL,hk,hT,eE,eR,HK,HR,HN,r1,r2⟩:=ht
 replace HP:=hid HP
 replace HL:=hid HL
 replace HK:=hid HK
 replace HR:=hid HR
 replace HN:=hid HN
 go_enter Tryz.func196,Tryz.ntmps196
 go_wp2_with (first|(go_at_call 110;refine (HC.out _ (by repeat (first|exact Q.refl _|refine Q.drewN ?_ _|refine Q.alloc ?_ _))).mono ?_;rintro e w2 ⟨rfl,nn,rfl⟩)|(go_at_call 97;refine (HI.out _ (by repeat (first|exact Q.refl _|refine Q.drewN ?_ _|refine Q.alloc ?_ _))).mono ?_;rintro e w3 ⟨rfl,q3⟩;obtain ⟨hc3,hf3⟩:=bcell q3;have y0:w.heap.size<w3.heap.size:=q3.lt (by simp))|(go_at_call_of 40 C;refine (HP.out _).mono ?_;rintro e w1 ⟨rfl,rfl⟩)|(go_at_call 202;refine (HL.out _).mono ?_;rintro e w1 ⟨rfl,rfl⟩)|(go_at_call 203;refine (HK.out _).mono ?_;rintro e w1 ⟨rfl,rfl⟩)|(go_at_call_of 40 R;refine (HR.out _).mono ?_;rintro e w1 ⟨rfl,rfl⟩)|(go_at_call 156;refine (HN.out _).mono ?_;rintro e w1 ⟨rfl,rfl⟩))
 refine bodyPost_ret (v:=.tuple #[.agg #[.string ⟨#[]⟩,.int .i64 0,.int .i64 0,.bool false,.bool false],.bool false]) (by simp [results,Tryz.results196,go_sem,hc3,hf3,y0]) rfl ⟨rfl,?_⟩
 repeat' (first|with_reducible exact Q.refl _|with_reducible refine Q.alloc ?_ _|with_reducible refine Q.drewN ?_ _|with_reducible refine Q.setCell ?_ (by omega) _|with_reducible refine Q.trans ?_ (by assumption))
theorem parse_o3(S C A T E R G:ByteArray)(k:Nat)(ca ra:Bool)(col row:Int)(w:World)
  (HC:Hid (∀ W,Q w W→Calls Tryz.prog 110 #[.string S,.string ⟨#[33]⟩] W fun e w'=>e=.returned (.tuple #[.string A,.string C,.bool true])∧∃ n,w'=W.drewN n))
  (HI:Hid (∀ W,Q w W→Calls Tryz.prog 97 #[.string A] W fun e w'=>e=.returned (.bool true)∧Q W w'))
  (ht:Tail C T E R G k ca ra true true col row)
  (r0:(row == 0)=true)
  : Calls Tryz.prog 196 #[.string S] w fun e w'=>e=.returned (.tuple #[.agg #[.string ⟨#[]⟩,.int .i64 0,.int .i64 0,.bool false,.bool false],.bool false])∧Q w w':=by
 obtain ⟨HP,HL,hk,hT,eE,eR,HK,HR,HN,r1,r2⟩:=ht
 replace HP:=hid HP
 replace HL:=hid HL
 replace HK:=hid HK
 replace HR:=hid HR
 replace HN:=hid HN
 go_enter Tryz.func196,Tryz.ntmps196
 go_wp2_with (first|(go_at_call 110;refine (HC.out _ (by repeat (first|exact Q.refl _|refine Q.drewN ?_ _|refine Q.alloc ?_ _))).mono ?_;rintro e w2 ⟨rfl,nn,rfl⟩)|(go_at_call 97;refine (HI.out _ (by repeat (first|exact Q.refl _|refine Q.drewN ?_ _|refine Q.alloc ?_ _))).mono ?_;rintro e w3 ⟨rfl,q3⟩;obtain ⟨hc3,hf3⟩:=bcell q3;have y0:w.heap.size<w3.heap.size:=q3.lt (by simp))|(go_at_call_of 40 C;refine (HP.out _).mono ?_;rintro e w1 ⟨rfl,rfl⟩)|(go_at_call 202;refine (HL.out _).mono ?_;rintro e w1 ⟨rfl,rfl⟩)|(go_at_call 203;refine (HK.out _).mono ?_;rintro e w1 ⟨rfl,rfl⟩)|(go_at_call_of 40 R;refine (HR.out _).mono ?_;rintro e w1 ⟨rfl,rfl⟩)|(go_at_call 156;refine (HN.out _).mono ?_;rintro e w1 ⟨rfl,rfl⟩))
 refine bodyPost_ret (v:=.tuple #[.agg #[.string ⟨#[]⟩,.int .i64 0,.int .i64 0,.bool false,.bool false],.bool false]) (by simp [results,Tryz.results196,go_sem,hc3,hf3,y0]) rfl ⟨rfl,?_⟩
 repeat' (first|with_reducible exact Q.refl _|with_reducible refine Q.alloc ?_ _|with_reducible refine Q.drewN ?_ _|with_reducible refine Q.setCell ?_ (by omega) _|with_reducible refine Q.trans ?_ (by assumption))
theorem parse_o4(S C A T E R G:ByteArray)(k:Nat)(ca ra:Bool)(col row:Int)(w:World)
  (HC:Hid (∀ W,Q w W→Calls Tryz.prog 110 #[.string S,.string ⟨#[33]⟩] W fun e w'=>e=.returned (.tuple #[.string A,.string C,.bool true])∧∃ n,w'=W.drewN n))
  (HI:Hid (∀ W,Q w W→Calls Tryz.prog 97 #[.string A] W fun e w'=>e=.returned (.bool true)∧Q W w'))
  (ht:Tail C T E R G k ca ra true true col row)
  (HX:Hid (∀ W,Calls Tryz.prog 89 #[.string A] W fun e w'=>e=.returned (.string A)∧Q W w'))
  (r0:(row == 0)=false)
  : Calls Tryz.prog 196 #[.string S] w fun e w'=>e=.returned (.tuple #[.agg #[.string A,.int .i64 (row-1),.int .i64 col,.bool ra,.bool ca],.bool true])∧Q w w':=by
 obtain ⟨HP,HL,hk,hT,eE,eR,HK,HR,HN,r1,r2⟩:=ht
 replace HP:=hid HP
 replace HL:=hid HL
 replace HK:=hid HK
 replace HR:=hid HR
 replace HN:=hid HN
 go_enter Tryz.func196,Tryz.ntmps196
 go_wp2_with (first|(go_at_call 110;refine (HC.out _ (by repeat (first|exact Q.refl _|refine Q.drewN ?_ _|refine Q.alloc ?_ _))).mono ?_;rintro e w2 ⟨rfl,nn,rfl⟩)|(go_at_call 97;refine (HI.out _ (by repeat (first|exact Q.refl _|refine Q.drewN ?_ _|refine Q.alloc ?_ _))).mono ?_;rintro e w3 ⟨rfl,q3⟩;obtain ⟨hc3,hf3⟩:=bcell q3;have y0:w.heap.size<w3.heap.size:=q3.lt (by simp))|(go_at_call_of 40 C;refine (HP.out _).mono ?_;rintro e w1 ⟨rfl,rfl⟩)|(go_at_call 202;refine (HL.out _).mono ?_;rintro e w1 ⟨rfl,rfl⟩)|(go_at_call 203;refine (HK.out _).mono ?_;rintro e w1 ⟨rfl,rfl⟩)|(go_at_call_of 40 R;refine (HR.out _).mono ?_;rintro e w1 ⟨rfl,rfl⟩)|(go_at_call 156;refine (HN.out _).mono ?_;rintro e w1 ⟨rfl,rfl⟩)|(go_at_call 89;refine (HX.out _).mono ?_;rintro e w5 ⟨rfl,q5⟩;obtain ⟨hc5,hf5⟩:=bcell q5;have z0:w.heap.size<w5.heap.size:=q5.lt (by first|exact y0|simp)))
 refine bodyPost_ret (v:=.tuple #[.agg #[.string A,.int .i64 (row-1),.int .i64 col,.bool ra,.bool ca],.bool true]) (by simp [results,Tryz.results196,go_sem,hc3,hf3,y0,hc5,hf5,z0]) rfl ⟨rfl,?_⟩
 repeat' (first|with_reducible exact Q.refl _|with_reducible refine Q.alloc ?_ _|with_reducible refine Q.drewN ?_ _|with_reducible refine Q.setCell ?_ (by omega) _|with_reducible refine Q.trans ?_ (by assumption))
theorem parse_n(S C A T E R G:ByteArray)(k:Nat)(ca ra:Bool)(col row:Int)(w:World)
  (HC:Hid (∀ W,Q w W→Calls Tryz.prog 110 #[.string S,.string ⟨#[33]⟩] W fun e w'=>e=.returned (.tuple #[.string A,.string C,.bool true])∧∃ n,w'=W.drewN n))
  (HI:Hid (∀ W,Q w W→Calls Tryz.prog 97 #[.string A] W fun e w'=>e=.returned (.bool false)∧Q W w'))
  : Calls Tryz.prog 196 #[.string S] w fun e w'=>e=.returned (.tuple #[.agg #[.string ⟨#[]⟩,.int .i64 0,.int .i64 0,.bool false,.bool false],.bool false])∧Q w w':=by
 go_enter Tryz.func196,Tryz.ntmps196
 go_wp2_with (first|(go_at_call 110;refine (HC.out _ (by repeat (first|exact Q.refl _|refine Q.drewN ?_ _|refine Q.alloc ?_ _))).mono ?_;rintro e w2 ⟨rfl,nn,rfl⟩)|(go_at_call 97;refine (HI.out _ (by repeat (first|exact Q.refl _|refine Q.drewN ?_ _|refine Q.alloc ?_ _))).mono ?_;rintro e w3 ⟨rfl,q3⟩;obtain ⟨hc3,hf3⟩:=bcell q3;have y0:w.heap.size<w3.heap.size:=q3.lt (by simp)))
 refine bodyPost_ret (v:=.tuple #[.agg #[.string ⟨#[]⟩,.int .i64 0,.int .i64 0,.bool false,.bool false],.bool false]) (by simp [results,Tryz.results196,go_sem,hc3,hf3,y0]) rfl ⟨rfl,?_⟩
 repeat' (first|with_reducible exact Q.refl _|with_reducible refine Q.alloc ?_ _|with_reducible refine Q.drewN ?_ _|with_reducible refine Q.setCell ?_ (by omega) _|with_reducible refine Q.trans ?_ (by assumption))
theorem parse_any(s:ByteArray)(w:World)(hw:Std w)(hs:s.size≤4000000000) :
  Calls Tryz.prog 196 #[.string s] w fun e w'=>e=.returned (.tuple #[refA (refT s.data.toList),.bool (refF s.data.toList)])∧Q w w':=by
 have HC:∀ W,Q w W→Calls Tryz.prog 110 #[.string s,.string ⟨#[33]⟩] W fun e w'=>e=.returned (.tuple #[.string ⟨(Lib.cut s.data.toList [33]).1.toArray⟩,.string ⟨(Lib.cut s.data.toList [33]).2.1.toArray⟩,.bool (Lib.cut s.data.toList [33]).2.2])∧∃ n,w'=W.drewN n:=by
  intro W q
  obtain ⟨m,hm⟩:=(hw.on q).len;exact Tryz.strings_Cut s ⟨#[33]⟩ m W (by omega) hm
 have hcl:=cut_le 33 s.data.toList;rw [len_data]at hcl;obtain ⟨p,ec⟩:∃ p,Lib.cut s.data.toList [33]=p:=⟨_,rfl⟩;rw [ec]at HC hcl;obtain ⟨a,b,f⟩:=p;simp only at HC hcl
 cases f
 ·obtain ⟨e1,e2⟩:=ref_free ec
  rw [e1,e2];obtain ⟨T,E,R,G,ht⟩:=tail_of s (by first|omega|(rw [size_mk];omega))
  cases hcf:colF ((Lib.trimPrefix s.data.toList [36]).takeWhile let1)
  ·have e:tailF s.data.toList=false:=by unfold tailF;rw [hcf];rfl
   rw [e];rw [hcf]at ht;exact (parse_f1 s _ _ _ _ _ _ _ _ _ _ _ _ w HC ht).mono fun e w' h=>h
  cases hnf:numF (Lib.trimPrefix ((Lib.trimPrefix s.data.toList [36]).dropWhile let1) [36]) 2199023255552
  ·have e:tailF s.data.toList=false:=by unfold tailF;rw [hcf,hnf];rfl
   rw [e];rw [hcf,hnf]at ht;exact (parse_f2 s _ _ _ _ _ _ _ _ _ _ _ w HC ht).mono fun e w' h=>h
  have hrow:numK (Lib.trimPrefix ((Lib.trimPrefix s.data.toList [36]).dropWhile let1) [36]) 2199023255552=(val (Lib.trimPrefix ((Lib.trimPrefix s.data.toList [36]).dropWhile let1) [36]):Int):=by unfold numK;rw [hnf];rfl
  have hcol:colK ((Lib.trimPrefix s.data.toList [36]).takeWhile let1)=(colV ((Lib.trimPrefix s.data.toList [36]).takeWhile let1):Int)-1:=by unfold colK;rw [hcf];rfl
  rw [hcf,hnf,hrow,hcol]at ht;by_cases h0:val (Lib.trimPrefix ((Lib.trimPrefix s.data.toList [36]).dropWhile let1) [36])=0
  ·have e:tailF s.data.toList=false:=by unfold tailF;rw [hcf,hnf,h0];rfl
   rw [e];exact (parse_f3 s _ _ _ _ _ _ _ _ _ _ _ w HC ht (by rw [h0];rfl)).mono fun e w' h=>h
  ·have e:tailF s.data.toList=true:=by unfold tailF;rw [hcf,hnf,decide_eq_true h0];rfl
   rw [e];exact (parse_f4 s _ _ _ _ _ _ _ _ _ _ _ w HC ht (fun W=>clone_any ⟨#[]⟩ W (by first|decide|(rw [size_mk];omega))) (by rw [beq_eq_false_iff_ne];omega)).mono fun e w' h=>h
 ·obtain ⟨e1,e2⟩:=ref_other ec
  rw [e1,e2];have HI:=fun W (q:Q w W)=>id_any ⟨a.toArray⟩ W (hw.on q) (by rw [size_mk];omega)
  simp only at HI
  cases hi:idB a
  ·rw [hi]at HI
   exact (parse_n s ⟨b.toArray⟩ _ ⟨#[]⟩ ⟨#[]⟩ ⟨#[]⟩ ⟨#[]⟩ 0 false false 0 0 w HC HI).mono fun e w' h=>h
  rw [hi]at HI;rw [Bool.true_and];obtain ⟨T,E,R,G,ht⟩:=tail_of ⟨b.toArray⟩ (by first|omega|(rw [size_mk];omega))
  cases hcf:colF ((Lib.trimPrefix b [36]).takeWhile let1)
  ·have e:tailF b=false:=by unfold tailF;rw [hcf];rfl
   rw [e];rw [hcf]at ht;exact (parse_o1 s _ _ _ _ _ _ _ _ _ _ _ _ w HC HI ht).mono fun e w' h=>h
  cases hnf:numF (Lib.trimPrefix ((Lib.trimPrefix b [36]).dropWhile let1) [36]) 2199023255552
  ·have e:tailF b=false:=by unfold tailF;rw [hcf,hnf];rfl
   rw [e];rw [hcf,hnf]at ht;exact (parse_o2 s _ _ _ _ _ _ _ _ _ _ _ w HC HI ht).mono fun e w' h=>h
  have hrow:numK (Lib.trimPrefix ((Lib.trimPrefix b [36]).dropWhile let1) [36]) 2199023255552=(val (Lib.trimPrefix ((Lib.trimPrefix b [36]).dropWhile let1) [36]):Int):=by unfold numK;rw [hnf];rfl
  have hcol:colK ((Lib.trimPrefix b [36]).takeWhile let1)=(colV ((Lib.trimPrefix b [36]).takeWhile let1):Int)-1:=by unfold colK;rw [hcf];rfl
  rw [hcf,hnf,hrow,hcol]at ht;by_cases h0:val (Lib.trimPrefix ((Lib.trimPrefix b [36]).dropWhile let1) [36])=0
  ·have e:tailF b=false:=by unfold tailF;rw [hcf,hnf,h0];rfl
   rw [e];exact (parse_o3 s _ _ _ _ _ _ _ _ _ _ _ w HC HI ht (by rw [h0];rfl)).mono fun e w' h=>h
  ·have e:tailF b=true:=by unfold tailF;rw [hcf,hnf,decide_eq_true h0];rfl
   rw [e];exact (parse_o4 s _ _ _ _ _ _ _ _ _ _ _ w HC HI ht (fun W=>clone_any ⟨a.toArray⟩ W (by first|decide|(rw [size_mk];omega))) (by rw [beq_eq_false_iff_ne];omega)).mono fun e w' h=>h
theorem letters_any(s:ByteArray)(w:World)(hp:0<s.size)(hs:s.size≤4000000000) :
  Calls Tryz.prog 66 #[.string s] w fun e w'=>e=.returned (.bool (allL s.data.toList))∧w'=w:=by
 have e0:=toList_ne hp;go_enter Tryz.func66,Tryz.ntmps66
 go_wp2
 go_loop [3] (fun i=>∃ k:Nat,k≤s.size∧i=.int .i64 k∧Hid (allL (s.data.toList.take k)=true)) (fun i=>s.size-(intOf i).toNat)
 case atStart=>exact ⟨0,Nat.zero_le _,rfl,rfl⟩
 case round=>
  obtain ⟨k,hk,rfl,ha⟩:=hrel;by_cases hlt:k<s.size
  ·by_cases hd:let1 s[k]=true
   ·have ha':Hid (allL (s.data.toList.take (k+1))=true):=by
     show _=_
     have:=ha.out
     rw [take_snoc s k hlt,allL_app,this];unfold allL
     simp [hd]
    have b0:65≤(s[k].toNat:Int):=by unfold let1 at hd;simp at hd;omega
    have b1:(s[k].toNat:Int)≤90:=by unfold let1 at hd;simp at hd;omega
    clear hd;go_wp2
    go_round
    case rel=>exact ⟨k+1,by omega,by go_num,ha'⟩
    case measure=>simp [intOf];omega
   ·have hN:=hid (allL_no s k hlt (by simpa using hd))
    by_cases b0:(s[k].toNat:Int)<65
    ·clear hd
     go_wp2
     go_ret
     exact ⟨ret_bool hN.out.symm,rfl⟩
    ·have b1:90<(s[k].toNat:Int):=by unfold let1 at hd;simp at hd;omega
     clear hd;go_wp2
     go_ret
     exact ⟨ret_bool hN.out.symm,rfl⟩
  ·have hN:Hid (allL s.data.toList=true):=by
    show _=_
    have:=ha.out
    rw [take_all s k (by omega)]at this
    exact this
   go_wp2
   go_ret
   exact ⟨ret_bool hN.out.symm,rfl⟩
theorem kind_num{t:List UInt8}{c:Bool}(h:V.pf (V.parseO t)=true):kindJ t c=1:=by unfold kindJ;rw [if_pos h]
theorem kind_ref{t:List UInt8}{c:Bool}(h:V.pf (V.parseO t)=false)(h':refF t=true):kindJ t c=3:=by unfold kindJ;rw [if_neg (by simp [h]),if_pos h']
theorem kind_rest{t:List UInt8}{c:Bool}(h:V.pf (V.parseO t)=false)(h':refF t=false):kindJ t c=if t=tru∨t=fls∨(c=true∧allL t=true) then 4 else 0:=by unfold kindJ;rw [if_neg (by simp [h]),if_neg (by simp [h'])]
theorem kindOf_any(s:ByteArray)(c:Bool)(w:World)(hw:Std w)(hs:s.size≤1000000) :
  Calls Tryz.prog 183 #[.string s,.bool c] w fun e w'=>e=.returned (.int .i64 (kindJ s.data.toList c:Int))∧Q w w':=by
 have HP:=hid (V.parse_any s w hw (by omega))
 have HR:=hid (fun W (q:Q w W)=>parse_any s W (hw.on q) (by omega))
 have HG:=hid (fun W=>great_any s W (by omega))
 have et:=hid (Lib.toList_data s);clear hw;cases hp:V.pf (V.parseO s.data.toList)
 ·rw [hp]at HP
  cases hr:refF s.data.toList
  ·rw [hr]at HR
   have HK:=hid (kind_rest (c:=c) hp hr);generalize V.pk (V.parseO s.data.toList)=pn at HP;generalize kindJ s.data.toList c=kk at HK ⊢;generalize refT s.data.toList=rt at HR;obtain ⟨sh,row,col,ra,ca⟩:=rt;unfold refA at HR
   simp only at HR
   generalize (⟨sh.toArray⟩:ByteArray)=sa at HR;clear hp hr;by_cases ht:s.data.toList=tru
   ·have e1:(s.toList == [84,82,85,69])=true:=by rw [et.out,ht];rfl
    have HK2:Hid (kk=4):=by show _=_;rw [HK.out,if_pos (Or.inl ht)]
    clear HK ht;go_enter Tryz.func183,Tryz.ntmps183
    go_wp2_with (first|(go_at_call 78;refine HP.out.mono ?_;rintro e w1 ⟨rfl,q1⟩;have Q1:=hid q1;clear q1)|(go_at_call 196;refine (HR.out _ Q1.out).mono ?_;rintro e w2 ⟨rfl,q2⟩;have Q2:=hid q2;clear q2))
    go_ret
    exact ⟨ret_int (by rw [HK2.out];rfl),(Q1.out.trans Q2.out).alloc _⟩
   ·have e1:(s.toList == [84,82,85,69])=false:=by rw [et.out,beq_eq_false_iff_ne];exact ht
    by_cases hf:s.data.toList=fls
    ·have e2:(s.toList == [70,65,76,83,69])=true:=by rw [et.out,hf];rfl
     have HK2:Hid (kk=4):=by show _=_;rw [HK.out,if_pos (Or.inr (Or.inl hf))]
     clear HK ht hf;go_enter Tryz.func183,Tryz.ntmps183
     go_wp2_with (first|(go_at_call 78;refine HP.out.mono ?_;rintro e w1 ⟨rfl,q1⟩;have Q1:=hid q1;clear q1)|(go_at_call 196;refine (HR.out _ Q1.out).mono ?_;rintro e w2 ⟨rfl,q2⟩;have Q2:=hid q2;clear q2))
     go_ret
     exact ⟨ret_int (by rw [HK2.out];rfl),(Q1.out.trans Q2.out).alloc _⟩
    ·have e2:(s.toList == [70,65,76,83,69])=false:=by rw [et.out,beq_eq_false_iff_ne];exact hf
     cases c
     ·have HK2:Hid (kk=0):=by show _=_;rw [HK.out,if_neg (by rintro (h|h|⟨h,_⟩);exact ht h;exact hf h;cases h)]
      clear HK ht hf;go_enter Tryz.func183,Tryz.ntmps183
      go_wp2_with (first|(go_at_call 78;refine HP.out.mono ?_;rintro e w1 ⟨rfl,q1⟩;have Q1:=hid q1;clear q1)|(go_at_call 196;refine (HR.out _ Q1.out).mono ?_;rintro e w2 ⟨rfl,q2⟩;have Q2:=hid q2;clear q2))
      go_ret
      exact ⟨ret_int (by rw [HK2.out];rfl),(Q1.out.trans Q2.out).alloc _⟩
     ·have HK2:Hid (kk=if allL s.data.toList=true then 4 else 0):=by
       show _=_
       rw [HK.out];by_cases ha:allL s.data.toList=true
       ·rw [if_pos (Or.inr (Or.inr ⟨rfl,ha⟩)),if_pos ha]
       ·rw [if_neg (by rintro (h|h|⟨_,h⟩);exact ht h;exact hf h;exact ha h),if_neg ha]
      clear HK ht hf;generalize allL s.data.toList=al at HG HK2;go_enter Tryz.func183,Tryz.ntmps183
      go_wp2_with (first|(go_at_call 78;refine HP.out.mono ?_;rintro e w1 ⟨rfl,q1⟩;have Q1:=hid q1;clear q1)|(go_at_call 196;refine (HR.out _ Q1.out).mono ?_;rintro e w2 ⟨rfl,q2⟩;have Q2:=hid q2;clear q2)|(go_at_call 197;refine (HG.out _).mono ?_;rintro e w3 ⟨rfl,rfl⟩))
      all_goals go_ret
      all_goals exact ⟨ret_int (by rw [HK2.out];simp_all),(Q1.out.trans Q2.out).alloc _⟩
  ·rw [hr]at HR
   have HK:=hid (kind_ref (c:=c) hp hr);generalize V.pk (V.parseO s.data.toList)=pn at HP;generalize kindJ s.data.toList c=kk at HK ⊢;generalize refT s.data.toList=rt at HR;obtain ⟨sh,row,col,ra,ca⟩:=rt;unfold refA at HR
   simp only at HR
   generalize (⟨sh.toArray⟩:ByteArray)=sa at HR;clear hp hr;go_enter Tryz.func183,Tryz.ntmps183
   go_wp2_with (first|(go_at_call 78;refine HP.out.mono ?_;rintro e w1 ⟨rfl,q1⟩;have Q1:=hid q1;clear q1)|(go_at_call 196;refine (HR.out _ Q1.out).mono ?_;rintro e w2 ⟨rfl,q2⟩;have Q2:=hid q2;clear q2))
   go_ret
   exact ⟨ret_int (by rw [HK.out];rfl),(Q1.out.trans Q2.out).alloc _⟩
 ·rw [hp]at HP
  have HK:=hid (kind_num (c:=c) hp);generalize V.pk (V.parseO s.data.toList)=pn at HP;generalize kindJ s.data.toList c=kk at HK ⊢;clear hp;go_enter Tryz.func183,Tryz.ntmps183
  go_wp2_with (go_at_call 78;refine HP.out.mono ?_;rintro e w1 ⟨rfl,q1⟩;have Q1:=hid q1;clear q1)
  go_ret
  exact ⟨ret_int (by rw [HK.out];rfl),Q1.out⟩
def wv(t:Nat × List UInt8 × Nat):Value:=.tuple #[.int .i64 (t.1:Int),.string ⟨t.2.1.toArray⟩,.int .i64 (t.2.2:Int)]
theorem ret_wv{t:Nat × List UInt8 × Nat}{k n:Int}{s:ByteArray}(hk:k=(t.1:Int))(hs:s.data.toList=t.2.1)(hn:n=(t.2.2:Int)) :
  Ending.returned (.tuple #[.int .i64 k,.string s,.int .i64 n])=.returned (wv t):=by
 unfold wv
 rw [hk,hn,bytes_eq hs]
theorem ret_bad{t:Nat × List UInt8 × Nat}(h:t=bad):Ending.returned (.tuple #[.int .i64 0,.string ⟨#[]⟩,.int .i64 0])=.returned (wv t):=by
 subst h
 rfl
theorem tw_len(l:List UInt8)(p:UInt8→Bool):(l.takeWhile p).length≤l.length:=(List.takeWhile_prefix _).length_le
theorem tw_take(l:List UInt8)(p:UInt8→Bool):l.take (l.takeWhile p).length=l.takeWhile p:=by
 induction l with
 |nil=>rfl
 |cons c r ih=>
  rw [List.takeWhile_cons]
  split
  ·simp [ih]
  ·rfl
theorem tw_drop(l:List UInt8)(p:UInt8→Bool):l.drop (l.takeWhile p).length=l.dropWhile p:=by
 induction l with
 |nil=>rfl
 |cons c r ih=>
  rw [List.takeWhile_cons,List.dropWhile_cons]
  split
  ·simp [ih]
  ·rfl
theorem tw_in(l:List UInt8)(p:UInt8→Bool)(k:Nat)(h:k<(l.takeWhile p).length)(hk:k<l.length):p l[k]=true:=by
 induction l generalizing k with
 |nil=>simp at hk
 |cons c r ih=>
  rw [List.takeWhile_cons]at h
  split at h
  ·rename_i hc
   cases k with
   |zero=>exact hc
   |succ k=>exact ih k (by simpa using h) (by simpa using hk)
  ·simp at h
theorem tw_out(l:List UInt8)(p:UInt8→Bool)(h:(l.takeWhile p).length<l.length):p (l[(l.takeWhile p).length])=false:=by
 induction l with
 |nil=>simp at h
 |cons c r ih=>
  by_cases hc:p c=true
  ·have e:(List.takeWhile p (c::r)).length=(List.takeWhile p r).length+1:=by rw [List.takeWhile_cons,if_pos hc];rfl
   have h':(List.takeWhile p r).length<r.length:=by rw [e]at h;simpa using h
   have:=ih h'
   simp only [e,List.getElem_cons_succ]
   exact this
  ·have e:(List.takeWhile p (c::r)).length=0:=by rw [List.takeWhile_cons,if_neg hc];rfl
   simp only [e,List.getElem_cons_zero]
   simpa using hc
structure Run (p:UInt8→Bool) (s:ByteArray) (K:Nat) (T R:ByteArray):Prop where
 le:K≤s.size
 eT:s.extract 0 K=T
 eR:s.extract K s.size=R
 lT:T.data.toList=s.data.toList.takeWhile p
 lR:R.data.toList=s.data.toList.dropWhile p
 zT:T.size=K
 zR:R.size=s.size-K
 yes:∀ k (h:k<s.size),k<K→p s[k]=true
 no:∀ (h:K<s.size),p s[K]=false
theorem run_of(p:UInt8→Bool)(s:ByteArray):∃ T R,Run p s (s.data.toList.takeWhile p).length T R:=by
 have hl:=tw_len s.data.toList p;rw [len_data]at hl;refine ⟨_,_,hl,rfl,rfl,?_,?_,by simp;omega,by simp,fun k h hk=>?_,fun h=>?_⟩
 ·rw [Lib.extract_data];simp [tw_take]
 ·rw [Lib.extract_data,tw_drop]
  exact List.take_of_length_le (by rw [←tw_drop];simp)
 ·exact tw_in s.data.toList p k hk (by simpa using h)
 ·exact tw_out s.data.toList p (by simpa using h)
theorem joined_walk(s T R:ByteArray)(K kk:Nat)(b:Bool)(w:World)(hs:s.size≤1000000)(hr:Run joinB s K T R)
  (HP:Hid (∀ W,Calls Tryz.prog 180 #[.string R,.string ⟨#[40]⟩] W fun e w'=>e=.returned (.bool b)∧w'=W))
  (HK:Hid (∀ W,Q w W→Calls Tryz.prog 183 #[.string T,.bool b] W fun e w'=>e=.returned (.int .i64 (kk:Int))∧Q W w'))
  (HC:Hid (∀ W,Calls Tryz.prog 89 #[.string T] W fun e w'=>e=.returned (.string T)∧Q W w'))
  (hw:joinW s.data.toList=if kk=0 then bad else (kk,T.data.toList,K)) :
  Calls Tryz.prog 164 #[.string s] w fun e w'=>e=.returned (wv (joinW s.data.toList))∧Q w w':=by
 obtain ⟨le,eT,eR,lT,lR,zT,zR,yes,no⟩:=hr;have HY:=hid yes;have HN:=hid no;have HW:=hid hw;generalize joinW s.data.toList=jw at HW ⊢;clear yes no hw lT lR;have hKi:(K:Int)≤(s.size:Int):=by omega
 go_enter Tryz.func164,Tryz.ntmps164
 go_wp2
 go_loop [5] (fun i=>∃ k:Nat,k≤K∧i=.int .i64 k) (fun i=>s.size-(intOf i).toNat)
 case atStart=>exact ⟨0,Nat.zero_le _,rfl⟩
 case round=>
  obtain ⟨k,hk,rfl⟩:=hrel;by_cases hlt:k<K
  ·have hb:joinB s[k]=true:=HY.out k (by omega) hlt
   have HJ:=hid (fun W=>joins_any s[k] W)
   rw [hb]at HJ;go_wp2_with (go_at_call 163;refine (HJ.out _).mono ?_;rintro e w1 ⟨rfl,h1⟩;replace h1:=h1.symm;subst h1)
   go_round
   case rel=>exact ⟨k+1,by omega,by go_num⟩
   case measure=>simp [intOf];omega
  ·have e:k=K:=by omega
   subst e;clear hk hlt;cases hz:(kk == 0)
   ·have hz':((kk:Int) == 0)=false:=by rw [beq_eq_false_iff_ne]at hz ⊢;omega
    have HW2:Hid (jw=(kk,T.data.toList,k)):=by show _=_;rw [HW.out,if_neg (by simpa using hz)]
    clear HW hz;by_cases hend:k<s.size
    ·have HJ:=hid (fun W=>joins_any s[k] W)
     rw [HN.out hend]at HJ;go_wp2_with (go_at_call 163;refine (HJ.out _).mono ?_;rintro e w1 ⟨rfl,h1⟩;replace h1:=h1.symm;subst h1)
     go_region_held3 (fun W=>True) (trivial)
      (first
       |(go_at_call 180;refine (HP.out _).mono ?_;rintro e w4 ⟨rfl,h4⟩;replace h4:=h4.symm;subst h4)
       |(go_at_call 183;refine (HK.out _ (by repeat (first|exact Q.refl _|refine Q.drewN ?_ _|refine Q.drew ?_))).mono ?_;rintro e w2 ⟨rfl,q2⟩;have Q2:=hid ((show Q _ _ by repeat (first|exact Q.refl _|refine Q.drewN ?_ _|refine Q.drew ?_):Q w _).trans q2);clear q2))
     go_wp2_with (go_at_call 89;refine (HC.out _).mono ?_;rintro e w3 ⟨rfl,q3⟩;have Q3:=hid q3;clear q3)
     go_ret3
     exact ⟨ret_wv (by rw [HW2.out]) (by rw [HW2.out]) (by rw [HW2.out]),Q2.out.trans Q3.out⟩
    ·go_wp2_with fail
     go_region_held3 (fun W=>True) (trivial)
      (first
       |(go_at_call 180;refine (HP.out _).mono ?_;rintro e w4 ⟨rfl,h4⟩;replace h4:=h4.symm;subst h4)
       |(go_at_call 183;refine (HK.out _ (by repeat (first|exact Q.refl _|refine Q.drewN ?_ _|refine Q.drew ?_))).mono ?_;rintro e w2 ⟨rfl,q2⟩;have Q2:=hid ((show Q _ _ by repeat (first|exact Q.refl _|refine Q.drewN ?_ _|refine Q.drew ?_):Q w _).trans q2);clear q2))
     go_wp2_with (go_at_call 89;refine (HC.out _).mono ?_;rintro e w3 ⟨rfl,q3⟩;have Q3:=hid q3;clear q3)
     go_ret3
     exact ⟨ret_wv (by rw [HW2.out]) (by rw [HW2.out]) (by rw [HW2.out]),Q2.out.trans Q3.out⟩
   ·have hz':((kk:Int) == 0)=true:=by rw [beq_iff_eq]at hz ⊢;omega
    have HW2:Hid (jw=bad):=by show _=_;rw [HW.out,if_pos (by simpa using hz)]
    clear HW hz;by_cases hend:k<s.size
    ·have HJ:=hid (fun W=>joins_any s[k] W)
     rw [HN.out hend]at HJ;go_wp2_with (go_at_call 163;refine (HJ.out _).mono ?_;rintro e w1 ⟨rfl,h1⟩;replace h1:=h1.symm;subst h1)
     go_region_held3 (fun W=>True) (trivial)
      (first
       |(go_at_call 180;refine (HP.out _).mono ?_;rintro e w4 ⟨rfl,h4⟩;replace h4:=h4.symm;subst h4)
       |(go_at_call 183;refine (HK.out _ (by repeat (first|exact Q.refl _|refine Q.drewN ?_ _|refine Q.drew ?_))).mono ?_;rintro e w2 ⟨rfl,q2⟩;have Q2:=hid ((show Q _ _ by repeat (first|exact Q.refl _|refine Q.drewN ?_ _|refine Q.drew ?_):Q w _).trans q2);clear q2))
     go_wp2_with fail
     go_ret3
     exact ⟨ret_bad HW2.out,Q2.out⟩
    ·go_wp2_with fail
     go_region_held3 (fun W=>True) (trivial)
      (first
       |(go_at_call 180;refine (HP.out _).mono ?_;rintro e w4 ⟨rfl,h4⟩;replace h4:=h4.symm;subst h4)
       |(go_at_call 183;refine (HK.out _ (by repeat (first|exact Q.refl _|refine Q.drewN ?_ _|refine Q.drew ?_))).mono ?_;rintro e w2 ⟨rfl,q2⟩;have Q2:=hid ((show Q _ _ by repeat (first|exact Q.refl _|refine Q.drewN ?_ _|refine Q.drew ?_):Q w _).trans q2);clear q2))
     go_wp2_with fail
     go_ret3
     exact ⟨ret_bad HW2.out,Q2.out⟩
theorem joined_any(s:ByteArray)(w:World)(hw:Std w)(hs:s.size≤1000000) :
  Calls Tryz.prog 164 #[.string s] w fun e w'=>e=.returned (wv (joinW s.data.toList))∧Q w w':=by
 obtain ⟨T,R,hr⟩:=run_of joinB s;have hz:=hr.zT;have hl:=hr.le;refine joined_walk s T R _ (kindJ (s.data.toList.takeWhile joinB) (Lib.hasPrefix (s.data.toList.dropWhile joinB) [40])) (Lib.hasPrefix (s.data.toList.dropWhile joinB) [40]) w hs hr (hid fun W=>?_) (hid fun W q=>?_) (hid fun W=>clone_any T W (by omega)) ?_
 ·have:=Tryz.strings_HasPrefix R ⟨#[40]⟩ W
  rw [hr.lR]at this;exact this
 ·have:=kindOf_any T (Lib.hasPrefix (s.data.toList.dropWhile joinB) [40]) W (hw.on q) (by omega)
  rw [hr.lT]at this;exact this
 ·rw [hr.lT];rfl
end Go.Proofs.YtgheopdadfnilaaGreatDoor
