/- lex.closed, lex.failure, walke. -/
import Derived.Test.YtoikodohcieipaaGreatDoorKh04
import Derived.Test.YtoikodohcieipaaGreatDoorKh05
import Derived.Test.YtoikodohcieipaaGreatDoorKh00
set_option linter.unusedVariables false
set_option linter.unusedSimpArgs false
set_option maxRecDepth 100000
set_option maxHeartbeats 8000000
namespace Go.Proofs.YtoikodohcieipaaGreatDoor
open Go.RowKit
theorem err_step(k:Nat)(h:k<7):([1,2,3,4,5,6,7]:List Int).drop k=((k:Int)+1)::([1,2,3,4,5,6,7]:List Int).drop (k+1):=by
 rcases (by omega:k=0∨k=1∨k=2∨k=3∨k=4∨k=5∨k=6) with rfl|rfl|rfl|rfl|rfl|rfl|rfl <;> rfl
theorem rref_other(S A C T E R G:ByteArray)(k:Nat)(ca ra cf:Bool)(col n:Int)(w:World)(hs:S.size≤4000000000)(hC:C.size≤4000000000)(j:Nat)(hj:j<S.size)(hsj:(S[j].toNat:Int)=33)(hno:Hid ((33:UInt8) ∉ S.data.toList.take j))(eA:S.extract 0 j=A)(eC:S.extract (j+1) S.size=C)
  (HI:Hid (∀ W,Calls Tryz.prog 60 #[.string A] W fun e w'=>e=.returned (.bool true)∧w'=W))
  (hd1:Dl C T ca) (hd2:Dl R G ra) (hk:Hid (k=lead T.data.toList)) (hkT:k≤T.size) (hT:T.size≤4000000000) (eE:T.extract 0 k=E) (eR:T.extract k T.size=R)
  (HK:Hid (∀ W,Calls Tryz.prog 101 #[.string E] W fun e w'=>e=.returned (.tuple #[.int .i64 col,.bool cf])∧w'=W))
  (n0:-1≤n) (n1:n≤2199023255552)
  (HN:Hid (∀ W,Calls Tryz.prog 96 #[.string G,.int .i64 2199023255552] W fun e w'=>e=.returned (.int .i64 n)∧w'=W)) :
  Calls Tryz.prog 83 #[.string S] w fun e w'=>e=.returned (rfR A cf n col ra ca)∧Q w w':=by
 go_enter Tryz.func83,Tryz.ntmps83
 go_upto_block 0 with fail
 go_cut [0,3,5] from 10 to 32 (fun x o i W=>x=.string C∧o=.bool false∧W=((w.alloc Z25).alloc (R25 A false false)))
 case first=>
  go_wp2_with fail
  go_loop [0,3,5] (fun x o i=>∃ i':Nat,x=.string S∧o=.bool false∧i'≤j∧i=.int .i64 i') (fun _ _ i=>S.size-(intOf i).toNat)
  case atStart=>exact ⟨0,rfl,rfl,Nat.zero_le _,rfl⟩
  case round=>
   obtain ⟨i,rfl,rfl,hi,rfl⟩:=hrel;by_cases hlt:i<j
   ·have hn':((S[i].toNat:Int) == 33)=false:=byte_ne (n:=33) (by omega) (fun e=>hno.out (by
     have h:S[i]∈S.data.toList.take (i+1):=by rw [take_snoc S i (by omega)];simp
     rw [e]at h;exact List.mem_of_mem_take (i:=i+1) (by rw [List.take_take,Nat.min_eq_left (by omega)];exact h)))
    have hlt':i<S.size:=by omega
    go_wp2_with fail
    go_round
    case rel=>exact ⟨i+1,rfl,rfl,by omega,by go_num⟩
    case measure=>simp [intOf];omega
   ·obtain rfl:i=j:=by omega
    go_wp2_with (go_at_call 60;refine (HI.out _).mono ?_;rintro e w1 ⟨rfl,rfl⟩)
    go_meet
    exact ⟨rfl,rfl,rfl⟩
 case rest=>
  obtain ⟨rfl,rfl,rfl⟩:=hcut;go_upto_region 10 with fail
  go_cut [40] from 33 to 39 (fun x W=>x=.bool ca∧W=((w.alloc Z25).alloc (R25 A false false)))
  case first=>
   rcases hd1 with ⟨rfl,h,h36,eT⟩|⟨rfl,hne,rfl⟩
   ·have h36':(C[0].toNat:Int)=36:=by rw [h36];rfl
    clear h36;go_wp2_with fail
    go_meet
    exact ⟨rfl,rfl⟩
   ·by_cases hz:0<C.size
    ·have h36':((C[0].toNat:Int) == 36)=false:=byte_ne (n:=36) (by omega) (hne hz)
     clear hne;go_wp2_with fail
     go_meet
     exact ⟨rfl,rfl⟩
    ·clear hne
     go_wp2_with fail
     go_meet
     exact ⟨rfl,rfl⟩
  case rest=>
   obtain ⟨rfl,rfl⟩:=hcut;go_upto_if 40 with fail
   go_cut [0] from 33 to 43 (fun x W=>x=.string T∧W=((w.alloc Z25).alloc (R25 A false ca)))
   case first=>
    rcases hd1 with ⟨rfl,h,h36,eT⟩|⟨rfl,hne,rfl⟩
    ·go_wp2_with fail
     go_meet
     exact ⟨rfl,rfl⟩
    ·go_wp2_with fail
     go_meet
     exact ⟨rfl,rfl⟩
   case rest=>
    obtain ⟨rfl,rfl⟩:=hcut;go_upto_block 2 with fail
    go_cut [6] from 44 to 61 (fun x W=>x=.int .i64 (k:Int)∧W=((w.alloc Z25).alloc (R25 A false ca)))
    case first=>
     go_wp2_with fail
     go_loop [6] (fun i=>∃ j:Nat,j≤T.size∧i=.int .i64 j∧Hid (allL (T.data.toList.take j)=true)) (fun i=>T.size-(intOf i).toNat)
     case atStart=>exact ⟨0,Nat.zero_le _,rfl,rfl⟩
     case round=>
      obtain ⟨j,hj,rfl,ha⟩:=hrel;by_cases hlt:j<T.size
      ·by_cases hd:let1 T[j]=true
       ·have ha':Hid (allL (T.data.toList.take (j+1))=true):=by
         show _=_
         have:=ha.out
         rw [take_snoc T j hlt,allL_app,this];unfold allL
         simp [hd]
        have b0:65≤(T[j].toNat:Int):=by unfold let1 at hd;simp at hd;omega
        have b1:(T[j].toNat:Int)≤90:=by unfold let1 at hd;simp at hd;omega
        clear hd;go_wp2_with fail
        go_round
        case rel=>exact ⟨j+1,by omega,by go_num,ha'⟩
        case measure=>simp [intOf];omega
       ·have hN:Hid (j=k):=by
         show _=_
         have h1:=lead_at (T.data.toList.take j) (T.data.toList.drop (j+1)) T[j] ha.out (by simpa using hd)
         rw [←drop_cons T j hlt,List.take_append_drop,List.length_take,len_data]at h1;have:=hk.out
         omega
        by_cases b0:(T[j].toNat:Int)<65
        ·have b0':¬ 65≤(T[j].toNat:Int):=by omega
         clear hd b0;go_wp2_with fail
         go_meet
         exact ⟨by rw [hN.out],rfl⟩
        ·have b1:¬ (T[j].toNat:Int)≤90:=by unfold let1 at hd;simp at hd;omega
         have b0':65≤(T[j].toNat:Int):=by omega
         clear hd b0;go_wp2_with fail
         go_meet
         exact ⟨by rw [hN.out],rfl⟩
      ·have hN:Hid (j=k):=by
        show _=_
        have:=ha.out
        rw [take_all T j (by omega)]at this
        rw [hk.out,lead_all _ this,len_data];omega
       go_wp2_with fail
       go_meet
       exact ⟨by rw [hN.out],rfl⟩
    case rest=>
     obtain ⟨rfl,rfl⟩:=hcut;go_upto_region 18 with (go_at_call 101;refine (HK.out _).mono ?_;rintro e w1 ⟨rfl,rfl⟩)
     go_upto_region 18 with fail
     go_cut [79] from 72 to 78 (fun x W=>x=.bool ra∧W=((w.alloc Z25).alloc (R25 A false ca)))
     case first=>
      rcases hd2 with ⟨rfl,h,h36,eT⟩|⟨rfl,hne,rfl⟩
      ·have h36':(R[0].toNat:Int)=36:=by rw [h36];rfl
       clear h36;go_wp2_with fail
       go_meet
       exact ⟨rfl,rfl⟩
      ·by_cases hz:0<R.size
       ·have h36':((R[0].toNat:Int) == 36)=false:=byte_ne (n:=36) (by omega) (hne hz)
        clear hne;go_wp2_with fail
        go_meet
        exact ⟨rfl,rfl⟩
       ·clear hne
        go_wp2_with fail
        go_meet
        exact ⟨rfl,rfl⟩
     case rest=>
      obtain ⟨rfl,rfl⟩:=hcut;go_upto_if 79 with fail
      go_cut [0] from 72 to 82 (fun x W=>x=.string G∧W=((w.alloc Z25).alloc (R25 A ra ca)))
      case first=>
       rcases hd2 with ⟨rfl,h,h36,eT⟩|⟨rfl,hne,rfl⟩
       ·go_wp2_with fail
        go_meet
        exact ⟨rfl,rfl⟩
       ·go_wp2_with fail
        go_meet
        exact ⟨rfl,rfl⟩
      case rest=>
       obtain ⟨rfl,rfl⟩:=hcut;have HV:Hid (rfR A cf n col ra ca=if cf=true∧1≤n then .tuple #[.agg #[.string A,.int .i64 (n-1),.int .i64 col,.bool ra,.bool ca],.bool true] else .tuple #[.agg #[.string ⟨#[]⟩,.int .i64 0,.int .i64 0,.bool false,.bool false],.bool false]):=rfl
       cases cf
       ·go_wp2_with (go_at_call 96;refine (HN.out _).mono ?_;rintro e w1 ⟨rfl,rfl⟩)
        refine bodyPost_ret (v:=.tuple #[.agg #[.string ⟨#[]⟩,.int .i64 0,.int .i64 0,.bool false,.bool false],.bool false]) (by simp [results,Tryz.results83,go_sem]) rfl ⟨by rw [HV.out];rfl,?_⟩
        repeat' (first|with_reducible exact Q.refl _|with_reducible refine Q.alloc ?_ _|with_reducible refine Q.setCell ?_ (by omega) _)
       by_cases hn:n<1
       ·go_wp2_with (go_at_call 96;refine (HN.out _).mono ?_;rintro e w1 ⟨rfl,rfl⟩)
        refine bodyPost_ret (v:=.tuple #[.agg #[.string ⟨#[]⟩,.int .i64 0,.int .i64 0,.bool false,.bool false],.bool false]) (by simp [results,Tryz.results83,go_sem]) rfl ⟨by rw [HV.out,if_neg (by omega)],?_⟩
        repeat' (first|with_reducible exact Q.refl _|with_reducible refine Q.alloc ?_ _|with_reducible refine Q.setCell ?_ (by omega) _)
       ·go_wp2_with (go_at_call 96;refine (HN.out _).mono ?_;rintro e w1 ⟨rfl,rfl⟩)
        refine bodyPost_ret (v:=.tuple #[.agg #[.string A,.int .i64 (n-1),.int .i64 col,.bool ra,.bool ca],.bool true]) (by simp [results,Tryz.results83,go_sem]) rfl ⟨by rw [HV.out,if_pos (by first|exact ⟨rfl,by omega⟩|exact ⟨trivial,by omega⟩)],?_⟩
        repeat' (first|with_reducible exact Q.refl _|with_reducible refine Q.alloc ?_ _|with_reducible refine Q.setCell ?_ (by omega) _)
theorem rref_none(S A C:ByteArray)(w:World)(hs:S.size≤4000000000)(hC:C.size≤4000000000)(j:Nat)(hj:j<S.size)(hsj:(S[j].toNat:Int)=33)(hno:Hid ((33:UInt8) ∉ S.data.toList.take j))(eA:S.extract 0 j=A)(eC:S.extract (j+1) S.size=C)
  (HI:Hid (∀ W,Calls Tryz.prog 60 #[.string A] W fun e w'=>e=.returned (.bool false)∧w'=W))
  :
  Calls Tryz.prog 83 #[.string S] w fun e w'=>e=.returned (rfR ⟨#[]⟩ false 0 0 false false)∧Q w w':=by
 go_enter Tryz.func83,Tryz.ntmps83
 go_wp2_with fail
 go_loop [0,3,5] (fun x o i=>∃ i':Nat,x=.string S∧o=.bool false∧i'≤j∧i=.int .i64 i') (fun _ _ i=>S.size-(intOf i).toNat)
 case atStart=>exact ⟨0,rfl,rfl,Nat.zero_le _,rfl⟩
 case round=>
  obtain ⟨i,rfl,rfl,hi,rfl⟩:=hrel;by_cases hlt:i<j
  ·have hn':((S[i].toNat:Int) == 33)=false:=byte_ne (n:=33) (by omega) (fun e=>hno.out (by
    have h:S[i]∈S.data.toList.take (i+1):=by rw [take_snoc S i (by omega)];simp
    rw [e]at h;exact List.mem_of_mem_take (i:=i+1) (by rw [List.take_take,Nat.min_eq_left (by omega)];exact h)))
   have hlt':i<S.size:=by omega
   go_wp2_with fail
   go_round
   case rel=>exact ⟨i+1,rfl,rfl,by omega,by go_num⟩
   case measure=>simp [intOf];omega
  ·obtain rfl:i=j:=by omega
   go_wp2_with (go_at_call 60;refine (HI.out _).mono ?_;rintro e w1 ⟨rfl,rfl⟩)
   refine bodyPost_ret (v:=.tuple #[.agg #[.string ⟨#[]⟩,.int .i64 0,.int .i64 0,.bool false,.bool false],.bool false]) (by simp [results,Tryz.results83,go_sem]) rfl ⟨rfl,?_⟩
   repeat' (first|with_reducible exact Q.refl _|with_reducible refine Q.alloc ?_ _|with_reducible refine Q.setCell ?_ (by omega) _)
theorem dl_of(C:ByteArray):Dl C ⟨(Lib.trimPrefix C.data.toList [36]).toArray⟩ (Lib.hasPrefix C.data.toList [36]):=by
 unfold Dl
 cases hb:Lib.hasPrefix C.data.toList [36]
 ·refine .inr ⟨rfl,fun h e=>?_,?_⟩
  ·have h1:=drop_cons C 0 h
   rw [List.drop_zero]at h1;rw [h1,e]at hb;unfold Lib.hasPrefix at hb
   simp at hb
  ·have:Lib.trimPrefix C.data.toList [36]=C.data.toList:=by unfold Lib.trimPrefix;rw [hb];rfl
   rw [this]
 ·have hp:0<C.size:=by
   rcases Nat.eq_zero_or_pos C.size with h|h
   ·rw [show C.data.toList=[] from List.eq_nil_of_length_eq_zero (by rw [len_data];exact h)]at hb
    unfold Lib.hasPrefix at hb
    simp at hb
   ·exact h
  refine .inl ⟨rfl,hp,?_,?_⟩
  ·have h1:=drop_cons C 0 hp
   rw [List.drop_zero]at h1;rw [h1]at hb;unfold Lib.hasPrefix at hb
   simp at hb
   exact hb.symm
  ·apply bytes_eq
   rw [Lib.extract_data];have:Lib.trimPrefix C.data.toList [36]=C.data.toList.drop 1:=by unfold Lib.trimPrefix;rw [hb];rfl
   rw [this];exact List.take_of_length_le (by rw [List.length_drop,len_data];omega)
theorem numR_lo(l:List UInt8)(m:Nat):-1≤numR l m:=by unfold numR;split <;> omega
theorem numR_hi(l:List UInt8)(m:Nat):numR l m≤(m:Int):=by
 unfold numR
 split
 ·rename_i h
  unfold numF at h
  simp only [Bool.and_eq_true,decide_eq_true_eq]at h
  omega
 ·omega
theorem rf_eq(sh c:List UInt8) :
  rfR ⟨sh.toArray⟩ (colF ((Lib.trimPrefix c [36]).takeWhile let1)) (numR (Lib.trimPrefix ((Lib.trimPrefix c [36]).dropWhile let1) [36]) 2199023255552) (colK ((Lib.trimPrefix c [36]).takeWhile let1))
   (Lib.hasPrefix ((Lib.trimPrefix c [36]).dropWhile let1) [36]) (Lib.hasPrefix c [36])=.tuple #[refA (if tailF c then tailT sh c else noT),.bool (tailF c)]:=by
 unfold rfR tailF tailT numR colK
 cases colF ((Lib.trimPrefix c [36]).takeWhile let1)
 ·rfl
 cases numF (Lib.trimPrefix ((Lib.trimPrefix c [36]).dropWhile let1) [36]) 2199023255552
 ·rw [if_neg (by simp)]
  rfl
 generalize val (Lib.trimPrefix ((Lib.trimPrefix c [36]).dropWhile let1) [36])=v;by_cases h:v=0
 ·rw [if_neg (by simp;omega),decide_eq_false (by omega)]
  rfl
 ·rw [if_pos (by simp;omega),decide_eq_true h]
  rfl
structure RT (C T E R G:ByteArray) (k:Nat) (ca ra cf:Bool) (col n:Int):Prop where
 hd1:Dl C T ca
 hd2:Dl R G ra
 hk:k=lead T.data.toList
 hkT:k≤T.size
 hT:T.size≤4000000000
 eE:T.extract 0 k=E
 eR:T.extract k T.size=R
 HK:∀ W,Calls Tryz.prog 101 #[.string E] W fun e w'=>e=.returned (.tuple #[.int .i64 col,.bool cf])∧w'=W
 n0:-1≤n
 n1:n≤2199023255552
 HN:∀ W,Calls Tryz.prog 96 #[.string G,.int .i64 2199023255552] W fun e w'=>e=.returned (.int .i64 n)∧w'=W
theorem rt_of(C:ByteArray)(hs:C.size≤4000000000) :
  ∃ T E R G,RT C T E R G (lead (Lib.trimPrefix C.data.toList [36])) (Lib.hasPrefix C.data.toList [36]) (Lib.hasPrefix ((Lib.trimPrefix C.data.toList [36]).dropWhile let1) [36])
   (colF ((Lib.trimPrefix C.data.toList [36]).takeWhile let1)) (colK ((Lib.trimPrefix C.data.toList [36]).takeWhile let1)) (numR (Lib.trimPrefix ((Lib.trimPrefix C.data.toList [36]).dropWhile let1) [36]) 2199023255552):=by
 have l1:=Lib.trimPrefix_le C.data.toList [36];rw [len_data]at l1;have d1:=dl_of C;generalize Lib.trimPrefix C.data.toList [36]=t at *;have l2:=lead_le t;have e1:((⟨t.toArray⟩:ByteArray).extract 0 (lead t)).data.toList=t.takeWhile let1:=by
  rw [Lib.extract_data,←take_lead]
  rfl
 have e2:((⟨t.toArray⟩:ByteArray).extract (lead t) (⟨t.toArray⟩:ByteArray).size).data.toList=t.dropWhile let1:=by
  rw [Lib.extract_data,←drop_lead,size_mk];exact List.take_of_length_le (by simp)
 have l3:=Lib.trimPrefix_le (t.dropWhile let1) [36];have l4:(t.dropWhile let1).length≤t.length:=by rw [←drop_lead,List.length_drop];omega
 have hK:=fun W=>rcol_any ((⟨t.toArray⟩:ByteArray).extract 0 (lead t)) W (by rw [ByteArray.size_extract,size_mk];omega)
 rw [e1]at hK;have d2:=dl_of ((⟨t.toArray⟩:ByteArray).extract (lead t) (⟨t.toArray⟩:ByteArray).size);rw [e2]at d2
 exact ⟨_,_,_,_,d1,d2,rfl,by rw [size_mk];exact l2,by rw [size_mk];omega,rfl,rfl,hK,numR_lo _ _,numR_hi _ _,
  fun W=>num_any ⟨(Lib.trimPrefix (t.dropWhile let1) [36]).toArray⟩ 2199023255552 2199023255552 W rfl (by omega) (by omega) (by rw [size_mk];omega)⟩
theorem rref_any(s:ByteArray)(w:World)(hs:s.size≤4000000000) :
  Calls Tryz.prog 83 #[.string s] w fun e w'=>e=.returned (.tuple #[refA (refT s.data.toList),.bool (refF s.data.toList)])∧Q w w':=by
 rcases cut_any 33 s.data.toList with ⟨a,b,ea,hna⟩|hno
 ·have ec:=cut_at 33 a b hna
  rw [←ea]at ec;obtain ⟨e1,e2⟩:=ref_other ec;have hlen:=congrArg List.length ea;rw [len_data,List.length_append,List.length_cons]at hlen;have hj:a.length<s.size:=by omega
  have htake:s.data.toList.take a.length=a:=by rw [ea,List.take_left]
  have hget:s[a.length]=33:=by
   have h1:=drop_cons s a.length hj;rw [ea,List.drop_left]at h1;exact (List.cons.inj h1).1.symm
  have eA:s.extract 0 a.length=⟨a.toArray⟩:=bytes_eq (by rw [Lib.extract_data];exact htake)
  have eC:s.extract (a.length+1) s.size=⟨b.toArray⟩:=bytes_eq (by
   rw [Lib.extract_data,show s.data.toList.drop (a.length+1)=b by
    have h1:=drop_cons s a.length hj;rw [ea,List.drop_left]at h1;rw [ea];exact (List.cons.inj h1).2.symm]
   exact List.take_of_length_le (by omega))
  have HI:=fun W=>rid_any ⟨a.toArray⟩ W (by rw [size_mk];omega)
  simp only at HI
  rw [e1,e2];cases hi:idB a
  ·rw [hi]at HI
   exact (rref_none s _ _ w hs (by rw [size_mk];omega) a.length hj (by rw [hget];rfl) (by show _ ∉ _;rw [htake];exact hna) eA eC HI).mono fun e w' h=>h
  ·rw [hi]at HI
   obtain ⟨T,E,R,G,h⟩:=rt_of ⟨b.toArray⟩ (by rw [size_mk];omega)
   refine (rref_other s _ _ T E R G _ _ _ _ _ _ w hs (by rw [size_mk];omega) a.length hj (by rw [hget];rfl) (by show _ ∉ _;rw [htake];exact hna) eA eC HI h.hd1 h.hd2 h.hk h.hkT h.hT h.eE h.eR h.HK h.n0 h.n1 h.HN).mono fun e w' g=>⟨?_,g.2⟩
   rw [g.1,rf_eq a b,Bool.true_and]
 ·have ec:=cut_free 33 s.data.toList hno
  obtain ⟨e1,e2⟩:=ref_free ec;rw [e1,e2];obtain ⟨T,E,R,G,h⟩:=rt_of s hs;refine (rref_free s T E R G _ _ _ _ _ _ w hs hno h.hd1 h.hd2 h.hk h.hkT h.hT h.eE h.eR h.HK h.n0 h.n1 h.HN).mono fun e w' g=>⟨?_,g.2⟩
  rw [g.1];exact congrArg Ending.returned (rf_eq [] s.data.toList)
theorem Rd.shape{W:World}{x:Ex}{v:Value}(h:Rd W x v):∃ k n t b e a1 l1 c1 a2 l2 c2,v=.agg #[.int .i64 k,.int .i64 n,.string t,.bool b,.int .i64 e,.slice a1 l1 c1,.slice a2 l2 c2]:=by
 obtain ⟨k,n,t,b,e,rs,ks,rv,kv,ao,cap,rfl,hp⟩:=h.prt;obtain ⟨ar,cr,hr,_⟩:=hp.rl;obtain rfl:=hp.kl;subst hr
 exact ⟨_,_,_,_,_,_,_,_,_,_,_,rfl⟩
theorem nodesL_take(ks:List Ex)(i:Nat)(h:i<ks.length):nodes.nodesL (ks.take (i+1))=nodes.nodesL (ks.take i)+nodes ks[i]:=by
 rw [List.take_succ_eq_append_getElem h,nodesL_snoc]
theorem nodesL_take_le(ks:List Ex)(i:Nat):nodes.nodesL (ks.take i)≤nodes.nodesL ks:=by
 induction ks generalizing i with
 |nil=>simp
 |cons x xs ih=>
  cases i with
  |zero=>simp [nodes.nodesL]
  |succ i=>rw [List.take_succ_cons,nodes.nodesL,nodes.nodesL];have:=ih i;omega
def shl:Nat→Ex→Bool
 |0,_=>false
 |m+1,.mk _ _ _ _ _ _ ks=>ks.all (shl m)
theorem pcount_any:∀ (s:Nat) (x:Ex) (v:Value) (W:World) (M:Int) (m:Nat),SizeOf.sizeOf x≤s→M=(m:Int)→1≤m→m≤201→Rd W x v→Calls Tryz.prog 87 #[v,.int .i64 M] W fun e W'=>e=.returned (.int .i64 (min (nodes x) m:Nat))∧Q W W':=by
 intro s
 induction s with
 |zero=>
  intro x v W M m hs
  cases x with
  |mk k n t b e rs ks=>simp at hs
 |succ s ih=>
  intro x v W M m hs hM h1 h201 hr
  obtain ⟨k,n,t,b,e,rs,ks,rv,kv,ao,cap,rfl,hp⟩:=hr.prt;obtain ⟨ar,cr,hrv,_⟩:=hp.rl;have HD:Hid (nodes x=1+nodes.nodesL ks):=hid (by rw [hp.ex,nodes])
  have IH:=hid (fun (i:Nat) (h:i<ks.length) v W M m=>ih ks[i] v W M m (by have:=kid_size (k:=k) (n:=n) (t:=t.data.toList) (b:=b) (e:=e) (rs:=rs) i h;rw [←hp.ex]at this;omega))
  generalize nodes x=d at HD ⊢;have HP:=hid hp;obtain rfl:=hp.kl;subst hrv;have hroom:ks.length≤9223372036854775807:=by have h1:=hp.le;have h2:=hp.mx;unfold maxLen at h2;omega
  clear hp hr ih hs;subst hM;go_enter Tryz.func87,Tryz.ntmps87
  go_wp2
  go_loopw [5,11,7] (fun y z _ W'=>∃ (i a:Nat),i≤ks.length∧y=.int .i64 (a:Int)∧z=.int .i64 (i:Int)∧a≤m∧Hid (Q W W')∧Hid (a=min (1+nodes.nodesL (ks.take i)) m)) (fun _ z _ _=>ks.length-(intOf z).toNat)
  case atStart=>exact ⟨0,1,Nat.zero_le _,rfl,rfl,h1,hid ((Q.refl _).alloc _),by show _=_;simp [nodes.nodesL];omega⟩
  case round=>
   obtain ⟨i,a,hi,rfl,rfl,ha,hQ,hA⟩:=hrel;by_cases hlt:i<ks.length
   ·have hne:ks≠[]:=by intro h;rw [h]at hlt;simp at hlt
    obtain ⟨b',off,rfl,hl⟩:=(HP.out.on hQ.out).kd hne;obtain ⟨e0,e1,e2,e3,e4,e5,e6,hK⟩:=hl.kid i hlt;obtain ⟨k',n',t',b1',e',a1',l1',c1',a2',l2',c2',hsh⟩:=hK.rd.shape;simp only [Value.agg.injEq,Array.mk.injEq,List.cons.injEq,and_true]at hsh
    obtain ⟨rfl,rfl,rfl,rfl,rfl,rfl,rfl⟩:=hsh;obtain ⟨h0,g1,h2,h3,h4,h5,h6,hrd⟩:=hK;by_cases ham:a=m
    ·have HA2:Hid ((min d m:Nat)=m):=by
      show _=_
      have:=hA.out
      have:=nodesL_take_le ks i
      have:=HD.out
      omega
     have eam:((a:Int) == (m:Int))=true:=by rw [ham];exact beq_self_eq_true _
     have HAM:=hid ham;clear hl hrd hA ham;go_wp2_with fail
     go_ret
     exact ⟨ret_int (by rw [HA2.out,HAM.out]),hQ.out.trans (by repeat (first|with_reducible exact Q.refl _|with_reducible refine Q.alloc ?_ _))⟩
    ·have eam:((a:Int) == (m:Int))=false:=by rw [beq_eq_false_iff_ne];omega
     have HRD:=hid hrd;have HI:=hid (fun W1 (q:Q wr W1)=>IH.out i hlt _ W1 ((m:Int)-(a:Int)) (m-a) (by omega) (by omega) (by omega) (Rd.on q _ _ HRD.out))
     have HA2:Hid (a+min (nodes ks[i]) (m-a)=min (1+nodes.nodesL (ks.take (i+1))) m):=by
      show _=_
      have:=hA.out
      rw [nodesL_take ks i hlt];omega
     have hdl:min (nodes ks[i]) (m-a)≤m-a:=Nat.min_le_right _ _
     generalize min (nodes ks[i]) (m-a)=dd at HI HA2 hdl;clear hl hrd hA ham;go_wp2_with (go_at_call 87;refine (HI.out _ (by repeat (first|with_reducible exact Q.refl _|with_reducible refine Q.alloc ?_ _))).mono ?_;rintro e9 w9 ⟨rfl,q9⟩;have Q9:Hid (Q wr w9):=hid (Q.trans (by repeat (first|with_reducible exact Q.refl _|with_reducible refine Q.alloc ?_ _)) q9);clear q9)
     go_roundw
     case rel=>exact ⟨i+1,a+dd,by omega,by go_num,by go_num,by omega,hid (hQ.out.trans Q9.out),HA2⟩
     case measure=>simp [intOf];omega
   ·have HA2:Hid ((min d m:Nat)=a):=by
     show _=_
     have:=hA.out
     rw [List.take_of_length_le (by omega)]at this
     rw [HD.out,this]
    clear hA;go_wp2_with fail
    go_ret
    exact ⟨ret_int (by rw [HA2.out]),hQ.out⟩
theorem shallow_any:∀ (m:Nat) (x:Ex) (v:Value) (W:World) (M:Int),M=(m:Int)→m≤100→Rd W x v→Calls Tryz.prog 72 #[v,.int .i64 M] W fun e W'=>e=.returned (.bool (shl m x))∧Q W W':=by
 intro m
 induction m with
 |zero=>
  intro x v W M hM hm hr
  obtain ⟨k,n,t,b,e,a1,l1,c1,a2,l2,c2,rfl⟩:=hr.shape;have HD:Hid (shl 0 x=false):=hid (by unfold shl;rfl)
  generalize shl 0 x=d at HD ⊢;have e0:(M == 0)=true:=by rw [hM];rfl
  clear hr hM;go_enter Tryz.func72,Tryz.ntmps72
  go_wp2_with fail
  go_ret
  exact ⟨ret_bool HD.out.symm,(Q.refl _).alloc _⟩
 |succ m ih=>
  intro x v W M hM hm hr
  obtain ⟨k,n,t,b,e,rs,ks,rv,kv,ao,cap,rfl,hp⟩:=hr.prt;obtain ⟨ar,cr,hrv,_⟩:=hp.rl;have HD:Hid (shl (m+1) x=ks.all (shl m)):=hid (by rw [hp.ex];rfl)
  generalize shl (m+1) x=d at HD ⊢;have IH:=hid (fun x v W h=>ih x v W (M-1) (by omega) (by omega) h)
  have e0:(M == 0)=false:=by rw [beq_eq_false_iff_ne];omega
  have hM0:0<M:=by omega
  have hM1:M≤200:=by omega
  have HP:=hid hp;obtain rfl:=hp.kl;subst hrv;have hroom:ks.length≤9223372036854775807:=by have h1:=hp.le;have h2:=hp.mx;unfold maxLen at h2;omega
  clear hp hr ih hM;go_enter Tryz.func72,Tryz.ntmps72
  go_wp2_with fail
  go_loopw [12,6] (fun z _ W'=>∃ (i:Nat),i≤ks.length∧z=.int .i64 (i:Int)∧Hid (Q W W')∧Hid ((ks.take i).all (shl m)=true)) (fun z _ _=>ks.length-(intOf z).toNat)
  case atStart=>exact ⟨0,Nat.zero_le _,rfl,hid ((Q.refl _).alloc _),rfl⟩
  case round=>
   obtain ⟨i,hi,rfl,hQ,hA⟩:=hrel;by_cases hlt:i<ks.length
   ·have hne:ks≠[]:=by intro h;rw [h]at hlt;simp at hlt
    obtain ⟨b',off,rfl,hl⟩:=(HP.out.on hQ.out).kd hne;obtain ⟨e0',e1,e2,e3,e4,e5,e6,hK⟩:=hl.kid i hlt;obtain ⟨k',n',t',b1',e',a1',l1',c1',a2',l2',c2',hsh⟩:=hK.rd.shape;simp only [Value.agg.injEq,Array.mk.injEq,List.cons.injEq,and_true]at hsh
    obtain ⟨rfl,rfl,rfl,rfl,rfl,rfl,rfl⟩:=hsh;obtain ⟨h0,g1,h2,h3,h4,h5,h6,hrd⟩:=hK;have HRD:=hid hrd;have HI:=hid (fun W1 (q:Q wr W1)=>IH.out ks[i] _ W1 (Rd.on q _ _ HRD.out))
    cases hb:shl m ks[i]
    ·rw [hb]at HI
     have HA2:Hid (d=false):=by
      show _=_
      rw [HD.out,Bool.eq_false_iff];intro e
      rw [List.all_eq_true]at e;have:=e ks[i] (List.getElem_mem hlt)
      rw [hb]at this;cases this
     clear hl hrd hA;go_wp2_with (go_at_call 72;refine (HI.out _ (by repeat (first|with_reducible exact Q.refl _|with_reducible refine Q.alloc ?_ _))).mono ?_;rintro e9 w9 ⟨rfl,q9⟩;have Q9:Hid (Q wr w9):=hid (Q.trans (by repeat (first|with_reducible exact Q.refl _|with_reducible refine Q.alloc ?_ _)) q9);clear q9)
     go_ret
     exact ⟨ret_bool HA2.out.symm,hQ.out.trans Q9.out⟩
    ·rw [hb]at HI
     have HA2:Hid ((ks.take (i+1)).all (shl m)=true):=by
      show _=_
      rw [List.take_succ_eq_append_getElem hlt,List.all_append,hA.out];simp [hb]
     clear hl hrd hA;go_wp2_with (go_at_call 72;refine (HI.out _ (by repeat (first|with_reducible exact Q.refl _|with_reducible refine Q.alloc ?_ _))).mono ?_;rintro e9 w9 ⟨rfl,q9⟩;have Q9:Hid (Q wr w9):=hid (Q.trans (by repeat (first|with_reducible exact Q.refl _|with_reducible refine Q.alloc ?_ _)) q9);clear q9)
     go_roundw
     case rel=>exact ⟨i+1,by omega,by go_num,hid (hQ.out.trans Q9.out),HA2⟩
     case measure=>simp [intOf];omega
   ·have HA2:Hid (d=true):=by
     show _=_
     have:=hA.out
     rw [List.take_of_length_le (by omega)]at this
     rw [HD.out,this]
    clear hA;go_wp2_with fail
    go_ret
    exact ⟨ret_bool HA2.out.symm,hQ.out⟩
def mall(nd:Ex→Bool):Ex→Bool
 |.mk k n t b e rs ks=>nd (.mk k n t b e rs ks)&&mallL nd ks
 where
 mallL (nd:Ex→Bool):List Ex→Bool
 |[]=>true
 |x::xs=>mall nd x&&mallL nd xs
theorem mallL_all(nd:Ex→Bool)(ks:List Ex):mall.mallL nd ks=ks.all (mall nd):=by
 induction ks with
 |nil=>simp [mall.mallL]
 |cons x xs ih=>rw [mall.mallL,ih,List.all_cons]
theorem mayall_any(nd:Ex→Bool)(G:World→Prop)(hG:∀ W W',G W→Q W W'→G W')(P:Ex→Prop)(hP:∀ k n t b e rs ks,P (.mk k n t b e rs ks)→∀ y∈ks,P y)(HN:Hid (∀ x v W,G W→P x→Rd W x v→Calls Tryz.prog 73 #[v] W fun e W'=>e=.returned (.bool (nd x))∧Q W W')) :
  ∀ (s:Nat) (x:Ex) (v:Value) (W:World),SizeOf.sizeOf x≤s→G W→P x→Rd W x v→Calls Tryz.prog 50 #[v] W fun e W'=>e=.returned (.bool (mall nd x))∧Q W W':=by
 intro s
 induction s with
 |zero=>
  intro x v W hs
  cases x with
  |mk k n t b e rs ks=>simp at hs
 |succ s ih=>
  intro x v W hs hg hpx hr
  have HNx:=hid (fun W1 (q:Q W W1)=>HN.out x v W1 (hG _ _ hg q) hpx (Rd.on q _ _ hr))
  obtain ⟨k,n,t,b,e,rs,ks,rv,kv,ao,cap,rfl,hp⟩:=hr.prt;obtain ⟨ar,cr,hrv,_⟩:=hp.rl;have HD:Hid (mall nd x=(nd x&&ks.all (mall nd))):=hid (by rw [hp.ex,mall,mallL_all])
  have HPK:Hid (∀ i (h:i<ks.length),P ks[i]):=hid (fun i h=>hP k n t.data.toList b e rs ks (hp.ex ▸ hpx) _ (List.getElem_mem h))
  have IH:=hid (fun (i:Nat) (h:i<ks.length) v W=>ih ks[i] v W (by have:=kid_size (k:=k) (n:=n) (t:=t.data.toList) (b:=b) (e:=e) (rs:=rs) i h;rw [←hp.ex]at this;omega))
  generalize mall nd x=d at HD ⊢;have HP:=hid hp;have HGW:=hid hg;obtain rfl:=hp.kl;subst hrv;have hroom:ks.length≤9223372036854775807:=by have h1:=hp.le;have h2:=hp.mx;unfold maxLen at h2;omega
  have HX:=hid (Bx.start W (.int .i64 k) (.int .i64 n) (.string t) (.bool b) (.int .i64 e) (.slice ar rs.length cr) (.slice ao ks.length cap) 26);clear hp hr ih hs hg hpx;cases hnd:nd x
  ·rw [hnd]at HNx
   have HR:Hid (d=false):=by show _=_;rw [HD.out,hnd];rfl
   go_enter Tryz.func50,Tryz.ntmps50
   go_wp2_with (go_at_call 73;refine (HNx.out _ ((Q.refl _).alloc _)).mono ?_;rintro e9 w1 ⟨rfl,q1⟩;have Q1:Hid (Q W w1):=hid (((Q.refl _).alloc _).trans q1);clear q1)
   go_ret
   exact ⟨ret_bool HR.out.symm,Q1.out⟩
  ·rw [hnd]at HNx
   have HR:Hid (d=ks.all (mall nd)):=by show _=_;rw [HD.out,hnd,Bool.true_and]
   go_enter Tryz.func50,Tryz.ntmps50
   go_wp2_with (go_at_call 73;refine (HNx.out _ ((Q.refl _).alloc _)).mono ?_;rintro e9 w1 ⟨rfl,q1⟩;have Q1:Hid (Q W w1):=hid (((Q.refl _).alloc _).trans q1);have X1:=hid (HX.out.on q1);clear q1;have c6:=X1.out.g6)
   go_loopw [11,4] (fun z _ W'=>∃ (i:Nat),i≤ks.length∧z=.int .i64 (i:Int)∧Hid (Q W W')∧Hid ((ks.take i).all (mall nd)=true)) (fun z _ _=>ks.length-(intOf z).toNat)
   case atStart=>exact ⟨0,Nat.zero_le _,rfl,Q1,rfl⟩
   case round=>
    obtain ⟨i,hi,rfl,hQ,hA⟩:=hrel;by_cases hlt:i<ks.length
    ·have hne:ks≠[]:=by intro h;rw [h]at hlt;simp at hlt
     obtain ⟨b',off,rfl,hl⟩:=(HP.out.on hQ.out).kd hne;obtain ⟨e0',e1,e2,e3,e4,e5,e6,hK⟩:=hl.kid i hlt;obtain ⟨k',n',t',b1',e',a1',l1',c1',a2',l2',c2',hsh⟩:=hK.rd.shape;simp only [Value.agg.injEq,Array.mk.injEq,List.cons.injEq,and_true]at hsh
     obtain ⟨rfl,rfl,rfl,rfl,rfl,rfl,rfl⟩:=hsh;obtain ⟨h0,g1,h2,h3,h4,h5,h6,hrd⟩:=hK;have HRD:=hid hrd;have HI:=hid (fun W1 (q:Q wr W1)=>IH.out i hlt _ W1 (hG _ _ HGW.out (hQ.out.trans q)) (HPK.out i hlt) (Rd.on q _ _ HRD.out))
     cases hb:mall nd ks[i]
     ·rw [hb]at HI
      have HA2:Hid (d=false):=by
       show _=_
       rw [HR.out,Bool.eq_false_iff];intro e
       rw [List.all_eq_true]at e;have:=e ks[i] (List.getElem_mem hlt)
       rw [hb]at this;cases this
      clear hl hrd hA;go_wp2_with (go_at_call 50;refine (HI.out _ (by repeat (first|with_reducible exact Q.refl _|with_reducible refine Q.alloc ?_ _))).mono ?_;rintro e9 w9 ⟨rfl,q9⟩;have Q9:Hid (Q wr w9):=hid (Q.trans (by repeat (first|with_reducible exact Q.refl _|with_reducible refine Q.alloc ?_ _)) q9);clear q9)
      go_ret
      exact ⟨ret_bool HA2.out.symm,hQ.out.trans Q9.out⟩
     ·rw [hb]at HI
      have HA2:Hid ((ks.take (i+1)).all (mall nd)=true):=by
       show _=_
       rw [List.take_succ_eq_append_getElem hlt,List.all_append,hA.out];simp [hb]
      clear hl hrd hA;go_wp2_with (go_at_call 50;refine (HI.out _ (by repeat (first|with_reducible exact Q.refl _|with_reducible refine Q.alloc ?_ _))).mono ?_;rintro e9 w9 ⟨rfl,q9⟩;have Q9:Hid (Q wr w9):=hid (Q.trans (by repeat (first|with_reducible exact Q.refl _|with_reducible refine Q.alloc ?_ _)) q9);clear q9)
      go_roundw
      case rel=>exact ⟨i+1,by omega,by go_num,hid (hQ.out.trans Q9.out),HA2⟩
      case measure=>simp [intOf];omega
    ·have HA2:Hid (d=true):=by
      show _=_
      have:=hA.out
      rw [List.take_of_length_le (by omega)]at this
      rw [HR.out,this]
     clear hA;go_wp2_with fail
     go_ret
     exact ⟨ret_bool HA2.out.symm,hQ.out⟩
def scanL(l:List UInt8):Option (List Wd) × Nat:=if 1000<l.length then (none,0) else
 match scanF l 0 [] with
 |(some L,n)=>(some (L++[⟨7,[],l.length⟩]),0)
 |(none,n)=>(none,n)
theorem scanL_long{l:List UInt8}(h:1000<l.length):scanL l=(none,0):=by unfold scanL;rw [if_pos h]
theorem scanL_yes{l:List UInt8}{L:List Wd}{n:Nat}(h:¬ 1000<l.length)(e:scanF l 0 []=(some L,n)):scanL l=(some (L++[⟨7,[],l.length⟩]),0):=by unfold scanL;rw [if_neg h,e]
theorem scanL_no{l:List UInt8}{n:Nat}(h:¬ 1000<l.length)(e:scanF l 0 []=(none,n)):scanL l=(none,n):=by unfold scanL;rw [if_neg h,e]
def ScanRet(o:Option (List Wd) × Nat)(e:Ending)(W:World):Prop:=
 match o with
 |(some L,n)=>∃ v,e=.returned (.tuple #[v,.int .i64 0,.bool true])∧Sl wd 3 W v L
 |(none,n)=>e=.returned (.tuple #[.slice none 0 0,.int .i64 (n:Int),.bool false])
theorem ScanRet.no{o:Option (List Wd) × Nat}{n:Nat}{W:World}{k:Int}(h:o=(none,n))(hk:k=(n:Int)):ScanRet o (.returned (.tuple #[.slice none 0 0,.int .i64 k,.bool false])) W:=by
 subst h;subst hk
 rfl
theorem ScanRet.yes{o:Option (List Wd) × Nat}{L:List Wd}{W:World}{v:Value}(h:o=(some L,0))(hv:Sl wd 3 W v L):ScanRet o (.returned (.tuple #[v,.int .i64 0,.bool true])) W:=by
 subst h;exact ⟨v,rfl,hv⟩
theorem drop_head(s:ByteArray)(k:Nat)(h:k<s.size):s.data.toList.drop k≠[]:=by
 rw [drop_cons s k h];simp
structure Sw (W:World) (L:List Wd) (v:Value) (b off cap:Nat):Prop where
 ev:v=.slice (some ⟨b,off,none⟩) L.length cap
 le:L.length≤cap
 mx:cap≤maxLen
 k:∀ i (h:i<L.length),W.cell? ⟨b,off+i*3,none⟩=some (.int .i64 (L[i].k:Int))
 t:∀ i (h:i<L.length),W.cell? ⟨b,off+i*3+1,none⟩=some (.string ⟨L[i].t.toArray⟩)
 p:∀ i (h:i<L.length),W.cell? ⟨b,off+i*3+2,none⟩=some (.int .i64 (L[i].p:Int))
theorem sw_of{W:World}{v:Value}{L:List Wd}(h:Sl wd 3 W v L)(hl:0<L.length):∃ b off cap,Sw W L v b off cap:=by
 obtain ⟨ao,cap,hv,h1,h2,h⟩:=h;obtain ⟨b,off,rfl,hc⟩:=h hl;exact ⟨b,off,cap,hv,h1,h2,fun i hi=>hc i hi 0 _ rfl,fun i hi=>hc i hi 1 _ rfl,fun i hi=>hc i hi 2 _ rfl⟩
theorem ScanRet.some{L:List Wd}{n:Nat}{e:Ending}{W:World}(h:ScanRet (some L,n) e W):∃ v,e=.returned (.tuple #[v,.int .i64 0,.bool true])∧Sl wd 3 W v L:=h
theorem short_any(s:ByteArray)(n:Int)(w:World)(n0:0≤n)(n1:n≤2000) :
  Calls Tryz.prog 10 #[.string s,.int .i64 n] w fun e w'=>e=.returned (.string (if n<(s.size:Int) then s.extract 0 n.toNat else s))∧w'=w:=by
 by_cases h:n<(s.size:Int)
 ·have HE:=hid (if_pos h:(if n<(s.size:Int) then s.extract 0 n.toNat else s)=_)
  go_enter Tryz.func10,Tryz.ntmps10
  go_wp2
  go_ret
  exact ⟨ret_str rfl,rfl⟩
 ·have HE:=hid (if_neg h:(if n<(s.size:Int) then s.extract 0 n.toNat else s)=_)
  go_enter Tryz.func10,Tryz.ntmps10
  go_wp2
  go_ret
  exact ⟨ret_str rfl,rfl⟩
end Go.Proofs.YtoikodohcieipaaGreatDoor
