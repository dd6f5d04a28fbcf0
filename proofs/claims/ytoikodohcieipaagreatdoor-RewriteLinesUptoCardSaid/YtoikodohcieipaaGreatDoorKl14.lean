/- ref.word of letters and digits. -/
import Derived.Test.YtoikodohcieipaaGreatDoorKl06
import Derived.Test.YtoikodohcieipaaGreatDoorKl05
import Derived.Test.YtoikodohcieipaaGreatDoorKl00
import Derived.Test.YtoikodohcieipaaGreatDoorKl13
import Derived.Test.YtoikodohcieipaaGreatDoorKl04
import Derived.BigQuiet
set_option linter.unusedVariables false
set_option linter.unusedSimpArgs false
set_option maxRecDepth 100000
set_option maxHeartbeats 8000000
namespace Go.Proofs.YtoikodohcieipaaGreatDoor
open Go.RowKit
def rwv(q:Nat × List UInt8 × Nat)(i:Nat):Value:=.tuple #[.agg #[.int .i64 (q.1:Int),.string ⟨q.2.1.toArray⟩,.int .i64 (if q.2.2=0 then 0 else (i:Int))],.int .i64 (q.2.2:Int)]
theorem ret_rw{q:Nat × List UInt8 × Nat}{i a n:Nat}{k m:Int}{s:ByteArray}{l:List UInt8}(h:q=(a,l,n))(hn:n≠0)(hk:k=(a:Int))(hs:s.data.toList=l)(hm:m=(n:Int)) :
  Ending.returned (.tuple #[.agg #[.int .i64 k,.string s,.int .i64 (i:Int)],.int .i64 m])=.returned (rwv q i):=by
 subst h hk hm hs;unfold rwv
 simp only [if_neg hn]
theorem ret_rbad{q:Nat × List UInt8 × Nat}{i:Nat}(h:q=bad) :
  Ending.returned (.tuple #[.agg #[.int .i64 0,.string ⟨#[]⟩,.int .i64 0],.int .i64 0])=.returned (rwv q i):=by
 subst h
 rfl
structure WB (w W:World):Prop where
 q:Q w W
 lt:w.heap.size<W.heap.size
 c0:W.cell? ⟨w.heap.size,0,none⟩=some (.int .i64 0)
 c1:W.cell? ⟨w.heap.size,1,none⟩=some (.string ⟨#[]⟩)
 c2:W.cell? ⟨w.heap.size,2,none⟩=some (.int .i64 0)
 f0:W.frozen? ⟨w.heap.size,0,none⟩=false
 f1:W.frozen? ⟨w.heap.size,1,none⟩=false
 f2:W.frozen? ⟨w.heap.size,2,none⟩=false
theorem WB.start(w:World):WB w (w.alloc (.cells #[.int .i64 0,.string ⟨#[]⟩,.int .i64 0] 78)):=by
 refine ⟨(Q.refl _).alloc _,by simp,?_,?_,?_,?_,?_,?_⟩
 all_goals simp [World.cell?_alloc_new,World.frozen?_alloc_new]
theorem WB.on{w W W':World}(h:WB w W)(q:Q W W'):WB w W':=
 ⟨h.q.trans q,q.lt h.lt,(q.cell h.lt).trans h.c0,(q.cell h.lt).trans h.c1,(q.cell h.lt).trans h.c2,
  (Below.frozen q (p:=⟨w.heap.size,0,none⟩) h.lt).trans h.f0,(Below.frozen q (p:=⟨w.heap.size,1,none⟩) h.lt).trans h.f1,(Below.frozen q (p:=⟨w.heap.size,2,none⟩) h.lt).trans h.f2⟩
structure RunAt (s:ByteArray) (i M:Nat) (T:ByteArray):Prop where
 lo:i<M
 le:M≤s.size
 eT:s.extract i M=T
 lT:T.data.toList=(s.data.toList.drop i).takeWhile joinB
 zT:T.size=M-i
 yes:∀ k (h:k<s.size),i≤k→k<M→joinB s[k]=true
 no:∀ (h:M<s.size),joinB s[M]=false
 beh:(s.data.toList.drop i).dropWhile joinB=s.data.toList.drop M
theorem run_at(s:ByteArray)(i:Nat)(h:i<s.size)(hj:joinB s[i]=true):∃ M T,RunAt s i M T∧M=i+((s.data.toList.drop i).takeWhile joinB).length:=by
 have hl:=tw_len (s.data.toList.drop i) joinB;rw [List.length_drop,len_data]at hl;have h1:0<((s.data.toList.drop i).takeWhile joinB).length:=by
  rw [drop_cons s i h,List.takeWhile_cons,if_pos hj];simp
 refine ⟨_,_,⟨by omega,by omega,rfl,?_,by simp;omega,fun k hk h2 h3=>?_,fun hk=>?_,?_⟩,rfl⟩
 ·rw [Lib.extract_data]
  simp only [Nat.add_sub_cancel_left]
  exact tw_take _ _
 ·have:=tw_in (s.data.toList.drop i) joinB (k-i) (by omega) (by rw [List.length_drop,len_data];omega)
  rw [List.getElem_drop]at this;have e:i+(k-i)=k:=by omega
  simp only [e]at this
  exact this
 ·have:=tw_out (s.data.toList.drop i) joinB (by rw [List.length_drop,len_data];omega)
  rw [List.getElem_drop]at this;exact this
 ·rw [←tw_drop,List.drop_drop]
theorem pk_pos{t:List UInt8}(h:Lib.hasPrefix t [45]=false):0≤V.pk (V.parseO t):=by
 unfold V.parseO
 rw [h]
 split
 ·unfold V.pk V.keep
  simp only
  split
  ·unfold V.sgn
   simp
  ·exact Int.le_refl _
 ·exact Int.le_refl _
theorem no_minus(T:ByteArray)(hp:0<T.size)(h:T[0]≠45):Lib.hasPrefix T.data.toList [45]=false:=by
 have:=headD_get T hp
 cases hl:T.data.toList with
 |nil=>rfl
 |cons c r=>
  rw [hl]at this;simp only [List.headD_cons]at this
  rw [←this]at h;rw [Bool.eq_false_iff];intro hx
  unfold Lib.hasPrefix at hx
  rw [List.isPrefixOf_iff_prefix,List.cons_prefix_cons]at hx;exact h hx.1.symm
theorem rword_num(s T:ByteArray)(i M:Nat)(w:World)(hs:s.size≤100000)(hi:i<s.size)(hr:RunAt s i M T)(hj:joinB s[i]=true)
  (hT0:0<T.size) (pn:Int) (HP:Hid (∀ W,Calls Tryz.prog 82 #[.string T] W fun e w'=>e=.returned (.tuple #[.int .i64 pn,.bool true])∧Q W w')) (pn0:0≤pn) (h45:((T[0].toNat:Int) == 45)=false)
  (HF:Hid (wordF (s.data.toList.drop i)=(1,T.data.toList,M-i))) :
  Calls Tryz.prog 64 #[.string s,.int .i64 (i:Int)] w fun e w'=>e=.returned (rwv (wordF (s.data.toList.drop i)) i)∧Q w w':=by
 obtain ⟨lo,le,eT,lT,zT,yes,no,beh⟩:=hr;have HY:=hid yes;have HN:=hid no;have HJ0:=hid (fun W=>solid_any s[i] W)
 rw [hj]at HJ0;have JJ:=hid (WB.start w);clear yes no lT beh hj;have hMi:(i:Int)≤(M:Int):=by omega
 have hMs:(M:Int)≤(s.size:Int):=by omega
 generalize wordF (s.data.toList.drop i)=wf at HF ⊢;go_enter Tryz.func64,Tryz.ntmps64
 go_wp2_with (go_at_call 81;refine (HJ0.out _).mono ?_;rintro e w9 ⟨rfl,h9⟩;replace h9:=h9.symm;subst h9)
 go_loop [6] (fun x=>∃ k:Nat,i≤k∧k≤M∧x=.int .i64 (k:Int)) (fun x=>s.size-(intOf x).toNat)
 case atStart=>exact ⟨i,by omega,by omega,rfl⟩
 case round=>
  obtain ⟨k,hk0,hk,rfl⟩:=hrel;by_cases hlt:k<M
  ·have hks:k<s.size:=by omega
   have HJ:=hid (fun W=>solid_any s[k] W)
   rw [HY.out k hks hk0 hlt]at HJ;go_wp2_with (go_at_call 81;refine (HJ.out _).mono ?_;rintro e w9 ⟨rfl,h9⟩;replace h9:=h9.symm;subst h9)
   go_round
   case rel=>exact ⟨k+1,by omega,by omega,by go_num⟩
   case measure=>simp [intOf];omega
  ·have e:k=M:=by omega
   subst e;clear hk hlt;by_cases hend:k<s.size
   ·have HJ:=hid (fun W=>solid_any s[k] W)
    rw [HN.out hend]at HJ;go_wp2_with (first|(go_at_call 81;refine (HJ.out _).mono ?_;rintro e w9 ⟨rfl,h9⟩;replace h9:=h9.symm;subst h9)|(go_at_call 82;refine (HP.out _).mono ?_;rintro e w1 ⟨rfl,q1⟩;have J1:=hid (JJ.out.on q1);clear q1;have d0:=J1.out.c0;have d1:=J1.out.c1;have d2:=J1.out.c2;have g0:=J1.out.f0;have g1:=J1.out.f1;have g2:=J1.out.f2))
    refine bodyPost_ret (v:=.tuple #[.agg #[.int .i64 1,.string T,.int .i64 (i:Int)],.int .i64 ((k:Int)-(i:Int))]) (by simp [results,Tryz.results64,go_sem,d0,d1,d2,g0,g1,g2]) rfl ⟨ret_rw HF.out (by omega) rfl rfl (by omega),?_⟩
    repeat' (first|with_reducible exact J1.out.q|with_reducible refine Q.setCell ?_ (Nat.le_refl _) _|with_reducible refine Q.drewN ?_ _|with_reducible refine Q.drew ?_|with_reducible refine Q.alloc ?_ _)
   ·go_wp2_with (first|(go_at_call 82;refine (HP.out _).mono ?_;rintro e w1 ⟨rfl,q1⟩;have J1:=hid (JJ.out.on q1);clear q1;have d0:=J1.out.c0;have d1:=J1.out.c1;have d2:=J1.out.c2;have g0:=J1.out.f0;have g1:=J1.out.f1;have g2:=J1.out.f2))
    refine bodyPost_ret (v:=.tuple #[.agg #[.int .i64 1,.string T,.int .i64 (i:Int)],.int .i64 ((k:Int)-(i:Int))]) (by simp [results,Tryz.results64,go_sem,d0,d1,d2,g0,g1,g2]) rfl ⟨ret_rw HF.out (by omega) rfl rfl (by omega),?_⟩
    repeat' (first|with_reducible exact J1.out.q|with_reducible refine Q.setCell ?_ (Nat.le_refl _) _|with_reducible refine Q.drewN ?_ _|with_reducible refine Q.drew ?_|with_reducible refine Q.alloc ?_ _)
end Go.Proofs.YtoikodohcieipaaGreatDoor
namespace Go.Proofs.YtoikodohcieipaaGreatDoor
open Go.RowKit
set_option linter.unusedVariables false
set_option linter.unusedSimpArgs false
theorem pre_take{l p:List UInt8}:Lib.hasPrefix l p=(l.take p.length == p):=by
 unfold Lib.hasPrefix
 rw [Bool.eq_iff_iff,List.isPrefixOf_iff_prefix,beq_iff_eq]
 constructor
 ·intro h
  exact (List.prefix_iff_eq_take.1 h).symm
 ·intro h
  exact List.prefix_iff_eq_take.2 h.symm
theorem pre_part(s N:ByteArray)(i:Nat):((s.extract i (i+N.size)).toList == N.toList)=Lib.hasPrefix (s.data.toList.drop i) N.data.toList:=by
 rw [pre_take,Lib.toList_data,Lib.toList_data,Lib.extract_data,len_data,Nat.add_sub_cancel_left]
theorem pre_short{s N:ByteArray}{i:Nat}(h:s.size<i+N.size)(hi:i≤s.size):Lib.hasPrefix (s.data.toList.drop i) N.data.toList=false:=by
 rw [Bool.eq_false_iff];intro hx
 have:=prefix_len hx
 rw [List.length_drop,len_data,len_data]at this;omega
theorem rword_err(s:ByteArray)(i:Nat)(w:World)(hs:s.size≤100000)(hi:i<s.size)(h35:s[i]=35)
  (HF:Hid (wordF (s.data.toList.drop i)=errP (([1,2,3,4,5,6,7]:List Int).find? (fun e=>Lib.hasPrefix (s.data.toList.drop i) (enL e))))) :
  Calls Tryz.prog 64 #[.string s,.int .i64 (i:Int)] w fun e w'=>e=.returned (rwv (wordF (s.data.toList.drop i)) i)∧Q w w':=by
 have HJ0:=hid (fun W=>solid_any s[i] W)
 rw [show joinB s[i]=false by rw [h35];rfl]at HJ0
 have e0:((s[i].toNat:Int) == 35)=true:=eq_byte (n:=35) (by omega) h35
 have e1:((s[i].toNat:Int) == 34)=false:=byte_ne (n:=34) (c:=s[i]) (by omega) (by rw [h35];decide)
 generalize wordF (s.data.toList.drop i)=wf at HF ⊢;have HS:=hid (WB.start w);clear h35;go_enter Tryz.func64,Tryz.ntmps64
 go_wp2_with (go_at_call 81;refine (HJ0.out _).mono ?_;rintro e w9 ⟨rfl,h9⟩;replace h9:=h9.symm;subst h9)
 try simp only [e0,e1]
 go_loopw [12] (fun x W=>∃ k:Nat,k≤7∧x=.int .i64 ((k:Int)+1)∧WB w W∧Hid (wf=errP ((([1,2,3,4,5,6,7]:List Int).drop k).find? (fun e=>Lib.hasPrefix (s.data.toList.drop i) (enL e))))) (fun x _=>8-(intOf x).toNat)
 case atStart=>exact ⟨0,by omega,rfl,HS.out,HF⟩
 case round=>
  obtain ⟨k,hk,rfl,hJB,hr⟩:=hrel;have HJB:=hid hJB;clear hJB;by_cases hlt:k<7
  ·have hn:=fun W=>V.rname_any ((k:Int)+1) W
   obtain ⟨N,eN⟩:∃ N:ByteArray,⟨(enL ((k:Int)+1)).toArray⟩=N:=⟨_,rfl⟩;have lN:N.data.toList=enL ((k:Int)+1):=by rw [←eN]
   have zN:N.size≤100∧0<N.size:=by
    rw [←len_data,lN]
    rcases (by omega:k=0∨k=1∨k=2∨k=3∨k=4∨k=5∨k=6) with rfl|rfl|rfl|rfl|rfl|rfl|rfl <;> decide
   obtain ⟨zN,zN0⟩:=zN;rw [eN]at hn;have H1:=hid hn;have hr2:=hr.out;rw [err_step k hlt,List.find?_cons,←lN]at hr2;clear hn eN hr;by_cases hfit:i+N.size≤s.size
   ·obtain ⟨X,eX⟩:∃ X,s.extract i (i+N.size)=X:=⟨_,rfl⟩
    have hp:=pre_part s N i;rw [eX]at hp;have eX':s.extract i ((i:Int)+(N.size:Int)).toNat=X:=by rw [show ((i:Int)+(N.size:Int)).toNat=i+N.size by omega];exact eX
    have hfi:(i:Int)+(N.size:Int)≤(s.size:Int):=by omega
    cases hb:Lib.hasPrefix (s.data.toList.drop i) N.data.toList
    ·rw [hb]at hp hr2
     have HR:=hid hr2;clear hr2 hb lN;go_wp2_with (go_at_call 84;refine (H1.out _).mono ?_;rintro e w1 ⟨rfl,q1⟩;have J1:=hid (HJB.out.on q1);clear q1;have d0:=J1.out.c0;have d1:=J1.out.c1;have d2:=J1.out.c2;have g0:=J1.out.f0;have g1:=J1.out.f1;have g2:=J1.out.f2)
     go_roundw
     case rel=>exact ⟨k+1,by omega,by go_num,J1.out,HR⟩
     case measure=>simp [intOf];omega
    ·rw [hb]at hp hr2
     have HB:Hid (wf=(5,N.data.toList,N.size)):=by show _=_;rw [hr2,←len_data,lN];rfl
     clear hr2 hb lN;go_wp2_with (go_at_call 84;refine (H1.out _).mono ?_;rintro e w1 ⟨rfl,q1⟩;have J1:=hid (HJB.out.on q1);clear q1;have d0:=J1.out.c0;have d1:=J1.out.c1;have d2:=J1.out.c2;have g0:=J1.out.f0;have g1:=J1.out.f1;have g2:=J1.out.f2)
     refine bodyPost_ret (v:=.tuple #[.agg #[.int .i64 5,.string N,.int .i64 (i:Int)],.int .i64 (N.size:Int)]) (by simp [results,Tryz.results64,go_sem,d0,d1,d2,g0,g1,g2]) rfl ⟨ret_rw HB.out (by omega) rfl rfl rfl,?_⟩
     repeat' (first|with_reducible exact J1.out.q|with_reducible refine Q.setCell ?_ (Nat.le_refl _) _|with_reducible refine Q.drewN ?_ _|with_reducible refine Q.drew ?_|with_reducible refine Q.alloc ?_ _)
   ·rw [pre_short (by omega) (by omega)]at hr2
    have HR:=hid hr2;clear hr2 lN;go_wp2_with (go_at_call 84;refine (H1.out _).mono ?_;rintro e w1 ⟨rfl,q1⟩;have J1:=hid (HJB.out.on q1);clear q1;have d0:=J1.out.c0;have d1:=J1.out.c1;have d2:=J1.out.c2;have g0:=J1.out.f0;have g1:=J1.out.f1;have g2:=J1.out.f2)
    go_roundw
    case rel=>exact ⟨k+1,by omega,by go_num,J1.out,HR⟩
    case measure=>simp [intOf];omega
  ·have e:k=7:=by omega
   subst e;have HB:Hid (wf=bad):=hid hr.out
   have d0:=HJB.out.c0;have d1:=HJB.out.c1;have d2:=HJB.out.c2;have g0:=HJB.out.f0;have g1:=HJB.out.f1;have g2:=HJB.out.f2;clear hr;go_wp2_with fail
   refine bodyPost_ret (v:=.tuple #[.agg #[.int .i64 0,.string ⟨#[]⟩,.int .i64 0],.int .i64 0]) (by simp [results,Tryz.results64,go_sem,d0,d1,d2,g0,g1,g2]) rfl ⟨ret_rbad HB.out,?_⟩
   repeat' (first|with_reducible exact HJB.out.q|with_reducible refine Q.setCell ?_ (Nat.le_refl _) _|with_reducible refine Q.drewN ?_ _|with_reducible refine Q.drew ?_|with_reducible refine Q.alloc ?_ _)
end Go.Proofs.YtoikodohcieipaaGreatDoor
namespace Go.Proofs.YtoikodohcieipaaGreatDoor
open Go.RowKit
set_option linter.unusedVariables false
set_option linter.unusedSimpArgs false
def sgR:List (List UInt8):=[[60,62],[60,61],[62,61],[43],[45],[42],[47],[38],[61],[60],[62],[40],[41],[44],[58]]
def sgB:Array Value:=#[.string ⟨#[60,62]⟩,.string ⟨#[60,61]⟩,.string ⟨#[62,61]⟩,.string ⟨#[43]⟩,.string ⟨#[45]⟩,.string ⟨#[42]⟩,.string ⟨#[47]⟩,.string ⟨#[38]⟩,.string ⟨#[61]⟩,.string ⟨#[60]⟩,.string ⟨#[62]⟩,.string ⟨#[40]⟩,.string ⟨#[41]⟩,.string ⟨#[44]⟩,.string ⟨#[58]⟩]
theorem sgB_at(k:Nat)(h:k<15):sgB[k]?=some (.string ⟨(sgR.getD k []).toArray⟩):=by
 rcases (by omega:k=0∨k=1∨k=2∨k=3∨k=4∨k=5∨k=6∨k=7∨k=8∨k=9∨k=10∨k=11∨k=12∨k=13∨k=14) with rfl|rfl|rfl|rfl|rfl|rfl|rfl|rfl|rfl|rfl|rfl|rfl|rfl|rfl|rfl <;> rfl
theorem sgR_step(k:Nat)(h:k<15):sgR.drop k=(sgR.getD k [])::sgR.drop (k+1):=by
 rcases (by omega:k=0∨k=1∨k=2∨k=3∨k=4∨k=5∨k=6∨k=7∨k=8∨k=9∨k=10∨k=11∨k=12∨k=13∨k=14) with rfl|rfl|rfl|rfl|rfl|rfl|rfl|rfl|rfl|rfl|rfl|rfl|rfl|rfl|rfl <;> rfl
theorem sgR_len(k:Nat)(h:k<15):(sgR.getD k []).length≤2∧0<(sgR.getD k []).length:=by
 rcases (by omega:k=0∨k=1∨k=2∨k=3∨k=4∨k=5∨k=6∨k=7∨k=8∨k=9∨k=10∨k=11∨k=12∨k=13∨k=14) with rfl|rfl|rfl|rfl|rfl|rfl|rfl|rfl|rfl|rfl|rfl|rfl|rfl|rfl|rfl <;> decide
theorem hp_one(a c:UInt8)(r:List UInt8):Lib.hasPrefix (a::r) [c]=(c == a):=by
 unfold Lib.hasPrefix
 simp [List.isPrefixOf]
theorem sgR_eq(l:List UInt8):sgR.find? (fun t=>Lib.hasPrefix l t)=sgL.find? (fun t=>Lib.hasPrefix l t):=by
 cases l with
 |nil=>decide
 |cons a r=>
  unfold sgR sgL
  simp only [List.find?_cons,hp_one]
  cases Lib.hasPrefix (a::r) [60,62] <;> cases Lib.hasPrefix (a::r) [60,61] <;> cases Lib.hasPrefix (a::r) [62,61] <;> simp only []
  by_cases h1:a=60
  ·subst h1;rfl
  by_cases h2:a=62
  ·subst h2;rfl
  by_cases h3:a=61
  ·subst h3;rfl
  have n1:((60:UInt8) == a)=false:=by rw [beq_eq_false_iff_ne];exact fun e=>h1 e.symm
  have n2:((62:UInt8) == a)=false:=by rw [beq_eq_false_iff_ne];exact fun e=>h2 e.symm
  have n3:((61:UInt8) == a)=false:=by rw [beq_eq_false_iff_ne];exact fun e=>h3 e.symm
  rw [n1,n2,n3]
structure SG (w W:World):Prop where
 wb:WB w W
 lt:w.heap.size+1<W.heap.size
 c:∀ k:Nat,k<15→W.cell? ⟨w.heap.size+1,k,none⟩=some (.string ⟨(sgR.getD k []).toArray⟩)
theorem SG.on{w W W':World}(h:SG w W)(q:Q W W'):SG w W':=⟨h.wb.on q,q.lt h.lt,fun k hk=>(q.cell h.lt).trans (h.c k hk)⟩
theorem pre_take'{l p:List UInt8}:Lib.hasPrefix l p=(l.take p.length == p):=by
 unfold Lib.hasPrefix
 rw [Bool.eq_iff_iff,List.isPrefixOf_iff_prefix,beq_iff_eq]
 constructor
 ·intro h
  exact (List.prefix_iff_eq_take.1 h).symm
 ·intro h
  exact List.prefix_iff_eq_take.2 h.symm
theorem pre_part'(s N:ByteArray)(i:Nat):((s.extract i (i+N.size)).toList == N.toList)=Lib.hasPrefix (s.data.toList.drop i) N.data.toList:=by
 rw [pre_take',Lib.toList_data,Lib.toList_data,Lib.extract_data,len_data,Nat.add_sub_cancel_left]
theorem pre_short'{s N:ByteArray}{i:Nat}(h:s.size<i+N.size)(hi:i≤s.size):Lib.hasPrefix (s.data.toList.drop i) N.data.toList=false:=by
 rw [Bool.eq_false_iff];intro hx
 have:=prefix_len hx
 rw [List.length_drop,len_data,len_data]at this;omega
theorem rword_sig(s:ByteArray)(i:Nat)(w:World)(hs:s.size≤100000)(hi:i<s.size)(h34:s[i]≠34)(h35:s[i]≠35)(hj:joinB s[i]=false)
  (HF:Hid (wordF (s.data.toList.drop i)=sigP (sgR.find? (fun t=>Lib.hasPrefix (s.data.toList.drop i) t)))) :
  Calls Tryz.prog 64 #[.string s,.int .i64 (i:Int)] w fun e w'=>e=.returned (rwv (wordF (s.data.toList.drop i)) i)∧Q w w':=by
 have HJ0:=hid (fun W=>solid_any s[i] W)
 rw [hj]at HJ0;have e0:((s[i].toNat:Int) == 35)=false:=byte_ne (n:=35) (by omega) h35
 have e1:((s[i].toNat:Int) == 34)=false:=byte_ne (n:=34) (by omega) h34
 generalize wordF (s.data.toList.drop i)=wf at HF ⊢;have HS:=hid ((WB.start w).on ((Q.refl _).alloc (.cells sgB 9)));have HC:Hid (∀ (k:Nat),k<15→((w.alloc (.cells #[.int .i64 0,.string ⟨#[]⟩,.int .i64 0] 78)).alloc (.cells sgB 9)).cell? ⟨w.heap.size+1,k,none⟩=some (.string ⟨(sgR.getD k []).toArray⟩)):=hid (fun k h=>by
  have e:w.heap.size+1=(w.alloc (.cells #[.int .i64 0,.string ⟨#[]⟩,.int .i64 0] 78)).heap.size:=by simp
  rw [e,World.cell?_alloc_new];exact sgB_at k h)
 obtain ⟨W,hW⟩:∃ W,(w.alloc (.cells #[.int .i64 0,.string ⟨#[]⟩,.int .i64 0] 78)).alloc (.cells sgB 9)=W:=⟨_,rfl⟩;have hlt:w.heap.size+1<W.heap.size:=by rw [←hW];simp
 rw [hW]at HS HC;have HG:Hid (SG w W):=hid ⟨HS.out,hlt,HC.out⟩
 clear h35 h34 hj HS HC hlt;go_enter Tryz.func64,Tryz.ntmps64
 go_wp2_with (go_at_call 81;refine (HJ0.out _).mono ?_;rintro e w9 ⟨rfl,h9⟩;replace h9:=h9.symm;subst h9)
 unfold sgB at hW
 rw [hW];clear hW
 try simp only [e0,e1]
 go_loopw [15] (fun x W=>∃ k:Nat,k≤15∧x=.int .i64 (k:Int)∧SG w W∧Hid (wf=sigP ((sgR.drop k).find? (fun t=>Lib.hasPrefix (s.data.toList.drop i) t)))) (fun x _=>15-(intOf x).toNat)
 case atStart=>exact ⟨0,by omega,rfl,HG.out,HF⟩
 case round=>
  obtain ⟨k,hk,rfl,hG,hr⟩:=hrel;have HG2:=hid hG;clear hG;by_cases hlt:k<15
  ·have hc:=HG2.out.c k hlt
   obtain ⟨N,eN⟩:∃ N:ByteArray,⟨(sgR.getD k []).toArray⟩=N:=⟨_,rfl⟩;have lN:N.data.toList=sgR.getD k []:=by rw [←eN]
   have zN:=sgR_len k hlt;rw [←lN,len_data]at zN;obtain ⟨zN,zN0⟩:=zN;rw [eN]at hc;have hr2:=hr.out;rw [sgR_step k hlt,List.find?_cons,←lN]at hr2;clear eN hr lN;have hwr:IntKind.i64.wrap ((i:Int)+(N.size:Int))=(i:Int)+(N.size:Int):=by rw [IntKind.wrap_i64];omega
   by_cases hfit:i+N.size≤s.size
   ·obtain ⟨X,eX⟩:∃ X,s.extract i (i+N.size)=X:=⟨_,rfl⟩
    have hp:=pre_part' s N i;rw [eX]at hp;have eX':s.extract i ((i:Int)+(N.size:Int)).toNat=X:=by rw [show ((i:Int)+(N.size:Int)).toNat=i+N.size by omega];exact eX
    have hfi:(i:Int)+(N.size:Int)≤(s.size:Int):=by omega
    cases hb:Lib.hasPrefix (s.data.toList.drop i) N.data.toList
    ·rw [hb]at hp hr2
     have HR:=hid hr2;clear hr2 hb;go_wp2_with fail
     go_quiet (fail)
     go_wp2_with fail
     go_roundw
     case rel=>exact ⟨k+1,by omega,by go_num,HG2.out.on (by repeat (first|exact Q.refl _|refine Q.drewN ?_ _|refine Q.drew ?_)),HR⟩
     case measure=>simp [intOf];omega
    ·rw [hb]at hp hr2
     have HB:Hid (wf=(6,N.data.toList,N.data.toList.length)):=by show _=_;rw [hr2];rfl
     have d0:=HG2.out.wb.c0;have d1:=HG2.out.wb.c1;have d2:=HG2.out.wb.c2;have g0:=HG2.out.wb.f0;have g1:=HG2.out.wb.f1;have g2:=HG2.out.wb.f2;clear hr2 hb;go_wp2_with fail
     go_quiet (fail)
     go_wp2_with fail
     refine bodyPost_ret (v:=.tuple #[.agg #[.int .i64 6,.string N,.int .i64 (i:Int)],.int .i64 (N.size:Int)]) (by simp [results,Tryz.results64,go_sem,d0,d1,d2,g0,g1,g2]) rfl ⟨ret_rw HB.out (by rw [len_data];omega) rfl rfl (by rw [len_data]),?_⟩
     repeat' (first|with_reducible exact HG2.out.wb.q|with_reducible refine Q.setCell ?_ (Nat.le_refl _) _|with_reducible refine Q.drewN ?_ _|with_reducible refine Q.drew ?_|with_reducible refine Q.alloc ?_ _)
   ·rw [pre_short' (by omega) (by omega)]at hr2
    have HR:=hid hr2;have hfi:(s.size:Int)<(i:Int)+(N.size:Int):=by omega
    have hfj:decide ((i:Int)+(N.size:Int)≤(s.size:Int))=false:=by rw [decide_eq_false_iff_not];omega
    clear hr2;go_wp2_with fail
    go_quiet (fail)
    go_wp2_with fail
    go_roundw
    case rel=>exact ⟨k+1,by omega,by go_num,HG2.out.on (by repeat (first|exact Q.refl _|refine Q.drewN ?_ _|refine Q.drew ?_)),HR⟩
    case measure=>simp [intOf];omega
  ·have e:k=15:=by omega
   subst e;have HB:Hid (wf=bad):=hid hr.out
   have d0:=HG2.out.wb.c0;have d1:=HG2.out.wb.c1;have d2:=HG2.out.wb.c2;have g0:=HG2.out.wb.f0;have g1:=HG2.out.wb.f1;have g2:=HG2.out.wb.f2;clear hr;go_wp2_with fail
   refine bodyPost_ret (v:=.tuple #[.agg #[.int .i64 0,.string ⟨#[]⟩,.int .i64 0],.int .i64 0]) (by simp [results,Tryz.results64,go_sem,d0,d1,d2,g0,g1,g2]) rfl ⟨ret_rbad HB.out,?_⟩
   repeat' (first|with_reducible exact HG2.out.wb.q|with_reducible refine Q.setCell ?_ (Nat.le_refl _) _|with_reducible refine Q.drewN ?_ _|with_reducible refine Q.drew ?_|with_reducible refine Q.alloc ?_ _)
end Go.Proofs.YtoikodohcieipaaGreatDoor
