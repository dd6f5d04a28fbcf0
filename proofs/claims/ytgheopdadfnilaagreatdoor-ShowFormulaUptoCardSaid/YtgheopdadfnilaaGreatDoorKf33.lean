/- ref.word of an error and of a . -/
import Derived.Test.YtgheopdadfnilaaGreatDoorKf13
import Derived.Test.YtgheopdadfnilaaGreatDoorKf09
import Derived.Test.YtgheopdadfnilaaGreatDoorKf01
import Derived.BigQuiet
import Derived.Test.YtgheopdadfnilaaGreatDoorKf29
import Derived.Test.YtgheopdadfnilaaGreatDoorKf32
import Derived.Test.YtgheopdadfnilaaGreatDoorKf08
import Derived.Test.YtgheopdadfnilaaGreatDoorKf20
set_option linter.unusedVariables false
set_option linter.unusedSimpArgs false
set_option maxRecDepth 100000
set_option maxHeartbeats 8000000
namespace Go.Proofs.YtgheopdadfnilaaGreatDoor
open Go.RowKit
set_option linter.unusedVariables false
set_option linter.unusedSimpArgs false
theorem pre_take{l p:List UInt8}:Lib.hasPrefix l p=(l.take p.length == p):=by
 unfold Lib.hasPrefix
 rw [Bool.eq_iff_iff,List.isPrefixOf_iff_prefix,beq_iff_eq]
 constructor
 ·intro h
  exact (List.prefix_iff_eq_take.1 h).symm
 ·intro h
  exact List.prefix_iff_eq_take.2 h.symm
theorem pre_part(s N:ByteArray)(i:Nat):((s.extract i (i+N.size)).toList == N.toList)=Lib.hasPrefix (s.data.toList.drop i) N.data.toList:=by
 rw [pre_take,Lib.toList_data,Lib.toList_data,Lib.extract_data,len_data,Nat.add_sub_cancel_left]
theorem pre_short{s N:ByteArray}{i:Nat}(h:s.size<i+N.size)(hi:i≤s.size):Lib.hasPrefix (s.data.toList.drop i) N.data.toList=false:=by
 rw [Bool.eq_false_iff];intro hx
 have:=prefix_len hx
 rw [List.length_drop,len_data,len_data]at this;omega
theorem rword_err(s:ByteArray)(i:Nat)(w:World)(hs:s.size≤100000)(hi:i<s.size)(h35:s[i]=35)
  (HF:Hid (wordF (s.data.toList.drop i)=errP (([1,2,3,4,5,6,7]:List Int).find? (fun e=>Lib.hasPrefix (s.data.toList.drop i) (enL e))))) :
  Calls Tryz.prog 72 #[.string s,.int .i64 (i:Int)] w fun e w'=>e=.returned (rwv (wordF (s.data.toList.drop i)) i)∧Q w w':=by
 have HJ0:=hid (fun W=>solid_any s[i] W)
 rw [show joinB s[i]=false by rw [h35];rfl]at HJ0
 have e0:((s[i].toNat:Int) == 35)=true:=eq_byte (n:=35) (by omega) h35
 have e1:((s[i].toNat:Int) == 34)=false:=byte_ne (n:=34) (c:=s[i]) (by omega) (by rw [h35];decide)
 generalize wordF (s.data.toList.drop i)=wf at HF ⊢;have HS:=hid (WB.start w);clear h35;go_enter Tryz.func72,Tryz.ntmps72
 go_wp2_with (go_at_call 102;refine (HJ0.out _).mono ?_;rintro e w9 ⟨rfl,h9⟩;replace h9:=h9.symm;subst h9)
 try simp only [e0,e1]
 go_loopw [12] (fun x W=>∃ k:Nat,k≤7∧x=.int .i64 ((k:Int)+1)∧WB w W∧Hid (wf=errP ((([1,2,3,4,5,6,7]:List Int).drop k).find? (fun e=>Lib.hasPrefix (s.data.toList.drop i) (enL e))))) (fun x _=>8-(intOf x).toNat)
 case atStart=>exact ⟨0,by omega,rfl,HS.out,HF⟩
 case round=>
  obtain ⟨k,hk,rfl,hJB,hr⟩:=hrel;have HJB:=hid hJB;clear hJB;by_cases hlt:k<7
  ·have hn:=fun W=>V.rname_any ((k:Int)+1) W
   obtain ⟨N,eN⟩:∃ N:ByteArray,⟨(enL ((k:Int)+1)).toArray⟩=N:=⟨_,rfl⟩;have lN:N.data.toList=enL ((k:Int)+1):=by rw [←eN]
   have zN:N.size≤100∧0<N.size:=by
    rw [←len_data,lN]
    rcases (by omega:k=0∨k=1∨k=2∨k=3∨k=4∨k=5∨k=6) with rfl|rfl|rfl|rfl|rfl|rfl|rfl <;> decide
   obtain ⟨zN,zN0⟩:=zN;rw [eN]at hn;have H1:=hid hn;have hr2:=hr.out;rw [err_step k hlt,List.find?_cons,←lN]at hr2;clear hn eN hr;by_cases hfit:i+N.size≤s.size
   ·obtain ⟨X,eX⟩:∃ X,s.extract i (i+N.size)=X:=⟨_,rfl⟩
    have hp:=pre_part s N i;rw [eX]at hp;have eX':s.extract i ((i:Int)+(N.size:Int)).toNat=X:=by rw [show ((i:Int)+(N.size:Int)).toNat=i+N.size by omega];exact eX
    have hfi:(i:Int)+(N.size:Int)≤(s.size:Int):=by omega
    cases hb:Lib.hasPrefix (s.data.toList.drop i) N.data.toList
    ·rw [hb]at hp hr2
     have HR:=hid hr2;clear hr2 hb lN;go_wp2_with (go_at_call 33;refine (H1.out _).mono ?_;rintro e w1 ⟨rfl,q1⟩;have J1:=hid (HJB.out.on q1);clear q1;have d0:=J1.out.c0;have d1:=J1.out.c1;have d2:=J1.out.c2;have g0:=J1.out.f0;have g1:=J1.out.f1;have g2:=J1.out.f2)
     go_roundw
     case rel=>exact ⟨k+1,by omega,by go_num,J1.out,HR⟩
     case measure=>simp [intOf];omega
    ·rw [hb]at hp hr2
     have HB:Hid (wf=(5,N.data.toList,N.size)):=by show _=_;rw [hr2,←len_data,lN];rfl
     clear hr2 hb lN;go_wp2_with (go_at_call 33;refine (H1.out _).mono ?_;rintro e w1 ⟨rfl,q1⟩;have J1:=hid (HJB.out.on q1);clear q1;have d0:=J1.out.c0;have d1:=J1.out.c1;have d2:=J1.out.c2;have g0:=J1.out.f0;have g1:=J1.out.f1;have g2:=J1.out.f2)
     refine bodyPost_ret (v:=.tuple #[.agg #[.int .i64 5,.string N,.int .i64 (i:Int)],.int .i64 (N.size:Int)]) (by simp [results,Tryz.results72,go_sem,d0,d1,d2,g0,g1,g2]) rfl ⟨ret_rw HB.out (by omega) rfl rfl rfl,?_⟩
     repeat' (first|with_reducible exact J1.out.q|with_reducible refine Q.setCell ?_ (Nat.le_refl _) _|with_reducible refine Q.drewN ?_ _|with_reducible refine Q.drew ?_|with_reducible refine Q.alloc ?_ _)
   ·rw [pre_short (by omega) (by omega)]at hr2
    have HR:=hid hr2;clear hr2 lN;go_wp2_with (go_at_call 33;refine (H1.out _).mono ?_;rintro e w1 ⟨rfl,q1⟩;have J1:=hid (HJB.out.on q1);clear q1;have d0:=J1.out.c0;have d1:=J1.out.c1;have d2:=J1.out.c2;have g0:=J1.out.f0;have g1:=J1.out.f1;have g2:=J1.out.f2)
    go_roundw
    case rel=>exact ⟨k+1,by omega,by go_num,J1.out,HR⟩
    case measure=>simp [intOf];omega
  ·have e:k=7:=by omega
   subst e;have HB:Hid (wf=bad):=hid hr.out
   have d0:=HJB.out.c0;have d1:=HJB.out.c1;have d2:=HJB.out.c2;have g0:=HJB.out.f0;have g1:=HJB.out.f1;have g2:=HJB.out.f2;clear hr;go_wp2_with fail
   refine bodyPost_ret (v:=.tuple #[.agg #[.int .i64 0,.string ⟨#[]⟩,.int .i64 0],.int .i64 0]) (by simp [results,Tryz.results72,go_sem,d0,d1,d2,g0,g1,g2]) rfl ⟨ret_rbad HB.out,?_⟩
   repeat' (first|with_reducible exact HJB.out.q|with_reducible refine Q.setCell ?_ (Nat.le_refl _) _|with_reducible refine Q.drewN ?_ _|with_reducible refine Q.drew ?_|with_reducible refine Q.alloc ?_ _)
end Go.Proofs.YtgheopdadfnilaaGreatDoor
namespace Go.Proofs.YtgheopdadfnilaaGreatDoor
open Go.RowKit
set_option linter.unusedVariables false
set_option linter.unusedSimpArgs false
def sgR:List (List UInt8):=[[60,62],[60,61],[62,61],[43],[45],[42],[47],[38],[61],[60],[62],[40],[41],[44],[58]]
def sgB:Array Value:=#[.string ⟨#[60,62]⟩,.string ⟨#[60,61]⟩,.string ⟨#[62,61]⟩,.string ⟨#[43]⟩,.string ⟨#[45]⟩,.string ⟨#[42]⟩,.string ⟨#[47]⟩,.string ⟨#[38]⟩,.string ⟨#[61]⟩,.string ⟨#[60]⟩,.string ⟨#[62]⟩,.string ⟨#[40]⟩,.string ⟨#[41]⟩,.string ⟨#[44]⟩,.string ⟨#[58]⟩]
theorem sgB_at(k:Nat)(h:k<15):sgB[k]?=some (.string ⟨(sgR.getD k []).toArray⟩):=by
 rcases (by omega:k=0∨k=1∨k=2∨k=3∨k=4∨k=5∨k=6∨k=7∨k=8∨k=9∨k=10∨k=11∨k=12∨k=13∨k=14) with rfl|rfl|rfl|rfl|rfl|rfl|rfl|rfl|rfl|rfl|rfl|rfl|rfl|rfl|rfl <;> rfl
theorem sgR_step(k:Nat)(h:k<15):sgR.drop k=(sgR.getD k [])::sgR.drop (k+1):=by
 rcases (by omega:k=0∨k=1∨k=2∨k=3∨k=4∨k=5∨k=6∨k=7∨k=8∨k=9∨k=10∨k=11∨k=12∨k=13∨k=14) with rfl|rfl|rfl|rfl|rfl|rfl|rfl|rfl|rfl|rfl|rfl|rfl|rfl|rfl|rfl <;> rfl
theorem sgR_len(k:Nat)(h:k<15):(sgR.getD k []).length≤2∧0<(sgR.getD k []).length:=by
 rcases (by omega:k=0∨k=1∨k=2∨k=3∨k=4∨k=5∨k=6∨k=7∨k=8∨k=9∨k=10∨k=11∨k=12∨k=13∨k=14) with rfl|rfl|rfl|rfl|rfl|rfl|rfl|rfl|rfl|rfl|rfl|rfl|rfl|rfl|rfl <;> decide
theorem hp_one(a c:UInt8)(r:List UInt8):Lib.hasPrefix (a::r) [c]=(c == a):=by
 unfold Lib.hasPrefix
 simp [List.isPrefixOf]
theorem sgR_eq(l:List UInt8):sgR.find? (fun t=>Lib.hasPrefix l t)=sgL.find? (fun t=>Lib.hasPrefix l t):=by
 cases l with
 |nil=>decide
 |cons a r=>
  unfold sgR sgL
  simp only [List.find?_cons,hp_one]
  cases Lib.hasPrefix (a::r) [60,62] <;> cases Lib.hasPrefix (a::r) [60,61] <;> cases Lib.hasPrefix (a::r) [62,61] <;> simp only []
  by_cases h1:a=60
  ·subst h1;rfl
  by_cases h2:a=62
  ·subst h2;rfl
  by_cases h3:a=61
  ·subst h3;rfl
  have n1:((60:UInt8) == a)=false:=by rw [beq_eq_false_iff_ne];exact fun e=>h1 e.symm
  have n2:((62:UInt8) == a)=false:=by rw [beq_eq_false_iff_ne];exact fun e=>h2 e.symm
  have n3:((61:UInt8) == a)=false:=by rw [beq_eq_false_iff_ne];exact fun e=>h3 e.symm
  rw [n1,n2,n3]
structure SG (w W:World):Prop where
 wb:WB w W
 lt:w.heap.size+1<W.heap.size
 c:∀ k:Nat,k<15→W.cell? ⟨w.heap.size+1,k,none⟩=some (.string ⟨(sgR.getD k []).toArray⟩)
theorem SG.on{w W W':World}(h:SG w W)(q:Q W W'):SG w W':=⟨h.wb.on q,q.lt h.lt,fun k hk=>(q.cell h.lt).trans (h.c k hk)⟩
theorem pre_take'{l p:List UInt8}:Lib.hasPrefix l p=(l.take p.length == p):=by
 unfold Lib.hasPrefix
 rw [Bool.eq_iff_iff,List.isPrefixOf_iff_prefix,beq_iff_eq]
 constructor
 ·intro h
  exact (List.prefix_iff_eq_take.1 h).symm
 ·intro h
  exact List.prefix_iff_eq_take.2 h.symm
theorem pre_part'(s N:ByteArray)(i:Nat):((s.extract i (i+N.size)).toList == N.toList)=Lib.hasPrefix (s.data.toList.drop i) N.data.toList:=by
 rw [pre_take',Lib.toList_data,Lib.toList_data,Lib.extract_data,len_data,Nat.add_sub_cancel_left]
theorem pre_short'{s N:ByteArray}{i:Nat}(h:s.size<i+N.size)(hi:i≤s.size):Lib.hasPrefix (s.data.toList.drop i) N.data.toList=false:=by
 rw [Bool.eq_false_iff];intro hx
 have:=prefix_len hx
 rw [List.length_drop,len_data,len_data]at this;omega
theorem rword_sig(s:ByteArray)(i:Nat)(w:World)(hs:s.size≤100000)(hi:i<s.size)(h34:s[i]≠34)(h35:s[i]≠35)(hj:joinB s[i]=false)
  (HF:Hid (wordF (s.data.toList.drop i)=sigP (sgR.find? (fun t=>Lib.hasPrefix (s.data.toList.drop i) t)))) :
  Calls Tryz.prog 72 #[.string s,.int .i64 (i:Int)] w fun e w'=>e=.returned (rwv (wordF (s.data.toList.drop i)) i)∧Q w w':=by
 have HJ0:=hid (fun W=>solid_any s[i] W)
 rw [hj]at HJ0;have e0:((s[i].toNat:Int) == 35)=false:=byte_ne (n:=35) (by omega) h35
 have e1:((s[i].toNat:Int) == 34)=false:=byte_ne (n:=34) (by omega) h34
 generalize wordF (s.data.toList.drop i)=wf at HF ⊢;have HS:=hid ((WB.start w).on ((Q.refl _).alloc (.cells sgB 9)));have HC:Hid (∀ (k:Nat),k<15→((w.alloc (.cells #[.int .i64 0,.string ⟨#[]⟩,.int .i64 0] 74)).alloc (.cells sgB 9)).cell? ⟨w.heap.size+1,k,none⟩=some (.string ⟨(sgR.getD k []).toArray⟩)):=hid (fun k h=>by
  have e:w.heap.size+1=(w.alloc (.cells #[.int .i64 0,.string ⟨#[]⟩,.int .i64 0] 74)).heap.size:=by simp
  rw [e,World.cell?_alloc_new];exact sgB_at k h)
 obtain ⟨W,hW⟩:∃ W,(w.alloc (.cells #[.int .i64 0,.string ⟨#[]⟩,.int .i64 0] 74)).alloc (.cells sgB 9)=W:=⟨_,rfl⟩;have hlt:w.heap.size+1<W.heap.size:=by rw [←hW];simp
 rw [hW]at HS HC;have HG:Hid (SG w W):=hid ⟨HS.out,hlt,HC.out⟩
 clear h35 h34 hj HS HC hlt;go_enter Tryz.func72,Tryz.ntmps72
 go_wp2_with (go_at_call 102;refine (HJ0.out _).mono ?_;rintro e w9 ⟨rfl,h9⟩;replace h9:=h9.symm;subst h9)
 unfold sgB at hW
 rw [hW];clear hW
 try simp only [e0,e1]
 go_loopw [15] (fun x W=>∃ k:Nat,k≤15∧x=.int .i64 (k:Int)∧SG w W∧Hid (wf=sigP ((sgR.drop k).find? (fun t=>Lib.hasPrefix (s.data.toList.drop i) t)))) (fun x _=>15-(intOf x).toNat)
 case atStart=>exact ⟨0,by omega,rfl,HG.out,HF⟩
 case round=>
  obtain ⟨k,hk,rfl,hG,hr⟩:=hrel;have HG2:=hid hG;clear hG;by_cases hlt:k<15
  ·have hc:=HG2.out.c k hlt
   obtain ⟨N,eN⟩:∃ N:ByteArray,⟨(sgR.getD k []).toArray⟩=N:=⟨_,rfl⟩;have lN:N.data.toList=sgR.getD k []:=by rw [←eN]
   have zN:=sgR_len k hlt;rw [←lN,len_data]at zN;obtain ⟨zN,zN0⟩:=zN;rw [eN]at hc;have hr2:=hr.out;rw [sgR_step k hlt,List.find?_cons,←lN]at hr2;clear eN hr lN;have hwr:IntKind.i64.wrap ((i:Int)+(N.size:Int))=(i:Int)+(N.size:Int):=by rw [IntKind.wrap_i64];omega
   by_cases hfit:i+N.size≤s.size
   ·obtain ⟨X,eX⟩:∃ X,s.extract i (i+N.size)=X:=⟨_,rfl⟩
    have hp:=pre_part' s N i;rw [eX]at hp;have eX':s.extract i ((i:Int)+(N.size:Int)).toNat=X:=by rw [show ((i:Int)+(N.size:Int)).toNat=i+N.size by omega];exact eX
    have hfi:(i:Int)+(N.size:Int)≤(s.size:Int):=by omega
    cases hb:Lib.hasPrefix (s.data.toList.drop i) N.data.toList
    ·rw [hb]at hp hr2
     have HR:=hid hr2;clear hr2 hb;go_wp2_with fail
     go_quiet (fail)
     go_wp2_with fail
     go_roundw
     case rel=>exact ⟨k+1,by omega,by go_num,HG2.out.on (by repeat (first|exact Q.refl _|refine Q.drewN ?_ _|refine Q.drew ?_)),HR⟩
     case measure=>simp [intOf];omega
    ·rw [hb]at hp hr2
     have HB:Hid (wf=(6,N.data.toList,N.data.toList.length)):=by show _=_;rw [hr2];rfl
     have d0:=HG2.out.wb.c0;have d1:=HG2.out.wb.c1;have d2:=HG2.out.wb.c2;have g0:=HG2.out.wb.f0;have g1:=HG2.out.wb.f1;have g2:=HG2.out.wb.f2;clear hr2 hb;go_wp2_with fail
     go_quiet (fail)
     go_wp2_with fail
     refine bodyPost_ret (v:=.tuple #[.agg #[.int .i64 6,.string N,.int .i64 (i:Int)],.int .i64 (N.size:Int)]) (by simp [results,Tryz.results72,go_sem,d0,d1,d2,g0,g1,g2]) rfl ⟨ret_rw HB.out (by rw [len_data];omega) rfl rfl (by rw [len_data]),?_⟩
     repeat' (first|with_reducible exact HG2.out.wb.q|with_reducible refine Q.setCell ?_ (Nat.le_refl _) _|with_reducible refine Q.drewN ?_ _|with_reducible refine Q.drew ?_|with_reducible refine Q.alloc ?_ _)
   ·rw [pre_short' (by omega) (by omega)]at hr2
    have HR:=hid hr2;have hfi:(s.size:Int)<(i:Int)+(N.size:Int):=by omega
    have hfj:decide ((i:Int)+(N.size:Int)≤(s.size:Int))=false:=by rw [decide_eq_false_iff_not];omega
    clear hr2;go_wp2_with fail
    go_quiet (fail)
    go_wp2_with fail
    go_roundw
    case rel=>exact ⟨k+1,by omega,by go_num,HG2.out.on (by repeat (first|exact Q.refl _|refine Q.drewN ?_ _|refine Q.drew ?_)),HR⟩
    case measure=>simp [intOf];omega
  ·have e:k=15:=by omega
   subst e;have HB:Hid (wf=bad):=hid hr.out
   have d0:=HG2.out.wb.c0;have d1:=HG2.out.wb.c1;have d2:=HG2.out.wb.c2;have g0:=HG2.out.wb.f0;have g1:=HG2.out.wb.f1;have g2:=HG2.out.wb.f2;clear hr;go_wp2_with fail
   refine bodyPost_ret (v:=.tuple #[.agg #[.int .i64 0,.string ⟨#[]⟩,.int .i64 0],.int .i64 0]) (by simp [results,Tryz.results72,go_sem,d0,d1,d2,g0,g1,g2]) rfl ⟨ret_rbad HB.out,?_⟩
   repeat' (first|with_reducible exact HG2.out.wb.q|with_reducible refine Q.setCell ?_ (Nat.le_refl _) _|with_reducible refine Q.drewN ?_ _|with_reducible refine Q.drew ?_|with_reducible refine Q.alloc ?_ _)
end Go.Proofs.YtgheopdadfnilaaGreatDoor
namespace Go.Proofs.YtgheopdadfnilaaGreatDoor
open Go.RowKit
set_option linter.unusedVariables false
set_option linter.unusedSimpArgs false
theorem tw_mem{p:UInt8→Bool}{x:UInt8}:∀ {l:List UInt8},x∈l.takeWhile p→p x=true
 |[],h=>by simp at h
 |c::r,h=>by
  rw [List.takeWhile_cons]at h
  split at h
  ·rename_i hc
   rcases List.mem_cons.1 h with rfl|h'
   ·exact hc
   ·exact tw_mem h'
  ·simp at h
theorem hp_one'(a c:UInt8)(r:List UInt8):Lib.hasPrefix (a::r) [c]=(c == a):=by
 unfold Lib.hasPrefix
 simp [List.isPrefixOf]
theorem rword_join(s:ByteArray)(i:Nat)(w:World)(hs:s.size≤100000)(hi:i<s.size)(hj:joinB s[i]=true)(hF:wordF (s.data.toList.drop i)=joinW (s.data.toList.drop i)) :
  Calls Tryz.prog 72 #[.string s,.int .i64 (i:Int)] w fun e w'=>e=.returned (rwv (wordF (s.data.toList.drop i)) i)∧Q w w':=by
 obtain ⟨M,T,hr,hM⟩:=run_at s i hi hj;have hz:=hr.zT;have hlo:=hr.lo;have hle:=hr.le;have hT0:0<T.size:=by omega
 have hlen:(s.data.toList.drop i |>.takeWhile joinB).length=M-i:=by omega
 have hJ:joinB T[0]=true:=tw_mem (l:=s.data.toList.drop i) (by rw [←hr.lT];exact get_mem T 0 hT0)
 have h45:T[0]≠45:=fun e=>by rw [e]at hJ;exact absurd hJ (by decide)
 have HP:=fun W=>V.rparse_any T W (by omega)
 have HR:=fun W=>rref_any T W (by omega)
 have HL:=fun W=>letters_any T W hT0 (by omega)
 have et:=Lib.toList_data T;have hpos:=pk_pos (no_minus T hT0 h45);have hW:∀ k,kindJ T.data.toList (Lib.hasPrefix (s.data.toList.drop M) [40])=k→wordF (s.data.toList.drop i)=if k=0 then bad else (k,T.data.toList,M-i):=by
  intro k hk
  rw [hF];unfold joinW
  rw [←hr.lT,hr.beh,hk,hr.lT,hlen]
 unfold V.RP at HP
 generalize V.pk (V.parseO T.data.toList)=pn at HP hpos;cases hp:V.pf (V.parseO T.data.toList)
 ·rw [hp]at HP
  cases hf:refF T.data.toList
  ·rw [hf]at HR
   have hk:=kind_rest (c:=Lib.hasPrefix (s.data.toList.drop M) [40]) hp hf;cases ha:allL T.data.toList
   ·rw [ha]at HL
    refine rword_n0 s T i M w hs hi hr hj pn _ (hid HP) (hid HR) (hid HL) (hid ?_)
    rw [hW 0 ?_];rfl
    rw [hk,if_neg]
    rintro (h|h|⟨_,h⟩)
    ·rw [h]at ha;exact absurd ha (by decide)
    ·rw [h]at ha;exact absurd ha (by decide)
    ·rw [ha]at h;cases h
   ·rw [ha]at HL
    by_cases ht:T.data.toList=tru
    ·refine rword_t s T i M w hs hi hr hj pn _ (hid HP) (hid HR) (hid HL) (by rw [et,ht];rfl) (hid ?_)
     rw [hW 4 (by rw [hk,if_pos (Or.inl ht)])];rfl
    ·have e1:(T.toList == [84,82,85,69])=false:=by rw [et,beq_eq_false_iff_ne];exact ht
     by_cases hf2:T.data.toList=fls
     ·refine rword_f s T i M w hs hi hr hj pn _ (hid HP) (hid HR) (hid HL) e1 (by rw [et,hf2];rfl) (hid ?_)
      rw [hW 4 (by rw [hk,if_pos (Or.inr (Or.inl hf2))])];rfl
     ·have e2:(T.toList == [70,65,76,83,69])=false:=by rw [et,beq_eq_false_iff_ne];exact hf2
      by_cases hMs:M<s.size
      ·by_cases h40:s[M]=40
       ·have hc:Lib.hasPrefix (s.data.toList.drop M) [40]=true:=by rw [drop_cons s M hMs,hp_one',h40];rfl
        refine rword_c s T i M w hs hi hr hj pn _ (hid HP) (hid HR) (hid HL) e1 e2 (hid hMs) (hid fun _=>h40) (hid ?_)
        rw [hW 4 (by rw [hk,if_pos (Or.inr (Or.inr ⟨hc,ha⟩))])];rfl
       ·have hc:Lib.hasPrefix (s.data.toList.drop M) [40]=false:=by rw [drop_cons s M hMs,hp_one',beq_eq_false_iff_ne];exact fun e=>h40 e.symm
        refine rword_b s T i M w hs hi hr hj pn _ (hid HP) (hid HR) (hid HL) e1 e2 (hid fun _=>h40) (hid ?_)
        rw [hW 0 ?_];rfl
        rw [hk,if_neg]
        rintro (h|h|⟨h,_⟩)
        ·exact ht h
        ·exact hf2 h
        ·rw [hc]at h;cases h
      ·have hc:Lib.hasPrefix (s.data.toList.drop M) [40]=false:=by rw [List.drop_of_length_le (by simp;omega)];rfl
       refine rword_b s T i M w hs hi hr hj pn _ (hid HP) (hid HR) (hid HL) e1 e2 (hid fun h=>absurd h hMs) (hid ?_)
       rw [hW 0 ?_];rfl
       rw [hk,if_neg]
       rintro (h|h|⟨h,_⟩)
       ·exact ht h
       ·exact hf2 h
       ·rw [hc]at h;cases h
  ·rw [hf]at HR
   refine rword_ref s T i M w hs hi hr hj pn _ (hid HP) (hid HR) (hid ?_)
   rw [hW 3 (kind_ref hp hf)];rfl
 ·rw [hp]at HP
  refine rword_num s T i M w hs hi hr hj hT0 pn (hid HP) hpos (byte_ne (n:=45) (by omega) h45) (hid ?_)
  rw [hW 1 (kind_num hp)];rfl
theorem rword_any(s:ByteArray)(i:Nat)(w:World)(hs:s.size≤100000)(hi:i<s.size) :
  Calls Tryz.prog 72 #[.string s,.int .i64 (i:Int)] w fun e w'=>e=.returned (rwv (wordF (s.data.toList.drop i)) i)∧Q w w':=by
 have hh:(s.data.toList.drop i).headD 0=s[i]:=by rw [drop_cons s i hi];rfl
 by_cases h34:s[i]=34
 ·refine rword_quo s i w hs hi h34 _ (hid rfl) (hid ?_)
  unfold wordF
  rw [hh,if_pos h34];unfold quoW
  rw [List.drop_drop]
 ·by_cases h35:s[i]=35
  ·refine rword_err s i w hs hi h35 (hid ?_)
   unfold wordF
   rw [hh,if_neg h34,if_pos h35]
   rfl
  ·cases hj:joinB s[i]
   ·refine rword_sig s i w hs hi h34 h35 hj (hid ?_)
    unfold wordF
    rw [hh,if_neg h34,if_neg h35,if_neg (by simp [hj]),sgR_eq]
    rfl
   ·refine rword_join s i w hs hi hj ?_
    unfold wordF
    rw [hh,if_neg h34,if_neg h35,if_pos hj]
end Go.Proofs.YtgheopdadfnilaaGreatDoor
namespace Go.Proofs.YtgheopdadfnilaaGreatDoor
open Go.RowKit
set_option linter.unusedVariables false
set_option linter.unusedSimpArgs false
theorem info32:(Tryz.prog.info? 74).map (fun i=>(i.zero,i.size,i.bytes))=some (some (.agg #[.int .i64 0,.string ⟨#[]⟩,.int .i64 0]),3,32):=by kernel_rfl
theorem rscan_any(s:ByteArray)(w:World)(hs:s.size≤100000) :
  Calls Tryz.prog 37 #[.string s] w fun e w'=>ScanRet (scanL s.data.toList) e w'∧Q w w':=by
 by_cases hlong:1000<s.size
 ·have HR:=hid (scanL_long (l:=s.data.toList) (by simpa using hlong))
  generalize scanL s.data.toList=o at HR ⊢;go_enter Tryz.func37,Tryz.ntmps37
  go_wp2
  go_ret3
  exact ⟨ScanRet.no HR.out rfl,Q.refl _⟩
 ·obtain ⟨i0,hi⟩:=inf_of info32
  have HI:=hid hi;have HY:Hid (∀ L n,scanF s.data.toList 0 []=(some L,n)→scanL s.data.toList=(some (L++[⟨7,[],s.size⟩]),0)):=hid (fun L n h=>by rw [scanL_yes (by simpa using hlong) h];simp)
  have HN:Hid (∀ n,scanF s.data.toList 0 []=(none,n)→scanL s.data.toList=(none,n)):=hid (fun n h=>scanL_no (by simpa using hlong) h)
  obtain ⟨R,hR⟩:∃ R,scanF s.data.toList 0 []=R:=⟨_,rfl⟩;rw [hR]at HY HN;have HR:=hid hR;generalize scanL s.data.toList=o at HY HN ⊢;clear hR hi;go_enter Tryz.func37,Tryz.ntmps37
  go_wp2
  go_loopw [5,6] (fun v x W=>∃ (k:Nat) (L:List Wd),k≤s.size∧x=.int .i64 (k:Int)∧L.length≤k∧Own wd 74 3 w.heap.size W v L∧Q w W∧Hid (scanF (s.data.toList.drop k) k L=R)) (fun _ x _=>s.size-(intOf x).toNat)
  case atStart=>exact ⟨0,[],Nat.zero_le _,rfl,by simp,own_nil w,Q.refl _,HR⟩
  case round=>
   obtain ⟨k,L,hk,rfl,hL,hO,hQ,hr⟩:=hrel;have HO:=hid hO;have HQ:=hid hQ;clear hO hQ;by_cases hlt:k<s.size
   ·have hr2:=hr.out
    by_cases hb:s[k]=32
    ·have e32:((s[k].toNat:Int) == 32)=true:=eq_byte (n:=32) (by omega) hb
     rw [drop_cons s k hlt,hb,scanF_blank]at hr2;have HR2:=hid hr2;clear hr hr2;go_wp2_with fail
     go_roundw
     case rel=>exact ⟨k+1,L,by omega,by go_num,by omega,HO.out,HQ.out,HR2⟩
     case measure=>simp [intOf];omega
    ·have e32:((s[k].toNat:Int) == 32)=false:=byte_ne (n:=32) (by omega) hb
     have HF:=hid (fun W=>rword_any s k W hs hlt)
     have hne:=drop_head s k hlt;have h32:(s.data.toList.drop k).headD 0≠32:=by rw [drop_cons s k hlt];simpa using hb
     have hwl:=word_len (s.data.toList.drop k);rw [List.length_drop,len_data]at hwl;have hbad:=fun h=>scanF_bad k L hne h32 h
     have hword:=fun h=>scanF_word k L hne h32 h
     rw [hr2]at hbad hword;generalize wordF (s.data.toList.drop k)=q at HF hbad hword hwl;obtain ⟨a,l,n⟩:=q;simp only at hbad hword hwl
     clear hr2 hne h32 hr;by_cases hn:n=0
     ·subst hn
      have HB:=hid (HN.out k (hbad rfl));clear hbad hword;unfold rwv at HF
      simp only [if_pos rfl]at HF
      go_wp2_with (go_at_call 72;refine (HF.out _).mono ?_;rintro e w1 ⟨rfl,q1⟩;have HQ1:=hid (HQ.out.trans q1);clear q1)
      go_ret3
      exact ⟨ScanRet.no HB.out rfl,HQ1.out.alloc _⟩
     ·have hn':((n:Int) == 0)=false:=by rw [beq_eq_false_iff_ne];omega
      have hw2:=hword hn;rw [List.drop_drop]at hw2;have HW2:=hid hw2.symm;clear hbad hword hw2;unfold rwv at HF
      simp only [if_neg hn]at HF
      go_wp2_with (first|(go_at_call 72;refine (HF.out _).mono ?_;rintro e w1 ⟨rfl,q1⟩;have HO1:=hid (HO.out.on q1);have HQ1:=hid (HQ.out.trans q1);clear q1)|(at_builtin;refine wpList_append_own _ rfl _ _ 66 rfl w.heap.size 74 i0 (.agg #[.int .i64 0,.string ⟨#[]⟩,.int .i64 0]) 3 32 Tryz.underlying66 HI.out.1 HI.out.2.1 HI.out.2.2.1 HI.out.2.2.2 rfl (by decide) _ _ _ rfl ((HO1.out.alloc _).alloc _) _ 1 1 [.int .i64 (a:Int),.string ⟨l.toArray⟩,.int .i64 (k:Int)] rfl rfl (news_at _ [.int .i64 (a:Int),.string ⟨l.toArray⟩,.int .i64 (k:Int)] 74 _ (by simp)) (wd_one ⟨a,l,k⟩) (by unfold maxLen;omega) (by omega) (by have:=HQ1.out.size;simp;omega) ?_))
      intro v3 w3 hown' hgrow _
      have HO3:=hid (own_snoc' (enc:=wd) (x:=⟨a,l,k⟩) hown' rfl);have HQ3:Hid (Q w w3):=Below.grown ((HQ1.out.alloc _).alloc _) hgrow (by have:=HQ1.out.size;simp;omega) (HO1.out.blk)
      clear hown' hgrow HO1 HQ1 HO HQ;go_wp2_with fail
      go_roundw
      case rel=>exact ⟨k+n,_,by omega,by go_num,by simp;omega,HO3.out,HQ3.out,HW2⟩
      case measure=>simp [intOf];omega
   ·have hr2:=hr.out
    rw [List.drop_of_length_le (by simp;omega),scanF_nil]at hr2
    have HB:=hid (HY.out L 0 hr2.symm);clear hr2 hr;go_wp2_with (at_builtin;refine wpList_append_own _ rfl _ _ 66 rfl w.heap.size 74 i0 (.agg #[.int .i64 0,.string ⟨#[]⟩,.int .i64 0]) 3 32 Tryz.underlying66 HI.out.1 HI.out.2.1 HI.out.2.2.1 HI.out.2.2.2 rfl (by decide) _ _ _ rfl (HO.out.alloc _) _ 1 1 [.int .i64 7,.string ⟨#[]⟩,.int .i64 (s.size:Int)] rfl rfl (news_at _ [.int .i64 7,.string ⟨#[]⟩,.int .i64 (s.size:Int)] 74 _ (by simp)) (wd_one ⟨7,[],s.size⟩) (by unfold maxLen;omega) (by omega) (by have:=HQ.out.size;simp;omega) ?_)
    intro v3 w3 hown' hgrow _
    have HO3:=hid (own_snoc' (enc:=wd) (x:=⟨7,[],s.size⟩) hown' rfl);have HQ3:Hid (Q w w3):=Below.grown (HQ.out.alloc _) hgrow (by have:=HQ.out.size;simp;omega) (HO.out.blk)
    clear hown' hgrow HO HQ;go_wp2_with fail
    go_ret3
    exact ⟨ScanRet.yes HB.out (HO3.out.sl wd_len (by decide)),HQ3.out⟩
end Go.Proofs.YtgheopdadfnilaaGreatDoor
