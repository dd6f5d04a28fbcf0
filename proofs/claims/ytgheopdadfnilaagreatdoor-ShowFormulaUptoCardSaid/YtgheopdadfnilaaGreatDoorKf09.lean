/- Package value: which values ma. -/
import Derived.Test.YtgheopdadfnilaaGreatDoorKf00
import Derived.Test.YtgheopdadfnilaaGreatDoorKf08
import Derived.Test.YtgheopdadfnilaaGreatDoorKf01
set_option linter.unusedVariables false
set_option linter.unusedSimpArgs false
set_option maxRecDepth 100000
set_option maxHeartbeats 8000000
namespace Go.Proofs.YtgheopdadfnilaaGreatDoor.V
open Go.RowKit
def mayB(k n:Int)(t:List UInt8)(b:Bool)(e:Int):Bool:=
 if k=0 then decide (n=0)&&(decide (t=[])&&(!b&&decide (e=0)))
 else if k=1 then decide (t=[])&&(!b&&decide (e=0))
 else if k=2 then decide (n=0)&&(!b&&(decide (e=0)&&mtB t))
 else if k=3 then decide (n=0)&&(decide (t=[])&&decide (e=0))
 else if k=4 then decide (n=0)&&(decide (t=[])&&(!b&&(decide (1≤e)&&decide (e≤7))))
 else false
theorem mtB_nil:mtB []=true:=by rfl
theorem enL_ne{e:Int}(h1:1≤e)(h7:e≤7):enL e≠[]:=by
 rcases (by omega:e=1∨e=2∨e=3∨e=4∨e=5∨e=6∨e=7) with rfl|rfl|rfl|rfl|rfl|rfl|rfl <;> decide
theorem mayB_other{k n:Int}{t:List UInt8}{b:Bool}{e:Int}(h0:k≠0)(h1:k≠1)(h2:k≠2)(h3:k≠3)(h4:k≠4):false=mayB k n t b e:=by
 unfold mayB
 rw [if_neg h0,if_neg h1,if_neg h2,if_neg h3,if_neg h4]
theorem may_other(k n:Int)(t:ByteArray)(b:Bool)(e:Int)(w:World)(h0:k≠0)(h1:k≠1)(h2:k≠2)(h3:k≠3)(h4:k≠4) :
  Calls Tryz.prog 43 #[vv k n t b e] w fun x w'=>x=.returned (.bool (mayB k n t.toList b e))∧Q w w':=by
 have H:=hid (mayB_other (n:=n) (t:=t.toList) (b:=b) (e:=e) h0 h1 h2 h3 h4);unfold vv
 go_enter Tryz.func43,Tryz.ntmps43
 go_wp2
 go_ret
 exact ⟨vret_bool H.out,((Q.refl _).alloc _).alloc _⟩
theorem box5{w w1:World}{v0 v1 v2 v3 v4:Value}{o:Obj}(q:Q ((w.alloc (.cells #[v0,v1,v2,v3,v4] 37)).alloc o) w1) :
  w1.cell? ⟨w.heap.size,0,none⟩=some v0∧w1.cell? ⟨w.heap.size,4,none⟩=some v4:=by
 have h1:w.heap.size<(w.alloc (.cells #[v0,v1,v2,v3,v4] 37)).heap.size:=by rw [World.size_alloc];omega
 have hlt:w.heap.size<((w.alloc (.cells #[v0,v1,v2,v3,v4] 37)).alloc o).heap.size:=by rw [World.size_alloc];omega
 have e1:=fun j=>Q.cell (o:=j) ((Q.refl (w.alloc (.cells #[v0,v1,v2,v3,v4] 37))).alloc o) h1
 refine ⟨?_,?_⟩
 ·rw [q.cell hlt,e1,World.cell?_alloc_new];rfl
 ·rw [q.cell hlt,e1,World.cell?_alloc_new];rfl
theorem q2{w w1:World}{o o':Obj}(q:Q ((w.alloc o).alloc o') w1):Q w w1:=(((Q.refl _).alloc _).alloc _).trans q
theorem may_0(n:Int)(t:ByteArray)(b:Bool)(e:Int)(w:World)(hw:Std w)(hs:(t.size:Int)≤9223372036854775000) :
  Calls Tryz.prog 43 #[vv 0 n t b e] w fun x w'=>x=.returned (.bool (mayB 0 n t.toList b e))∧Q w w':=by
 have HW:=hid hw;have HM:mtB t.data.toList=mtB t.toList:=by rw [Lib.toList_data]
 clear hw;unfold vv
 go_enter Tryz.func43,Tryz.ntmps43
 go_wp2_with (go_at_call 81;refine (mayText_any t _ (HW.out.on (((Q.refl _).alloc _).alloc _)) hs).mono ?_;rintro x w1 ⟨rfl,q1⟩;obtain ⟨g0,g4⟩:=box5 q1)
 all_goals go_ret
 all_goals first
  |exact ⟨vret_bool (by simp [mayB,mtB_nil, *]),((Q.refl _).alloc _).alloc _⟩
  |exact ⟨vret_bool (by simp_all [mayB,mtB_nil]),q2 q1⟩
theorem may_1(n:Int)(t:ByteArray)(b:Bool)(e:Int)(w:World)(hw:Std w)(hs:(t.size:Int)≤9223372036854775000) :
  Calls Tryz.prog 43 #[vv 1 n t b e] w fun x w'=>x=.returned (.bool (mayB 1 n t.toList b e))∧Q w w':=by
 have HW:=hid hw;have HM:mtB t.data.toList=mtB t.toList:=by rw [Lib.toList_data]
 clear hw;unfold vv
 go_enter Tryz.func43,Tryz.ntmps43
 go_wp2_with (go_at_call 81;refine (mayText_any t _ (HW.out.on (((Q.refl _).alloc _).alloc _)) hs).mono ?_;rintro x w1 ⟨rfl,q1⟩;obtain ⟨g0,g4⟩:=box5 q1)
 all_goals go_ret
 all_goals first
  |exact ⟨vret_bool (by simp [mayB,mtB_nil, *]),((Q.refl _).alloc _).alloc _⟩
  |exact ⟨vret_bool (by simp_all [mayB,mtB_nil]),q2 q1⟩
theorem may_2(n:Int)(t:ByteArray)(b:Bool)(e:Int)(w:World)(hw:Std w)(hs:(t.size:Int)≤9223372036854775000) :
  Calls Tryz.prog 43 #[vv 2 n t b e] w fun x w'=>x=.returned (.bool (mayB 2 n t.toList b e))∧Q w w':=by
 have HW:=hid hw;have HM:mtB t.data.toList=mtB t.toList:=by rw [Lib.toList_data]
 clear hw;unfold vv
 go_enter Tryz.func43,Tryz.ntmps43
 go_wp2_with (go_at_call 81;refine (mayText_any t _ (HW.out.on (((Q.refl _).alloc _).alloc _)) hs).mono ?_;rintro x w1 ⟨rfl,q1⟩;obtain ⟨g0,g4⟩:=box5 q1)
 all_goals go_ret
 all_goals first
  |exact ⟨vret_bool (by simp [mayB,mtB_nil, *]),((Q.refl _).alloc _).alloc _⟩
  |exact ⟨vret_bool (by simp_all [mayB,mtB_nil]),q2 q1⟩
theorem may_3(n:Int)(t:ByteArray)(b:Bool)(e:Int)(w:World)(hw:Std w)(hs:(t.size:Int)≤9223372036854775000) :
  Calls Tryz.prog 43 #[vv 3 n t b e] w fun x w'=>x=.returned (.bool (mayB 3 n t.toList b e))∧Q w w':=by
 have HW:=hid hw;have HM:mtB t.data.toList=mtB t.toList:=by rw [Lib.toList_data]
 clear hw;unfold vv
 go_enter Tryz.func43,Tryz.ntmps43
 go_wp2_with (go_at_call 81;refine (mayText_any t _ (HW.out.on (((Q.refl _).alloc _).alloc _)) hs).mono ?_;rintro x w1 ⟨rfl,q1⟩;obtain ⟨g0,g4⟩:=box5 q1)
 all_goals go_ret
 all_goals first
  |exact ⟨vret_bool (by simp [mayB,mtB_nil, *]),((Q.refl _).alloc _).alloc _⟩
  |exact ⟨vret_bool (by simp_all [mayB,mtB_nil]),q2 q1⟩
theorem may_4(n:Int)(t:ByteArray)(b:Bool)(e:Int)(w:World)(hw:Std w)(hs:(t.size:Int)≤9223372036854775000) :
  Calls Tryz.prog 43 #[vv 4 n t b e] w fun x w'=>x=.returned (.bool (mayB 4 n t.toList b e))∧Q w w':=by
 have HW:=hid hw;have HM:mtB t.data.toList=mtB t.toList:=by rw [Lib.toList_data]
 obtain ⟨X,eX⟩:∃ X:ByteArray,X=⟨(enL e).toArray⟩:=⟨_,rfl⟩;have hX:X.toList=enL e:=by rw [Lib.toList_data,eX]
 have HN:=hid (fun w h=>name_any e w h)
 rw [←eX]at HN;clear hw eX;by_cases he:1≤e∧e≤7
 ·have hx:(X.toList == [])=false:=by rw [hX];have:=enL_ne he.1 he.2;cases h:enL e;exact absurd h this;rfl
  have h1:=he.1;have h7:=he.2;have d1:decide (1≤e)=true:=by simpa using h1
  have d7:decide (e≤7)=true:=by simpa using h7
  clear he hX;unfold vv
  go_enter Tryz.func43,Tryz.ntmps43
  go_wp2_with (first|(go_at_call 81;refine (mayText_any t _ (HW.out.on (((Q.refl _).alloc _).alloc _)) hs).mono ?_;rintro x w1 ⟨rfl,q1⟩;obtain ⟨g0,g4⟩:=box5 q1)|(go_at_call 82;refine (HN.out _ (HW.out.on (q2 q1)).nam).mono ?_;rintro x w1 ⟨rfl,rfl⟩))
  all_goals go_ret
  all_goals first
   |exact ⟨vret_bool (by simp [mayB,mtB_nil, *]),((Q.refl _).alloc _).alloc _⟩
   |exact ⟨vret_bool (by simp_all [mayB,mtB_nil]),q2 q1⟩
 ·have hx:(X.toList == [])=true:=by rw [hX,←enL_no (by omega)];rfl
  have d1:(decide (1≤e)&&decide (e≤7))=false:=by simp;omega
  clear he hX;unfold vv
  go_enter Tryz.func43,Tryz.ntmps43
  go_wp2_with (first|(go_at_call 81;refine (mayText_any t _ (HW.out.on (((Q.refl _).alloc _).alloc _)) hs).mono ?_;rintro x w1 ⟨rfl,q1⟩;obtain ⟨g0,g4⟩:=box5 q1)|(go_at_call 82;refine (HN.out _ (HW.out.on (q2 q1)).nam).mono ?_;rintro x w1 ⟨rfl,rfl⟩))
  all_goals go_ret
  all_goals first
   |exact ⟨vret_bool (by unfold mayB;rw [d1];simp),((Q.refl _).alloc _).alloc _⟩
   |exact ⟨vret_bool (by unfold mayB;rw [d1];simp),q2 q1⟩
theorem may_any(k n:Int)(t:ByteArray)(b:Bool)(e:Int)(w:World)(hw:Std w)(hs:(t.size:Int)≤9223372036854775000) :
  Calls Tryz.prog 43 #[vv k n t b e] w fun x w'=>x=.returned (.bool (mayB k n t.toList b e))∧Q w w':=by
 by_cases h0:k=0
 ·subst h0;exact may_0 n t b e w hw hs
 by_cases h1:k=1
 ·subst h1;exact may_1 n t b e w hw hs
 by_cases h2:k=2
 ·subst h2;exact may_2 n t b e w hw hs
 by_cases h3:k=3
 ·subst h3;exact may_3 n t b e w hw hs
 by_cases h4:k=4
 ·subst h4;exact may_4 n t b e w hw hs
 exact may_other k n t b e w h0 h1 h2 h3 h4
end Go.Proofs.YtgheopdadfnilaaGreatDoor.V
namespace Go.Proofs.YtgheopdadfnilaaGreatDoor
open Go.RowKit
theorem may_text(l:List UInt8):V.mayB 2 0 l false 0=V.mtB l:=by simp [V.mayB]
theorem closed_any(s:ByteArray)(n:Nat)(w:World)(hw:Std w)(hs:s.size≤1000000) :
  Calls Tryz.prog 181 #[.string s,.int .i64 (n:Int)] w fun e w'=>e=.returned (wv (quoP (some (s.data.toList,n))))∧Q w w':=by
 have HM:=V.may_2 0 s false 0 w hw (by omega)
 rw [may_text,Lib.toList_data]at HM;unfold V.vv at HM
 have HM:=hid HM;cases h:V.mtB s.data.toList
 ·rw [h]at HM
  have HW:Hid (quoP (some (s.data.toList,n))=bad):=by show _=_;simp only [quoP,h];rfl
  generalize quoP (some (s.data.toList,n))=q at HW ⊢;clear h hw;go_enter Tryz.func181,Tryz.ntmps181
  go_wp2_with (go_at_call 43;refine HM.out.mono ?_;rintro e w1 ⟨rfl,q1⟩;have Q1:=hid q1;clear q1)
  go_ret3
  exact ⟨ret_bad HW.out,Q1.out⟩
 ·rw [h]at HM
  have HW:Hid (quoP (some (s.data.toList,n))=(2,s.data.toList,n)):=by show _=_;simp only [quoP,h];rfl
  generalize quoP (some (s.data.toList,n))=q at HW ⊢;clear h hw;go_enter Tryz.func181,Tryz.ntmps181
  go_wp2_with (go_at_call 43;refine HM.out.mono ?_;rintro e w1 ⟨rfl,q1⟩;have Q1:=hid q1;clear q1)
  go_ret3
  exact ⟨ret_wv (by rw [HW.out];rfl) (by rw [HW.out]) (by rw [HW.out]),Q1.out⟩
theorem err_step(k:Nat)(h:k<7):([1,2,3,4,5,6,7]:List Int).drop k=((k:Int)+1)::([1,2,3,4,5,6,7]:List Int).drop (k+1):=by
 rcases (by omega:k=0∨k=1∨k=2∨k=3∨k=4∨k=5∨k=6) with rfl|rfl|rfl|rfl|rfl|rfl|rfl <;> rfl
theorem failure_any(s:ByteArray)(w:World)(hw:Std w)(hs:s.size≤1000000) :
  Calls Tryz.prog 162 #[.string s] w fun e w'=>e=.returned (wv (errW s.data.toList))∧w'=w:=by
 have HN:=hid hw.nam;obtain ⟨jw,hj⟩:∃ jw,errW s.data.toList=jw:=⟨_,rfl⟩;rw [hj];have HJ:=hid hj;clear hj hw;go_enter Tryz.func162,Tryz.ntmps162
 go_wp2
 go_loop [5] (fun i=>∃ k:Nat,k≤7∧i=.int .i64 ((k:Int)+1)∧Hid (errP ((([1,2,3,4,5,6,7]:List Int).drop k).find? (fun e=>Lib.hasPrefix s.data.toList (enL e)))=jw)) (fun i=>8-(intOf i).toNat)
 case atStart=>exact ⟨0,by omega,rfl,HJ⟩
 case round=>
  obtain ⟨k,hk,rfl,hr⟩:=hrel;by_cases hlt:k<7
  ·have hn:=V.name_any ((k:Int)+1) w HN.out
   obtain ⟨N,eN⟩:∃ N:ByteArray,⟨(enL ((k:Int)+1)).toArray⟩=N:=⟨_,rfl⟩;have lN:N.data.toList=enL ((k:Int)+1):=by rw [←eN]
   have zN:N.size≤100:=by
    rw [←len_data,lN]
    rcases (by omega:k=0∨k=1∨k=2∨k=3∨k=4∨k=5∨k=6) with rfl|rfl|rfl|rfl|rfl|rfl|rfl <;> decide
   rw [eN]at hn;have hp:=Tryz.strings_HasPrefix s N w;have hr2:=hr.out;rw [err_step k hlt,List.find?_cons,←lN]at hr2;have H1:=hid hn;have LN:=hid lN;clear hn lN eN hr;cases hb:Lib.hasPrefix s.data.toList N.data.toList
   ·rw [hb]at hp hr2
    have H2:=hid hp;have HR:=hid hr2;clear hp hr2 hb;go_wp2_with (first|(go_at_call 82;refine H1.out.mono ?_;rintro e w1 ⟨rfl,h1⟩;replace h1:=h1.symm;subst h1)|(go_at_call 180;refine H2.out.mono ?_;rintro e w1 ⟨rfl,h1⟩;replace h1:=h1.symm;subst h1))
    go_round
    case rel=>exact ⟨k+1,by omega,by go_num,HR⟩
    case measure=>simp [intOf];omega
   ·rw [hb]at hp hr2
    have H2:=hid hp;have HR:Hid (jw=(5,N.data.toList,N.data.toList.length)):=by show _=_;rw [←hr2,LN.out];rfl
    clear hp hr2 hb;go_wp2_with (first|(go_at_call 82;refine H1.out.mono ?_;rintro e w1 ⟨rfl,h1⟩;replace h1:=h1.symm;subst h1)|(go_at_call 180;refine H2.out.mono ?_;rintro e w1 ⟨rfl,h1⟩;replace h1:=h1.symm;subst h1))
    go_ret3
    exact ⟨ret_wv (by rw [HR.out];rfl) (by rw [HR.out]) (by rw [HR.out];simp),rfl⟩
  ·have e:k=7:=by omega
   subst e;have HR:=hid hr.out.symm;clear hr;go_wp2_with fail
   go_ret3
   exact ⟨ret_bad HR.out,rfl⟩
theorem sig_step(k:Nat)(h:k<15):sgL.drop k=(sgL.getD k [])::sgL.drop (k+1):=by
 rcases (by omega:k=0∨k=1∨k=2∨k=3∨k=4∨k=5∨k=6∨k=7∨k=8∨k=9∨k=10∨k=11∨k=12∨k=13∨k=14) with rfl|rfl|rfl|rfl|rfl|rfl|rfl|rfl|rfl|rfl|rfl|rfl|rfl|rfl|rfl <;> rfl
theorem sig_len(k:Nat)(h:k<15):(sgL.getD k []).length≤2:=by
 rcases (by omega:k=0∨k=1∨k=2∨k=3∨k=4∨k=5∨k=6∨k=7∨k=8∨k=9∨k=10∨k=11∨k=12∨k=13∨k=14) with rfl|rfl|rfl|rfl|rfl|rfl|rfl|rfl|rfl|rfl|rfl|rfl|rfl|rfl|rfl <;> decide
theorem run_sig(a:Array Value)(k:Nat)(v:Value)(w:World)(hk:k<15)(hv:a[k]?=some v):(Instr.index 196 (.agg a) (.int .i64 (k:Int))).run Tryz.prog w=.ok v w:=by
 have h1:(k:Int)<15:=by omega
 have h0:(0:Int)≤k:=by omega
 simp [Instr.index,run_underlying Tryz.underlying196,asIntOf,go_sem,h0,h1]
 rw [if_pos hk,hv]
 rfl
def sgA:Array Value:=#[.string ⟨#[60,62]⟩,.string ⟨#[60,61]⟩,.string ⟨#[62,61]⟩,.string ⟨#[60]⟩,.string ⟨#[62]⟩,.string ⟨#[61]⟩,.string ⟨#[43]⟩,.string ⟨#[45]⟩,.string ⟨#[42]⟩,.string ⟨#[47]⟩,.string ⟨#[38]⟩,.string ⟨#[40]⟩,.string ⟨#[41]⟩,.string ⟨#[44]⟩,.string ⟨#[58]⟩]
theorem sgA_at(k:Nat)(h:k<15):sgA[k]?=some (.string ⟨(sgL.getD k []).toArray⟩):=by
 rcases (by omega:k=0∨k=1∨k=2∨k=3∨k=4∨k=5∨k=6∨k=7∨k=8∨k=9∨k=10∨k=11∨k=12∨k=13∨k=14) with rfl|rfl|rfl|rfl|rfl|rfl|rfl|rfl|rfl|rfl|rfl|rfl|rfl|rfl|rfl <;> rfl
set_option maxRecDepth 20000 in
theorem sign_any(s:ByteArray)(w:World)(hw:Std w)(hs:s.size≤1000000) :
  Calls Tryz.prog 165 #[.string s] w fun e w'=>e=.returned (wv (sigW s.data.toList))∧w'=w:=by
 obtain ⟨jw,hj⟩:∃ jw,sigW s.data.toList=jw:=⟨_,rfl⟩;rw [hj];have HJ:=hid hj;clear hj;have c0:w.cell? ⟨5,0,none⟩=some (.string ⟨#[60,62]⟩):=hw.sg 0 (by omega)
 have c1:w.cell? ⟨5,1,none⟩=some (.string ⟨#[60,61]⟩):=hw.sg 1 (by omega)
 have c2:w.cell? ⟨5,2,none⟩=some (.string ⟨#[62,61]⟩):=hw.sg 2 (by omega)
 have c3:w.cell? ⟨5,3,none⟩=some (.string ⟨#[60]⟩):=hw.sg 3 (by omega)
 have c4:w.cell? ⟨5,4,none⟩=some (.string ⟨#[62]⟩):=hw.sg 4 (by omega)
 have c5:w.cell? ⟨5,5,none⟩=some (.string ⟨#[61]⟩):=hw.sg 5 (by omega)
 have c6:w.cell? ⟨5,6,none⟩=some (.string ⟨#[43]⟩):=hw.sg 6 (by omega)
 have c7:w.cell? ⟨5,7,none⟩=some (.string ⟨#[45]⟩):=hw.sg 7 (by omega)
 have c8:w.cell? ⟨5,8,none⟩=some (.string ⟨#[42]⟩):=hw.sg 8 (by omega)
 have c9:w.cell? ⟨5,9,none⟩=some (.string ⟨#[47]⟩):=hw.sg 9 (by omega)
 have c10:w.cell? ⟨5,10,none⟩=some (.string ⟨#[38]⟩):=hw.sg 10 (by omega)
 have c11:w.cell? ⟨5,11,none⟩=some (.string ⟨#[40]⟩):=hw.sg 11 (by omega)
 have c12:w.cell? ⟨5,12,none⟩=some (.string ⟨#[41]⟩):=hw.sg 12 (by omega)
 have c13:w.cell? ⟨5,13,none⟩=some (.string ⟨#[44]⟩):=hw.sg 13 (by omega)
 have c14:w.cell? ⟨5,14,none⟩=some (.string ⟨#[58]⟩):=hw.sg 14 (by omega)
 clear hw;go_enter Tryz.func165,Tryz.ntmps165
 go_wp2
 clear c0 c1 c2 c3 c4 c5 c6 c7 c8 c9 c10 c11 c12 c13 c14;obtain ⟨A,hA⟩:∃ A,sgA=A:=⟨_,rfl⟩;have HA:=hid hA;unfold sgA at hA
 rw [hA];clear hA;go_loop [8] (fun i=>∃ k:Nat,k≤15∧i=.int .i64 (k:Int)∧Hid (sigP ((sgL.drop k).find? (fun t=>Lib.hasPrefix s.data.toList t))=jw)) (fun i=>15-(intOf i).toNat)
 case atStart=>exact ⟨0,by omega,rfl,HJ⟩
 case round=>
  obtain ⟨k,hk,rfl,hr⟩:=hrel;by_cases hlt:k<15
  ·have hI:=fun W=>run_sig A k _ W hlt (by rw [←HA.out];exact sgA_at k hlt)
   obtain ⟨N,eN⟩:∃ N:ByteArray,⟨(sgL.getD k []).toArray⟩=N:=⟨_,rfl⟩;have lN:N.data.toList=sgL.getD k []:=by rw [←eN]
   have zN:N.size≤2:=by rw [←len_data,lN];exact sig_len k hlt
   rw [eN]at hI;have hp:=Tryz.strings_HasPrefix s N w;have hr2:=hr.out;rw [sig_step k hlt,List.find?_cons,←lN]at hr2;clear lN hr eN;cases hb:Lib.hasPrefix s.data.toList N.data.toList
   ·rw [hb]at hp hr2
    have H2:=hid hp;have HR:=hid hr2;clear hp hr2 hb;go_wp2_with (go_at_call 180;refine H2.out.mono ?_;rintro e w1 ⟨rfl,h1⟩;replace h1:=h1.symm;subst h1)
    go_round
    case rel=>exact ⟨k+1,by omega,by go_num,HR⟩
    case measure=>simp [intOf];omega
   ·rw [hb]at hp hr2
    have H2:=hid hp;have HR:Hid (jw=(6,N.data.toList,N.data.toList.length)):=by show _=_;rw [←hr2];rfl
    clear hp hr2 hb;go_wp2_with (go_at_call 180;refine H2.out.mono ?_;rintro e w1 ⟨rfl,h1⟩;replace h1:=h1.symm;subst h1)
    go_ret3
    exact ⟨ret_wv (by rw [HR.out];rfl) (by rw [HR.out]) (by rw [HR.out];simp),rfl⟩
  ·have e:k=15:=by omega
   subst e;have HR:=hid hr.out.symm;clear hr;go_wp2_with fail
   go_ret3
   exact ⟨ret_bad HR.out,rfl⟩
theorem size53:(Tryz.prog.info? 54).map (·.size)=some 2:=by kernel_rfl
theorem lies53:liesAt Tryz.prog Tryz.prog.depth 54 (2 / Tryz.prog.cellsOf 54) 0 54 1=true:=by kernel_rfl
theorem info5:(Tryz.prog.info? 5).map (fun i=>(i.zero,i.size,i.bytes))=some (some (.int .u8 0),1,1):=by kernel_rfl
theorem check_used(b:Nat)(w:World)(h0:w.cell? ⟨b,0,none⟩=some (.pointer (some ⟨b,0,none⟩))) :
  Calls Tryz.prog 94 #[.pointer (some ⟨b,0,none⟩)] w fun e w'=>e=.returned (.tuple #[])∧w'=w:=by
 obtain ⟨j,hj,_⟩:=Option.map_eq_some_iff.1 size53;go_enter Tryz.func94,Tryz.ntmps94
 go_wp2
 rw [Lib.run_neq_ptr_same w _ Tryz.underlying51 hj];go_wp2
 go_end0
 exact ⟨rfl,rfl⟩
theorem check_new(b:Nat)(w:World)(h0:w.cell? ⟨b,0,none⟩=some (.pointer none))(hsh:w.shape? b=some (54,2))(hfz:w.frozen? ⟨b,0,none⟩=false) :
  Calls Tryz.prog 94 #[.pointer (some ⟨b,0,none⟩)] w fun e w'=>e=.returned (.tuple #[])∧w'=w.setCell ⟨b,0,none⟩ (.pointer (some ⟨b,0,none⟩)):=by
 obtain ⟨j,hj,hjs⟩:=Option.map_eq_some_iff.1 size53;go_enter Tryz.func94,Tryz.ntmps94
 go_wp2
 rw [Lib.run_to_unsafe w ⟨b,0,none⟩ Tryz.underlying51 Tryz.underlying154 hj (by rw [hjs];decide) hsh (Nat.zero_lt_succ 1)]
 simp only [Result.andThen]
 rw [Oper.upon_value];go_wp2
 rw [run_callFunc_extern Tryz.func128 (by kernel_rfl) (by kernel_rfl) (by kernel_rfl) (e:=Extern.AbiNoEscape.same) (by kernel_rfl)]
 rw [Lib.run_noEscape];simp only [Result.andThen]
 rw [Oper.upon_value];go_wp2
 rw [Lib.run_from_unsafe w ⟨b,0,none⟩ Tryz.underlying154 Tryz.underlying51 hj hsh lies53];simp only [Result.andThen]
 rw [Oper.upon_value];go_wp2
 go_end0
 exact ⟨rfl,rfl⟩
theorem check_any(B b:Nat)(bs:List Value)(w:World)(h:Lib.IsBuilder 54 5 B b bs w) :
  Calls Tryz.prog 94 #[.pointer (some ⟨b,0,none⟩)] w fun e w'=>e=.returned (.tuple #[])∧Lib.BuilderAt 54 5 B b (.pointer (some ⟨b,0,none⟩)) bs w'∧Below B w w':=by
 rcases h with h|h
 ·refine (check_new b w h.cell0 h.shape h.frozen0).mono ?_
  rintro e w' ⟨rfl,rfl⟩
  exact ⟨rfl,h.used _,(Below.refl B w).setCell (p:=⟨b,0,none⟩) h.1 _⟩
 ·refine (check_used b w h.cell0).mono ?_
  rintro e w' ⟨rfl,rfl⟩
  exact ⟨rfl,h,Below.refl B _⟩
theorem writeByte_any(B b:Nat)(bs:List Value)(c:Int)(w:World)(h:Lib.IsBuilder 54 5 B b bs w)(hlen:bs.length+1≤1000000)(hBw:B≤w.heap.size) :
  Calls Tryz.prog 182 #[.pointer (some ⟨b,0,none⟩),.int .u8 c] w fun e w'=>e=.returned .nilIface∧Lib.BuilderAt 54 5 B b (.pointer (some ⟨b,0,none⟩)) (bs++[.int .u8 c]) w'∧Below B w w':=by
 obtain ⟨i0,hi,hz0,hz1,hz2⟩:=inf_of info5;have HC:=hid (check_any B b bs w h);clear h;go_enter Tryz.func182,Tryz.ntmps182
 go_wp2_with (go_at_call 94;refine HC.out.mono ?_)
 rintro e w1 ⟨rfl,h1,hb1⟩
 obtain ⟨hB,v,hbk,hown,hne⟩:=h1;have c0:w1.cell? ⟨b,0,none⟩=some (.pointer (some ⟨b,0,none⟩)):=by rw [Lib.cell_of_heap hbk];rfl
 have c1:w1.cell? ⟨b,1,none⟩=some v:=by rw [Lib.cell_of_heap hbk];rfl
 go_wp2_with (at_builtin;refine wpList_append_own _ rfl _ _ 52 rfl B 5 i0 (.int .u8 0) 1 1 Tryz.underlying52 hi hz0 hz1 hz2 rfl (by decide) _ _ _ rfl (hown.alloc _) ⟨w1.heap.size,0,none⟩ 1 1 [.int .u8 c] rfl rfl (news_at _ [.int .u8 c] 5 _ rfl) (by intro u hu;simp at hu;subst hu;rfl) (by unfold maxLen;omega) (by omega) (by have:=hb1.size;simp;omega) ?_)
 intro v' w2 hown' hgrow _
 have hlt:b<w1.heap.size:=by
  rcases Nat.lt_or_ge b w1.heap.size with h'|h'
  ·exact h'
  ·simp [Array.getElem?_eq_none h']at hbk
 have hb2:w2.heap[b]?=some (.cells #[.pointer (some ⟨b,0,none⟩),v] 54 (0,0)):=by
  rw [hgrow.block b (by simp;omega) (fun e=>hne e.symm),Lib.alloc_old w1 _ b hlt]
  exact hbk
 have d0:w2.cell? ⟨b,0,none⟩=some (.pointer (some ⟨b,0,none⟩)):=by rw [Lib.cell_of_heap hb2];rfl
 have d1:w2.cell? ⟨b,1,none⟩=some v:=by rw [Lib.cell_of_heap hb2];rfl
 have f1:w2.frozen? ⟨b,1,none⟩=false:=Lib.frozen_of_heap hb2 1
 obtain ⟨g,cap,rfl⟩:∃ g cap,v'=.slice (some ⟨g,0,none⟩) (bs.length+1) cap:=by
  rcases hown'.2 with ⟨_,h0⟩|⟨g,cap,cur,hv,_⟩
  ·omega
  ·exact ⟨g,cap,hv⟩
 go_wp2
 go_ret
 refine ⟨rfl,?_,?_⟩
 ·exact Lib.BuilderAt.put (T:=54) (e:=5) hB hb2 (bs':=bs++[.int .u8 c]) (by simpa using hown') (by decide)
 ·exact ((hb1.alloc (by have:=hb1.size;omega) _).grown hgrow (by have:=hb1.size;simp;omega) (fun k hk=>(hown.lt k hk).1)).setCell (p:=⟨b,1,none⟩) hB _
end Go.Proofs.YtgheopdadfnilaaGreatDoor
