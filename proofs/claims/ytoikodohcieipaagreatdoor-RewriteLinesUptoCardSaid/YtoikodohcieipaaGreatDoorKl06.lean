/- a1.Print: what it returns; lex. -/
import Derived.Test.YtoikodohcieipaaGreatDoorKl04
import Derived.Test.YtoikodohcieipaaGreatDoorKl05
import Derived.Test.YtoikodohcieipaaGreatDoorKl00
set_option linter.unusedVariables false
set_option linter.unusedSimpArgs false
set_option maxRecDepth 100000
set_option maxHeartbeats 8000000
namespace Go.Proofs.YtoikodohcieipaaGreatDoor
open Go.RowKit
theorem print_no(sh:ByteArray)(row col:Int)(ra ca f1 f2 fi:Bool)(w:World)
  (HM1:Hid (∀ W,Calls Tryz.prog 108 #[.int .i64 row] W fun e w'=>e=.returned (.bool f1)∧w'=W))
  (HM2:Hid (∀ W,Calls Tryz.prog 108 #[.int .i64 col] W fun e w'=>e=.returned (.bool f2)∧w'=W))
  (HI:Hid (∀ W,Q w W→Calls Tryz.prog 109 #[.string sh] W fun e w'=>e=.returned (.bool fi)∧Q W w'))
  (h:f1=false∨f2=false∨((sh.toList == [])=false∧fi=false)) :
  Calls Tryz.prog 105 #[rv sh row col ra ca] w fun e w'=>e=.returned (.string ⟨#[]⟩)∧Q w w':=by
 cases f1
 ·clear h
  go_enter Tryz.func105,Tryz.ntmps105
  go_wp2_with (first|(go_at_call_of 108 row;refine (HM1.out _).mono ?_;rintro e w1 ⟨rfl,rfl⟩)|(go_at_call_of 108 col;refine (HM2.out _).mono ?_;rintro e w1 ⟨rfl,rfl⟩))
  go_ret
  exact ⟨rfl,(Q.refl _).alloc _⟩
 cases f2
 ·clear h
  go_enter Tryz.func105,Tryz.ntmps105
  go_wp2_with (first|(go_at_call_of 108 row;refine (HM1.out _).mono ?_;rintro e w1 ⟨rfl,rfl⟩)|(go_at_call_of 108 col;refine (HM2.out _).mono ?_;rintro e w1 ⟨rfl,rfl⟩))
  go_ret
  exact ⟨rfl,(Q.refl _).alloc _⟩
 obtain ⟨hE,rfl⟩:(sh.toList == [])=false∧fi=false:=by
  rcases h with h|h|h
  ·cases h
  ·cases h
  ·exact h
 go_enter Tryz.func105,Tryz.ntmps105
 go_wp2_with (first|(go_at_call_of 108 row;refine (HM1.out _).mono ?_;rintro e w1 ⟨rfl,rfl⟩)|(go_at_call_of 108 col;refine (HM2.out _).mono ?_;rintro e w1 ⟨rfl,rfl⟩)|(go_at_call 109;refine (HI.out _ (by repeat (first|exact Q.refl _|refine Q.drewN ?_ _|refine Q.alloc ?_ _))).mono ?_;rintro e w3 ⟨rfl,q3⟩))
 go_ret
 exact ⟨rfl,((Q.refl _).alloc _).trans q3⟩
theorem print_any(sh:ByteArray)(row col:Int)(ra ca:Bool)(w:World)(hw:Std w)(ht:∀ W,Q w W→Lib.TabIs Tryz.prog W "internal/strconv.uint64pow10" .u64 Lib.pow10Tab)(hs:sh.size≤1000) :
  Calls Tryz.prog 105 #[rv sh row col ra ca] w fun e w'=>e=.returned (.string ⟨(prR sh.data.toList row col ra ca).toArray⟩)∧Q w w':=by
 have HM1:=fun W=>mayline_any row W
 have HM2:=fun W=>mayline_any col W
 have HI:=fun W (q:Q w W)=>id_any sh W (hw.on q) (by omega)
 have et:=Lib.toList_data sh;unfold prR mayR
 cases h1:decide (0≤row∧row<2199023255552)
 ·rw [h1]at HM1
  refine (print_no sh row col ra ca _ _ _ w HM1 HM2 HI (.inl rfl)).mono fun e w' g=>⟨?_,g.2⟩
  rw [g.1,Bool.false_and,Bool.and_false]
  rfl
 cases h2:decide (0≤col∧col<2199023255552)
 ·rw [h2]at HM2
  refine (print_no sh row col ra ca _ _ _ w HM1 HM2 HI (.inr (.inl rfl))).mono fun e w' g=>⟨?_,g.2⟩
  rw [g.1,Bool.and_false,Bool.and_false]
  rfl
 rw [h1]at HM1;rw [h2]at HM2;have b1:=of_decide_eq_true h1;have b2:=of_decide_eq_true h2;obtain ⟨X1,X2,X3,hc⟩:=cat_of sh.data.toList row col ra ca (by rw [len_data];exact hs) b1.1 b1.2
 have HF:=fun W (q:Q w W)=>fmt_any (row+1) W (ht W q) (by omega) (by omega)
 by_cases he:sh.toList=[]
 ·have he2:sh.data.toList=[]:=by rw [←et,he]
  rw [he2]at hc ⊢;refine (print_plain sh ⟨#[]⟩ _ _ _ _ X1 X2 X3 _ row col ra ca w hs HM1 HM2 (by rw [he];rfl) (fun W=>asign_any ca W) (fun W=>asign_any ra W) (fun W=>name_any col W) HF b1.1 b1.2 hc).mono fun e w' g=>⟨?_,g.2⟩
  rw [g.1]
  rfl
 ·have hei:sh.data.toList.isEmpty=false:=by
   rw [←et];cases hh:sh.toList
   ·exact absurd hh he
   ·rfl
  cases hi:idB sh.data.toList
  ·rw [hi]at HI
   refine (print_no sh row col ra ca _ _ _ w HM1 HM2 HI (.inr (.inr ⟨by simpa using he,rfl⟩))).mono fun e w' g=>⟨?_,g.2⟩
   rw [g.1,hei]
   rfl
  ·rw [hi]at HI
   have eS:sh++⟨#[33]⟩=⟨(shX sh.data.toList).toArray⟩:=by
    unfold shX
    rw [hei];have e:=bytes_cat sh.data.toList [33];exact e
   refine (print_sheet sh _ _ _ _ _ X1 X2 X3 _ row col ra ca w hs HM1 HM2 (by simpa using he) HI eS (fun W=>asign_any ca W) (fun W=>asign_any ra W) (fun W=>name_any col W) HF b1.1 b1.2 hc).mono fun e w' g=>⟨?_,g.2⟩
   rw [g.1,Bool.or_true]
   rfl
theorem err_step(k:Nat)(h:k<7):([1,2,3,4,5,6,7]:List Int).drop k=((k:Int)+1)::([1,2,3,4,5,6,7]:List Int).drop (k+1):=by
 rcases (by omega:k=0∨k=1∨k=2∨k=3∨k=4∨k=5∨k=6) with rfl|rfl|rfl|rfl|rfl|rfl|rfl <;> rfl
def mall(nd:Ex→Bool):Ex→Bool
 |.mk k n t b e rs ks=>nd (.mk k n t b e rs ks)&&mallL nd ks
 where
 mallL (nd:Ex→Bool):List Ex→Bool
 |[]=>true
 |x::xs=>mall nd x&&mallL nd xs
theorem mallL_all(nd:Ex→Bool)(ks:List Ex):mall.mallL nd ks=ks.all (mall nd):=by
 induction ks with
 |nil=>simp [mall.mallL]
 |cons x xs ih=>rw [mall.mallL,ih,List.all_cons]
theorem mayall_any(nd:Ex→Bool)(G:World→Prop)(hG:∀ W W',G W→Q W W'→G W')(P:Ex→Prop)(hP:∀ k n t b e rs ks,P (.mk k n t b e rs ks)→∀ y∈ks,P y)(HN:Hid (∀ x v W,G W→P x→Rd W x v→Calls Tryz.prog 73 #[v] W fun e W'=>e=.returned (.bool (nd x))∧Q W W')) :
  ∀ (s:Nat) (x:Ex) (v:Value) (W:World),SizeOf.sizeOf x≤s→G W→P x→Rd W x v→Calls Tryz.prog 50 #[v] W fun e W'=>e=.returned (.bool (mall nd x))∧Q W W':=by
 intro s
 induction s with
 |zero=>
  intro x v W hs
  cases x with
  |mk k n t b e rs ks=>simp at hs
 |succ s ih=>
  intro x v W hs hg hpx hr
  have HNx:=hid (fun W1 (q:Q W W1)=>HN.out x v W1 (hG _ _ hg q) hpx (Rd.on q _ _ hr))
  obtain ⟨k,n,t,b,e,rs,ks,rv,kv,ao,cap,rfl,hp⟩:=hr.prt;obtain ⟨ar,cr,hrv,_⟩:=hp.rl;have HD:Hid (mall nd x=(nd x&&ks.all (mall nd))):=hid (by rw [hp.ex,mall,mallL_all])
  have HPK:Hid (∀ i (h:i<ks.length),P ks[i]):=hid (fun i h=>hP k n t.data.toList b e rs ks (hp.ex ▸ hpx) _ (List.getElem_mem h))
  have IH:=hid (fun (i:Nat) (h:i<ks.length) v W=>ih ks[i] v W (by have:=kid_size (k:=k) (n:=n) (t:=t.data.toList) (b:=b) (e:=e) (rs:=rs) i h;rw [←hp.ex]at this;omega))
  generalize mall nd x=d at HD ⊢;have HP:=hid hp;have HGW:=hid hg;obtain rfl:=hp.kl;subst hrv;have hroom:ks.length≤9223372036854775807:=by have h1:=hp.le;have h2:=hp.mx;unfold maxLen at h2;omega
  have HX:=hid (Bx.start W (.int .i64 k) (.int .i64 n) (.string t) (.bool b) (.int .i64 e) (.slice ar rs.length cr) (.slice ao ks.length cap) 26);clear hp hr ih hs hg hpx;cases hnd:nd x
  ·rw [hnd]at HNx
   have HR:Hid (d=false):=by show _=_;rw [HD.out,hnd];rfl
   go_enter Tryz.func50,Tryz.ntmps50
   go_wp2_with (go_at_call 73;refine (HNx.out _ ((Q.refl _).alloc _)).mono ?_;rintro e9 w1 ⟨rfl,q1⟩;have Q1:Hid (Q W w1):=hid (((Q.refl _).alloc _).trans q1);clear q1)
   go_ret
   exact ⟨ret_bool HR.out.symm,Q1.out⟩
  ·rw [hnd]at HNx
   have HR:Hid (d=ks.all (mall nd)):=by show _=_;rw [HD.out,hnd,Bool.true_and]
   go_enter Tryz.func50,Tryz.ntmps50
   go_wp2_with (go_at_call 73;refine (HNx.out _ ((Q.refl _).alloc _)).mono ?_;rintro e9 w1 ⟨rfl,q1⟩;have Q1:Hid (Q W w1):=hid (((Q.refl _).alloc _).trans q1);have X1:=hid (HX.out.on q1);clear q1;have c6:=X1.out.g6)
   go_loopw [11,4] (fun z _ W'=>∃ (i:Nat),i≤ks.length∧z=.int .i64 (i:Int)∧Hid (Q W W')∧Hid ((ks.take i).all (mall nd)=true)) (fun z _ _=>ks.length-(intOf z).toNat)
   case atStart=>exact ⟨0,Nat.zero_le _,rfl,Q1,rfl⟩
   case round=>
    obtain ⟨i,hi,rfl,hQ,hA⟩:=hrel;by_cases hlt:i<ks.length
    ·have hne:ks≠[]:=by intro h;rw [h]at hlt;simp at hlt
     obtain ⟨b',off,rfl,hl⟩:=(HP.out.on hQ.out).kd hne;obtain ⟨e0',e1,e2,e3,e4,e5,e6,hK⟩:=hl.kid i hlt;obtain ⟨k',n',t',b1',e',a1',l1',c1',a2',l2',c2',hsh⟩:=hK.rd.shape;simp only [Value.agg.injEq,Array.mk.injEq,List.cons.injEq,and_true]at hsh
     obtain ⟨rfl,rfl,rfl,rfl,rfl,rfl,rfl⟩:=hsh;obtain ⟨h0,g1,h2,h3,h4,h5,h6,hrd⟩:=hK;have HRD:=hid hrd;have HI:=hid (fun W1 (q:Q wr W1)=>IH.out i hlt _ W1 (hG _ _ HGW.out (hQ.out.trans q)) (HPK.out i hlt) (Rd.on q _ _ HRD.out))
     cases hb:mall nd ks[i]
     ·rw [hb]at HI
      have HA2:Hid (d=false):=by
       show _=_
       rw [HR.out,Bool.eq_false_iff];intro e
       rw [List.all_eq_true]at e;have:=e ks[i] (List.getElem_mem hlt)
       rw [hb]at this;cases this
      clear hl hrd hA;go_wp2_with (go_at_call 50;refine (HI.out _ (by repeat (first|with_reducible exact Q.refl _|with_reducible refine Q.alloc ?_ _))).mono ?_;rintro e9 w9 ⟨rfl,q9⟩;have Q9:Hid (Q wr w9):=hid (Q.trans (by repeat (first|with_reducible exact Q.refl _|with_reducible refine Q.alloc ?_ _)) q9);clear q9)
      go_ret
      exact ⟨ret_bool HA2.out.symm,hQ.out.trans Q9.out⟩
     ·rw [hb]at HI
      have HA2:Hid ((ks.take (i+1)).all (mall nd)=true):=by
       show _=_
       rw [List.take_succ_eq_append_getElem hlt,List.all_append,hA.out];simp [hb]
      clear hl hrd hA;go_wp2_with (go_at_call 50;refine (HI.out _ (by repeat (first|with_reducible exact Q.refl _|with_reducible refine Q.alloc ?_ _))).mono ?_;rintro e9 w9 ⟨rfl,q9⟩;have Q9:Hid (Q wr w9):=hid (Q.trans (by repeat (first|with_reducible exact Q.refl _|with_reducible refine Q.alloc ?_ _)) q9);clear q9)
      go_roundw
      case rel=>exact ⟨i+1,by omega,by go_num,hid (hQ.out.trans Q9.out),HA2⟩
      case measure=>simp [intOf];omega
    ·have HA2:Hid (d=true):=by
      show _=_
      have:=hA.out
      rw [List.take_of_length_le (by omega)]at this
      rw [HR.out,this]
     clear hA;go_wp2_with fail
     go_ret
     exact ⟨ret_bool HA2.out.symm,hQ.out⟩
def scanL(l:List UInt8):Option (List Wd) × Nat:=if 1000<l.length then (none,0) else
 match scanF l 0 [] with
 |(some L,n)=>(some (L++[⟨7,[],l.length⟩]),0)
 |(none,n)=>(none,n)
theorem scanL_long{l:List UInt8}(h:1000<l.length):scanL l=(none,0):=by unfold scanL;rw [if_pos h]
theorem scanL_yes{l:List UInt8}{L:List Wd}{n:Nat}(h:¬ 1000<l.length)(e:scanF l 0 []=(some L,n)):scanL l=(some (L++[⟨7,[],l.length⟩]),0):=by unfold scanL;rw [if_neg h,e]
theorem scanL_no{l:List UInt8}{n:Nat}(h:¬ 1000<l.length)(e:scanF l 0 []=(none,n)):scanL l=(none,n):=by unfold scanL;rw [if_neg h,e]
def ScanRet(o:Option (List Wd) × Nat)(e:Ending)(W:World):Prop:=
 match o with
 |(some L,n)=>∃ v,e=.returned (.tuple #[v,.int .i64 0,.bool true])∧Sl wd 3 W v L
 |(none,n)=>e=.returned (.tuple #[.slice none 0 0,.int .i64 (n:Int),.bool false])
theorem ScanRet.no{o:Option (List Wd) × Nat}{n:Nat}{W:World}{k:Int}(h:o=(none,n))(hk:k=(n:Int)):ScanRet o (.returned (.tuple #[.slice none 0 0,.int .i64 k,.bool false])) W:=by
 subst h;subst hk
 rfl
theorem ScanRet.yes{o:Option (List Wd) × Nat}{L:List Wd}{W:World}{v:Value}(h:o=(some L,0))(hv:Sl wd 3 W v L):ScanRet o (.returned (.tuple #[v,.int .i64 0,.bool true])) W:=by
 subst h;exact ⟨v,rfl,hv⟩
theorem drop_head(s:ByteArray)(k:Nat)(h:k<s.size):s.data.toList.drop k≠[]:=by
 rw [drop_cons s k h];simp
structure Sw (W:World) (L:List Wd) (v:Value) (b off cap:Nat):Prop where
 ev:v=.slice (some ⟨b,off,none⟩) L.length cap
 le:L.length≤cap
 mx:cap≤maxLen
 k:∀ i (h:i<L.length),W.cell? ⟨b,off+i*3,none⟩=some (.int .i64 (L[i].k:Int))
 t:∀ i (h:i<L.length),W.cell? ⟨b,off+i*3+1,none⟩=some (.string ⟨L[i].t.toArray⟩)
 p:∀ i (h:i<L.length),W.cell? ⟨b,off+i*3+2,none⟩=some (.int .i64 (L[i].p:Int))
theorem sw_of{W:World}{v:Value}{L:List Wd}(h:Sl wd 3 W v L)(hl:0<L.length):∃ b off cap,Sw W L v b off cap:=by
 obtain ⟨ao,cap,hv,h1,h2,h⟩:=h;obtain ⟨b,off,rfl,hc⟩:=h hl;exact ⟨b,off,cap,hv,h1,h2,fun i hi=>hc i hi 0 _ rfl,fun i hi=>hc i hi 1 _ rfl,fun i hi=>hc i hi 2 _ rfl⟩
theorem ScanRet.some{L:List Wd}{n:Nat}{e:Ending}{W:World}(h:ScanRet (some L,n) e W):∃ v,e=.returned (.tuple #[v,.int .i64 0,.bool true])∧Sl wd 3 W v L:=h
theorem short_any(s:ByteArray)(n:Int)(w:World)(n0:0≤n)(n1:n≤2000) :
  Calls Tryz.prog 10 #[.string s,.int .i64 n] w fun e w'=>e=.returned (.string (if n<(s.size:Int) then s.extract 0 n.toNat else s))∧w'=w:=by
 by_cases h:n<(s.size:Int)
 ·have HE:=hid (if_pos h:(if n<(s.size:Int) then s.extract 0 n.toNat else s)=_)
  go_enter Tryz.func10,Tryz.ntmps10
  go_wp2
  go_ret
  exact ⟨ret_str rfl,rfl⟩
 ·have HE:=hid (if_neg h:(if n<(s.size:Int) then s.extract 0 n.toNat else s)=_)
  go_enter Tryz.func10,Tryz.ntmps10
  go_wp2
  go_ret
  exact ⟨ret_str rfl,rfl⟩
end Go.Proofs.YtoikodohcieipaaGreatDoor
