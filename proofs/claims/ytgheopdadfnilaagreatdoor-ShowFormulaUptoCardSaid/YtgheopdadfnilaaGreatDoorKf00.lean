/- Columns' letters, numbers, ids. -/
import Derived.Lib.IndexMore
import Derived.Lib.ItoaNum
import Derived.Lib.Strings
import Derived.Shelf.Strings.Builder1
import Derived.Shelf.Small.Wraps
import Derived.Shelf.Strconv.Itoa0
import Derived.Shelf.Strconv.Itoa1
import Derived.Shelf.LaysM
import Derived.Shelf.Strconv.Clone
import Derived.Shelf.Strings.Search1
import Derived.Shelf.Strings.Search2
import Derived.Shelf.Strings.Cut
import Derived.Shelf.Strings.Shaped
import Derived.Shelf.Strings.Prefix
import Derived.Test.YtgheopdadfnilaaGreatDoorProg
import Derived.Test.YtgheopdadfnilaaGreatDoorRows
import Derived.Shelf.Unicode.DecodeSlow
import Derived.WalkKit
import Derived.WalkSpells
import Derived.WalkLawsBesides
import Derived.Lib.TrimByte
import Derived.Handy
import Derived.Shelf.Unicode.ValidAny
set_option linter.unusedVariables false
set_option linter.unusedSimpArgs false
set_option maxRecDepth 100000
set_option maxHeartbeats 8000000
namespace Go.Proofs.YtgheopdadfnilaaGreatDoor
open Go
def let1(c:UInt8):Bool:=decide (65≤c.toNat∧c.toNat≤90)
def allL(l:List UInt8):Bool:=l.all let1
def colV(l:List UInt8):Nat:=l.foldl (fun n c=>n*26+(c.toNat-65)+1) 0
def lead(l:List UInt8):Nat:=(l.takeWhile let1).length
def colF(l:List UInt8):Bool:=!l.isEmpty&&decide (l.length≤9)&&allL l&&decide (colV l≤2199023255552)
def colK(l:List UInt8):Int:=if colF l then (colV l:Int)-1 else 0
def dig(c:UInt8):Bool:=decide (48≤c.toNat∧c.toNat≤57)
def allD(l:List UInt8):Bool:=l.all dig
def val(l:List UInt8):Nat:=l.foldl (fun n c=>n*10+(c.toNat-48)) 0
def numF(l:List UInt8)(most:Nat):Bool:=!l.isEmpty&&!(l.headD 0 == 48&&decide (1<l.length))&&allD l&&decide (val l≤most)
def numK(l:List UInt8)(most:Nat):Int:=if numF l most then (val l:Int) else 0
def numR(l:List UInt8)(most:Nat):Int:=if numF l most then (val l:Int) else -1
def ownP(p:List UInt8 × List UInt8 × Bool):Int:=if p.2.2&&numF p.1 15&&numF p.2.1 999999 then (val p.1:Int) else -1
def ownK(l:List UInt8):Int:=if Lib.hasPrefix l [99] then ownP (Lib.cut (Lib.trimPrefix l [99]) [110]) else -1
def shP(p:List UInt8 × List UInt8 × Bool)(l:List UInt8):List UInt8:=if p.2.2 then p.2.1 else l
def refF (l : List UInt8) : Bool :=
  (!(Lib.cut l [33]).2.2 || decide (0 ≤ ownK (Lib.cut l [33]).1)) &&
  (colF ((Lib.trimPrefix (shP (Lib.cut l [33]) l) [36]).takeWhile let1) &&
   (numF (Lib.trimPrefix ((Lib.trimPrefix (shP (Lib.cut l [33]) l) [36]).dropWhile let1) [36]) 2199023255552 &&
    decide (val (Lib.trimPrefix ((Lib.trimPrefix (shP (Lib.cut l [33]) l) [36]).dropWhile let1) [36]) ≠ 0)))
theorem val_app(l m:List UInt8):val (l++m)=val l*10 ^ m.length+val m:=by
 have h:∀ (m:List UInt8) (n:Nat),m.foldl (fun n c=>n*10+(c.toNat-48)) n=n*10 ^ m.length+val m:=by
  intro m
  induction m with
  |nil=>intro n;simp [val]
  |cons c m ih=>
   intro n
   have e:val (c::m)=m.foldl (fun n c=>n*10+(c.toNat-48)) (0*10+(c.toNat-48)):=rfl
   rw [e,List.foldl_cons,ih,ih,List.length_cons,Nat.pow_succ,Nat.add_mul,Nat.add_mul];rw [Nat.mul_assoc n,Nat.mul_comm 10];omega
 have e:val (l++m)=m.foldl (fun n c=>n*10+(c.toNat-48)) (val l):=by unfold val;rw [List.foldl_append]
 rw [e,h]
theorem val_one(c:UInt8):val [c]=c.toNat-48:=by simp [val]
theorem val_snoc(l:List UInt8)(c:UInt8):val (l++[c])=val l*10+(c.toNat-48):=by unfold val;rw [List.foldl_append];rfl
theorem val_ge(l m:List UInt8):val l≤val (l++m):=by
 rw [val_app];have h:1≤10 ^ m.length:=Nat.pow_pos (by omega)
 have:=Nat.mul_le_mul_left (val l) h
 omega
theorem colV_snoc(l:List UInt8)(c:UInt8):colV (l++[c])=colV l*26+(c.toNat-65)+1:=by unfold colV;rw [List.foldl_append];rfl
theorem allD_app(a b:List UInt8):allD (a++b)=(allD a&&allD b):=by unfold allD;rw [List.all_append]
theorem allL_app(a b:List UInt8):allL (a++b)=(allL a&&allL b):=by unfold allL;rw [List.all_append]
theorem allD_mem{a:List UInt8}(h:allD a=true){c:UInt8}(hc:c∈a):48≤c.toNat∧c.toNat≤57:=by
 unfold allD at h
 rw [List.all_eq_true]at h;have:=h c hc
 unfold dig at this
 simpa using this
theorem allL_mem{a:List UInt8}(h:allL a=true){c:UInt8}(hc:c∈a):65≤c.toNat∧c.toNat≤90:=by
 unfold allL at h
 rw [List.all_eq_true]at h;have:=h c hc
 unfold let1 at this
 simpa using this
theorem rev_ind{P:List UInt8→Prop}(h0:P [])(h1:∀ l c,P l→P (l++[c]))(l:List UInt8):P l:=by
 have h:∀ m:List UInt8,P m.reverse:=by
  intro m
  induction m with
  |nil=>exact h0
  |cons c m ih=>rw [List.reverse_cons];exact h1 _ _ ih
 have:=h l.reverse
 rwa [List.reverse_reverse]at this
theorem colV_lt(l:List UInt8)(h:allL l=true):colV l+1≤27 ^ l.length:=by
 revert h
 refine rev_ind (P:=fun l=>allL l=true→colV l+1≤27 ^ l.length) (fun _=>by simp [colV]) ?_ l
 ·intro l c ih h
  rw [allL_app,Bool.and_eq_true]at h;have h1:=ih h.1;have h2:=allL_mem h.2 (c:=c) (by simp)
  rw [colV_snoc,List.length_append,List.length_singleton,Nat.pow_succ];omega
theorem colV_nine(l:List UInt8)(h:allL l=true)(h9:l.length≤9):colV l+1≤7625597484987:=by
 have h1:=colV_lt l h;have h2:27 ^ l.length≤27 ^ 9:=Nat.pow_le_pow_right (by omega) h9
 have h3:(27:Nat) ^ 9=7625597484987:=by decide
 omega
theorem allL_iff_lead(l:List UInt8):allL l=decide (l.length≤lead l):=by
 unfold lead
 induction l with
 |nil=>rfl
 |cons c l ih=>
  unfold allL at *
  rw [List.all_cons,List.takeWhile_cons];cases hc:let1 c
  ·simp
  ·simp only [Bool.true_and,if_true,List.length_cons]
   rw [ih];simp
theorem lead_le(l:List UInt8):lead l≤l.length:=by
 unfold lead
 exact (List.takeWhile_sublist _).length_le
theorem take_lead(l:List UInt8):l.take (lead l)=l.takeWhile let1:=by
 unfold lead
 induction l with
 |nil=>rfl
 |cons c l ih=>
  rw [List.takeWhile_cons]
  split
  ·rw [List.length_cons,List.take_succ_cons,ih]
  ·rfl
theorem drop_lead(l:List UInt8):l.drop (lead l)=l.dropWhile let1:=by
 unfold lead
 induction l with
 |nil=>rfl
 |cons c l ih=>
  rw [List.takeWhile_cons,List.dropWhile_cons]
  split
  ·rw [List.length_cons,List.drop_succ_cons,ih]
  ·rfl
theorem lead_at(a r:List UInt8)(c:UInt8)(ha:allL a=true)(hc:let1 c=false):lead (a++c::r)=a.length:=by
 unfold lead
 induction a with
 |nil=>rw [List.nil_append,List.takeWhile_cons,hc];rfl
 |cons d a ih=>
  unfold allL at *
  rw [List.all_cons,Bool.and_eq_true]at ha;rw [List.cons_append,List.takeWhile_cons,ha.1];simp only [if_true,List.length_cons]
  rw [ih ha.2]
theorem lead_all(a:List UInt8)(ha:allL a=true):lead a=a.length:=by
 have h1:=allL_iff_lead a;have h2:=lead_le a;rw [ha]at h1;have:=of_decide_eq_true h1.symm
 omega
theorem cut_at(x:UInt8)(a b:List UInt8)(h:x ∉ a):Lib.cut (a++x::b) [x]=(a,b,true):=by
 have hi:Lib.index (a++x::b) [x]=(a.length:Int):=by
  refine Lib.index_first (by simp) ?_ ?_
  ·unfold Lib.occAt
   rw [List.drop_left];simp
  ·intro j hj
   unfold Lib.occAt
   rw [List.drop_append_of_le_length (by omega),List.drop_eq_getElem_cons hj]
   simp only [List.cons_append,List.isPrefixOf_cons_cons,List.isPrefixOf_nil_left,Bool.and_true,beq_eq_false_iff_ne]
   intro e
   exact h (e ▸ List.getElem_mem hj)
 unfold Lib.cut
 rw [hi,if_pos (by omega)]
 simp
theorem cut_free(x:UInt8)(a:List UInt8)(h:x ∉ a):Lib.cut a [x]=(a,[],false):=by
 have hi:Lib.index a [x]=-1:=by
  refine Lib.index_none ?_
  intro j hj
  unfold Lib.occAt
  by_cases hl:j<a.length
  ·rw [List.drop_eq_getElem_cons hl]
   simp only [List.isPrefixOf_cons_cons,List.isPrefixOf_nil_left,Bool.and_true,beq_eq_false_iff_ne]
   intro e
   exact h (e ▸ List.getElem_mem hl)
  ·rw [List.drop_of_length_le (by omega)]
   rfl
 unfold Lib.cut
 rw [hi,if_neg (by omega)]
theorem cut_any(x:UInt8)(t:List UInt8):(∃ a b,t=a++x::b∧x ∉ a)∨x ∉ t:=by
 induction t with
 |nil=>exact .inr (by simp)
 |cons c t ih=>
  by_cases hc:c=x
  ·subst hc;exact .inl ⟨[],t,rfl,by simp⟩
  ·rcases ih with ⟨a,b,rfl,h⟩|h
   ·exact .inl ⟨c::a,b,rfl,by simp [h,Ne.symm hc]⟩
   ·exact .inr (by simp [h,Ne.symm hc])
theorem cut_le(x:UInt8)(t:List UInt8):(Lib.cut t [x]).1.length+(Lib.cut t [x]).2.1.length≤t.length:=by
 unfold Lib.cut
 split
 ·simp only [List.length_take,List.length_drop,List.length_cons,List.length_nil]
  omega
 ·simp
theorem val_big(c:UInt8)(l:List UInt8)(hc:49≤c.toNat):10 ^ l.length≤val (c::l):=by
 have e:val (c::l)=val [c]*10 ^ l.length+val l:=val_app [c] l
 rw [e,val_one];have:=Nat.mul_le_mul_right (10 ^ l.length) (show 1≤c.toNat-48 by omega)
 omega
theorem numF_long(l:List UInt8)(most:Nat)(h:15<l.length)(hm:most<1000000000000000):numF l most=false:=by
 match l with
 |[]=>simp at h
 |c::l=>
  unfold numF
  cases hd:allD (c::l)
  ·simp
  ·by_cases hc:c=48
   ·subst hc
    have:1<((48:UInt8)::l).length:=by omega
    have h2:decide (1<((48:UInt8)::l).length)=true:=decide_eq_true this
    rw [h2];simp
   ·have h1:=allD_mem hd (c:=c) (by simp)
    have h2:c.toNat≠48:=fun e=>hc (UInt8.toNat_inj.1 e)
    have h3:=val_big c l (by omega)
    rw [List.length_cons]at h;have h4:10 ^ 15≤10 ^ l.length:=Nat.pow_le_pow_right (by omega) (by omega)
    have h5:decide (val (c::l)≤most)=false:=decide_eq_false (by omega)
    rw [h5];simp
theorem dec_all(u:Nat):allD (Lib.decDigits u)=true:=by
 induction u using Nat.strongRecOn with
 |_ u ih=>
  have h1:∀ v:Nat,allD [UInt8.ofNat (48+v % 10)]=true:=fun v=>by
   have:(UInt8.ofNat (48+v % 10)).toNat=(48+v % 10) % 256:=UInt8.toNat_ofNat'
   unfold allD dig
   simp only [List.all_cons,List.all_nil,Bool.and_true,decide_eq_true_eq,this]
   omega
  by_cases h:u<10
  ·rw [Lib.decDigits_one h]
   have:=h1 u
   rw [Nat.mod_eq_of_lt h]at this;exact this
  ·rw [Lib.decDigits,dif_neg h,allD_app,ih (u / 10) (by omega),h1];rfl
theorem dec_val(u:Nat):val (Lib.decDigits u)=u:=by
 induction u using Nat.strongRecOn with
 |_ u ih=>
  have h1:∀ v:Nat,val [UInt8.ofNat (48+v % 10)]=v % 10:=fun v=>by
   have:(UInt8.ofNat (48+v % 10)).toNat=(48+v % 10) % 256:=UInt8.toNat_ofNat'
   rw [val_one,this];omega
  by_cases h:u<10
  ·rw [Lib.decDigits_one h]
   have:=h1 u
   rw [Nat.mod_eq_of_lt h]at this;exact this
  ·rw [Lib.decDigits,dif_neg h,val_app,ih (u / 10) (by omega),h1]
   simp only [List.length_cons,List.length_nil]
   omega
theorem dec_ne(u:Nat):Lib.decDigits u≠[]:=fun h=>by
 have:=congrArg List.length h
 rw [Lib.decDigits_length]at this;have:=Lib.nDigits_pos u
 simp at *
 omega
theorem headD_app{a:List UInt8}(b:List UInt8)(h:a≠[]):(a++b).headD 0=a.headD 0:=by
 cases a;exact absurd rfl h;rfl
theorem dec_head(u:Nat)(h0:0<u):(Lib.decDigits u).headD 0≠48:=by
 induction u using Nat.strongRecOn with
 |_ u ih=>
  by_cases h:u<10
  ·rw [Lib.decDigits_one h]
   intro e
   have e2:=congrArg UInt8.toNat (show UInt8.ofNat (48+u)=48 from e)
   have:(UInt8.ofNat (48+u)).toNat=(48+u) % 256:=UInt8.toNat_ofNat'
   rw [this]at e2;have:(48:UInt8).toNat=48:=rfl
   omega
  ·rw [Lib.decDigits,dif_neg h,headD_app _ (dec_ne _)]
   exact ih (u / 10) (by omega) (by omega)
theorem dec_numF(u most:Nat)(h0:0<u)(h:u≤most):numF (Lib.decDigits u) most=true:=by
 unfold numF
 have h1:=dec_head u h0;have h2:=dec_ne u;have h3:(Lib.decDigits u).isEmpty=false:=by cases hh:Lib.decDigits u;exact absurd hh h2;rfl
 have h4:((Lib.decDigits u).headD 0 == 48)=false:=beq_eq_false_iff_ne.2 h1
 rw [dec_all,dec_val,h3,h4];simp [h]
def nmL:Nat→List UInt8
 |0=>[]
 |n+1=>nmL (n / 26)++[UInt8.ofNat (65+n % 26)]
theorem nm_byte(n:Nat):(UInt8.ofNat (65+n % 26)).toNat=65+n % 26:=by
 have:(UInt8.ofNat (65+n % 26)).toNat=(65+n % 26) % 256:=UInt8.toNat_ofNat'
 omega
theorem nm_succ(n:Nat):nmL (n+1)=nmL (n / 26)++[UInt8.ofNat (65+n % 26)]:=by rw [nmL]
theorem nm_all(n:Nat):allL (nmL n)=true:=by
 induction n using Nat.strongRecOn with
 |_ n ih=>
  match n with
  |0=>rw [nmL];rfl
  |n+1=>
   rw [nm_succ,allL_app,ih (n / 26) (by omega)]
   unfold allL let1
   simp only [List.all_cons,List.all_nil,nm_byte]
   simp
   omega
theorem nm_val(n:Nat):colV (nmL n)=n:=by
 induction n using Nat.strongRecOn with
 |_ n ih=>
  match n with
  |0=>rw [nmL];rfl
  |n+1=>
   rw [nm_succ,colV_snoc,ih (n / 26) (by omega),nm_byte]
   omega
theorem nm_ne(n:Nat)(h:0<n):nmL n≠[]:=by
 obtain ⟨m,rfl⟩:∃ m,n=m+1:=⟨n-1,by omega⟩
 rw [nm_succ];simp
theorem nm_len(k:Nat):∀ n:Nat,n<26 ^ k→(nmL n).length≤k:=by
 induction k with
 |zero=>intro n h;obtain rfl:n=0:=(by rw [Nat.pow_zero]at h;omega);rw [nmL];simp
 |succ k ih=>
  intro n h
  match n with
  |0=>rw [nmL];simp
  |n+1=>
   rw [nm_succ,List.length_append,List.length_singleton];have:(nmL (n / 26)).length≤k:=ih _ (by rw [Nat.pow_succ]at h;omega)
   omega
theorem nm_nine (n : Nat) (h : n ≤ 2199023255552) : (nmL n).length ≤ 9 :=
  nm_len 9 n (by have : (26 : Nat) ^ 9 = 5429503678976 := by decide
                 omega)
theorem nm_colF(n:Nat)(h0:0<n)(h:n≤2199023255552):colF (nmL n)=true:=by
 unfold colF
 have h2:=nm_ne n h0;have h3:(nmL n).isEmpty=false:=by cases hh:nmL n;exact absurd hh h2;rfl
 rw [nm_all,nm_val,h3];simp [h,nm_nine n h]
end Go.Proofs.YtgheopdadfnilaaGreatDoor
namespace Go.Proofs
open Go.Shelf
def Tryz.lays169_ren:Go.Shelf.Ren:=⟨fun|169=>29|n=>n,fun|70=>51|9=>9|0=>0|72=>54|37=>52|127=>95|3=>3|5=>5|n=>n,fun|n=>n⟩
theorem Tryz.lays169:Go.Proofs.Lays.n169 Tryz.prog Tryz.lays169_ren:={
 mixed:=by kernel_rfl
 f169:=Tryz.func29.trans (congrArg some (by kernel_rfl))
 t0:=Tryz.underlying0
 a0:=Tryz.isAgg0
 z0:=Tryz.sizeOf0
 v0:=Tryz.zeroValue0
 t3:=Tryz.underlying3
 a3:=Tryz.isAgg3
 z3:=Tryz.sizeOf3
 v3:=Tryz.zeroValue3
 t9:=Tryz.underlying9
 a9:=Tryz.isAgg9
 z9:=Tryz.sizeOf9
 v9:=Tryz.zeroValue9
 t37:=Tryz.underlying52
 a37:=Tryz.isAgg52
 z37:=Tryz.sizeOf52
 v37:=Tryz.zeroValue52
 t70:=Tryz.underlying51
 a70:=Tryz.isAgg51
 z70:=Tryz.sizeOf51
 v70:=Tryz.zeroValue51
 t72:=Tryz.underlying54
 a72:=Tryz.isAgg54
 z72:=Tryz.sizeOf54
 v72:=Tryz.zeroValue54
 t127:=Tryz.underlying95
 a127:=Tryz.isAgg95
 z127:=Tryz.sizeOf95
 v127:=Tryz.zeroValue95 }
theorem Tryz.Builder_Extra_169:Builder.Extra Tryz.prog Tryz.lays169_ren:={
 sizeBuilder:=by kernel_rfl
 liesBuilder:=by kernel_rfl
 t5:=Tryz.underlying5
 a5:=Tryz.isAgg5
 z5:=Tryz.sizeOf5
 v5:=Tryz.zeroValue5
 infoByte:=by kernel_rfl
 cellsByte:=by kernel_rfl
 sizeByte:=by kernel_rfl
 neB5:=by decide }
open Go.RowKit in
theorem Tryz.Builder_String_any(B b:Nat)(l:List UInt8)(w:World)(h:Lib.IsBuilder 54 5 B b (Lib.byteCells l) w)(hBw:B≤w.heap.size) :
  Calls Tryz.prog 29 #[.pointer (some ⟨b,0,none⟩)] w fun e w'=>e=.returned (.string ⟨l.toArray⟩)∧Below B w w':=Any.Builder_String_any Tryz.lays169 Tryz.Builder_Extra_169 B b l w h hBw
def Tryz.lays210_ren:Go.Shelf.Ren:=⟨fun|210=>75|206=>106|n=>n,fun|9=>9|4=>4|3=>3|n=>n,fun|n=>n⟩
def Tryz.lays103_ren:Go.Shelf.Ren:=⟨fun|103=>40|210=>75|206=>106|n=>n,fun|9=>9|4=>4|24=>76|3=>3|n=>n,fun|n=>n⟩
theorem Tryz.lays103:Go.Proofs.Lays.n103 Tryz.prog Tryz.lays103_ren:={
 mixed:=by kernel_rfl
 f103:=Tryz.func40.trans (congrArg some (by kernel_rfl))
 f206:=Tryz.func106.trans (congrArg some (by kernel_rfl))
 f210:=Tryz.func75.trans (congrArg some (by kernel_rfl))
 t3:=Tryz.underlying3
 a3:=Tryz.isAgg3
 z3:=Tryz.sizeOf3
 v3:=Tryz.zeroValue3
 t4:=Tryz.underlying4
 a4:=Tryz.isAgg4
 z4:=Tryz.sizeOf4
 v4:=Tryz.zeroValue4
 t9:=Tryz.underlying9
 a9:=Tryz.isAgg9
 z9:=Tryz.sizeOf9
 v9:=Tryz.zeroValue9
 t24:=Tryz.underlying76
 a24:=Tryz.isAgg76
 z24:=Tryz.sizeOf76
 v24:=Tryz.zeroValue76 }
open Go.RowKit in
theorem Tryz.strings_CutPrefix(s p:ByteArray)(w:World) :
  Calls Tryz.prog 40 #[.string s,.string p] w fun e w'=>e=.returned (.tuple #[.string ⟨(Lib.trimPrefix s.data.toList p.data.toList).toArray⟩,.bool (Lib.hasPrefix s.data.toList p.data.toList)])∧w'=w:=Any.strings_CutPrefix Tryz.lays103 s p w
def Tryz.lays283_ren:Go.Shelf.Ren:=⟨fun|283=>157|n=>n,fun|3=>3|9=>9|4=>4|n=>n,fun|n=>n⟩
theorem Tryz.lays283:Go.Proofs.Lays.n283 Tryz.prog Tryz.lays283_ren:={
 mixed:=by kernel_rfl
 f283:=Tryz.func157.trans (congrArg some (by kernel_rfl))
 t3:=Tryz.underlying3
 a3:=Tryz.isAgg3
 z3:=Tryz.sizeOf3
 v3:=Tryz.zeroValue3
 t4:=Tryz.underlying4
 a4:=Tryz.isAgg4
 z4:=Tryz.sizeOf4
 v4:=Tryz.zeroValue4
 t9:=Tryz.underlying9
 a9:=Tryz.isAgg9
 z9:=Tryz.sizeOf9
 v9:=Tryz.zeroValue9 }
open Go.Lib in
theorem Tryz.internal_strconv_small(i:Nat)(h:i<100)(w:World) :
  Calls Tryz.prog 157 #[.int .i64 i] w fun e w'=>e=.returned (.string ⟨(Lib.decDigits i).toArray⟩)∧w'=w:=Any.internal_strconv_small Tryz.lays283 i h w
def Tryz.laysM284_ren:Go.Shelf.Ren:=⟨fun|284=>158|129=>176|317=>175|318=>177|n=>n,fun|53=>98|3=>3|212=>188|0=>0|4=>4|46=>151|5=>5|9=>9|n=>n,fun|17=>4|n=>n⟩
theorem Tryz.laysM284:Go.Proofs.LaysM.n284 Tryz.prog Tryz.laysM284_ren:={
 mixed:=by kernel_rfl
 f129:=Tryz.func176.trans (congrArg some (by kernel_rfl))
 f284:=Tryz.func158.trans (congrArg some (by kernel_rfl))
 f317:=Tryz.func175.trans (congrArg some (by kernel_rfl))
 f318:=Tryz.func177.trans (congrArg some (by kernel_rfl))
 t0:=Tryz.underlying0
 a0:=Tryz.isAgg0
 z0:=Tryz.sizeOf0
 v0:=Tryz.zeroValue0
 t3:=Tryz.underlying3
 a3:=Tryz.isAgg3
 z3:=Tryz.sizeOf3
 v3:=Tryz.zeroValue3
 t4:=Tryz.underlying4
 a4:=Tryz.isAgg4
 z4:=Tryz.sizeOf4
 v4:=Tryz.zeroValue4
 t5:=Tryz.underlying5
 a5:=Tryz.isAgg5
 z5:=Tryz.sizeOf5
 v5:=Tryz.zeroValue5
 t9:=Tryz.underlying9
 a9:=Tryz.isAgg9
 z9:=Tryz.sizeOf9
 v9:=Tryz.zeroValue9
 t46:=Tryz.underlying151
 a46:=Tryz.isAgg151
 z46:=Tryz.sizeOf151
 v46:=Tryz.zeroValue151
 t53:=Tryz.underlying98
 a53:=Tryz.isAgg98
 z53:=Tryz.sizeOf98
 v53:=Tryz.zeroValue98
 t212:=Tryz.underlying188
 a212:=Tryz.isAgg188
 z212:=Tryz.sizeOf188
 v212:=Tryz.zeroValue188
 g17:=by kernel_rfl
 i0:=by kernel_rfl
 i3:=by kernel_rfl
 i4:=by kernel_rfl
 i5:=by kernel_rfl
 i9:=by kernel_rfl
 i46:=by kernel_rfl
 i53:=by kernel_rfl
 i212:=by kernel_rfl
 m17:=by kernel_rfl }
open Go.Lib in
theorem Tryz.internal_strconv_numDigits(u:Nat)(h1:1≤u)(h2:u<18446744073709551616)(w:World)(htab:Lib.TabIs Tryz.prog w "internal/strconv.uint64pow10" .u64 Lib.pow10Tab) :
  Calls Tryz.prog 158 #[.int .u64 u] w fun e w'=>e=.returned (.int .i64 (Lib.nDigits u))∧w'=w:=Any.internal_strconv_numDigits Tryz.laysM284 u h1 h2 w htab
def Tryz.laysM316_ren:Go.Shelf.Ren:=⟨fun|316=>119|n=>n,fun|9=>9|3=>3|4=>4|37=>52|0=>0|127=>95|5=>5|n=>n,fun|n=>n⟩
theorem Tryz.laysM316:Go.Proofs.LaysM.n316 Tryz.prog Tryz.laysM316_ren:={
 mixed:=by kernel_rfl
 f316:=Tryz.func119.trans (congrArg some (by kernel_rfl))
 t0:=Tryz.underlying0
 a0:=Tryz.isAgg0
 z0:=Tryz.sizeOf0
 v0:=Tryz.zeroValue0
 t3:=Tryz.underlying3
 a3:=Tryz.isAgg3
 z3:=Tryz.sizeOf3
 v3:=Tryz.zeroValue3
 t4:=Tryz.underlying4
 a4:=Tryz.isAgg4
 z4:=Tryz.sizeOf4
 v4:=Tryz.zeroValue4
 t9:=Tryz.underlying9
 a9:=Tryz.isAgg9
 z9:=Tryz.sizeOf9
 v9:=Tryz.zeroValue9
 t37:=Tryz.underlying52
 a37:=Tryz.isAgg52
 z37:=Tryz.sizeOf52
 v37:=Tryz.zeroValue52
 t127:=Tryz.underlying95
 a127:=Tryz.isAgg95
 z127:=Tryz.sizeOf95
 v127:=Tryz.zeroValue95
 t5:=Tryz.underlying5
 a5:=Tryz.isAgg5
 z5:=Tryz.sizeOf5
 v5:=Tryz.zeroValue5
 i0:=by kernel_rfl
 i3:=by kernel_rfl
 i4:=by kernel_rfl
 i5:=by kernel_rfl
 i9:=by kernel_rfl
 i37:=by kernel_rfl
 i127:=by kernel_rfl }
open Go.RowKit in
theorem Tryz.stringslite_Clone(s:ByteArray)(w:World)(hlim:s.size≤281474976710656) :
  Calls Tryz.prog 119 #[.string s] w fun e w'=>e=.returned (.string s)∧Below w.heap.size w w':=Any.stringslite_Clone Tryz.laysM316 s w hlim
def Tryz.lays219_ren:Go.Shelf.Ren:=⟨fun|219=>154|217=>171|225=>172|224=>173|267=>174|266=>192|314=>193|n=>n,fun|9=>9|3=>3|4=>4|5=>5|46=>151|146=>205|51=>189|n=>n,fun|1=>3|n=>n⟩
def Tryz.lays145_ren:Go.Shelf.Ren:=⟨fun|145=>110|220=>144|219=>154|217=>171|225=>172|224=>173|267=>174|266=>192|314=>193|n=>n,fun|9=>9|4=>4|59=>143|3=>3|5=>5|46=>151|146=>205|51=>189|n=>n,fun|1=>3|n=>n⟩
theorem Tryz.lays145:Go.Proofs.Lays.n145 Tryz.prog Tryz.lays145_ren:={
 mixed:=by kernel_rfl
 f145:=Tryz.func110.trans (congrArg some (by kernel_rfl))
 f217:=Tryz.func171.trans (congrArg some (by kernel_rfl))
 f219:=Tryz.func154.trans (congrArg some (by kernel_rfl))
 f220:=Tryz.func144.trans (congrArg some (by kernel_rfl))
 f224:=Tryz.func173.trans (congrArg some (by kernel_rfl))
 f225:=Tryz.func172.trans (congrArg some (by kernel_rfl))
 f266:=Tryz.func192.trans (congrArg some (by kernel_rfl))
 f267:=Tryz.func174.trans (congrArg some (by kernel_rfl))
 f314:=Tryz.func193.trans (congrArg some (by kernel_rfl))
 t3:=Tryz.underlying3
 a3:=Tryz.isAgg3
 z3:=Tryz.sizeOf3
 v3:=Tryz.zeroValue3
 t4:=Tryz.underlying4
 a4:=Tryz.isAgg4
 z4:=Tryz.sizeOf4
 v4:=Tryz.zeroValue4
 t5:=Tryz.underlying5
 a5:=Tryz.isAgg5
 z5:=Tryz.sizeOf5
 v5:=Tryz.zeroValue5
 t9:=Tryz.underlying9
 a9:=Tryz.isAgg9
 z9:=Tryz.sizeOf9
 v9:=Tryz.zeroValue9
 t46:=Tryz.underlying151
 a46:=Tryz.isAgg151
 z46:=Tryz.sizeOf151
 v46:=Tryz.zeroValue151
 t51:=Tryz.underlying189
 a51:=Tryz.isAgg189
 z51:=Tryz.sizeOf189
 v51:=Tryz.zeroValue189
 t59:=Tryz.underlying143
 a59:=Tryz.isAgg143
 z59:=Tryz.sizeOf143
 v59:=Tryz.zeroValue143
 t146:=Tryz.underlying205
 a146:=Tryz.isAgg205
 z146:=Tryz.sizeOf205
 v146:=Tryz.zeroValue205
 g1:=by kernel_rfl }
open Go.RowKit Go.Lib in
theorem Tryz.strings_Cut(s sep:ByteArray)(m:Int)(w:World)(hs:s.size<4294967281)(hm:w.cell? ⟨3,0,none⟩=some (.int .i64 m)) :
  Calls Tryz.prog 110 #[.string s,.string sep] w fun e w'=>e=.returned (.tuple #[.string ⟨(Lib.cut s.data.toList sep.data.toList).1.toArray⟩,.string ⟨(Lib.cut s.data.toList sep.data.toList).2.1.toArray⟩,.bool (Lib.cut s.data.toList sep.data.toList).2.2])∧∃ n,w'=w.drewN n:=Any.strings_Cut Tryz.lays145 s sep m w hs hm
def Tryz.laysM145_ren:Go.Shelf.Ren:=⟨fun|145=>110|220=>144|219=>154|217=>171|225=>172|224=>173|267=>174|266=>192|314=>193|n=>n,fun|9=>9|4=>4|59=>143|3=>3|5=>5|46=>151|146=>205|51=>189|n=>n,fun|1=>3|n=>n⟩
theorem Tryz.laysM145:Go.Proofs.LaysM.n145 Tryz.prog Tryz.laysM145_ren:={
 mixed:=by kernel_rfl
 f145:=Tryz.func110.trans (congrArg some (by kernel_rfl))
 f217:=Tryz.func171.trans (congrArg some (by kernel_rfl))
 f219:=Tryz.func154.trans (congrArg some (by kernel_rfl))
 f220:=Tryz.func144.trans (congrArg some (by kernel_rfl))
 f224:=Tryz.func173.trans (congrArg some (by kernel_rfl))
 f225:=Tryz.func172.trans (congrArg some (by kernel_rfl))
 f266:=Tryz.func192.trans (congrArg some (by kernel_rfl))
 f267:=Tryz.func174.trans (congrArg some (by kernel_rfl))
 f314:=Tryz.func193.trans (congrArg some (by kernel_rfl))
 t3:=Tryz.underlying3
 a3:=Tryz.isAgg3
 z3:=Tryz.sizeOf3
 v3:=Tryz.zeroValue3
 t4:=Tryz.underlying4
 a4:=Tryz.isAgg4
 z4:=Tryz.sizeOf4
 v4:=Tryz.zeroValue4
 t5:=Tryz.underlying5
 a5:=Tryz.isAgg5
 z5:=Tryz.sizeOf5
 v5:=Tryz.zeroValue5
 t9:=Tryz.underlying9
 a9:=Tryz.isAgg9
 z9:=Tryz.sizeOf9
 v9:=Tryz.zeroValue9
 t46:=Tryz.underlying151
 a46:=Tryz.isAgg151
 z46:=Tryz.sizeOf151
 v46:=Tryz.zeroValue151
 t51:=Tryz.underlying189
 a51:=Tryz.isAgg189
 z51:=Tryz.sizeOf189
 v51:=Tryz.zeroValue189
 t59:=Tryz.underlying143
 a59:=Tryz.isAgg143
 z59:=Tryz.sizeOf143
 v59:=Tryz.zeroValue143
 t146:=Tryz.underlying205
 a146:=Tryz.isAgg205
 z146:=Tryz.sizeOf205
 v146:=Tryz.zeroValue205
 g1:=by kernel_rfl
 i3:=by kernel_rfl
 i4:=by kernel_rfl
 i5:=by kernel_rfl
 i9:=by kernel_rfl
 i46:=by kernel_rfl
 i51:=by kernel_rfl
 i59:=by kernel_rfl
 i146:=by kernel_rfl
 m1:=by kernel_rfl
 s1_3:=fun w h=>Go.Proofs.cell_of_shapedOpen_int (zero:=#[.int .i64 0]) (t:=3) h (of_decide_eq_true (by kernel_rfl)) (by kernel_rfl) rfl (by kernel_rfl) (by kernel_rfl) Tryz.underlying3 }
def Tryz.lays99_ren:Go.Shelf.Ren:=⟨fun|99=>180|206=>106|n=>n,fun|9=>9|4=>4|3=>3|n=>n,fun|n=>n⟩
theorem Tryz.lays99:Go.Proofs.Lays.n99 Tryz.prog Tryz.lays99_ren:={
 mixed:=by kernel_rfl
 f99:=Tryz.func180.trans (congrArg some (by kernel_rfl))
 f206:=Tryz.func106.trans (congrArg some (by kernel_rfl))
 t3:=Tryz.underlying3
 a3:=Tryz.isAgg3
 z3:=Tryz.sizeOf3
 v3:=Tryz.zeroValue3
 t4:=Tryz.underlying4
 a4:=Tryz.isAgg4
 z4:=Tryz.sizeOf4
 v4:=Tryz.zeroValue4
 t9:=Tryz.underlying9
 a9:=Tryz.isAgg9
 z9:=Tryz.sizeOf9
 v9:=Tryz.zeroValue9 }
open Go.RowKit Go.Lib in
theorem Tryz.strings_HasPrefix(s p:ByteArray)(w:World) :
  Calls Tryz.prog 180 #[.string s,.string p] w fun e w'=>e=.returned (.bool (Lib.hasPrefix s.data.toList p.data.toList))∧w'=w:=Any.strings_HasPrefix Tryz.lays99 s p w
end Go.Proofs
namespace Go.Proofs.YtgheopdadfnilaaGreatDoor
open Go.RowKit
theorem hid{p:Prop}(h:p):Hid p:=h
def Q(w w':World):Prop:=Below w.heap.size w w'
theorem Q.refl(w:World):Q w w:=Below.refl _ _
theorem Q.trans{a b c:World}(h:Q a b)(k:Q b c):Q a c:=Below.trans h (Below.mono k h.size)
theorem Q.drew{a w:World}(h:Q a w):Q a w.drew:=Below.drew h
theorem Q.drewN{a w:World}(h:Q a w)(n:Nat):Q a (w.drewN n):=below_drewN h n
theorem Q.alloc{a w:World}(h:Q a w)(o:Obj):Q a (w.alloc o):=Below.alloc h h.size o
theorem Q.cell{a w:World}(h:Q a w){b o:Nat}(hb:b<a.heap.size):w.cell? ⟨b,o,none⟩=a.cell? ⟨b,o,none⟩:=Below.cell h hb
theorem Q.lt{a w:World}(h:Q a w){b:Nat}(hb:b<a.heap.size):b<w.heap.size:=Nat.lt_of_lt_of_le hb h.size
theorem Q.setCell{a w:World}(h:Q a w){b k:Nat}(hb:a.heap.size≤b)(v:Value):Q a (w.setCell ⟨b,k,none⟩ v):=Below.setCell h hb v
def enL(e:Int):List UInt8:=
 if e=1 then [35,82,69,70,33] else if e=2 then [35,67,89,67,76,69,33] else if e=3 then [35,68,73,86,47,48,33]
 else if e=4 then [35,78,85,77,33] else if e=5 then [35,86,65,76,85,69,33] else if e=6 then [35,78,65,77,69,63]
 else if e=7 then [35,78,47,65] else []
def sgL:List (List UInt8):=[[60,62],[60,61],[62,61],[60],[62],[61],[43],[45],[42],[47],[38],[40],[41],[44],[58]]
def Nam(w:World):Prop:=0<w.heap.size∧∀ i:Nat,i<8→w.cell? ⟨0,i,none⟩=some (.string ⟨(enL i).toArray⟩)
theorem Nam.on{w w':World}(h:Nam w)(q:Q w w'):Nam w':=⟨q.lt h.1,fun i hi=>by rw [q.cell h.1];exact h.2 i hi⟩
structure Std (w:World):Prop where
 sg:∀ i:Nat,i<15→w.cell? ⟨5,i,none⟩=some (.string ⟨(sgL.getD i []).toArray⟩)
 nam:Nam w
 utf:Lib.Utf8Tabs 1 2 w
 len:∃ m:Int,w.cell? ⟨3,0,none⟩=some (.int .i64 m)
 big:5<w.heap.size
theorem Std.on{w w':World}(h:Std w)(q:Q w w'):Std w':=by
 have hb:=h.big;refine ⟨fun i hi=>?_,h.nam.on q,Utf8Tabs_below h.utf q,?_,q.lt h.big⟩
 ·rw [q.cell (by omega)];exact h.sg i hi
 ·obtain ⟨m,hm⟩:=h.len
  exact ⟨m,by rw [q.cell (by omega)];exact hm⟩
theorem ret_int{k:IntKind}{a b:Int}(h:a=b):Ending.returned (.int k a)=.returned (.int k b):=by rw [h]
theorem ret_bool{a b:Bool}(h:a=b):Ending.returned (.bool a)=.returned (.bool b):=by rw [h]
theorem ret_str{a b:ByteArray}(h:a=b):Ending.returned (.string a)=.returned (.string b):=by rw [h]
theorem ret_two{k:IntKind}{a b:Int}{c d:Bool}(h:a=b)(g:c=d):Ending.returned (.tuple #[.int k a,.bool c])=.returned (.tuple #[.int k b,.bool d]):=by rw [h,g]
theorem bytes_cat(a b:List UInt8):(⟨a.toArray⟩:ByteArray)++(⟨b.toArray⟩:ByteArray)=⟨(a++b).toArray⟩:=by
 apply ByteArray.ext
 simp
theorem size_mk(l:List UInt8):(⟨l.toArray⟩:ByteArray).size=l.length:=by simp [ByteArray.size]
theorem bytes_eq{s:ByteArray}{l:List UInt8}(h:s.data.toList=l):s=⟨l.toArray⟩:=by
 apply ByteArray.ext
 apply Array.ext'
 exact h
theorem take_snoc(s:ByteArray)(k:Nat)(h:k<s.size):s.data.toList.take (k+1)=s.data.toList.take k++[s[k]]:=by
 rw [List.take_succ_eq_append_getElem (by simpa using h)];rfl
theorem take_all(s:ByteArray)(k:Nat)(h:s.size≤k):s.data.toList.take k=s.data.toList:=
 List.take_of_length_le (by simpa using h)
theorem drop_cons(s:ByteArray)(k:Nat)(h:k<s.size):s.data.toList.drop k=s[k]::s.data.toList.drop (k+1):=by
 rw [List.drop_eq_getElem_cons (by simpa using h)];rfl
theorem get_mem(s:ByteArray)(k:Nat)(h:k<s.size):s[k]∈s.data.toList:=by
 have:s[k]=s.data.toList[k]'(by simpa using h):=rfl
 rw [this];exact List.getElem_mem _
theorem len_data(s:ByteArray):s.data.toList.length=s.size:=by simp
theorem headD_get(s:ByteArray)(h:0<s.size):s.data.toList.headD 0=s[0]:=by
 have h':0<s.data.toList.length:=by simpa using h
 have e:s[0]=s.data.toList[0]'h':=rfl
 rw [e,List.headD_eq_head?_getD,List.head?_eq_getElem?,List.getElem?_eq_getElem h']
 rfl
theorem let_yes{c:UInt8}(h:65≤(c.toNat:Int))(h':(c.toNat:Int)≤90):let1 c=true:=by unfold let1;simp;omega
def strLen:Value→Nat
 |.string s=>s.size
 |_=>0
end Go.Proofs.YtgheopdadfnilaaGreatDoor
namespace Go.Proofs.YtgheopdadfnilaaGreatDoor.V
open Go
def fitB(n:Int):Bool:=decide (-9223372036854775808≤n∧n≤9223372036854775807)
def keep(n:Int):Int:=if fitB n then n else 0
def sgn(n:Int)(neg:Bool):Int:=if neg then -n else n
def wholeB(l:List UInt8):Bool:=l == [48] || (!l.isEmpty&&(l.headD 0 != 48)&&allD l)
def partB(l:List UInt8):Bool:=!l.isEmpty&&decide (l.length≤4)&&allD l
def parseO(l:List UInt8):Option Int:=
 if wholeB (Lib.cut (Lib.trimPrefix l [45]) [46]).1&&(!(Lib.cut (Lib.trimPrefix l [45]) [46]).2.2 || partB (Lib.cut (Lib.trimPrefix l [45]) [46]).2.1) then
  some (sgn (val ((Lib.cut (Lib.trimPrefix l [45]) [46]).1++(Lib.cut (Lib.trimPrefix l [45]) [46]).2.1++[48,48,48,48].drop (Lib.cut (Lib.trimPrefix l [45]) [46]).2.1.length)) (Lib.hasPrefix l [45]))
 else none
def pk:Option Int→Int|none=>0|some n=>keep n
def pf:Option Int→Bool|none=>false|some n=>fitB n
def partL(r:Nat):List UInt8:=if r=0 then [] else 46::Lib.trimRightB ((Lib.decDigits (10000+r)).drop 1) 48
def magL(m:Nat):List UInt8:=Lib.decDigits (m / 10000)++partL (m % 10000)
def printL(a:Int):List UInt8:=if a<0 then 45::magL a.natAbs else magL a.natAbs
def parse2(t:List UInt8)(ng:Bool):Option Int:=
 if wholeB (Lib.cut t [46]).1&&(!(Lib.cut t [46]).2.2 || partB (Lib.cut t [46]).2.1) then
  some (sgn (val ((Lib.cut t [46]).1++(Lib.cut t [46]).2.1++[48,48,48,48].drop (Lib.cut t [46]).2.1.length)) ng)
 else none
theorem parseO_eq(l:List UInt8):parseO l=parse2 (Lib.trimPrefix l [45]) (Lib.hasPrefix l [45]):=rfl
theorem val_app(l m:List UInt8):val (l++m)=val l*10 ^ m.length+val m:=by
 have h:∀ (m:List UInt8) (n:Nat),m.foldl (fun n c=>n*10+(c.toNat-48)) n=n*10 ^ m.length+val m:=by
  intro m
  induction m with
  |nil=>intro n;simp [val]
  |cons c m ih=>
   intro n
   have e:val (c::m)=m.foldl (fun n c=>n*10+(c.toNat-48)) (0*10+(c.toNat-48)):=rfl
   rw [e,List.foldl_cons,ih,ih,List.length_cons,Nat.pow_succ,Nat.add_mul,Nat.add_mul];rw [Nat.mul_assoc n,Nat.mul_comm 10];omega
 have e:val (l++m)=m.foldl (fun n c=>n*10+(c.toNat-48)) (val l):=by unfold val;rw [List.foldl_append]
 rw [e,h]
theorem val_zeros(k:Nat):val (List.replicate k 48)=0:=by
 induction k with
 |zero=>rfl
 |succ k ih=>rw [List.replicate_succ'];rw [val_app,ih];simp [val]
theorem zeros_drop(k:Nat)(h:k≤4):([48,48,48,48]:List UInt8).drop k=List.replicate (4-k) 48:=by
 rcases (by omega:k=0∨k=1∨k=2∨k=3∨k=4) with rfl|rfl|rfl|rfl|rfl <;> rfl
theorem allD_app(a b:List UInt8):allD (a++b)=(allD a&&allD b):=by unfold allD;rw [List.all_append]
theorem allD_mem{a:List UInt8}(h:allD a=true){c:UInt8}(hc:c∈a):48≤c.toNat∧c.toNat≤57:=by
 unfold allD at h
 rw [List.all_eq_true]at h;have:=h c hc
 unfold dig at this
 simpa using this
theorem allD_no46{a:List UInt8}(h:allD a=true):(46:UInt8) ∉ a:=fun hc=>by
 have:=allD_mem h hc
 have e:(46:UInt8).toNat=46:=rfl
 omega
theorem cut_at(a b:List UInt8)(h:(46:UInt8) ∉ a):Lib.cut (a++46::b) [46]=(a,b,true):=by
 have hi:Lib.index (a++46::b) [46]=(a.length:Int):=by
  refine Lib.index_first (by simp) ?_ ?_
  ·unfold Lib.occAt
   rw [List.drop_left];simp
  ·intro j hj
   unfold Lib.occAt
   rw [List.drop_append_of_le_length (by omega),List.drop_eq_getElem_cons hj]
   simp only [List.cons_append,List.isPrefixOf_cons_cons,List.isPrefixOf_nil_left,Bool.and_true,beq_eq_false_iff_ne]
   intro e
   exact h (e ▸ List.getElem_mem hj)
 unfold Lib.cut
 rw [hi,if_pos (by omega)]
 simp
theorem cut_free(a:List UInt8)(h:(46:UInt8) ∉ a):Lib.cut a [46]=(a,[],false):=by
 have hi:Lib.index a [46]=-1:=by
  refine Lib.index_none ?_
  intro j hj
  unfold Lib.occAt
  by_cases hl:j<a.length
  ·rw [List.drop_eq_getElem_cons hl]
   simp only [List.isPrefixOf_cons_cons,List.isPrefixOf_nil_left,Bool.and_true,beq_eq_false_iff_ne]
   intro e
   exact h (e ▸ List.getElem_mem hl)
  ·rw [List.drop_of_length_le (by omega)]
   rfl
 unfold Lib.cut
 rw [hi,if_neg (by omega)]
theorem cut_any(t:List UInt8):(∃ a b,t=a++46::b∧(46:UInt8) ∉ a)∨(46:UInt8) ∉ t:=by
 induction t with
 |nil=>exact .inr (by simp)
 |cons c t ih=>
  by_cases hc:c=46
  ·subst hc;exact .inl ⟨[],t,rfl,by simp⟩
  ·rcases ih with ⟨a,b,rfl,h⟩|h
   ·exact .inl ⟨c::a,b,rfl,by simp [h,Ne.symm hc]⟩
   ·exact .inr (by simp [h,Ne.symm hc])
theorem whole_all{l:List UInt8}(h:wholeB l=true):allD l=true:=by
 unfold wholeB at h
 rw [Bool.or_eq_true]at h
 rcases h with h|h
 ·rw [eq_of_beq h];rfl
 ·rw [Bool.and_eq_true]at h;exact h.2
theorem whole_yes{l:List UInt8}(h:allD l=true)(h0:l.length≠0)(h1:¬ (1<l.length∧l.headD 0=48)):wholeB l=true:=by
 unfold wholeB
 rw [h]
 match l with
 |[]=>exact absurd rfl h0
 |[c]=>
  by_cases hc:c=48
  ·subst hc;rfl
  ·have:(c != 48)=true:=by simpa using hc
   simp only [List.headD_cons,this];simp
 |c::d::l=>
  have hc:c≠48:=fun e=>h1 ⟨by simp,by simpa using e⟩
  have:(c != 48)=true:=by simpa using hc
  simp only [List.headD_cons,this];simp
theorem whole_no{l:List UInt8}(h:l.length=0∨(1<l.length∧l.headD 0=48)):wholeB l=false:=by
 rcases h with h|⟨h1,h2⟩
 ·have:l=[]:=List.eq_nil_of_length_eq_zero h
  subst this;rfl
 ·match l with
  |[]=>simp at h1
  |[c]=>simp at h1
  |c::d::l=>
   have e:c=48:=by simpa using h2
   subst e;unfold wholeB
   simp
theorem val_pad(t:List UInt8)(k:Nat)(h:k≤4):val (t++([48,48,48,48]:List UInt8).drop k)=val t*10 ^ (4-k):=by
 rw [zeros_drop k h,val_app,val_zeros,List.length_replicate];omega
theorem parse2_plain{t:List UInt8}(ng:Bool)(h:allD t=true):parse2 t ng=if wholeB t then some (sgn ((val t*10000:Nat):Int) ng) else none:=by
 unfold parse2
 rw [cut_free t (allD_no46 h)];have e:val (t++[]++([48,48,48,48]:List UInt8).drop ([]:List UInt8).length)=val t*10000:=by
  rw [List.append_nil];exact val_pad t 0 (by omega)
 simp only [e]
 cases wholeB t <;> rfl
theorem parse2_point{a b:List UInt8}(ng:Bool)(ha:allD a=true)(hb:allD b=true):parse2 (a++46::b) ng =
  if wholeB a&&(decide (1≤b.length)&&decide (b.length≤4)) then some (sgn ((val (a++b)*10 ^ (4-b.length):Nat):Int) ng) else none:=by
 unfold parse2
 rw [cut_at a b (allD_no46 ha)];have hp:partB b=(decide (1≤b.length)&&decide (b.length≤4)):=by
  unfold partB
  rw [hb];cases b <;> simp
 simp only [hp]
 by_cases h4:b.length≤4
 ·rw [val_pad (a++b) _ h4]
  cases wholeB a <;> simp
 ·simp [h4]
theorem parse2_bad1{a r:List UInt8}{c:UInt8}(ng:Bool)(hc:dig c=false)(h46:c≠46)(ha:(46:UInt8) ∉ a):parse2 (a++c::r) ng=none:=by
 have hno:∀ x,allD (a++c::x)=false:=fun x=>by
  rw [allD_app];have:allD (c::x)=false:=by unfold allD;rw [List.all_cons,hc];rfl
  rw [this,Bool.and_false]
 have hw:∀ x,wholeB (a++c::x)=false:=fun x=>by
  cases h:wholeB (a++c::x) with
  |false=>rfl
  |true=>have:=whole_all h;rw [hno]at this;cases this
 unfold parse2
 rcases cut_any r with ⟨x,y,rfl,h⟩|h
 ·have e:a++c::(x++46::y)=(a++c::x)++46::y:=by simp
  rw [e,cut_at _ y (by simp [ha,h,Ne.symm h46])]
  simp [hw]
 ·rw [cut_free _ (by simp [ha,h,Ne.symm h46])]
  simp [hw]
theorem parse2_bad2{a b r:List UInt8}{c:UInt8}(ng:Bool)(hc:dig c=false)(ha:(46:UInt8) ∉ a):parse2 (a++46::(b++c::r)) ng=none:=by
 unfold parse2
 rw [cut_at a _ ha];have:partB (b++c::r)=false:=by
  unfold partB
  rw [allD_app];have:allD (c::r)=false:=by unfold allD;rw [List.all_cons,hc];rfl
  rw [this];simp
 simp [this]
def PI(t:List UInt8)(k:Nat)(pt:Int)(V:Nat):Prop:=
 (pt=-1∧allD (t.take k)=true∧V=val (t.take k)) ∨
 ∃ a b,pt=(a.length:Int)∧t.take k=a++46::b∧allD a=true∧allD b=true∧V=val (a++b)
theorem PI.start(t:List UInt8):PI t 0 (-1) 0:=.inl ⟨rfl,rfl,rfl⟩
theorem PI.point{t:List UInt8}{k V:Nat}{pt:Int}(h:PI t k pt V)(hp:pt<0)(hk:k≤t.length)(hc:t.take (k+1)=t.take k++[46]):PI t (k+1) k V:=by
 rcases h with ⟨_,h,hv⟩|⟨a,b,h,_⟩
 ·exact .inr ⟨t.take k,[],by rw [List.length_take];omega,hc,h,rfl,by rw [List.append_nil];exact hv⟩
 ·omega
theorem val_one(c:UInt8):val [c]=c.toNat-48:=by simp [val]
theorem PI.digit{t:List UInt8}{k V:Nat}{pt:Int}{c:UInt8}(h:PI t k pt V)(hc:t.take (k+1)=t.take k++[c])(hd:dig c=true):PI t (k+1) pt (V*10+(c.toNat-48)):=by
 have hd1:allD [c]=true:=by unfold allD;simp [hd]
 rcases h with ⟨h0,h,hv⟩|⟨a,b,h0,h1,ha,hb,hv⟩
 ·refine .inl ⟨h0,?_,?_⟩
  ·rw [hc,allD_app,h,hd1];rfl
  ·rw [hc,val_app,hv,val_one];simp
 ·refine .inr ⟨a,b++[c],h0,?_,ha,?_,?_⟩
  ·rw [hc,h1];simp
  ·rw [allD_app,hb,hd1];rfl
  ·rw [←List.append_assoc,val_app,hv,val_one];simp
theorem PI.bad{t:List UInt8}{k V:Nat}{pt:Int}{c:UInt8}(ng:Bool)(h:PI t k pt V)(hc:t.take (k+1)=t.take k++[c])(hd:dig c=false)(hp:c≠46∨0≤pt):parse2 t ng=none:=by
 have e:t=t.take k++c::t.drop (k+1):=by
  have:=List.take_append_drop (k+1) t
  rw [hc,List.append_assoc]at this;exact this.symm
 rcases h with ⟨h0,h,hv⟩|⟨a,b,h0,h1,ha,hb,hv⟩
 ·rw [e]
  exact parse2_bad1 ng hd (hp.resolve_right (by omega)) (allD_no46 h)
 ·rw [e,h1,List.append_assoc,List.cons_append]
  exact parse2_bad2 ng hd (allD_no46 ha)
theorem headD_take(t:List UInt8)(p:Nat)(h:0<p):(t.take p).headD 0=t.headD 0:=by
 cases t with
 |nil=>simp
 |cons c t=>obtain ⟨p,rfl⟩:∃ q,p=q+1:=⟨p-1,by omega⟩;rfl
theorem PI.done1{t:List UInt8}{V:Nat}{pt:Int}(ng:Bool)(h:PI t t.length pt V)(hp:pt<0) :
  parse2 t ng=if t.length=0∨(1<t.length∧t.headD 0=48) then none else some (sgn ((V*10000:Nat):Int) ng):=by
 rcases h with ⟨h0,h,hv⟩|⟨a,b,h0,h1,ha,hb,hv⟩
 ·rw [List.take_length]at h hv
  rw [parse2_plain ng h,hv];by_cases h1:t.length=0∨(1<t.length∧t.headD 0=48)
  ·rw [if_pos h1,whole_no h1];rfl
  ·rw [if_neg h1,whole_yes h (fun e=>h1 (.inl e)) (fun e=>h1 (.inr e))];rfl
 ·omega
theorem PI.done2{t:List UInt8}{V p:Nat}(ng:Bool)(h:PI t t.length (p:Int) V) :
  p<t.length∧parse2 t ng=if t.length-p-1<1∨4<t.length-p-1 then none else if p=0∨(1<p∧t.headD 0=48) then none else some (sgn ((V*10 ^ (4-(t.length-p-1)):Nat):Int) ng):=by
 rcases h with ⟨h0,h,hv⟩|⟨a,b,h0,h1,ha,hb,hv⟩
 ·omega
 ·rw [List.take_length]at h1
  have hp:p=a.length:=by omega
  have hlen:t.length=a.length+(b.length+1):=by rw [h1,List.length_append,List.length_cons]
  have eb:t.length-p-1=b.length:=by omega
  refine ⟨by omega,?_⟩
  rw [eb,hv];have hh:0<a.length→t.headD 0=a.headD 0:=fun h=>by
   rw [h1];cases a;simp at h;rfl
  have e2:=parse2_point ng ha hb;rw [←h1]at e2;rw [e2];clear e2;by_cases c1:b.length<1∨4<b.length
  ·rw [if_pos c1]
   have:(decide (1≤b.length)&&decide (b.length≤4))=false:=by
    rcases c1 with h|h
    ·simp;omega
    ·simp;omega
   rw [this,Bool.and_false];rfl
  ·rw [if_neg c1]
   have:(decide (1≤b.length)&&decide (b.length≤4))=true:=by simp;omega
   rw [this,Bool.and_true];by_cases c2:p=0∨(1<p∧t.headD 0=48)
   ·rw [if_pos c2,whole_no]
    ·rfl
    ·rcases c2 with h|⟨h,h'⟩
     ·exact .inl (by omega)
     ·exact .inr ⟨by omega,by rw [←hh (by omega)];exact h'⟩
   ·rw [if_neg c2,whole_yes ha]
    ·rfl
    ·intro h;exact c2 (.inl (by omega))
    ·rintro ⟨h,h'⟩;exact c2 (.inr ⟨by omega,by rw [hh (by omega)];exact h'⟩)
/-! ### what is printed is read again -/
theorem dec_all(u:Nat):allD (Lib.decDigits u)=true:=by
 induction u using Nat.strongRecOn with
 |_ u ih=>
  have h1:∀ v:Nat,allD [UInt8.ofNat (48+v % 10)]=true:=fun v=>by
   have:(UInt8.ofNat (48+v % 10)).toNat=(48+v % 10) % 256:=UInt8.toNat_ofNat'
   unfold allD dig
   simp only [List.all_cons,List.all_nil,Bool.and_true,decide_eq_true_eq,this]
   omega
  by_cases h:u<10
  ·rw [Lib.decDigits_one h]
   have:=h1 u
   rw [Nat.mod_eq_of_lt h]at this;exact this
  ·rw [Lib.decDigits,dif_neg h,allD_app,ih (u / 10) (by omega),h1];rfl
theorem dec_val(u:Nat):val (Lib.decDigits u)=u:=by
 induction u using Nat.strongRecOn with
 |_ u ih=>
  have h1:∀ v:Nat,val [UInt8.ofNat (48+v % 10)]=v % 10:=fun v=>by
   have:(UInt8.ofNat (48+v % 10)).toNat=(48+v % 10) % 256:=UInt8.toNat_ofNat'
   rw [val_one,this];omega
  by_cases h:u<10
  ·rw [Lib.decDigits_one h]
   have:=h1 u
   rw [Nat.mod_eq_of_lt h]at this;exact this
  ·rw [Lib.decDigits,dif_neg h,val_app,ih (u / 10) (by omega),h1]
   simp only [List.length_cons,List.length_nil]
   omega
theorem dec_ne(u:Nat):Lib.decDigits u≠[]:=fun h=>by
 have:=congrArg List.length h
 rw [Lib.decDigits_length]at this;have:=Lib.nDigits_pos u
 simp at *
 omega
theorem headD_app{a:List UInt8}(b:List UInt8)(h:a≠[]):(a++b).headD 0=a.headD 0:=by
 cases a;exact absurd rfl h;rfl
theorem dec_head(u:Nat)(h0:0<u):(Lib.decDigits u).headD 0≠48:=by
 induction u using Nat.strongRecOn with
 |_ u ih=>
  by_cases h:u<10
  ·rw [Lib.decDigits_one h]
   intro e
   have e2:=congrArg UInt8.toNat (show UInt8.ofNat (48+u)=48 from e)
   have:(UInt8.ofNat (48+u)).toNat=(48+u) % 256:=UInt8.toNat_ofNat'
   rw [this]at e2;have:(48:UInt8).toNat=48:=rfl
   omega
  ·rw [Lib.decDigits,dif_neg h,headD_app _ (dec_ne _)]
   exact ih (u / 10) (by omega) (by omega)
theorem dec_whole(u:Nat):wholeB (Lib.decDigits u)=true:=by
 rcases Nat.eq_zero_or_pos u with rfl|h
 ·rw [Lib.decDigits_one (by omega)];rfl
 ·unfold wholeB
  rw [dec_all];have h1:=dec_head u h;have h2:=dec_ne u;have h3:(Lib.decDigits u).isEmpty=false:=by cases hh:Lib.decDigits u;exact absurd hh h2;rfl
  have h4:((Lib.decDigits u).headD 0 != 48)=true:=by rw [bne_iff_ne];exact h1
  rw [h3,h4];simp
theorem trim_split(l:List UInt8):∃ k,l=Lib.trimRightB l 48++List.replicate k 48:=by
 unfold Lib.trimRightB
 have h:∀ m:List UInt8,∃ k,m=List.replicate k 48++m.dropWhile (· == 48):=by
  intro m
  induction m with
  |nil=>exact ⟨0,rfl⟩
  |cons c m ih=>
   by_cases hc:c=48
   ·subst hc
    obtain ⟨k,e⟩:=ih;refine ⟨k+1,?_⟩
    rw [List.replicate_succ,List.cons_append,List.dropWhile_cons];simp only [beq_self_eq_true,if_true]
    rw [←e]
   ·refine ⟨0,?_⟩
    rw [List.dropWhile_cons];simp [hc]
 obtain ⟨k,e⟩:=h l.reverse;refine ⟨k,?_⟩
 have:=congrArg List.reverse e
 rw [List.reverse_reverse,List.reverse_append,List.reverse_replicate]at this;exact this
theorem hasPrefix_dec(u:Nat)(x:List UInt8):Lib.hasPrefix (Lib.decDigits u++x) [45]=false:=by
 have h:=dec_all u;have h2:=dec_ne u;cases e:Lib.decDigits u with
 |nil=>exact absurd e h2
 |cons c m=>
  rw [e]at h;have:=allD_mem h (c:=c) (by simp)
  have hc:c≠45:=fun hc=>by rw [hc]at this;have e:(45:UInt8).toNat=45:=rfl;omega
  unfold Lib.hasPrefix
  rw [List.cons_append,List.isPrefixOf_cons_cons,List.isPrefixOf_nil_left,Bool.and_true,beq_eq_false_iff_ne];exact Ne.symm hc
theorem mag_read(m:Nat)(ng:Bool):parse2 (magL m) ng=some (sgn (m:Int) ng):=by
 unfold magL partL
 by_cases h0:m % 10000=0
 ·rw [if_pos h0,List.append_nil,parse2_plain ng (dec_all _),dec_whole,dec_val]
  have:m / 10000*10000=m:=by omega
  rw [this];rfl
 ·rw [if_neg h0]
  obtain ⟨d,ed⟩:∃ d,(Lib.decDigits (10000+m % 10000)).drop 1=d:=⟨_,rfl⟩;rw [ed];have hlen:(Lib.decDigits (10000+m % 10000)).length=5:=by rw [Lib.decDigits_length];exact Lib.nDigits_unique 4 _ (by omega) (by omega)
  have hdl:d.length=4:=by rw [←ed,List.length_drop,hlen]
  obtain ⟨c,ec⟩:∃ c,Lib.decDigits (10000+m % 10000)=c::d:=by
   cases e:Lib.decDigits (10000+m % 10000) with
   |nil=>rw [e]at hlen;simp at hlen
   |cons c x=>rw [e]at ed;exact ⟨c,by rw [←ed];rfl⟩
  have had:allD d=true:=by
   have:=dec_all (10000+m % 10000)
   rw [ec]at this;unfold allD at *
   rw [List.all_cons,Bool.and_eq_true]at this;exact this.2
  have hvd:val d=m % 10000:=by
   have h1:=dec_val (10000+m % 10000);rw [ec,show c::d=[c]++d from rfl,val_app,hdl,val_one]at h1
   have h2:val d<10 ^ 4:=by
    have hb:∀ l:List UInt8,allD l=true→val l<10 ^ l.length:=by
     intro l
     induction l with
     |nil=>intro _;simp [val]
     |cons x l ih=>
      intro hl
      rw [show x::l=[x]++l from rfl,allD_app,Bool.and_eq_true]at hl
      have hx:=allD_mem hl.1 (c:=x) (by simp)
      have:=ih hl.2
      rw [show x::l=[x]++l from rfl,val_app,val_one,List.length_append,Nat.pow_add]
      have:(x.toNat-48)*10 ^ l.length≤9*10 ^ l.length:=Nat.mul_le_mul_right _ (by omega)
      simp only [List.length_cons,List.length_nil]
      omega
    have:=hb d had
    rw [hdl]at this;exact this
   have h3:10 ^ 4=10000:=rfl
   rw [h3]at h1 h2;omega
  obtain ⟨k,ek⟩:=trim_split d;obtain ⟨x,ex⟩:∃ x,Lib.trimRightB d 48=x:=⟨_,rfl⟩;rw [ex]at ek ⊢;have hxl:x.length+k=4:=by
   have:=congrArg List.length ek
   rw [List.length_append,List.length_replicate]at this;omega
  have hax:allD x=true:=by
   rw [ek,allD_app,Bool.and_eq_true]at had;exact had.1
  have hvx:val x*10 ^ k=m % 10000:=by
   rw [ek,val_app,val_zeros,List.length_replicate]at hvd;omega
  have hx1:1≤x.length:=by
   rcases Nat.eq_zero_or_pos x.length with h|h
   ·exfalso
    have:x=[]:=List.eq_nil_of_length_eq_zero h
    rw [this]at hvx;simp [val]at hvx
    omega
   ·exact h
  rw [parse2_point ng (dec_all _) hax,dec_whole];have hc:(decide (1≤x.length)&&decide (x.length≤4))=true:=by simp;omega
  rw [hc];have hk:4-x.length=k:=by omega
  have hv:val (Lib.decDigits (m / 10000)++x)*10 ^ (4-x.length)=m:=by
   rw [hk,val_app,dec_val,Nat.add_mul,hvx,Nat.mul_assoc,←Nat.pow_add,hxl];have h3:10 ^ 4=10000:=rfl
   rw [h3];omega
  rw [hv];rfl
theorem parse_print(a:Int):parseO (printL a)=some a:=by
 rw [parseO_eq];unfold printL
 by_cases h:a<0
 ·rw [if_pos h]
  have h1:Lib.hasPrefix (45::magL a.natAbs) [45]=true:=by unfold Lib.hasPrefix;simp
  have h2:Lib.trimPrefix (45::magL a.natAbs) [45]=magL a.natAbs:=by unfold Lib.trimPrefix;rw [h1];rfl
  rw [h1,h2,mag_read];show some (-(a.natAbs:Int))=some a
  congr 1
  omega
 ·rw [if_neg h]
  have h1:Lib.hasPrefix (magL a.natAbs) [45]=false:=hasPrefix_dec _ _
  have h2:Lib.trimPrefix (magL a.natAbs) [45]=magL a.natAbs:=by unfold Lib.trimPrefix;rw [h1];rfl
  rw [h1,h2,mag_read];show some ((a.natAbs:Int))=some a
  congr 1
  omega
end Go.Proofs.YtgheopdadfnilaaGreatDoor.V
namespace Go.Proofs.YtgheopdadfnilaaGreatDoor.V
open Go.RowKit
theorem ret_int{k:IntKind}{a b:Int}(h:a=b):Ending.returned (.int k a)=.returned (.int k b):=by rw [h]
theorem ret_pair{k:IntKind}{a b:Int}{c:Bool}(h:a=b):Ending.returned (.tuple #[.int k a,.bool c])=.returned (.tuple #[.int k b,.bool c]):=by rw [h]
theorem fitB_yes{n:Int}(h0:-9223372036854775808≤n)(h1:n≤9223372036854775807):fitB n=true:=by unfold fitB;simp;omega
theorem fitB_no{n:Int}(h:n < -9223372036854775808∨9223372036854775807<n):fitB n=false:=by unfold fitB;simp;omega
theorem keep_yes{n:Int}(h:fitB n=true):keep n=n:=by unfold keep;rw [h];rfl
theorem keep_no{n:Int}(h:fitB n=false):keep n=0:=by unfold keep;rw [h];rfl
theorem signed_any(n:Int)(neg:Bool)(w:World)(h0:0≤n)(hn:n<18446744073709551616) :
  Calls Tryz.prog 114 #[.int .u64 n,.bool neg] w fun e w'=>e=.returned (.tuple #[.int .i64 (keep (sgn n neg)),.bool (fitB (sgn n neg))])∧w'=w:=by
 cases neg
 ·have e:sgn n false=n:=rfl
  rw [e];clear e;by_cases h1:n<9223372036854775808
  ·have hf:fitB n=true:=fitB_yes (by omega) (by omega)
   rw [keep_yes hf,hf];clear hf;go_enter Tryz.func114,Tryz.ntmps114
   go_wp2
   all_goals go_ret2
   all_goals exact ⟨rfl,rfl⟩
  ·have hf:fitB n=false:=fitB_no (by omega)
   rw [keep_no hf,hf];clear hf;go_enter Tryz.func114,Tryz.ntmps114
   go_wp2
   all_goals go_ret2
   all_goals exact ⟨rfl,rfl⟩
 ·have e:sgn n true=-n:=rfl
  rw [e];clear e;by_cases h1:n<9223372036854775808
  ·have hf:fitB (-n)=true:=fitB_yes (by omega) (by omega)
   rw [keep_yes hf,hf];clear hf;go_enter Tryz.func114,Tryz.ntmps114
   go_wp2
   all_goals go_ret2
   all_goals exact ⟨rfl,rfl⟩
  ·by_cases h2:n=9223372036854775808
   ·have hf:fitB (-n)=true:=fitB_yes (by omega) (by omega)
    rw [keep_yes hf,hf];have e:-n=-9223372036854775808:=by rw [h2]
    rw [e];have h3:(n == 9223372036854775808)=true:=by rw [h2];rfl
    clear hf e h2;go_enter Tryz.func114,Tryz.ntmps114
    go_wp2
    all_goals go_ret2
    all_goals exact ⟨rfl,rfl⟩
   ·have hf:fitB (-n)=false:=fitB_no (by omega)
    rw [keep_no hf,hf];have h3:(n == 9223372036854775808)=false:=beq_eq_false_iff_ne.2 h2
    clear hf h2;go_enter Tryz.func114,Tryz.ntmps114
    go_wp2
    all_goals go_ret2
    all_goals exact ⟨rfl,rfl⟩
def vv(k n:Int)(t:ByteArray)(b:Bool)(e:Int):Value:=.agg #[.int .i64 k,.int .i64 n,.string t,.bool b,.int .i64 e]
theorem vret_bool{a b:Bool}(h:a=b):Ending.returned (.bool a)=.returned (.bool b):=by rw [h]
end Go.Proofs.YtgheopdadfnilaaGreatDoor.V
namespace Go.Proofs
open Go.Shelf
def Tryz.lays196_ren:Go.Shelf.Ren:=⟨fun|196=>117|259=>146|n=>n,fun|9=>9|4=>4|3=>3|5=>5|12=>12|119=>171|0=>0|46=>151|139=>174|138=>173|53=>98|n=>n,fun|3=>1|4=>2|n=>n⟩
theorem Tryz.lays196:Go.Proofs.Lays.n196 Tryz.prog Tryz.lays196_ren:={
 mixed:=by kernel_rfl
 f196:=Tryz.func117.trans (congrArg some (by kernel_rfl))
 f259:=Tryz.func146.trans (congrArg some (by kernel_rfl))
 t0:=Tryz.underlying0
 a0:=Tryz.isAgg0
 z0:=Tryz.sizeOf0
 v0:=Tryz.zeroValue0
 t3:=Tryz.underlying3
 a3:=Tryz.isAgg3
 z3:=Tryz.sizeOf3
 v3:=Tryz.zeroValue3
 t4:=Tryz.underlying4
 a4:=Tryz.isAgg4
 z4:=Tryz.sizeOf4
 v4:=Tryz.zeroValue4
 t5:=Tryz.underlying5
 a5:=Tryz.isAgg5
 z5:=Tryz.sizeOf5
 v5:=Tryz.zeroValue5
 t9:=Tryz.underlying9
 a9:=Tryz.isAgg9
 z9:=Tryz.sizeOf9
 v9:=Tryz.zeroValue9
 t12:=Tryz.underlying12
 a12:=Tryz.isAgg12
 z12:=Tryz.sizeOf12
 v12:=Tryz.zeroValue12
 t46:=Tryz.underlying151
 a46:=Tryz.isAgg151
 z46:=Tryz.sizeOf151
 v46:=Tryz.zeroValue151
 t53:=Tryz.underlying98
 a53:=Tryz.isAgg98
 z53:=Tryz.sizeOf98
 v53:=Tryz.zeroValue98
 t119:=Tryz.underlying171
 a119:=Tryz.isAgg171
 z119:=Tryz.sizeOf171
 t138:=Tryz.underlying173
 a138:=Tryz.isAgg173
 z138:=Tryz.sizeOf173
 v138:=Tryz.zeroValue173
 t139:=Tryz.underlying174
 a139:=Tryz.isAgg174
 z139:=Tryz.sizeOf174
 v139:=Tryz.zeroValue174
 g3:=by kernel_rfl
 g4:=by kernel_rfl }
open Go.RowKit in
theorem Tryz.utf8_ValidString(s:ByteArray)(w:World)(hs:s.size≤9223372036854775807)(hT:Lib.Utf8Tabs 1 2 w) :
  Calls Tryz.prog 117 #[.string s] w fun e w'=>e=.returned (.bool (Lib.validD s.data.toList))∧Below w.heap.size w w':=Any.utf8_ValidString Tryz.lays196 s w hs hT
end Go.Proofs
namespace Go.Proofs.YtgheopdadfnilaaGreatDoor.V
open Go.RowKit
theorem vret_str{a b:List UInt8}(h:a=b):Ending.returned (.string ⟨a.toArray⟩)=.returned (.string ⟨b.toArray⟩):=by rw [h]
theorem enL_no{e:Int}(h:e<1∨7<e):[]=enL e:=by
 unfold enL
 rw [if_neg (by omega),if_neg (by omega),if_neg (by omega),if_neg (by omega),if_neg (by omega),if_neg (by omega),if_neg (by omega)]
theorem name_any(e:Int)(w:World)(h:Nam w):Calls Tryz.prog 82 #[.int .i64 e] w fun x w'=>x=.returned (.string ⟨(enL e).toArray⟩)∧w'=w:=by
 by_cases h0:e<0
 ·have H:=hid (enL_no (e:=e) (by omega))
  go_enter Tryz.func82,Tryz.ntmps82
  go_wp2
  go_ret
  exact ⟨vret_str H.out,rfl⟩
 ·by_cases h8:8≤e
  ·have H:=hid (enL_no (e:=e) (by omega))
   go_enter Tryz.func82,Tryz.ntmps82
   go_wp2
   go_ret
   exact ⟨vret_str H.out,rfl⟩
  ·have c0:=h.2 0 (by omega)
   have c1:=h.2 1 (by omega)
   have c2:=h.2 2 (by omega)
   have c3:=h.2 3 (by omega)
   have c4:=h.2 4 (by omega)
   have c5:=h.2 5 (by omega)
   have c6:=h.2 6 (by omega)
   have c7:=h.2 7 (by omega)
   clear h
   rcases (by omega:e=0∨e=1∨e=2∨e=3∨e=4∨e=5∨e=6∨e=7) with rfl|rfl|rfl|rfl|rfl|rfl|rfl|rfl
   all_goals
    clear h0 h8;go_enter Tryz.func82,Tryz.ntmps82
    go_wp2
    go_ret
    exact ⟨rfl,rfl⟩
theorem rname_any(e:Int)(w:World):Calls Tryz.prog 33 #[.int .i64 e] w fun x w'=>x=.returned (.string ⟨(enL e).toArray⟩)∧Q w w':=by
 by_cases h0:e<1
 ·have H:=hid (enL_no (e:=e) (by omega))
  go_enter Tryz.func33,Tryz.ntmps33
  go_wp2
  go_ret
  exact ⟨vret_str H.out,(Q.refl _).alloc _⟩
 ·by_cases h8:7<e
  ·have H:=hid (enL_no (e:=e) (by omega))
   go_enter Tryz.func33,Tryz.ntmps33
   go_wp2
   go_ret
   exact ⟨vret_str H.out,(Q.refl _).alloc _⟩
  ·rcases (by omega:e=1∨e=2∨e=3∨e=4∨e=5∨e=6∨e=7) with rfl|rfl|rfl|rfl|rfl|rfl|rfl
   all_goals
    clear h0 h8;go_enter Tryz.func33,Tryz.ntmps33
    go_wp2
    go_ret
    exact ⟨rfl,(Q.refl _).alloc _⟩
def mtB(l:List UInt8):Bool:=decide (l.length≤200)&&Lib.validD l
theorem mayText_any(s:ByteArray)(w:World)(h:Std w)(hs:(s.size:Int)≤9223372036854775000):Calls Tryz.prog 81 #[.string s] w fun x w'=>x=.returned (.bool (mtB s.data.toList))∧Q w w':=by
 have hl:s.data.toList.length=s.size:=by simp
 by_cases h1:(s.size:Int)≤200
 ·have H:Hid (Lib.validD s.data.toList=mtB s.data.toList):=by show _=_;unfold mtB;rw [hl];simp;omega
  have HC:=hid (Tryz.utf8_ValidString s w (by omega) h.utf)
  clear hl;go_enter Tryz.func81,Tryz.ntmps81
  go_wp2_with (go_at_call 117;refine HC.out.mono ?_;rintro e w1 ⟨rfl,q1⟩)
  go_ret
  exact ⟨vret_bool H.out,q1⟩
 ·have H:Hid (false=mtB s.data.toList):=by show _=_;unfold mtB;rw [hl];simp;intro;omega
  clear hl;go_enter Tryz.func81,Tryz.ntmps81
  go_wp2
  go_ret
  exact ⟨vret_bool H.out,Q.refl _⟩
end Go.Proofs.YtgheopdadfnilaaGreatDoor.V
namespace Go.Proofs.YtgheopdadfnilaaGreatDoor
open Go.RowKit
theorem leading_any(s:ByteArray)(w:World)(hs:s.size≤9223372036854775807) :
  Calls Tryz.prog 202 #[.string s] w fun e w'=>e=.returned (.int .i64 (lead s.data.toList))∧w'=w:=by
 go_enter Tryz.func202,Tryz.ntmps202
 go_wp2
 go_loop [6] (fun i=>∃ k:Nat,k≤s.size∧i=.int .i64 k∧Hid (allL (s.data.toList.take k)=true)) (fun i=>s.size-(intOf i).toNat)
 case atStart=>exact ⟨0,Nat.zero_le _,rfl,rfl⟩
 case round=>
  obtain ⟨k,hk,rfl,ha⟩:=hrel;by_cases hlt:k<s.size
  ·by_cases hd:let1 s[k]=true
   ·have ha':Hid (allL (s.data.toList.take (k+1))=true):=by
     show _=_
     have:=ha.out
     rw [take_snoc s k hlt,allL_app,this];unfold allL
     simp [hd]
    have b0:65≤(s[k].toNat:Int):=by unfold let1 at hd;simp at hd;omega
    have b1:(s[k].toNat:Int)≤90:=by unfold let1 at hd;simp at hd;omega
    clear hd;go_wp2
    go_round
    case rel=>exact ⟨k+1,by omega,by go_num,ha'⟩
    case measure=>simp [intOf];omega
   ·have hN:Hid ((k:Int)=(lead s.data.toList:Int)):=by
     show _=_
     have h1:=lead_at (s.data.toList.take k) (s.data.toList.drop (k+1)) s[k] ha.out (by simpa using hd)
     rw [←drop_cons s k hlt,List.take_append_drop,List.length_take,len_data]at h1;omega
    by_cases b0:(s[k].toNat:Int)<65
    ·clear hd
     go_wp2
     go_ret
     exact ⟨ret_int hN.out,rfl⟩
    ·have b1:90<(s[k].toNat:Int):=by unfold let1 at hd;simp at hd;omega
     clear hd;go_wp2
     go_ret
     exact ⟨ret_int hN.out,rfl⟩
  ·have hN:Hid ((s.size:Int)=(lead s.data.toList:Int)):=by
    show _=_
    have:=ha.out
    rw [take_all s k (by omega)]at this
    rw [lead_all _ this,len_data]
   go_wp2
   go_ret
   exact ⟨ret_int hN.out,rfl⟩
theorem numF_zero{l:List UInt8}{m:Nat}(h:l.headD 0=48)(h1:1<l.length):numF l m=false:=by
 unfold numF
 rw [h,decide_eq_true h1];simp
theorem numF_nodig{l:List UInt8}{m:Nat}(h:allD l=false):numF l m=false:=by
 unfold numF
 rw [h];simp
theorem numF_great{l:List UInt8}{m:Nat}(h:m<val l):numF l m=false:=by
 unfold numF
 rw [decide_eq_false (show ¬ val l≤m by omega)]
 simp
theorem numF_yes{l:List UInt8}{m:Nat}(h0:l≠[])(h1:¬ (l.headD 0=48∧1<l.length))(h2:allD l=true)(h3:val l≤m):numF l m=true:=by
 unfold numF
 rw [h2,decide_eq_true h3];have e0:l.isEmpty=false:=by cases l;exact absurd rfl h0;rfl
 have e1:(l.headD 0 == 48&&decide (1<l.length))=false:=by
  rw [Bool.and_eq_false_iff];by_cases h:l.headD 0=48
  ·exact .inr (decide_eq_false fun g=>h1 ⟨h,g⟩)
  ·exact .inl (beq_eq_false_iff_ne.2 h)
 rw [e0,e1]
 rfl
theorem allD_no(s:ByteArray)(k:Nat)(h:k<s.size)(hd:dig s[k]=false):allD s.data.toList=false:=by
 unfold allD
 rw [List.all_eq_false];exact ⟨s[k],get_mem s k h,by simp [hd]⟩
theorem byte_ne{c:UInt8}{n:Nat}(hn:n<256)(h:c≠UInt8.ofNat n):((c.toNat:Int) == (n:Int))=false:=by
 rw [beq_eq_false_iff_ne];intro e
 apply h
 apply UInt8.toNat_inj.1
 have:(UInt8.ofNat n).toNat=n % 256:=UInt8.toNat_ofNat'
 rw [this];omega
theorem ne_of_pos{s:ByteArray}(h:0<s.size):s.data.toList≠[]:=fun e=>by
 have h1:=congrArg List.length e;rw [len_data,List.length_nil]at h1;omega
theorem toList_ne{s:ByteArray}(h:0<s.size):(s.toList == [])=false:=by
 rw [Lib.toList_data,beq_eq_false_iff_ne];exact ne_of_pos h
theorem number_any(s:ByteArray)(m:Nat)(M:Int)(w:World)(hM:Hid (M=(m:Int)))(M0:0≤M)(M1:M≤2199023255552)(hs:s.size≤9223372036854775807) :
  Calls Tryz.prog 156 #[.string s,.int .i64 M] w fun e w'=>e=.returned (.tuple #[.int .i64 (numK s.data.toList m),.bool (numF s.data.toList m)])∧w'=w:=by
 have HF:∀ b:Bool,numF s.data.toList m=b→Hid (numF s.data.toList m=b∧numK s.data.toList m=if b then (val s.data.toList:Int) else 0):=by
  intro b e
  exact ⟨e,by unfold numK;rw [e]⟩
 have et:=hid (Lib.toList_data s);by_cases h0:s.size=0
 ·have e0:s.toList=[]:=by rw [Lib.toList_data];exact List.eq_nil_of_length_eq_zero (by rw [len_data];exact h0)
  have hF:=HF false (by rw [←et.out,e0];rfl)
  clear h0;go_enter Tryz.func156,Tryz.ntmps156
  go_wp2
  go_ret2
  exact ⟨by rw [hF.out.1,hF.out.2];rfl,rfl⟩
 ·have hp:0<s.size:=by omega
  have e0:=toList_ne hp;have hh:=hid (headD_get s hp);by_cases hz:s[0]=48∧1<s.size
  ·have hF:=HF false (numF_zero (by rw [hh.out];exact hz.1) (by rw [len_data];exact hz.2))
   have hc:(s[0].toNat:Int)=48:=by rw [hz.1];rfl
   have h1:=hz.2;clear hz h0;go_enter Tryz.func156,Tryz.ntmps156
   go_wp2
   go_ret2
   exact ⟨by rw [hF.out.1,hF.out.2];rfl,rfl⟩
  ·have HZ:Hid (¬ (s.data.toList.headD 0=48∧1<s.data.toList.length)):=by
    show ¬ _
    rw [hh.out,len_data];exact hz
   have hc:((s[0].toNat:Int) == 48)=false∨((s[0].toNat:Int)=48∧¬ 1<(s.size:Int)):=by
    by_cases h:s[0]=48
    ·exact .inr ⟨by rw [h];rfl,fun g=>hz ⟨h,by omega⟩⟩
    ·exact .inl (byte_ne (n:=48) (by omega) h)
   clear hz h0
   rcases hc with hc|⟨hc,h1⟩
   ·go_enter Tryz.func156,Tryz.ntmps156
    go_wp2
    go_loop [6,22] (fun a i=>∃ (k:Nat) (n:Int),k≤s.size∧i=.int .i64 k∧a=.int .i64 n∧0≤n∧n≤M∧Hid (allD (s.data.toList.take k)=true∧n=(val (s.data.toList.take k):Int))) (fun _ i=>s.size-(intOf i).toNat)
    case atStart=>exact ⟨0,0,Nat.zero_le _,rfl,rfl,by omega,by omega,rfl,rfl⟩
    case round=>
     obtain ⟨k,n,hk,rfl,rfl,n0,n1,hn⟩:=hrel;by_cases hlt:k<s.size
     ·by_cases hd:dig s[k]=true
      ·have b0:48≤(s[k].toNat:Int):=by unfold dig at hd;simp at hd;omega
       have b1:(s[k].toNat:Int)≤57:=by unfold dig at hd;simp at hd;omega
       have hv:Hid (allD (s.data.toList.take (k+1))=true∧(val (s.data.toList.take (k+1)):Int)=n*10+((s[k].toNat:Int)-48)):=by
        have:=hn.out
        refine ⟨?_,?_⟩
        ·rw [take_snoc s k hlt,allD_app,this.1]
         unfold allD
         simp [hd]
        ·rw [take_snoc s k hlt,val_snoc,this.2]
         omega
       clear hd;by_cases hb:M<n*10+((s[k].toNat:Int)-48)
       ·have hF:=HF false (numF_great (by
         have h1:=val_ge (s.data.toList.take (k+1)) (s.data.toList.drop (k+1));rw [List.take_append_drop]at h1;have h2:=hv.out.2;have h3:=hM.out;omega))
        go_wp2
        go_ret2
        exact ⟨by rw [hF.out.1,hF.out.2];rfl,rfl⟩
       ·go_wp2
        go_round
        case rel=>exact ⟨k+1,n*10+((s[k].toNat:Int)-48),by omega,by go_num,rfl,by omega,by omega,hv.out.1,hv.out.2.symm⟩
        case measure=>simp [intOf];omega
      ·have hF:=HF false (numF_nodig (allD_no s k hlt (by simpa using hd)))
       by_cases b0:(s[k].toNat:Int)<48
       ·clear hd
        go_wp2
        go_ret2
        exact ⟨by rw [hF.out.1,hF.out.2];rfl,rfl⟩
       ·have b1:57<(s[k].toNat:Int):=by unfold dig at hd;simp at hd;omega
        clear hd;go_wp2
        go_ret2
        exact ⟨by rw [hF.out.1,hF.out.2];rfl,rfl⟩
     ·have hN:Hid (allD s.data.toList=true∧n=(val s.data.toList:Int)):=by have:=hn.out;rw [take_all s k (by omega)]at this;exact this
      have hF:=HF true (numF_yes (ne_of_pos hp) HZ.out hN.out.1 (by have:=hN.out.2;have:=hM.out;omega))
      go_wp2
      go_ret2
      exact ⟨by rw [hF.out.1,hF.out.2,hN.out.2];rfl,rfl⟩
   ·go_enter Tryz.func156,Tryz.ntmps156
    go_wp2
    go_loop [6,22] (fun a i=>∃ (k:Nat) (n:Int),k≤s.size∧i=.int .i64 k∧a=.int .i64 n∧0≤n∧n≤M∧Hid (allD (s.data.toList.take k)=true∧n=(val (s.data.toList.take k):Int))) (fun _ i=>s.size-(intOf i).toNat)
    case atStart=>exact ⟨0,0,Nat.zero_le _,rfl,rfl,by omega,by omega,rfl,rfl⟩
    case round=>
     obtain ⟨k,n,hk,rfl,rfl,n0,n1,hn⟩:=hrel;by_cases hlt:k<s.size
     ·by_cases hd:dig s[k]=true
      ·have b0:48≤(s[k].toNat:Int):=by unfold dig at hd;simp at hd;omega
       have b1:(s[k].toNat:Int)≤57:=by unfold dig at hd;simp at hd;omega
       have hv:Hid (allD (s.data.toList.take (k+1))=true∧(val (s.data.toList.take (k+1)):Int)=n*10+((s[k].toNat:Int)-48)):=by
        have:=hn.out
        refine ⟨?_,?_⟩
        ·rw [take_snoc s k hlt,allD_app,this.1]
         unfold allD
         simp [hd]
        ·rw [take_snoc s k hlt,val_snoc,this.2]
         omega
       clear hd;by_cases hb:M<n*10+((s[k].toNat:Int)-48)
       ·have hF:=HF false (numF_great (by
         have h1:=val_ge (s.data.toList.take (k+1)) (s.data.toList.drop (k+1));rw [List.take_append_drop]at h1;have h2:=hv.out.2;have h3:=hM.out;omega))
        go_wp2
        go_ret2
        exact ⟨by rw [hF.out.1,hF.out.2];rfl,rfl⟩
       ·go_wp2
        go_round
        case rel=>exact ⟨k+1,n*10+((s[k].toNat:Int)-48),by omega,by go_num,rfl,by omega,by omega,hv.out.1,hv.out.2.symm⟩
        case measure=>simp [intOf];omega
      ·have hF:=HF false (numF_nodig (allD_no s k hlt (by simpa using hd)))
       by_cases b0:(s[k].toNat:Int)<48
       ·clear hd
        go_wp2
        go_ret2
        exact ⟨by rw [hF.out.1,hF.out.2];rfl,rfl⟩
       ·have b1:57<(s[k].toNat:Int):=by unfold dig at hd;simp at hd;omega
        clear hd;go_wp2
        go_ret2
        exact ⟨by rw [hF.out.1,hF.out.2];rfl,rfl⟩
     ·have hN:Hid (allD s.data.toList=true∧n=(val s.data.toList:Int)):=by have:=hn.out;rw [take_all s k (by omega)]at this;exact this
      have hF:=HF true (numF_yes (ne_of_pos hp) HZ.out hN.out.1 (by have:=hN.out.2;have:=hM.out;omega))
      go_wp2
      go_ret2
      exact ⟨by rw [hF.out.1,hF.out.2,hN.out.2];rfl,rfl⟩
end Go.Proofs.YtgheopdadfnilaaGreatDoor
