/- Columns' letters, numbers, ids. -/
import Derived.Lib.IndexMore
import Derived.Lib.ItoaNum
import Derived.Lib.Strings
import Derived.Shelf.Small.Wraps
import Derived.Shelf.Strconv.Itoa0
import Derived.Shelf.Strconv.Itoa1
import Derived.Shelf.LaysM
import Derived.Shelf.Strconv.Clone
import Derived.Shelf.Strings.Search1
import Derived.Shelf.Strings.Search2
import Derived.Shelf.Strings.Cut
import Derived.Shelf.Strings.Shaped
import Derived.Shelf.Strings.Prefix
import Derived.Test.YtoikodohcieipaaGreatDoorProg
import Derived.Test.YtoikodohcieipaaGreatDoorRows
import Derived.Shelf.Unicode.DecodeSlow
import Derived.WalkKit
import Derived.WalkSpells
import Derived.WalkLawsBesides
import Derived.Lib.TrimByte
import Derived.Handy
import Derived.Shelf.Unicode.ValidAny
import Derived.Lib.ItoaMem
import Derived.Shelf.Strconv.Itoa4
set_option linter.unusedVariables false
set_option linter.unusedSimpArgs false
set_option maxRecDepth 100000
set_option maxHeartbeats 8000000
namespace Go.Proofs.YtoikodohcieipaaGreatDoor
open Go
def let1(c:UInt8):Bool:=decide (65≤c.toNat∧c.toNat≤90)
def allL(l:List UInt8):Bool:=l.all let1
def colV(l:List UInt8):Nat:=l.foldl (fun n c=>n*26+(c.toNat-65)+1) 0
def lead(l:List UInt8):Nat:=(l.takeWhile let1).length
def colF(l:List UInt8):Bool:=!l.isEmpty&&decide (l.length≤9)&&allL l&&decide (colV l≤2199023255552)
def colK(l:List UInt8):Int:=if colF l then (colV l:Int)-1 else 0
def dig(c:UInt8):Bool:=decide (48≤c.toNat∧c.toNat≤57)
def allD(l:List UInt8):Bool:=l.all dig
def val(l:List UInt8):Nat:=l.foldl (fun n c=>n*10+(c.toNat-48)) 0
def numF(l:List UInt8)(most:Nat):Bool:=!l.isEmpty&&!(l.headD 0 == 48&&decide (1<l.length))&&allD l&&decide (val l≤most)
def numK(l:List UInt8)(most:Nat):Int:=if numF l most then (val l:Int) else 0
def numR(l:List UInt8)(most:Nat):Int:=if numF l most then (val l:Int) else -1
def ownP(p:List UInt8 × List UInt8 × Bool):Int:=if p.2.2&&numF p.1 15&&numF p.2.1 999999 then (val p.1:Int) else -1
def ownK(l:List UInt8):Int:=if Lib.hasPrefix l [99] then ownP (Lib.cut (Lib.trimPrefix l [99]) [110]) else -1
def shP(p:List UInt8 × List UInt8 × Bool)(l:List UInt8):List UInt8:=if p.2.2 then p.2.1 else l
def refF (l : List UInt8) : Bool :=
  (!(Lib.cut l [33]).2.2 || decide (0 ≤ ownK (Lib.cut l [33]).1)) &&
  (colF ((Lib.trimPrefix (shP (Lib.cut l [33]) l) [36]).takeWhile let1) &&
   (numF (Lib.trimPrefix ((Lib.trimPrefix (shP (Lib.cut l [33]) l) [36]).dropWhile let1) [36]) 2199023255552 &&
    decide (val (Lib.trimPrefix ((Lib.trimPrefix (shP (Lib.cut l [33]) l) [36]).dropWhile let1) [36]) ≠ 0)))
theorem val_app(l m:List UInt8):val (l++m)=val l*10 ^ m.length+val m:=by
 have h:∀ (m:List UInt8) (n:Nat),m.foldl (fun n c=>n*10+(c.toNat-48)) n=n*10 ^ m.length+val m:=by
  intro m
  induction m with
  |nil=>intro n;simp [val]
  |cons c m ih=>
   intro n
   have e:val (c::m)=m.foldl (fun n c=>n*10+(c.toNat-48)) (0*10+(c.toNat-48)):=rfl
   rw [e,List.foldl_cons,ih,ih,List.length_cons,Nat.pow_succ,Nat.add_mul,Nat.add_mul];rw [Nat.mul_assoc n,Nat.mul_comm 10];omega
 have e:val (l++m)=m.foldl (fun n c=>n*10+(c.toNat-48)) (val l):=by unfold val;rw [List.foldl_append]
 rw [e,h]
theorem val_one(c:UInt8):val [c]=c.toNat-48:=by simp [val]
theorem val_snoc(l:List UInt8)(c:UInt8):val (l++[c])=val l*10+(c.toNat-48):=by unfold val;rw [List.foldl_append];rfl
theorem val_ge(l m:List UInt8):val l≤val (l++m):=by
 rw [val_app];have h:1≤10 ^ m.length:=Nat.pow_pos (by omega)
 have:=Nat.mul_le_mul_left (val l) h
 omega
theorem colV_snoc(l:List UInt8)(c:UInt8):colV (l++[c])=colV l*26+(c.toNat-65)+1:=by unfold colV;rw [List.foldl_append];rfl
theorem allD_app(a b:List UInt8):allD (a++b)=(allD a&&allD b):=by unfold allD;rw [List.all_append]
theorem allL_app(a b:List UInt8):allL (a++b)=(allL a&&allL b):=by unfold allL;rw [List.all_append]
theorem allD_mem{a:List UInt8}(h:allD a=true){c:UInt8}(hc:c∈a):48≤c.toNat∧c.toNat≤57:=by
 unfold allD at h
 rw [List.all_eq_true]at h;have:=h c hc
 unfold dig at this
 simpa using this
theorem allL_mem{a:List UInt8}(h:allL a=true){c:UInt8}(hc:c∈a):65≤c.toNat∧c.toNat≤90:=by
 unfold allL at h
 rw [List.all_eq_true]at h;have:=h c hc
 unfold let1 at this
 simpa using this
theorem rev_ind{P:List UInt8→Prop}(h0:P [])(h1:∀ l c,P l→P (l++[c]))(l:List UInt8):P l:=by
 have h:∀ m:List UInt8,P m.reverse:=by
  intro m
  induction m with
  |nil=>exact h0
  |cons c m ih=>rw [List.reverse_cons];exact h1 _ _ ih
 have:=h l.reverse
 rwa [List.reverse_reverse]at this
theorem colV_lt(l:List UInt8)(h:allL l=true):colV l+1≤27 ^ l.length:=by
 revert h
 refine rev_ind (P:=fun l=>allL l=true→colV l+1≤27 ^ l.length) (fun _=>by simp [colV]) ?_ l
 ·intro l c ih h
  rw [allL_app,Bool.and_eq_true]at h;have h1:=ih h.1;have h2:=allL_mem h.2 (c:=c) (by simp)
  rw [colV_snoc,List.length_append,List.length_singleton,Nat.pow_succ];omega
theorem colV_nine(l:List UInt8)(h:allL l=true)(h9:l.length≤9):colV l+1≤7625597484987:=by
 have h1:=colV_lt l h;have h2:27 ^ l.length≤27 ^ 9:=Nat.pow_le_pow_right (by omega) h9
 have h3:(27:Nat) ^ 9=7625597484987:=by decide
 omega
theorem allL_iff_lead(l:List UInt8):allL l=decide (l.length≤lead l):=by
 unfold lead
 induction l with
 |nil=>rfl
 |cons c l ih=>
  unfold allL at *
  rw [List.all_cons,List.takeWhile_cons];cases hc:let1 c
  ·simp
  ·simp only [Bool.true_and,if_true,List.length_cons]
   rw [ih];simp
theorem lead_le(l:List UInt8):lead l≤l.length:=by
 unfold lead
 exact (List.takeWhile_sublist _).length_le
theorem take_lead(l:List UInt8):l.take (lead l)=l.takeWhile let1:=by
 unfold lead
 induction l with
 |nil=>rfl
 |cons c l ih=>
  rw [List.takeWhile_cons]
  split
  ·rw [List.length_cons,List.take_succ_cons,ih]
  ·rfl
theorem drop_lead(l:List UInt8):l.drop (lead l)=l.dropWhile let1:=by
 unfold lead
 induction l with
 |nil=>rfl
 |cons c l ih=>
  rw [List.takeWhile_cons,List.dropWhile_cons]
  split
  ·rw [List.length_cons,List.drop_succ_cons,ih]
  ·rfl
theorem lead_at(a r:List UInt8)(c:UInt8)(ha:allL a=true)(hc:let1 c=false):lead (a++c::r)=a.length:=by
 unfold lead
 induction a with
 |nil=>rw [List.nil_append,List.takeWhile_cons,hc];rfl
 |cons d a ih=>
  unfold allL at *
  rw [List.all_cons,Bool.and_eq_true]at ha;rw [List.cons_append,List.takeWhile_cons,ha.1];simp only [if_true,List.length_cons]
  rw [ih ha.2]
theorem lead_all(a:List UInt8)(ha:allL a=true):lead a=a.length:=by
 have h1:=allL_iff_lead a;have h2:=lead_le a;rw [ha]at h1;have:=of_decide_eq_true h1.symm
 omega
theorem cut_at(x:UInt8)(a b:List UInt8)(h:x ∉ a):Lib.cut (a++x::b) [x]=(a,b,true):=by
 have hi:Lib.index (a++x::b) [x]=(a.length:Int):=by
  refine Lib.index_first (by simp) ?_ ?_
  ·unfold Lib.occAt
   rw [List.drop_left];simp
  ·intro j hj
   unfold Lib.occAt
   rw [List.drop_append_of_le_length (by omega),List.drop_eq_getElem_cons hj]
   simp only [List.cons_append,List.isPrefixOf_cons_cons,List.isPrefixOf_nil_left,Bool.and_true,beq_eq_false_iff_ne]
   intro e
   exact h (e ▸ List.getElem_mem hj)
 unfold Lib.cut
 rw [hi,if_pos (by omega)]
 simp
theorem cut_free(x:UInt8)(a:List UInt8)(h:x ∉ a):Lib.cut a [x]=(a,[],false):=by
 have hi:Lib.index a [x]=-1:=by
  refine Lib.index_none ?_
  intro j hj
  unfold Lib.occAt
  by_cases hl:j<a.length
  ·rw [List.drop_eq_getElem_cons hl]
   simp only [List.isPrefixOf_cons_cons,List.isPrefixOf_nil_left,Bool.and_true,beq_eq_false_iff_ne]
   intro e
   exact h (e ▸ List.getElem_mem hl)
  ·rw [List.drop_of_length_le (by omega)]
   rfl
 unfold Lib.cut
 rw [hi,if_neg (by omega)]
theorem cut_any(x:UInt8)(t:List UInt8):(∃ a b,t=a++x::b∧x ∉ a)∨x ∉ t:=by
 induction t with
 |nil=>exact .inr (by simp)
 |cons c t ih=>
  by_cases hc:c=x
  ·subst hc;exact .inl ⟨[],t,rfl,by simp⟩
  ·rcases ih with ⟨a,b,rfl,h⟩|h
   ·exact .inl ⟨c::a,b,rfl,by simp [h,Ne.symm hc]⟩
   ·exact .inr (by simp [h,Ne.symm hc])
theorem cut_le(x:UInt8)(t:List UInt8):(Lib.cut t [x]).1.length+(Lib.cut t [x]).2.1.length≤t.length:=by
 unfold Lib.cut
 split
 ·simp only [List.length_take,List.length_drop,List.length_cons,List.length_nil]
  omega
 ·simp
theorem val_big(c:UInt8)(l:List UInt8)(hc:49≤c.toNat):10 ^ l.length≤val (c::l):=by
 have e:val (c::l)=val [c]*10 ^ l.length+val l:=val_app [c] l
 rw [e,val_one];have:=Nat.mul_le_mul_right (10 ^ l.length) (show 1≤c.toNat-48 by omega)
 omega
theorem numF_long(l:List UInt8)(most:Nat)(h:15<l.length)(hm:most<1000000000000000):numF l most=false:=by
 match l with
 |[]=>simp at h
 |c::l=>
  unfold numF
  cases hd:allD (c::l)
  ·simp
  ·by_cases hc:c=48
   ·subst hc
    have:1<((48:UInt8)::l).length:=by omega
    have h2:decide (1<((48:UInt8)::l).length)=true:=decide_eq_true this
    rw [h2];simp
   ·have h1:=allD_mem hd (c:=c) (by simp)
    have h2:c.toNat≠48:=fun e=>hc (UInt8.toNat_inj.1 e)
    have h3:=val_big c l (by omega)
    rw [List.length_cons]at h;have h4:10 ^ 15≤10 ^ l.length:=Nat.pow_le_pow_right (by omega) (by omega)
    have h5:decide (val (c::l)≤most)=false:=decide_eq_false (by omega)
    rw [h5];simp
def nmL:Nat→List UInt8
 |0=>[]
 |n+1=>nmL (n / 26)++[UInt8.ofNat (65+n % 26)]
theorem nm_byte(n:Nat):(UInt8.ofNat (65+n % 26)).toNat=65+n % 26:=by
 have:(UInt8.ofNat (65+n % 26)).toNat=(65+n % 26) % 256:=UInt8.toNat_ofNat'
 omega
theorem nm_succ(n:Nat):nmL (n+1)=nmL (n / 26)++[UInt8.ofNat (65+n % 26)]:=by rw [nmL]
theorem nm_ne(n:Nat)(h:0<n):nmL n≠[]:=by
 obtain ⟨m,rfl⟩:∃ m,n=m+1:=⟨n-1,by omega⟩
 rw [nm_succ];simp
theorem nm_len(k:Nat):∀ n:Nat,n<26 ^ k→(nmL n).length≤k:=by
 induction k with
 |zero=>intro n h;obtain rfl:n=0:=(by rw [Nat.pow_zero]at h;omega);rw [nmL];simp
 |succ k ih=>
  intro n h
  match n with
  |0=>rw [nmL];simp
  |n+1=>
   rw [nm_succ,List.length_append,List.length_singleton];have:(nmL (n / 26)).length≤k:=ih _ (by rw [Nat.pow_succ]at h;omega)
   omega
theorem nm_nine (n : Nat) (h : n ≤ 2199023255552) : (nmL n).length ≤ 9 :=
  nm_len 9 n (by have : (26 : Nat) ^ 9 = 5429503678976 := by decide
                 omega)
end Go.Proofs.YtoikodohcieipaaGreatDoor
namespace Go.Proofs
open Go.Shelf
def Tryz.lays103_ren:Go.Shelf.Ren:=⟨fun|103=>116|210=>123|206=>130|n=>n,fun|9=>9|4=>4|24=>158|3=>3|n=>n,fun|n=>n⟩
theorem Tryz.lays103:Go.Proofs.Lays.n103 Tryz.prog Tryz.lays103_ren:={
 mixed:=by kernel_rfl
 f103:=Tryz.func116.trans (congrArg some (by kernel_rfl))
 f206:=Tryz.func130.trans (congrArg some (by kernel_rfl))
 f210:=Tryz.func123.trans (congrArg some (by kernel_rfl))
 t3:=Tryz.underlying3
 a3:=Tryz.isAgg3
 z3:=Tryz.sizeOf3
 v3:=Tryz.zeroValue3
 t4:=Tryz.underlying4
 a4:=Tryz.isAgg4
 z4:=Tryz.sizeOf4
 v4:=Tryz.zeroValue4
 t9:=Tryz.underlying9
 a9:=Tryz.isAgg9
 z9:=Tryz.sizeOf9
 v9:=Tryz.zeroValue9
 t24:=Tryz.underlying158
 a24:=Tryz.isAgg158
 z24:=Tryz.sizeOf158
 v24:=Tryz.zeroValue158 }
open Go.RowKit in
theorem Tryz.strings_CutPrefix(s p:ByteArray)(w:World) :
  Calls Tryz.prog 116 #[.string s,.string p] w fun e w'=>e=.returned (.tuple #[.string ⟨(Lib.trimPrefix s.data.toList p.data.toList).toArray⟩,.bool (Lib.hasPrefix s.data.toList p.data.toList)])∧w'=w:=Any.strings_CutPrefix Tryz.lays103 s p w
def Tryz.laysM316_ren:Go.Shelf.Ren:=⟨fun|316=>69|n=>n,fun|9=>9|3=>3|4=>4|37=>129|0=>0|127=>130|5=>5|n=>n,fun|n=>n⟩
theorem Tryz.laysM316:Go.Proofs.LaysM.n316 Tryz.prog Tryz.laysM316_ren:={
 mixed:=by kernel_rfl
 f316:=Tryz.func69.trans (congrArg some (by kernel_rfl))
 t0:=Tryz.underlying0
 a0:=Tryz.isAgg0
 z0:=Tryz.sizeOf0
 v0:=Tryz.zeroValue0
 t3:=Tryz.underlying3
 a3:=Tryz.isAgg3
 z3:=Tryz.sizeOf3
 v3:=Tryz.zeroValue3
 t4:=Tryz.underlying4
 a4:=Tryz.isAgg4
 z4:=Tryz.sizeOf4
 v4:=Tryz.zeroValue4
 t9:=Tryz.underlying9
 a9:=Tryz.isAgg9
 z9:=Tryz.sizeOf9
 v9:=Tryz.zeroValue9
 t37:=Tryz.underlying129
 a37:=Tryz.isAgg129
 z37:=Tryz.sizeOf129
 v37:=Tryz.zeroValue129
 t127:=Tryz.underlying130
 a127:=Tryz.isAgg130
 z127:=Tryz.sizeOf130
 v127:=Tryz.zeroValue130
 t5:=Tryz.underlying5
 a5:=Tryz.isAgg5
 z5:=Tryz.sizeOf5
 v5:=Tryz.zeroValue5
 i0:=by kernel_rfl
 i3:=by kernel_rfl
 i4:=by kernel_rfl
 i5:=by kernel_rfl
 i9:=by kernel_rfl
 i37:=by kernel_rfl
 i127:=by kernel_rfl }
open Go.RowKit in
theorem Tryz.stringslite_Clone(s:ByteArray)(w:World)(hlim:s.size≤281474976710656) :
  Calls Tryz.prog 69 #[.string s] w fun e w'=>e=.returned (.string s)∧Below w.heap.size w w':=Any.stringslite_Clone Tryz.laysM316 s w hlim
def Tryz.lays145_ren:Go.Shelf.Ren:=⟨fun|145=>117|220=>124|219=>131|217=>134|225=>135|224=>136|267=>137|266=>138|314=>139|n=>n,fun|9=>9|4=>4|59=>160|3=>3|5=>5|46=>148|146=>181|51=>171|n=>n,fun|1=>4|n=>n⟩
theorem Tryz.lays145:Go.Proofs.Lays.n145 Tryz.prog Tryz.lays145_ren:={
 mixed:=by kernel_rfl
 f145:=Tryz.func117.trans (congrArg some (by kernel_rfl))
 f217:=Tryz.func134.trans (congrArg some (by kernel_rfl))
 f219:=Tryz.func131.trans (congrArg some (by kernel_rfl))
 f220:=Tryz.func124.trans (congrArg some (by kernel_rfl))
 f224:=Tryz.func136.trans (congrArg some (by kernel_rfl))
 f225:=Tryz.func135.trans (congrArg some (by kernel_rfl))
 f266:=Tryz.func138.trans (congrArg some (by kernel_rfl))
 f267:=Tryz.func137.trans (congrArg some (by kernel_rfl))
 f314:=Tryz.func139.trans (congrArg some (by kernel_rfl))
 t3:=Tryz.underlying3
 a3:=Tryz.isAgg3
 z3:=Tryz.sizeOf3
 v3:=Tryz.zeroValue3
 t4:=Tryz.underlying4
 a4:=Tryz.isAgg4
 z4:=Tryz.sizeOf4
 v4:=Tryz.zeroValue4
 t5:=Tryz.underlying5
 a5:=Tryz.isAgg5
 z5:=Tryz.sizeOf5
 v5:=Tryz.zeroValue5
 t9:=Tryz.underlying9
 a9:=Tryz.isAgg9
 z9:=Tryz.sizeOf9
 v9:=Tryz.zeroValue9
 t46:=Tryz.underlying148
 a46:=Tryz.isAgg148
 z46:=Tryz.sizeOf148
 v46:=Tryz.zeroValue148
 t51:=Tryz.underlying171
 a51:=Tryz.isAgg171
 z51:=Tryz.sizeOf171
 v51:=Tryz.zeroValue171
 t59:=Tryz.underlying160
 a59:=Tryz.isAgg160
 z59:=Tryz.sizeOf160
 v59:=Tryz.zeroValue160
 t146:=Tryz.underlying181
 a146:=Tryz.isAgg181
 z146:=Tryz.sizeOf181
 v146:=Tryz.zeroValue181
 g1:=by kernel_rfl }
open Go.RowKit Go.Lib in
theorem Tryz.strings_Cut(s sep:ByteArray)(m:Int)(w:World)(hs:s.size<4294967281)(hm:w.cell? ⟨4,0,none⟩=some (.int .i64 m)) :
  Calls Tryz.prog 117 #[.string s,.string sep] w fun e w'=>e=.returned (.tuple #[.string ⟨(Lib.cut s.data.toList sep.data.toList).1.toArray⟩,.string ⟨(Lib.cut s.data.toList sep.data.toList).2.1.toArray⟩,.bool (Lib.cut s.data.toList sep.data.toList).2.2])∧∃ n,w'=w.drewN n:=Any.strings_Cut Tryz.lays145 s sep m w hs hm
end Go.Proofs
namespace Go.Proofs.YtoikodohcieipaaGreatDoor
open Go.RowKit
theorem hid{p:Prop}(h:p):Hid p:=h
def Q(w w':World):Prop:=Below w.heap.size w w'
theorem Q.refl(w:World):Q w w:=Below.refl _ _
theorem Q.trans{a b c:World}(h:Q a b)(k:Q b c):Q a c:=Below.trans h (Below.mono k h.size)
theorem Q.drew{a w:World}(h:Q a w):Q a w.drew:=Below.drew h
theorem Q.drewN{a w:World}(h:Q a w)(n:Nat):Q a (w.drewN n):=below_drewN h n
theorem Q.alloc{a w:World}(h:Q a w)(o:Obj):Q a (w.alloc o):=Below.alloc h h.size o
theorem Q.cell{a w:World}(h:Q a w){b o:Nat}(hb:b<a.heap.size):w.cell? ⟨b,o,none⟩=a.cell? ⟨b,o,none⟩:=Below.cell h hb
theorem Q.lt{a w:World}(h:Q a w){b:Nat}(hb:b<a.heap.size):b<w.heap.size:=Nat.lt_of_lt_of_le hb h.size
theorem Q.setCell{a w:World}(h:Q a w){b k:Nat}(hb:a.heap.size≤b)(v:Value):Q a (w.setCell ⟨b,k,none⟩ v):=Below.setCell h hb v
def enL(e:Int):List UInt8:=
 if e=1 then [35,82,69,70,33] else if e=2 then [35,67,89,67,76,69,33] else if e=3 then [35,68,73,86,47,48,33]
 else if e=4 then [35,78,85,77,33] else if e=5 then [35,86,65,76,85,69,33] else if e=6 then [35,78,65,77,69,63]
 else if e=7 then [35,78,47,65] else []
def sgL:List (List UInt8):=[[60,62],[60,61],[62,61],[60],[62],[61],[43],[45],[42],[47],[38],[40],[41],[44],[58]]
def Nam(w:World):Prop:=0<w.heap.size∧∀ i:Nat,i<8→w.cell? ⟨0,i,none⟩=some (.string ⟨(enL i).toArray⟩)
theorem Nam.on{w w':World}(h:Nam w)(q:Q w w'):Nam w':=⟨q.lt h.1,fun i hi=>by rw [q.cell h.1];exact h.2 i hi⟩
structure Std (w:World):Prop where
 nam:Nam w
 utf:Lib.Utf8Tabs 1 2 w
 len:∃ m:Int,w.cell? ⟨4,0,none⟩=some (.int .i64 m)
 big:5<w.heap.size
theorem Std.on{w w':World}(h:Std w)(q:Q w w'):Std w':=by
 have hb:=h.big;refine ⟨h.nam.on q,Utf8Tabs_below h.utf q,?_,q.lt h.big⟩
 obtain ⟨m,hm⟩:=h.len;exact ⟨m,by rw [q.cell (by omega)];exact hm⟩
theorem ret_int{k:IntKind}{a b:Int}(h:a=b):Ending.returned (.int k a)=.returned (.int k b):=by rw [h]
theorem ret_bool{a b:Bool}(h:a=b):Ending.returned (.bool a)=.returned (.bool b):=by rw [h]
theorem ret_str{a b:ByteArray}(h:a=b):Ending.returned (.string a)=.returned (.string b):=by rw [h]
theorem bytes_cat(a b:List UInt8):(⟨a.toArray⟩:ByteArray)++(⟨b.toArray⟩:ByteArray)=⟨(a++b).toArray⟩:=by
 apply ByteArray.ext
 simp
theorem size_mk(l:List UInt8):(⟨l.toArray⟩:ByteArray).size=l.length:=by simp [ByteArray.size]
theorem bytes_eq{s:ByteArray}{l:List UInt8}(h:s.data.toList=l):s=⟨l.toArray⟩:=by
 apply ByteArray.ext
 apply Array.ext'
 exact h
theorem take_snoc(s:ByteArray)(k:Nat)(h:k<s.size):s.data.toList.take (k+1)=s.data.toList.take k++[s[k]]:=by
 rw [List.take_succ_eq_append_getElem (by simpa using h)];rfl
theorem take_all(s:ByteArray)(k:Nat)(h:s.size≤k):s.data.toList.take k=s.data.toList:=
 List.take_of_length_le (by simpa using h)
theorem drop_cons(s:ByteArray)(k:Nat)(h:k<s.size):s.data.toList.drop k=s[k]::s.data.toList.drop (k+1):=by
 rw [List.drop_eq_getElem_cons (by simpa using h)];rfl
theorem get_mem(s:ByteArray)(k:Nat)(h:k<s.size):s[k]∈s.data.toList:=by
 have:s[k]=s.data.toList[k]'(by simpa using h):=rfl
 rw [this];exact List.getElem_mem _
theorem len_data(s:ByteArray):s.data.toList.length=s.size:=by simp
theorem headD_get(s:ByteArray)(h:0<s.size):s.data.toList.headD 0=s[0]:=by
 have h':0<s.data.toList.length:=by simpa using h
 have e:s[0]=s.data.toList[0]'h':=rfl
 rw [e,List.headD_eq_head?_getD,List.head?_eq_getElem?,List.getElem?_eq_getElem h']
 rfl
end Go.Proofs.YtoikodohcieipaaGreatDoor
namespace Go.Proofs.YtoikodohcieipaaGreatDoor.V
open Go
def fitB(n:Int):Bool:=decide (-9223372036854775808≤n∧n≤9223372036854775807)
def keep(n:Int):Int:=if fitB n then n else 0
def sgn(n:Int)(neg:Bool):Int:=if neg then -n else n
def wholeB(l:List UInt8):Bool:=l == [48] || (!l.isEmpty&&(l.headD 0 != 48)&&allD l)
def partB(l:List UInt8):Bool:=!l.isEmpty&&decide (l.length≤4)&&allD l
def parseO(l:List UInt8):Option Int:=
 if wholeB (Lib.cut (Lib.trimPrefix l [45]) [46]).1&&(!(Lib.cut (Lib.trimPrefix l [45]) [46]).2.2 || partB (Lib.cut (Lib.trimPrefix l [45]) [46]).2.1) then
  some (sgn (val ((Lib.cut (Lib.trimPrefix l [45]) [46]).1++(Lib.cut (Lib.trimPrefix l [45]) [46]).2.1++[48,48,48,48].drop (Lib.cut (Lib.trimPrefix l [45]) [46]).2.1.length)) (Lib.hasPrefix l [45]))
 else none
def pk:Option Int→Int|none=>0|some n=>keep n
def pf:Option Int→Bool|none=>false|some n=>fitB n
def parse2(t:List UInt8)(ng:Bool):Option Int:=
 if wholeB (Lib.cut t [46]).1&&(!(Lib.cut t [46]).2.2 || partB (Lib.cut t [46]).2.1) then
  some (sgn (val ((Lib.cut t [46]).1++(Lib.cut t [46]).2.1++[48,48,48,48].drop (Lib.cut t [46]).2.1.length)) ng)
 else none
theorem parseO_eq(l:List UInt8):parseO l=parse2 (Lib.trimPrefix l [45]) (Lib.hasPrefix l [45]):=rfl
theorem val_app(l m:List UInt8):val (l++m)=val l*10 ^ m.length+val m:=by
 have h:∀ (m:List UInt8) (n:Nat),m.foldl (fun n c=>n*10+(c.toNat-48)) n=n*10 ^ m.length+val m:=by
  intro m
  induction m with
  |nil=>intro n;simp [val]
  |cons c m ih=>
   intro n
   have e:val (c::m)=m.foldl (fun n c=>n*10+(c.toNat-48)) (0*10+(c.toNat-48)):=rfl
   rw [e,List.foldl_cons,ih,ih,List.length_cons,Nat.pow_succ,Nat.add_mul,Nat.add_mul];rw [Nat.mul_assoc n,Nat.mul_comm 10];omega
 have e:val (l++m)=m.foldl (fun n c=>n*10+(c.toNat-48)) (val l):=by unfold val;rw [List.foldl_append]
 rw [e,h]
theorem val_zeros(k:Nat):val (List.replicate k 48)=0:=by
 induction k with
 |zero=>rfl
 |succ k ih=>rw [List.replicate_succ'];rw [val_app,ih];simp [val]
theorem zeros_drop(k:Nat)(h:k≤4):([48,48,48,48]:List UInt8).drop k=List.replicate (4-k) 48:=by
 rcases (by omega:k=0∨k=1∨k=2∨k=3∨k=4) with rfl|rfl|rfl|rfl|rfl <;> rfl
theorem allD_app(a b:List UInt8):allD (a++b)=(allD a&&allD b):=by unfold allD;rw [List.all_append]
theorem allD_mem{a:List UInt8}(h:allD a=true){c:UInt8}(hc:c∈a):48≤c.toNat∧c.toNat≤57:=by
 unfold allD at h
 rw [List.all_eq_true]at h;have:=h c hc
 unfold dig at this
 simpa using this
theorem allD_no46{a:List UInt8}(h:allD a=true):(46:UInt8) ∉ a:=fun hc=>by
 have:=allD_mem h hc
 have e:(46:UInt8).toNat=46:=rfl
 omega
theorem cut_at(a b:List UInt8)(h:(46:UInt8) ∉ a):Lib.cut (a++46::b) [46]=(a,b,true):=by
 have hi:Lib.index (a++46::b) [46]=(a.length:Int):=by
  refine Lib.index_first (by simp) ?_ ?_
  ·unfold Lib.occAt
   rw [List.drop_left];simp
  ·intro j hj
   unfold Lib.occAt
   rw [List.drop_append_of_le_length (by omega),List.drop_eq_getElem_cons hj]
   simp only [List.cons_append,List.isPrefixOf_cons_cons,List.isPrefixOf_nil_left,Bool.and_true,beq_eq_false_iff_ne]
   intro e
   exact h (e ▸ List.getElem_mem hj)
 unfold Lib.cut
 rw [hi,if_pos (by omega)]
 simp
theorem cut_free(a:List UInt8)(h:(46:UInt8) ∉ a):Lib.cut a [46]=(a,[],false):=by
 have hi:Lib.index a [46]=-1:=by
  refine Lib.index_none ?_
  intro j hj
  unfold Lib.occAt
  by_cases hl:j<a.length
  ·rw [List.drop_eq_getElem_cons hl]
   simp only [List.isPrefixOf_cons_cons,List.isPrefixOf_nil_left,Bool.and_true,beq_eq_false_iff_ne]
   intro e
   exact h (e ▸ List.getElem_mem hl)
  ·rw [List.drop_of_length_le (by omega)]
   rfl
 unfold Lib.cut
 rw [hi,if_neg (by omega)]
theorem cut_any(t:List UInt8):(∃ a b,t=a++46::b∧(46:UInt8) ∉ a)∨(46:UInt8) ∉ t:=by
 induction t with
 |nil=>exact .inr (by simp)
 |cons c t ih=>
  by_cases hc:c=46
  ·subst hc;exact .inl ⟨[],t,rfl,by simp⟩
  ·rcases ih with ⟨a,b,rfl,h⟩|h
   ·exact .inl ⟨c::a,b,rfl,by simp [h,Ne.symm hc]⟩
   ·exact .inr (by simp [h,Ne.symm hc])
theorem whole_all{l:List UInt8}(h:wholeB l=true):allD l=true:=by
 unfold wholeB at h
 rw [Bool.or_eq_true]at h
 rcases h with h|h
 ·rw [eq_of_beq h];rfl
 ·rw [Bool.and_eq_true]at h;exact h.2
theorem whole_yes{l:List UInt8}(h:allD l=true)(h0:l.length≠0)(h1:¬ (1<l.length∧l.headD 0=48)):wholeB l=true:=by
 unfold wholeB
 rw [h]
 match l with
 |[]=>exact absurd rfl h0
 |[c]=>
  by_cases hc:c=48
  ·subst hc;rfl
  ·have:(c != 48)=true:=by simpa using hc
   simp only [List.headD_cons,this];simp
 |c::d::l=>
  have hc:c≠48:=fun e=>h1 ⟨by simp,by simpa using e⟩
  have:(c != 48)=true:=by simpa using hc
  simp only [List.headD_cons,this];simp
theorem whole_no{l:List UInt8}(h:l.length=0∨(1<l.length∧l.headD 0=48)):wholeB l=false:=by
 rcases h with h|⟨h1,h2⟩
 ·have:l=[]:=List.eq_nil_of_length_eq_zero h
  subst this;rfl
 ·match l with
  |[]=>simp at h1
  |[c]=>simp at h1
  |c::d::l=>
   have e:c=48:=by simpa using h2
   subst e;unfold wholeB
   simp
theorem val_pad(t:List UInt8)(k:Nat)(h:k≤4):val (t++([48,48,48,48]:List UInt8).drop k)=val t*10 ^ (4-k):=by
 rw [zeros_drop k h,val_app,val_zeros,List.length_replicate];omega
theorem parse2_plain{t:List UInt8}(ng:Bool)(h:allD t=true):parse2 t ng=if wholeB t then some (sgn ((val t*10000:Nat):Int) ng) else none:=by
 unfold parse2
 rw [cut_free t (allD_no46 h)];have e:val (t++[]++([48,48,48,48]:List UInt8).drop ([]:List UInt8).length)=val t*10000:=by
  rw [List.append_nil];exact val_pad t 0 (by omega)
 simp only [e]
 cases wholeB t <;> rfl
theorem parse2_point{a b:List UInt8}(ng:Bool)(ha:allD a=true)(hb:allD b=true):parse2 (a++46::b) ng =
  if wholeB a&&(decide (1≤b.length)&&decide (b.length≤4)) then some (sgn ((val (a++b)*10 ^ (4-b.length):Nat):Int) ng) else none:=by
 unfold parse2
 rw [cut_at a b (allD_no46 ha)];have hp:partB b=(decide (1≤b.length)&&decide (b.length≤4)):=by
  unfold partB
  rw [hb];cases b <;> simp
 simp only [hp]
 by_cases h4:b.length≤4
 ·rw [val_pad (a++b) _ h4]
  cases wholeB a <;> simp
 ·simp [h4]
theorem parse2_bad1{a r:List UInt8}{c:UInt8}(ng:Bool)(hc:dig c=false)(h46:c≠46)(ha:(46:UInt8) ∉ a):parse2 (a++c::r) ng=none:=by
 have hno:∀ x,allD (a++c::x)=false:=fun x=>by
  rw [allD_app];have:allD (c::x)=false:=by unfold allD;rw [List.all_cons,hc];rfl
  rw [this,Bool.and_false]
 have hw:∀ x,wholeB (a++c::x)=false:=fun x=>by
  cases h:wholeB (a++c::x) with
  |false=>rfl
  |true=>have:=whole_all h;rw [hno]at this;cases this
 unfold parse2
 rcases cut_any r with ⟨x,y,rfl,h⟩|h
 ·have e:a++c::(x++46::y)=(a++c::x)++46::y:=by simp
  rw [e,cut_at _ y (by simp [ha,h,Ne.symm h46])]
  simp [hw]
 ·rw [cut_free _ (by simp [ha,h,Ne.symm h46])]
  simp [hw]
theorem parse2_bad2{a b r:List UInt8}{c:UInt8}(ng:Bool)(hc:dig c=false)(ha:(46:UInt8) ∉ a):parse2 (a++46::(b++c::r)) ng=none:=by
 unfold parse2
 rw [cut_at a _ ha];have:partB (b++c::r)=false:=by
  unfold partB
  rw [allD_app];have:allD (c::r)=false:=by unfold allD;rw [List.all_cons,hc];rfl
  rw [this];simp
 simp [this]
def PI(t:List UInt8)(k:Nat)(pt:Int)(V:Nat):Prop:=
 (pt=-1∧allD (t.take k)=true∧V=val (t.take k)) ∨
 ∃ a b,pt=(a.length:Int)∧t.take k=a++46::b∧allD a=true∧allD b=true∧V=val (a++b)
theorem PI.start(t:List UInt8):PI t 0 (-1) 0:=.inl ⟨rfl,rfl,rfl⟩
theorem PI.point{t:List UInt8}{k V:Nat}{pt:Int}(h:PI t k pt V)(hp:pt<0)(hk:k≤t.length)(hc:t.take (k+1)=t.take k++[46]):PI t (k+1) k V:=by
 rcases h with ⟨_,h,hv⟩|⟨a,b,h,_⟩
 ·exact .inr ⟨t.take k,[],by rw [List.length_take];omega,hc,h,rfl,by rw [List.append_nil];exact hv⟩
 ·omega
theorem val_one(c:UInt8):val [c]=c.toNat-48:=by simp [val]
theorem PI.digit{t:List UInt8}{k V:Nat}{pt:Int}{c:UInt8}(h:PI t k pt V)(hc:t.take (k+1)=t.take k++[c])(hd:dig c=true):PI t (k+1) pt (V*10+(c.toNat-48)):=by
 have hd1:allD [c]=true:=by unfold allD;simp [hd]
 rcases h with ⟨h0,h,hv⟩|⟨a,b,h0,h1,ha,hb,hv⟩
 ·refine .inl ⟨h0,?_,?_⟩
  ·rw [hc,allD_app,h,hd1];rfl
  ·rw [hc,val_app,hv,val_one];simp
 ·refine .inr ⟨a,b++[c],h0,?_,ha,?_,?_⟩
  ·rw [hc,h1];simp
  ·rw [allD_app,hb,hd1];rfl
  ·rw [←List.append_assoc,val_app,hv,val_one];simp
theorem PI.bad{t:List UInt8}{k V:Nat}{pt:Int}{c:UInt8}(ng:Bool)(h:PI t k pt V)(hc:t.take (k+1)=t.take k++[c])(hd:dig c=false)(hp:c≠46∨0≤pt):parse2 t ng=none:=by
 have e:t=t.take k++c::t.drop (k+1):=by
  have:=List.take_append_drop (k+1) t
  rw [hc,List.append_assoc]at this;exact this.symm
 rcases h with ⟨h0,h,hv⟩|⟨a,b,h0,h1,ha,hb,hv⟩
 ·rw [e]
  exact parse2_bad1 ng hd (hp.resolve_right (by omega)) (allD_no46 h)
 ·rw [e,h1,List.append_assoc,List.cons_append]
  exact parse2_bad2 ng hd (allD_no46 ha)
theorem headD_take(t:List UInt8)(p:Nat)(h:0<p):(t.take p).headD 0=t.headD 0:=by
 cases t with
 |nil=>simp
 |cons c t=>obtain ⟨p,rfl⟩:∃ q,p=q+1:=⟨p-1,by omega⟩;rfl
theorem PI.done1{t:List UInt8}{V:Nat}{pt:Int}(ng:Bool)(h:PI t t.length pt V)(hp:pt<0) :
  parse2 t ng=if t.length=0∨(1<t.length∧t.headD 0=48) then none else some (sgn ((V*10000:Nat):Int) ng):=by
 rcases h with ⟨h0,h,hv⟩|⟨a,b,h0,h1,ha,hb,hv⟩
 ·rw [List.take_length]at h hv
  rw [parse2_plain ng h,hv];by_cases h1:t.length=0∨(1<t.length∧t.headD 0=48)
  ·rw [if_pos h1,whole_no h1];rfl
  ·rw [if_neg h1,whole_yes h (fun e=>h1 (.inl e)) (fun e=>h1 (.inr e))];rfl
 ·omega
theorem PI.done2{t:List UInt8}{V p:Nat}(ng:Bool)(h:PI t t.length (p:Int) V) :
  p<t.length∧parse2 t ng=if t.length-p-1<1∨4<t.length-p-1 then none else if p=0∨(1<p∧t.headD 0=48) then none else some (sgn ((V*10 ^ (4-(t.length-p-1)):Nat):Int) ng):=by
 rcases h with ⟨h0,h,hv⟩|⟨a,b,h0,h1,ha,hb,hv⟩
 ·omega
 ·rw [List.take_length]at h1
  have hp:p=a.length:=by omega
  have hlen:t.length=a.length+(b.length+1):=by rw [h1,List.length_append,List.length_cons]
  have eb:t.length-p-1=b.length:=by omega
  refine ⟨by omega,?_⟩
  rw [eb,hv];have hh:0<a.length→t.headD 0=a.headD 0:=fun h=>by
   rw [h1];cases a;simp at h;rfl
  have e2:=parse2_point ng ha hb;rw [←h1]at e2;rw [e2];clear e2;by_cases c1:b.length<1∨4<b.length
  ·rw [if_pos c1]
   have:(decide (1≤b.length)&&decide (b.length≤4))=false:=by
    rcases c1 with h|h
    ·simp;omega
    ·simp;omega
   rw [this,Bool.and_false];rfl
  ·rw [if_neg c1]
   have:(decide (1≤b.length)&&decide (b.length≤4))=true:=by simp;omega
   rw [this,Bool.and_true];by_cases c2:p=0∨(1<p∧t.headD 0=48)
   ·rw [if_pos c2,whole_no]
    ·rfl
    ·rcases c2 with h|⟨h,h'⟩
     ·exact .inl (by omega)
     ·exact .inr ⟨by omega,by rw [←hh (by omega)];exact h'⟩
   ·rw [if_neg c2,whole_yes ha]
    ·rfl
    ·intro h;exact c2 (.inl (by omega))
    ·rintro ⟨h,h'⟩;exact c2 (.inr ⟨by omega,by rw [hh (by omega)];exact h'⟩)
/-! ### what is printed is read again -/
end Go.Proofs.YtoikodohcieipaaGreatDoor.V
namespace Go.Proofs.YtoikodohcieipaaGreatDoor.V
open Go.RowKit
theorem ret_int{k:IntKind}{a b:Int}(h:a=b):Ending.returned (.int k a)=.returned (.int k b):=by rw [h]
theorem ret_pair{k:IntKind}{a b:Int}{c:Bool}(h:a=b):Ending.returned (.tuple #[.int k a,.bool c])=.returned (.tuple #[.int k b,.bool c]):=by rw [h]
theorem fitB_yes{n:Int}(h0:-9223372036854775808≤n)(h1:n≤9223372036854775807):fitB n=true:=by unfold fitB;simp;omega
theorem fitB_no{n:Int}(h:n < -9223372036854775808∨9223372036854775807<n):fitB n=false:=by unfold fitB;simp;omega
theorem keep_yes{n:Int}(h:fitB n=true):keep n=n:=by unfold keep;rw [h];rfl
theorem keep_no{n:Int}(h:fitB n=false):keep n=0:=by unfold keep;rw [h];rfl
def vv(k n:Int)(t:ByteArray)(b:Bool)(e:Int):Value:=.agg #[.int .i64 k,.int .i64 n,.string t,.bool b,.int .i64 e]
theorem vret_bool{a b:Bool}(h:a=b):Ending.returned (.bool a)=.returned (.bool b):=by rw [h]
end Go.Proofs.YtoikodohcieipaaGreatDoor.V
namespace Go.Proofs
open Go.Shelf
def Tryz.lays196_ren:Go.Shelf.Ren:=⟨fun|196=>107|259=>113|n=>n,fun|9=>9|4=>4|3=>3|5=>5|12=>12|119=>153|0=>0|46=>148|139=>156|138=>155|53=>137|n=>n,fun|3=>1|4=>2|n=>n⟩
theorem Tryz.lays196:Go.Proofs.Lays.n196 Tryz.prog Tryz.lays196_ren:={
 mixed:=by kernel_rfl
 f196:=Tryz.func107.trans (congrArg some (by kernel_rfl))
 f259:=Tryz.func113.trans (congrArg some (by kernel_rfl))
 t0:=Tryz.underlying0
 a0:=Tryz.isAgg0
 z0:=Tryz.sizeOf0
 v0:=Tryz.zeroValue0
 t3:=Tryz.underlying3
 a3:=Tryz.isAgg3
 z3:=Tryz.sizeOf3
 v3:=Tryz.zeroValue3
 t4:=Tryz.underlying4
 a4:=Tryz.isAgg4
 z4:=Tryz.sizeOf4
 v4:=Tryz.zeroValue4
 t5:=Tryz.underlying5
 a5:=Tryz.isAgg5
 z5:=Tryz.sizeOf5
 v5:=Tryz.zeroValue5
 t9:=Tryz.underlying9
 a9:=Tryz.isAgg9
 z9:=Tryz.sizeOf9
 v9:=Tryz.zeroValue9
 t12:=Tryz.underlying12
 a12:=Tryz.isAgg12
 z12:=Tryz.sizeOf12
 v12:=Tryz.zeroValue12
 t46:=Tryz.underlying148
 a46:=Tryz.isAgg148
 z46:=Tryz.sizeOf148
 v46:=Tryz.zeroValue148
 t53:=Tryz.underlying137
 a53:=Tryz.isAgg137
 z53:=Tryz.sizeOf137
 v53:=Tryz.zeroValue137
 t119:=Tryz.underlying153
 a119:=Tryz.isAgg153
 z119:=Tryz.sizeOf153
 t138:=Tryz.underlying155
 a138:=Tryz.isAgg155
 z138:=Tryz.sizeOf155
 v138:=Tryz.zeroValue155
 t139:=Tryz.underlying156
 a139:=Tryz.isAgg156
 z139:=Tryz.sizeOf156
 v139:=Tryz.zeroValue156
 g3:=by kernel_rfl
 g4:=by kernel_rfl }
open Go.RowKit in
theorem Tryz.utf8_ValidString(s:ByteArray)(w:World)(hs:s.size≤9223372036854775807)(hT:Lib.Utf8Tabs 1 2 w) :
  Calls Tryz.prog 107 #[.string s] w fun e w'=>e=.returned (.bool (Lib.validD s.data.toList))∧Below w.heap.size w w':=Any.utf8_ValidString Tryz.lays196 s w hs hT
end Go.Proofs
namespace Go.Proofs.YtoikodohcieipaaGreatDoor
open Go.RowKit
theorem numF_zero{l:List UInt8}{m:Nat}(h:l.headD 0=48)(h1:1<l.length):numF l m=false:=by
 unfold numF
 rw [h,decide_eq_true h1];simp
theorem numF_nodig{l:List UInt8}{m:Nat}(h:allD l=false):numF l m=false:=by
 unfold numF
 rw [h];simp
theorem numF_great{l:List UInt8}{m:Nat}(h:m<val l):numF l m=false:=by
 unfold numF
 rw [decide_eq_false (show ¬ val l≤m by omega)]
 simp
theorem numF_yes{l:List UInt8}{m:Nat}(h0:l≠[])(h1:¬ (l.headD 0=48∧1<l.length))(h2:allD l=true)(h3:val l≤m):numF l m=true:=by
 unfold numF
 rw [h2,decide_eq_true h3];have e0:l.isEmpty=false:=by cases l;exact absurd rfl h0;rfl
 have e1:(l.headD 0 == 48&&decide (1<l.length))=false:=by
  rw [Bool.and_eq_false_iff];by_cases h:l.headD 0=48
  ·exact .inr (decide_eq_false fun g=>h1 ⟨h,g⟩)
  ·exact .inl (beq_eq_false_iff_ne.2 h)
 rw [e0,e1]
 rfl
theorem allD_no(s:ByteArray)(k:Nat)(h:k<s.size)(hd:dig s[k]=false):allD s.data.toList=false:=by
 unfold allD
 rw [List.all_eq_false];exact ⟨s[k],get_mem s k h,by simp [hd]⟩
theorem byte_ne{c:UInt8}{n:Nat}(hn:n<256)(h:c≠UInt8.ofNat n):((c.toNat:Int) == (n:Int))=false:=by
 rw [beq_eq_false_iff_ne];intro e
 apply h
 apply UInt8.toNat_inj.1
 have:(UInt8.ofNat n).toNat=n % 256:=UInt8.toNat_ofNat'
 rw [this];omega
theorem ne_of_pos{s:ByteArray}(h:0<s.size):s.data.toList≠[]:=fun e=>by
 have h1:=congrArg List.length e;rw [len_data,List.length_nil]at h1;omega
theorem toList_ne{s:ByteArray}(h:0<s.size):(s.toList == [])=false:=by
 rw [Lib.toList_data,beq_eq_false_iff_ne];exact ne_of_pos h
theorem number_any(s:ByteArray)(m:Nat)(M:Int)(w:World)(hM:Hid (M=(m:Int)))(M0:0≤M)(M1:M≤2199023255552)(hs:s.size≤9223372036854775807) :
  Calls Tryz.prog 118 #[.string s,.int .i64 M] w fun e w'=>e=.returned (.tuple #[.int .i64 (numK s.data.toList m),.bool (numF s.data.toList m)])∧w'=w:=by
 have HF:∀ b:Bool,numF s.data.toList m=b→Hid (numF s.data.toList m=b∧numK s.data.toList m=if b then (val s.data.toList:Int) else 0):=by
  intro b e
  exact ⟨e,by unfold numK;rw [e]⟩
 have et:=hid (Lib.toList_data s);by_cases h0:s.size=0
 ·have e0:s.toList=[]:=by rw [Lib.toList_data];exact List.eq_nil_of_length_eq_zero (by rw [len_data];exact h0)
  have hF:=HF false (by rw [←et.out,e0];rfl)
  clear h0;go_enter Tryz.func118,Tryz.ntmps118
  go_wp2
  go_ret2
  exact ⟨by rw [hF.out.1,hF.out.2];rfl,rfl⟩
 ·have hp:0<s.size:=by omega
  have e0:=toList_ne hp;have hh:=hid (headD_get s hp);by_cases hz:s[0]=48∧1<s.size
  ·have hF:=HF false (numF_zero (by rw [hh.out];exact hz.1) (by rw [len_data];exact hz.2))
   have hc:(s[0].toNat:Int)=48:=by rw [hz.1];rfl
   have h1:=hz.2;clear hz h0;go_enter Tryz.func118,Tryz.ntmps118
   go_wp2
   go_ret2
   exact ⟨by rw [hF.out.1,hF.out.2];rfl,rfl⟩
  ·have HZ:Hid (¬ (s.data.toList.headD 0=48∧1<s.data.toList.length)):=by
    show ¬ _
    rw [hh.out,len_data];exact hz
   have hc:((s[0].toNat:Int) == 48)=false∨((s[0].toNat:Int)=48∧¬ 1<(s.size:Int)):=by
    by_cases h:s[0]=48
    ·exact .inr ⟨by rw [h];rfl,fun g=>hz ⟨h,by omega⟩⟩
    ·exact .inl (byte_ne (n:=48) (by omega) h)
   clear hz h0
   rcases hc with hc|⟨hc,h1⟩
   ·go_enter Tryz.func118,Tryz.ntmps118
    go_wp2
    go_loop [6,22] (fun a i=>∃ (k:Nat) (n:Int),k≤s.size∧i=.int .i64 k∧a=.int .i64 n∧0≤n∧n≤M∧Hid (allD (s.data.toList.take k)=true∧n=(val (s.data.toList.take k):Int))) (fun _ i=>s.size-(intOf i).toNat)
    case atStart=>exact ⟨0,0,Nat.zero_le _,rfl,rfl,by omega,by omega,rfl,rfl⟩
    case round=>
     obtain ⟨k,n,hk,rfl,rfl,n0,n1,hn⟩:=hrel;by_cases hlt:k<s.size
     ·by_cases hd:dig s[k]=true
      ·have b0:48≤(s[k].toNat:Int):=by unfold dig at hd;simp at hd;omega
       have b1:(s[k].toNat:Int)≤57:=by unfold dig at hd;simp at hd;omega
       have hv:Hid (allD (s.data.toList.take (k+1))=true∧(val (s.data.toList.take (k+1)):Int)=n*10+((s[k].toNat:Int)-48)):=by
        have:=hn.out
        refine ⟨?_,?_⟩
        ·rw [take_snoc s k hlt,allD_app,this.1]
         unfold allD
         simp [hd]
        ·rw [take_snoc s k hlt,val_snoc,this.2]
         omega
       clear hd;by_cases hb:M<n*10+((s[k].toNat:Int)-48)
       ·have hF:=HF false (numF_great (by
         have h1:=val_ge (s.data.toList.take (k+1)) (s.data.toList.drop (k+1));rw [List.take_append_drop]at h1;have h2:=hv.out.2;have h3:=hM.out;omega))
        go_wp2
        go_ret2
        exact ⟨by rw [hF.out.1,hF.out.2];rfl,rfl⟩
       ·go_wp2
        go_round
        case rel=>exact ⟨k+1,n*10+((s[k].toNat:Int)-48),by omega,by go_num,rfl,by omega,by omega,hv.out.1,hv.out.2.symm⟩
        case measure=>simp [intOf];omega
      ·have hF:=HF false (numF_nodig (allD_no s k hlt (by simpa using hd)))
       by_cases b0:(s[k].toNat:Int)<48
       ·clear hd
        go_wp2
        go_ret2
        exact ⟨by rw [hF.out.1,hF.out.2];rfl,rfl⟩
       ·have b1:57<(s[k].toNat:Int):=by unfold dig at hd;simp at hd;omega
        clear hd;go_wp2
        go_ret2
        exact ⟨by rw [hF.out.1,hF.out.2];rfl,rfl⟩
     ·have hN:Hid (allD s.data.toList=true∧n=(val s.data.toList:Int)):=by have:=hn.out;rw [take_all s k (by omega)]at this;exact this
      have hF:=HF true (numF_yes (ne_of_pos hp) HZ.out hN.out.1 (by have:=hN.out.2;have:=hM.out;omega))
      go_wp2
      go_ret2
      exact ⟨by rw [hF.out.1,hF.out.2,hN.out.2];rfl,rfl⟩
   ·go_enter Tryz.func118,Tryz.ntmps118
    go_wp2
    go_loop [6,22] (fun a i=>∃ (k:Nat) (n:Int),k≤s.size∧i=.int .i64 k∧a=.int .i64 n∧0≤n∧n≤M∧Hid (allD (s.data.toList.take k)=true∧n=(val (s.data.toList.take k):Int))) (fun _ i=>s.size-(intOf i).toNat)
    case atStart=>exact ⟨0,0,Nat.zero_le _,rfl,rfl,by omega,by omega,rfl,rfl⟩
    case round=>
     obtain ⟨k,n,hk,rfl,rfl,n0,n1,hn⟩:=hrel;by_cases hlt:k<s.size
     ·by_cases hd:dig s[k]=true
      ·have b0:48≤(s[k].toNat:Int):=by unfold dig at hd;simp at hd;omega
       have b1:(s[k].toNat:Int)≤57:=by unfold dig at hd;simp at hd;omega
       have hv:Hid (allD (s.data.toList.take (k+1))=true∧(val (s.data.toList.take (k+1)):Int)=n*10+((s[k].toNat:Int)-48)):=by
        have:=hn.out
        refine ⟨?_,?_⟩
        ·rw [take_snoc s k hlt,allD_app,this.1]
         unfold allD
         simp [hd]
        ·rw [take_snoc s k hlt,val_snoc,this.2]
         omega
       clear hd;by_cases hb:M<n*10+((s[k].toNat:Int)-48)
       ·have hF:=HF false (numF_great (by
         have h1:=val_ge (s.data.toList.take (k+1)) (s.data.toList.drop (k+1));rw [List.take_append_drop]at h1;have h2:=hv.out.2;have h3:=hM.out;omega))
        go_wp2
        go_ret2
        exact ⟨by rw [hF.out.1,hF.out.2];rfl,rfl⟩
       ·go_wp2
        go_round
        case rel=>exact ⟨k+1,n*10+((s[k].toNat:Int)-48),by omega,by go_num,rfl,by omega,by omega,hv.out.1,hv.out.2.symm⟩
        case measure=>simp [intOf];omega
      ·have hF:=HF false (numF_nodig (allD_no s k hlt (by simpa using hd)))
       by_cases b0:(s[k].toNat:Int)<48
       ·clear hd
        go_wp2
        go_ret2
        exact ⟨by rw [hF.out.1,hF.out.2];rfl,rfl⟩
       ·have b1:57<(s[k].toNat:Int):=by unfold dig at hd;simp at hd;omega
        clear hd;go_wp2
        go_ret2
        exact ⟨by rw [hF.out.1,hF.out.2];rfl,rfl⟩
     ·have hN:Hid (allD s.data.toList=true∧n=(val s.data.toList:Int)):=by have:=hn.out;rw [take_all s k (by omega)]at this;exact this
      have hF:=HF true (numF_yes (ne_of_pos hp) HZ.out hN.out.1 (by have:=hN.out.2;have:=hM.out;omega))
      go_wp2
      go_ret2
      exact ⟨by rw [hF.out.1,hF.out.2,hN.out.2];rfl,rfl⟩
theorem owner_any(s:ByteArray)(w:World)(hw:Std w)(hs:s.size<4294967281) :
  Calls Tryz.prog 114 #[.string s] w fun e w'=>e=.returned (.int .i64 (ownK s.data.toList))∧Q w w':=by
 have hl:=Lib.trimPrefix_le s.data.toList [99];rw [len_data]at hl;have HO:Hid (ownK s.data.toList=if Lib.hasPrefix s.data.toList [99] then ownP (Lib.cut (Lib.trimPrefix s.data.toList [99]) [110]) else -1):=rfl
 have HP:Hid (∀ W,Calls Tryz.prog 116 #[.string s,.string ⟨#[99]⟩] W fun e w'=>e=.returned (.tuple #[.string ⟨(Lib.trimPrefix s.data.toList [99]).toArray⟩,.bool (Lib.hasPrefix s.data.toList [99])])∧w'=W):=fun W=>Tryz.strings_CutPrefix s ⟨#[99]⟩ W
 generalize Lib.trimPrefix s.data.toList [99]=t at *;generalize Lib.hasPrefix s.data.toList [99]=ng at *;have HC:Hid (∀ W,Q w W→Calls Tryz.prog 117 #[.string ⟨t.toArray⟩,.string ⟨#[110]⟩] W fun e w'=>e=.returned (.tuple #[.string ⟨(Lib.cut t [110]).1.toArray⟩,.string ⟨(Lib.cut t [110]).2.1.toArray⟩,.bool (Lib.cut t [110]).2.2])∧∃ n,w'=W.drewN n):=by
  intro W q
  obtain ⟨m,hm⟩:=(hw.on q).len;exact Tryz.strings_Cut ⟨t.toArray⟩ ⟨#[110]⟩ m W (by rw [size_mk];omega) hm
 have hcl:=cut_le 110 t;generalize Lib.cut t [110]=p at *;obtain ⟨a,b,f⟩:=p;simp only at HC hcl
 have HA:=hid (fun W=>number_any ⟨a.toArray⟩ 15 15 W rfl (by omega) (by omega) (by rw [size_mk];omega))
 have HB:=hid (fun W=>number_any ⟨b.toArray⟩ 999999 999999 W rfl (by omega) (by omega) (by rw [size_mk];omega))
 simp only at HA HB
 unfold numK at HA HB
 generalize (⟨a.toArray⟩:ByteArray)=A at *;generalize (⟨b.toArray⟩:ByteArray)=B at *;generalize (⟨t.toArray⟩:ByteArray)=T at *;unfold ownP at HO
 simp only at HO
 generalize numF a 15=fa at *;generalize numF b 999999=fb at *;generalize ((val a:Nat):Int)=va at *;generalize ((val b:Nat):Int)=vb at *;clear hs hcl hl hw
 rcases ng with _|_
 ·go_enter Tryz.func114,Tryz.ntmps114
  go_wp2_with (first|(go_at_call 116;refine (HP.out _).mono ?_;rintro e w1 ⟨rfl,rfl⟩)|(go_at_call 117;refine (HC.out _ (Q.refl _)).mono ?_;rintro e w2 ⟨rfl,nn,rfl⟩)|(go_at_call_of 118 A;refine (HA.out _).mono ?_;rintro e w3 ⟨rfl,rfl⟩)|(go_at_call_of 118 B;refine (HB.out _).mono ?_;rintro e w4 ⟨rfl,rfl⟩))
  go_ret
  exact ⟨ret_int (by rw [HO.out];rfl),Q.refl _⟩
 rcases f with _|_
 ·go_enter Tryz.func114,Tryz.ntmps114
  go_wp2_with (first|(go_at_call 116;refine (HP.out _).mono ?_;rintro e w1 ⟨rfl,rfl⟩)|(go_at_call 117;refine (HC.out _ (Q.refl _)).mono ?_;rintro e w2 ⟨rfl,nn,rfl⟩)|(go_at_call_of 118 A;refine (HA.out _).mono ?_;rintro e w3 ⟨rfl,rfl⟩)|(go_at_call_of 118 B;refine (HB.out _).mono ?_;rintro e w4 ⟨rfl,rfl⟩))
  go_ret
  exact ⟨ret_int (by rw [HO.out];rfl),(Q.refl _).drewN _⟩
 rcases fa with _|_ <;> rcases fb with _|_
 ·go_enter Tryz.func114,Tryz.ntmps114
  go_wp2_with (first|(go_at_call 116;refine (HP.out _).mono ?_;rintro e w1 ⟨rfl,rfl⟩)|(go_at_call 117;refine (HC.out _ (Q.refl _)).mono ?_;rintro e w2 ⟨rfl,nn,rfl⟩)|(go_at_call_of 118 A;refine (HA.out _).mono ?_;rintro e w3 ⟨rfl,rfl⟩)|(go_at_call_of 118 B;refine (HB.out _).mono ?_;rintro e w4 ⟨rfl,rfl⟩))
  go_ret
  exact ⟨ret_int (by rw [HO.out];rfl),(Q.refl _).drewN _⟩
 ·go_enter Tryz.func114,Tryz.ntmps114
  go_wp2_with (first|(go_at_call 116;refine (HP.out _).mono ?_;rintro e w1 ⟨rfl,rfl⟩)|(go_at_call 117;refine (HC.out _ (Q.refl _)).mono ?_;rintro e w2 ⟨rfl,nn,rfl⟩)|(go_at_call_of 118 A;refine (HA.out _).mono ?_;rintro e w3 ⟨rfl,rfl⟩)|(go_at_call_of 118 B;refine (HB.out _).mono ?_;rintro e w4 ⟨rfl,rfl⟩))
  go_ret
  exact ⟨ret_int (by rw [HO.out];rfl),(Q.refl _).drewN _⟩
 ·go_enter Tryz.func114,Tryz.ntmps114
  go_wp2_with (first|(go_at_call 116;refine (HP.out _).mono ?_;rintro e w1 ⟨rfl,rfl⟩)|(go_at_call 117;refine (HC.out _ (Q.refl _)).mono ?_;rintro e w2 ⟨rfl,nn,rfl⟩)|(go_at_call_of 118 A;refine (HA.out _).mono ?_;rintro e w3 ⟨rfl,rfl⟩)|(go_at_call_of 118 B;refine (HB.out _).mono ?_;rintro e w4 ⟨rfl,rfl⟩))
  go_ret
  exact ⟨ret_int (by rw [HO.out];rfl),(Q.refl _).drewN _⟩
 ·go_enter Tryz.func114,Tryz.ntmps114
  go_wp2_with (first|(go_at_call 116;refine (HP.out _).mono ?_;rintro e w1 ⟨rfl,rfl⟩)|(go_at_call 117;refine (HC.out _ (Q.refl _)).mono ?_;rintro e w2 ⟨rfl,nn,rfl⟩)|(go_at_call_of 118 A;refine (HA.out _).mono ?_;rintro e w3 ⟨rfl,rfl⟩)|(go_at_call_of 118 B;refine (HB.out _).mono ?_;rintro e w4 ⟨rfl,rfl⟩))
  go_ret
  exact ⟨ret_int (by rw [HO.out];rfl),(Q.refl _).drewN _⟩
def idB(l:List UInt8):Bool:=decide (0≤ownK l)
theorem id_any(s:ByteArray)(w:World)(hw:Std w)(hs:s.size<4294967281) :
  Calls Tryz.prog 109 #[.string s] w fun e w'=>e=.returned (.bool (idB s.data.toList))∧Q w w':=by
 have HO:=hid (owner_any s w hw hs);have HI:Hid (idB s.data.toList=decide (0≤ownK s.data.toList)):=rfl
 generalize ownK s.data.toList=K at *;clear hw hs;go_enter Tryz.func109,Tryz.ntmps109
 go_wp2_with (go_at_call 114;refine HO.out.mono ?_;rintro e w1 ⟨rfl,q1⟩)
 go_ret
 exact ⟨ret_bool HI.out.symm,q1⟩
theorem colF_long{l:List UInt8}(h:9<l.length):colF l=false:=by
 unfold colF
 rw [decide_eq_false (show ¬ l.length≤9 by omega)]
 simp
theorem colF_nolet{l:List UInt8}(h:allL l=false):colF l=false:=by
 unfold colF
 rw [h];simp
theorem colF_great{l:List UInt8}(h:2199023255552<colV l):colF l=false:=by
 unfold colF
 rw [decide_eq_false (show ¬ colV l≤2199023255552 by omega)]
 simp
theorem colF_yes{l:List UInt8}(h0:l≠[])(h1:l.length≤9)(h2:allL l=true)(h3:colV l≤2199023255552):colF l=true:=by
 unfold colF
 rw [h2,decide_eq_true h3,decide_eq_true h1];have e0:l.isEmpty=false:=by cases l;exact absurd rfl h0;rfl
 rw [e0]
 rfl
theorem allL_no(s:ByteArray)(k:Nat)(h:k<s.size)(hd:let1 s[k]=false):allL s.data.toList=false:=by
 unfold allL
 rw [List.all_eq_false];exact ⟨s[k],get_mem s k h,by simp [hd]⟩
theorem colK_of{l:List UInt8}(b:Bool)(h:colF l=b):Hid (colF l=b∧colK l=if b then (colV l:Int)-1 else 0):=by
 refine ⟨h,?_⟩
 unfold colK
 rw [h]
theorem rcol_any(s:ByteArray)(w:World)(hs:s.size≤9223372036854775807) :
  Calls Tryz.prog 101 #[.string s] w fun e w'=>e=.returned (.tuple #[.int .i64 (colK s.data.toList),.bool (colF s.data.toList)])∧w'=w:=by
 by_cases h0:s.size=0
 ·have hF:=colK_of (l:=s.data.toList) false (by rw [show s.data.toList=[] from List.eq_nil_of_length_eq_zero (by rw [len_data];exact h0)];rfl)
  have h1:(s.size:Int)<1:=by omega
  clear h0;go_enter Tryz.func101,Tryz.ntmps101
  go_wp2
  go_ret2
  exact ⟨by rw [hF.out.1,hF.out.2];rfl,rfl⟩
 ·have hp:0<s.size:=by omega
  by_cases hg:9<s.size
  ·have hF:=colK_of (l:=s.data.toList) false (colF_long (by rw [len_data];exact hg))
   have h1:¬ (s.size:Int)<1:=by omega
   clear h0;go_enter Tryz.func101,Tryz.ntmps101
   go_wp2
   go_ret2
   exact ⟨by rw [hF.out.1,hF.out.2];rfl,rfl⟩
  ·clear h0
   go_enter Tryz.func101,Tryz.ntmps101
   go_wp2
   go_loop [4,5] (fun a i=>∃ (k:Nat) (n:Int),k≤s.size∧i=.int .i64 k∧a=.int .i64 n∧0≤n∧n≤7625597484986∧Hid (allL (s.data.toList.take k)=true∧n=(colV (s.data.toList.take k):Int))) (fun _ i=>s.size-(intOf i).toNat)
   case atStart=>exact ⟨0,0,Nat.zero_le _,rfl,rfl,by omega,by omega,rfl,rfl⟩
   case round=>
    obtain ⟨k,n,hk,rfl,rfl,n0,n1,hn⟩:=hrel;by_cases hlt:k<s.size
    ·by_cases hd:let1 s[k]=true
     ·have b0:65≤(s[k].toNat:Int):=by unfold let1 at hd;simp at hd;omega
      have b1:(s[k].toNat:Int)≤90:=by unfold let1 at hd;simp at hd;omega
      have hv:Hid (allL (s.data.toList.take (k+1))=true∧(colV (s.data.toList.take (k+1)):Int)=n*26+((s[k].toNat:Int)-65)+1):=by
       have:=hn.out
       refine ⟨?_,?_⟩
       ·rw [take_snoc s k hlt,allL_app,this.1]
        unfold allL
        simp [hd]
       ·rw [take_snoc s k hlt,colV_snoc,this.2]
        omega
      have hb:=colV_nine _ hv.out.1 (by rw [List.length_take];omega)
      have hb':n*26+((s[k].toNat:Int)-65)+1≤7625597484986:=by have:=hv.out.2;omega
      clear hd hb;go_wp2
      go_round
      case rel=>exact ⟨k+1,n*26+((s[k].toNat:Int)-65)+1,by omega,by go_num,by go_num,by omega,by omega,hv.out.1,hv.out.2.symm⟩
      case measure=>simp [intOf];omega
     ·have hF:=colK_of false (colF_nolet (allL_no s k hlt (by simpa using hd)))
      by_cases b0:(s[k].toNat:Int)<65
      ·clear hd
       go_wp2
       go_ret2
       exact ⟨by rw [hF.out.1,hF.out.2];rfl,rfl⟩
      ·have b1:90<(s[k].toNat:Int):=by unfold let1 at hd;simp at hd;omega
       clear hd;go_wp2
       go_ret2
       exact ⟨by rw [hF.out.1,hF.out.2];rfl,rfl⟩
    ·have hN:Hid (allL s.data.toList=true∧n=(colV s.data.toList:Int)):=by have:=hn.out;rw [take_all s k (by omega)]at this;exact this
     by_cases hb:2199023255552<n
     ·have hF:=colK_of (l:=s.data.toList) false (colF_great (by have:=hN.out.2;omega))
      go_wp2
      go_ret2
      exact ⟨by rw [hF.out.1,hF.out.2];rfl,rfl⟩
     ·have hF:=colK_of (l:=s.data.toList) true (colF_yes (ne_of_pos hp) (by rw [len_data];omega) hN.out.1 (by have:=hN.out.2;omega))
      go_wp2
      go_ret2
      exact ⟨by rw [hF.out.1,hF.out.2,←hN.out.2];rfl,rfl⟩
theorem clone_any(s:ByteArray)(w:World)(hs:s.size≤281474976710656) :
  Calls Tryz.prog 46 #[.string s] w fun e w'=>e=.returned (.string s)∧Q w w':=by
 have HC:=hid (fun W=>Tryz.stringslite_Clone s W hs)
 clear hs;go_enter Tryz.func46,Tryz.ntmps46
 go_wp2_with (go_at_call 69;refine (HC.out _).mono ?_;rintro e w1 ⟨rfl,q1⟩)
 go_ret
 exact ⟨rfl,q1⟩
def refT (l : List UInt8) : List UInt8 × Int × Int × Bool × Bool :=
  if refF l then
    ((if (Lib.cut l [33]).2.2 then (Lib.cut l [33]).1 else []),
     (val (Lib.trimPrefix ((Lib.trimPrefix (shP (Lib.cut l [33]) l) [36]).dropWhile let1) [36]) : Int) - 1,
     (colV ((Lib.trimPrefix (shP (Lib.cut l [33]) l) [36]).takeWhile let1) : Int) - 1,
     Lib.hasPrefix ((Lib.trimPrefix (shP (Lib.cut l [33]) l) [36]).dropWhile let1) [36],
     Lib.hasPrefix (shP (Lib.cut l [33]) l) [36])
  else ([], 0, 0, false, false)
def refA(t:List UInt8 × Int × Int × Bool × Bool):Value:=.agg #[.string ⟨t.1.toArray⟩,.int .i64 t.2.1,.int .i64 t.2.2.1,.bool t.2.2.2.1,.bool t.2.2.2.2]
def tailF (c : List UInt8) : Bool :=
  colF ((Lib.trimPrefix c [36]).takeWhile let1) &&
   (numF (Lib.trimPrefix ((Lib.trimPrefix c [36]).dropWhile let1) [36]) 2199023255552 &&
    decide (val (Lib.trimPrefix ((Lib.trimPrefix c [36]).dropWhile let1) [36]) ≠ 0))
def tailT(sh c:List UInt8):List UInt8 × Int × Int × Bool × Bool:=
 (sh,(val (Lib.trimPrefix ((Lib.trimPrefix c [36]).dropWhile let1) [36]):Int)-1,
   (colV ((Lib.trimPrefix c [36]).takeWhile let1):Int)-1,
   Lib.hasPrefix ((Lib.trimPrefix c [36]).dropWhile let1) [36],
   Lib.hasPrefix c [36])
def noT:List UInt8 × Int × Int × Bool × Bool:=([],0,0,false,false)
theorem ref_free{l a b:List UInt8}(h:Lib.cut l [33]=(a,b,false)):refF l=tailF l∧refT l=if tailF l then tailT [] l else noT:=by
 have e:refF l=tailF l:=by unfold refF tailF;rw [h];rfl
 refine ⟨e,?_⟩
 unfold refT
 rw [e,h]
 rfl
theorem ref_other{l a b:List UInt8}(h:Lib.cut l [33]=(a,b,true)):refF l=(idB a&&tailF b)∧refT l=if idB a&&tailF b then tailT a b else noT:=by
 have e:refF l=(idB a&&tailF b):=by unfold refF tailF idB;rw [h];rfl
 refine ⟨e,?_⟩
 unfold refT
 rw [e,h]
 rfl
end Go.Proofs.YtoikodohcieipaaGreatDoor
namespace Go.Proofs.YtoikodohcieipaaGreatDoor.V
open Go.RowKit
theorem take_snoc(s:ByteArray)(k:Nat)(h:k<s.size):s.data.toList.take (k+1)=s.data.toList.take k++[s[k]]:=by
 rw [List.take_succ_eq_append_getElem (by simpa using h)];rfl
theorem take_all(s:ByteArray)(k:Nat)(h:s.size≤k):s.data.toList.take k=s.data.toList:=
 List.take_of_length_le (by simpa using h)
theorem get_mem(s:ByteArray)(k:Nat)(h:k<s.size):s[k]∈s.data.toList:=by
 have:s[k]=s.data.toList[k]'(by simpa using h):=rfl
 rw [this];exact List.getElem_mem _
theorem allD_no(s:ByteArray)(k:Nat)(h:k<s.size)(hd:dig s[k]=false):allD s.data.toList=false:=by
 unfold allD
 rw [List.all_eq_false];exact ⟨s[k],get_mem s k h,by simp [hd]⟩
theorem ret_bool{a b:Bool}(h:a=b):Ending.returned (.bool a)=.returned (.bool b):=by rw [h]
theorem val_snoc(l:List UInt8)(c:UInt8):val (l++[c])=val l*10+(c.toNat-48):=by unfold val;rw [List.foldl_append];rfl
theorem headD_get(s:ByteArray)(h:0<s.size):s.data.toList.headD 0=s[0]:=by
 have h':0<s.data.toList.length:=by simpa using h
 have e:s[0]=s.data.toList[0]'h':=rfl
 rw [e,List.headD_eq_head?_getD,List.head?_eq_getElem?,List.getElem?_eq_getElem h']
 rfl
theorem size_mk(l:List UInt8):(⟨l.toArray⟩:ByteArray).size=l.length:=by simp [ByteArray.size]
end Go.Proofs.YtoikodohcieipaaGreatDoor.V
namespace Go.Proofs.YtoikodohcieipaaGreatDoor
abbrev Rf:=List UInt8 × Int × Int × Bool × Bool
structure Ex where
 mk ::
 (k n:Int) (t:List UInt8) (b:Bool) (e:Int) (rs:List Rf) (ks:List Ex)
def zeroE:Ex:=.mk 0 0 [] false 0 [] []
structure Wd where
 k:Nat
 t:List UInt8
 p:Nat
def lvl(t:List UInt8):Nat:=
 if t=[61] then 1 else if t=[60,62] then 1 else if t=[60] then 1 else if t=[60,61] then 1 else if t=[62] then 1 else if t=[62,61] then 1 else if t=[38] then 2 else if t=[43] then 3 else if t=[45] then 3 else if t=[42] then 4 else if t=[47] then 4 else 0
def isW(L:List Wd)(i:Nat)(s:List UInt8):Bool:=match L[i]? with
 |some x=>decide (x.k=6∧x.t=s)
 |none=>false
theorem isW_at{L:List Wd}{i:Nat}{s:List UInt8}(h:i<L.length):isW L i s=decide (L[i].k=6∧L[i].t=s):=by
 unfold isW
 rw [List.getElem?_eq_getElem h]
structure Env where
 num:List UInt8→Int
 nok:List UInt8→Bool
 ref:List UInt8→Rf
 rok:List UInt8→Bool
 err:List UInt8→Nat
 nam:List UInt8→Bool
structure St where
 i:Nat
 bd:Bool
 n:Nat
def kAt(L:List Wd)(i:Nat):Nat:=(L.getD i ⟨7,[],0⟩).k
def tAt(L:List Wd)(i:Nat):List UInt8:=(L.getD i ⟨7,[],0⟩).t
theorem kAt_get{L:List Wd}{i:Nat}(h:i<L.length):kAt L i=L[i].k∧tAt L i=L[i].t:=by
 unfold kAt tAt
 rw [List.getD_eq_getElem?_getD,List.getElem?_eq_getElem h];exact ⟨rfl,rfl⟩
theorem isW_six{L:List Wd}{i:Nat}{s:List UInt8}(h:isW L i s=true):i<L.length∧kAt L i=6∧tAt L i=s:=by
 unfold isW at h
 cases hg:L[i]? with
 |none=>rw [hg]at h;cases h
 |some x=>
  rw [hg]at h;have hi:=(List.getElem?_eq_some_iff.1 hg).1;simp only [decide_eq_true_eq]at h
  unfold kAt tAt
  rw [List.getD_eq_getElem?_getD,hg];exact ⟨hi,h.1,h.2⟩
def numE(n:Int):Ex:=.mk 1 n [] false 0 [] []
def textE(t:List UInt8):Ex:=.mk 2 0 t false 0 [] []
def boolE(b:Bool):Ex:=.mk 3 0 [] b 0 [] []
def errE(e:Nat):Ex:=.mk 4 0 [] false (e:Int) [] []
def refE(r:Rf):Ex:=.mk 5 0 [] false 0 [r] []
def rangeE(r q:Rf):Ex:=.mk 6 0 [] false 0 [r,q] []
def negE(x:Ex):Ex:=.mk 7 0 [] false 0 [] [x]
def binE(t:List UInt8)(x y:Ex):Ex:=.mk 8 0 t false 0 [] [x,y]
def callE(t:List UInt8)(ks:List Ex):Ex:=.mk 9 0 t false 0 [] ks
def St.on(s:St):St:=⟨s.i+1,s.bd,s.n⟩
def St.bad(s:St):St:=⟨s.i,true,s.n⟩
def St.node(s:St):St:=⟨s.i,s.bd,s.n+1⟩
def truW:List UInt8:=[84,82,85,69]
def flsW:List UInt8:=[70,65,76,83,69]
def stg(L:List Wd)(i:Nat):Nat:=if kAt L i=6 then lvl (tAt L i) else 0
def closeS(L:List Wd)(s:St):St:=if s.bd then s else if isW L s.i [41] then s.on else s.bad
def oneF (E : Env) (L : List Wd) (s : St) : Ex × St :=
  if kAt L s.i = 1 then (numE (E.num (tAt L s.i)), s.on.node)
  else if kAt L s.i = 2 then (textE (tAt L s.i), s.on.node)
  else if kAt L s.i = 5 then (if E.err (tAt L s.i) = 0 then (zeroE, s.bad) else (errE (E.err (tAt L s.i)), s.on.node))
  else if kAt L s.i = 3 then
    (if isW L (s.i + 1) [58] then
      (if kAt L (s.i + 2) = 3 ∧ E.rok (tAt L (s.i + 2)) = true ∧ (E.ref (tAt L (s.i + 2))).1 = [] then (rangeE (E.ref (tAt L s.i)) (E.ref (tAt L (s.i + 2))), s.on.on.on.node) else (zeroE, s.on.on.bad))
     else (refE (E.ref (tAt L s.i)), s.on.node))
  else (zeroE, s.bad)
def argS(ks:List Ex)(s:St):St:=⟨s.i,s.bd || decide (30<ks.length+1),s.n⟩
def treeF (E : Env) (L : List Wd) : Nat → Nat → St → Option (Ex × St)
  | 0, _, _ => none
  | f + 1, lv, s =>
    if s.bd then some (zeroE, s) else if lv = 5 then aheadF E L f s
    else (treeF E L f (lv + 1) s).bind fun r => loopF E L f lv r.1 r.2
  where
  loopF (E : Env) (L : List Wd) : Nat → Nat → Ex → St → Option (Ex × St)
  | 0, _, _, _ => none
  | f + 1, lv, x, s =>
    if s.bd = false ∧ stg L s.i = lv then
      (treeF E L f (lv + 1) s.on).bind fun r => loopF E L f lv (binE (tAt L s.i) x r.1) r.2.node
    else some (x, s)
  aheadF (E : Env) (L : List Wd) : Nat → St → Option (Ex × St)
  | 0, _ => none
  | f + 1, s => if isW L s.i [45] then (treeF E L f 5 s.on).bind fun r => some (negE r.1, r.2.node) else firstF E L f s
  firstF (E : Env) (L : List Wd) : Nat → St → Option (Ex × St)
  | 0, _ => none
  | f + 1, s =>
    if isW L s.i [40] then (treeF E L f 1 s.on).bind fun r => some (r.1, closeS L r.2)
    else if kAt L s.i = 4 then
      (if tAt L s.i = truW ∨ tAt L s.i = flsW then some (boolE (decide (tAt L s.i = truW)), s.on.node)
       else if isW L (s.i + 1) [40] then (if 20 < (tAt L s.i).length then some (callE (tAt L s.i) [], s.on.on.bad) else argsF E L f (tAt L s.i) [] s.on.on)
       else some (callE (tAt L s.i) [], s.on.bad))
    else some (oneF E L s)
  argsF (E : Env) (L : List Wd) : Nat → List UInt8 → List Ex → St → Option (Ex × St)
  | 0, _, _, _ => none
  | f + 1, t, ks, s =>
    if s.bd then some (callE t ks, s.node) else if isW L s.i [41] then some (callE t ks, s.on.node)
    else if ks ≠ [] ∧ isW L s.i [44] = false then some (callE t ks, s.bad)
    else (treeF E L f 1 (if ks = [] then s else s.on)).bind fun r => argsF E L f t (ks ++ [r.1]) (argS ks r.2)
def Ends(L:List Wd):Prop:=∀ i,i<L.length→kAt L i≠7→i+1<L.length
structure Fwd (L:List Wd) (s s':St):Prop where
 le:s.i≤s'.i
 lt:s'.i<L.length
 nd:s'.n+s.i≤s.n+s'.i
 bd:s.bd=true→s'.bd=true
theorem Fwd.refl{L:List Wd}{s:St}(h:s.i<L.length):Fwd L s s:=⟨Nat.le_refl _,h,by omega,id⟩
theorem Fwd.trans{L:List Wd}{a b c:St}(h:Fwd L a b)(k:Fwd L b c):Fwd L a c:=⟨Nat.le_trans h.le k.le,k.lt,by have:=h.nd;have:=k.nd;omega,fun e=>k.bd (h.bd e)⟩
theorem Fwd.bad{L:List Wd}{a b:St}(h:Fwd L a b):Fwd L a b.bad:=⟨h.le,h.lt,h.nd,fun _=>rfl⟩
theorem on_i(s:St):s.on.i=s.i+1:=rfl
theorem on_n(s:St):s.on.n=s.n:=rfl
theorem on_bd(s:St):s.on.bd=s.bd:=rfl
theorem node_i(s:St):s.node.i=s.i:=rfl
theorem node_n(s:St):s.node.n=s.n+1:=rfl
theorem node_bd(s:St):s.node.bd=s.bd:=rfl
theorem bad_i(s:St):s.bad.i=s.i:=rfl
theorem bad_n(s:St):s.bad.n=s.n:=rfl
theorem argS_i(ks:List Ex)(s:St):(argS ks s).i=s.i:=rfl
theorem argS_n(ks:List Ex)(s:St):(argS ks s).n=s.n:=rfl
theorem argS_bd(ks:List Ex)(s:St):(argS ks s).bd=(s.bd || decide (30<ks.length+1)):=rfl
theorem Ends.on{L:List Wd}(hE:Ends L){s:St}(h:s.i<L.length)(hk:kAt L s.i≠7):Fwd L s s.on∧s.on.i<L.length:=⟨⟨Nat.le_succ _,hE _ h hk,by simp only [on_i,on_n];omega,id⟩,hE _ h hk⟩
theorem Ends.sign{L:List Wd}(hE:Ends L){i:Nat}{t:List UInt8}(h:isW L i t=true):i+1<L.length:=by
 obtain ⟨h1,h2,_⟩:=isW_six h;exact hE i h1 (by omega)
theorem stg_six{L:List Wd}{i:Nat}(h:0<stg L i):kAt L i=6:=by
 unfold stg at h
 split at h
 ·assumption
 ·omega
theorem one_fwd{E:Env}{L:List Wd}(hE:Ends L){s:St}(h:s.i<L.length):Fwd L s (oneF E L s).2∧((oneF E L s).2.bd=false→s.i<(oneF E L s).2.i):=by
 have one:kAt L s.i≠7→Fwd L s s.on.node∧(s.on.node.bd=false→s.i<s.on.node.i):=fun hk=>by
  have:=hE _ h hk
  exact ⟨⟨by simp only [node_i,on_i];omega,this,by simp only [node_i,node_n,on_n,on_i];omega,id⟩,fun _=>by simp only [node_i,on_i];omega⟩
 unfold oneF
 split
 ·rename_i hk;exact one (by omega)
 ·split
  ·rename_i hk;exact one (by omega)
  ·split
   ·rename_i hk
    split
    ·exact ⟨(Fwd.refl h).bad,fun e=>by cases e⟩
    ·exact one (by omega)
   ·split
    ·rename_i hk
     split
     ·rename_i hc
      have h2:=hE.sign hc
      split
      ·rename_i hr
       have h3:=hE (s.i+2) h2 (by rw [hr.1];decide)
       exact ⟨⟨by simp only [node_i,on_i];omega,h3,by simp only [node_i,node_n,on_n,on_i];omega,id⟩,fun _=>by simp only [node_i,on_i];omega⟩
      ·exact ⟨⟨by simp only [bad_i,on_i];omega,h2,by simp only [bad_i,bad_n,on_n,on_i];omega,fun _=>rfl⟩,fun e=>by cases e⟩
     ·exact one (by omega)
    ·exact ⟨(Fwd.refl h).bad,fun e=>by cases e⟩
theorem close_fwd{L:List Wd}(hE:Ends L){s:St}(h:s.i<L.length):Fwd L s (closeS L s):=by
 unfold closeS
 split
 ·exact Fwd.refl h
 ·split
  ·rename_i hc
   exact (hE.on h (by have:=(isW_six hc).2.1;omega)).1
  ·exact (Fwd.refl h).bad
theorem fwd_all(E:Env)(L:List Wd)(hE:Ends L):∀ f:Nat,
  (∀ lv s r,1≤lv→treeF E L f lv s=some r→s.i<L.length→Fwd L s r.2∧(r.2.bd=false→s.i<r.2.i)) ∧
  (∀ lv x s r,1≤lv→treeF.loopF E L f lv x s=some r→s.i<L.length→Fwd L s r.2) ∧
  (∀ s r,treeF.aheadF E L f s=some r→s.i<L.length→Fwd L s r.2∧(r.2.bd=false→s.i<r.2.i)) ∧
  (∀ s r,treeF.firstF E L f s=some r→s.i<L.length→Fwd L s r.2∧(r.2.bd=false→s.i<r.2.i)) ∧
  (∀ t ks s r,treeF.argsF E L f t ks s=some r→s.i<L.length→s.i≤r.2.i∧r.2.i<L.length∧r.2.n+s.i≤s.n+r.2.i+1∧(s.bd=true→r.2.bd=true)):=by
 intro f
 induction f with
 |zero=>
  refine ⟨?_,?_,?_,?_,?_⟩
  ·intro lv s r _ h;unfold treeF at h;cases h
  ·intro lv x s r _ h;unfold treeF.loopF at h;cases h
  ·intro s r h;unfold treeF.aheadF at h;cases h
  ·intro s r h;unfold treeF.firstF at h;cases h
  ·intro t ks s r h;unfold treeF.argsF at h;cases h
 |succ f ih=>
  obtain ⟨iT,iL,iA,iF,iG⟩:=ih;refine ⟨?_,?_,?_,?_,?_⟩
  ·intro lv s r hv h hs
   rw [treeF]at h
   split at h
   ·rename_i hb
    cases h
    exact ⟨Fwd.refl hs,fun e=>by rw [hb]at e;cases e⟩
   ·split at h
    ·exact iA _ _ h hs
    ·obtain ⟨r1,h1,h2⟩:=Option.bind_eq_some_iff.1 h
     obtain ⟨a1,a2⟩:=iT _ _ _ (by omega) h1 hs
     have a3:=iL _ _ _ _ hv h2 a1.lt;refine ⟨a1.trans a3,fun e=>?_⟩
     have:r1.2.bd=false:=by
      cases hc:r1.2.bd
      ·rfl
      ·rw [a3.bd hc]at e;cases e
     have:=a2 this
     have:=a3.le
     omega
  ·intro lv x s r hv h hs
   rw [treeF.loopF]at h
   split at h
   ·rename_i hc
    obtain ⟨r1,h1,h2⟩:=Option.bind_eq_some_iff.1 h;obtain ⟨b1,b2⟩:=hE.on hs (by have:=stg_six (L:=L) (i:=s.i) (by omega);omega)
    obtain ⟨a1,a2⟩:=iT _ _ _ (by omega) h1 b2
    have a3:=iL _ _ _ _ hv h2 a1.lt;have c1:=a1.le;have c2:=a1.nd;have c3:=a3.le;have c4:=a3.nd;simp only [on_i,on_n,node_i,node_n]at c1 c2 c3 c4
    exact ⟨by omega,a3.lt,by omega,fun e=>by rw [hc.1]at e;cases e⟩
   ·cases h
    exact Fwd.refl hs
  ·intro s r h hs
   rw [treeF.aheadF]at h
   split at h
   ·rename_i hc
    obtain ⟨r1,h1,h2⟩:=Option.bind_eq_some_iff.1 h;cases h2
    have b2:=hE.sign hc;obtain ⟨a1,a2⟩:=iT _ _ _ (by omega) h1 b2
    have c1:=a1.le;have c2:=a1.nd;simp only [on_i,on_n]at c1 c2
    exact ⟨⟨by simp only [node_i];omega,a1.lt,by simp only [node_i,node_n];omega,a1.bd⟩,fun _=>by simp only [node_i];omega⟩
   ·exact iF _ _ h hs
  ·intro s r h hs
   rw [treeF.firstF]at h
   split at h
   ·rename_i hc
    obtain ⟨r1,h1,h2⟩:=Option.bind_eq_some_iff.1 h;cases h2
    have b2:=hE.sign hc;obtain ⟨a1,a2⟩:=iT _ _ _ (by omega) h1 b2
    have a3:=close_fwd hE a1.lt;have c1:=a1.le;have c2:=a1.nd;have c3:=a3.le;have c4:=a3.nd;simp only [on_i,on_n]at c1 c2
    exact ⟨⟨by simp only;omega,a3.lt,by simp only;omega,fun e=>a3.bd (a1.bd e)⟩,fun _=>by simp only;omega⟩
   ·split at h
    ·rename_i hk
     have b1:=hE _ hs (by omega)
     split at h
     ·cases h
      exact ⟨⟨by simp only [node_i,on_i];omega,b1,by simp only [node_i,node_n,on_n,on_i];omega,id⟩,fun _=>by simp only [node_i,on_i];omega⟩
     ·split at h
      ·rename_i hc
       have b2:=hE.sign hc
       split at h
       ·cases h
        exact ⟨⟨by simp only [bad_i,on_i];omega,b2,by simp only [bad_i,bad_n,on_n,on_i];omega,fun _=>rfl⟩,fun e=>by cases e⟩
       ·obtain ⟨c1,c2,c3,c4⟩:=iG _ _ _ _ h b2
        simp only [on_i,on_n]at c1 c3
        exact ⟨⟨by omega,c2,by omega,c4⟩,fun _=>by omega⟩
      ·cases h
       exact ⟨⟨by simp only [bad_i,on_i];omega,b1,by simp only [bad_i,bad_n,on_n,on_i];omega,fun _=>rfl⟩,fun e=>by cases e⟩
    ·cases h
     exact one_fwd hE hs
  ·intro t ks s r h hs
   rw [treeF.argsF]at h
   split at h
   ·cases h
    exact ⟨by simp only [node_i];omega,hs,by simp only [node_i,node_n];omega,id⟩
   ·rename_i hb
    split at h
    ·rename_i hc
     cases h
     exact ⟨by simp only [node_i,on_i];omega,hE.sign hc,by simp only [node_i,node_n,on_n,on_i];omega,id⟩
    ·split at h
     ·cases h
      exact ⟨by simp only [bad_i];omega,hs,by simp only [bad_i,bad_n];omega,fun _=>rfl⟩
     ·rename_i hn
      obtain ⟨r1,h1,h2⟩:=Option.bind_eq_some_iff.1 h;have hs2:(if ks=[] then s else s.on).i<L.length∧s.i≤(if ks=[] then s else s.on).i∧(if ks=[] then s else s.on).n=s.n:=by
       split
       ·exact ⟨hs,Nat.le_refl _,rfl⟩
       ·rename_i hne
        refine ⟨?_,by simp only [on_i];omega,rfl⟩
        have:isW L s.i [44]=true:=by
         cases hw:isW L s.i [44]
         ·exact absurd ⟨hne,hw⟩ hn
         ·rfl
        exact hE.sign this
      obtain ⟨a1,_⟩:=iT _ _ _ (by omega) h1 hs2.1
      obtain ⟨c1,c2,c3,c4⟩:=iG _ _ _ _ h2 a1.lt;simp only [argS_i,argS_n]at c1 c3
      have d1:=a1.le;have d2:=a1.nd;exact ⟨by omega,c2,by omega,fun e=>absurd e hb⟩
def nodes:Ex→Nat
 |.mk _ _ _ _ _ _ ks=>1+nodesL ks
 where
 nodesL:List Ex→Nat
 |[]=>0
 |x::xs=>nodes x+nodesL xs
theorem nodesL_snoc(ks:List Ex)(x:Ex):nodes.nodesL (ks++[x])=nodes.nodesL ks+nodes x:=by
 induction ks with
 |nil=>simp [nodes.nodesL]
 |cons y ys ih=>rw [List.cons_append,nodes.nodesL,nodes.nodesL,ih];omega
structure Good (E:Env) (L:List Wd):Prop where
 num:∀ i,i<L.length→kAt L i=1→E.nok (tAt L i)=true
 ref:∀ i,i<L.length→kAt L i=3→E.rok (tAt L i)=true
 err:∀ i,i<L.length→kAt L i=5→E.err (tAt L i)≠0
 nam:∀ i,i<L.length→kAt L i=4→tAt L i=truW∨tAt L i=flsW∨E.nam (tAt L i)=decide ((tAt L i).length≤20)
end Go.Proofs.YtoikodohcieipaaGreatDoor
namespace Go.Proofs.YtoikodohcieipaaGreatDoor
open Go.RowKit
theorem mayline_any(n:Int)(w:World) :
  Calls Tryz.prog 108 #[.int .i64 n] w fun e w'=>e=.returned (.bool (decide (0≤n∧n<2199023255552)))∧w'=w:=by
 by_cases h0:0≤n
 ·by_cases h1:n<2199023255552
  ·have hd:=hid (decide_eq_true (show 0≤n∧n<2199023255552 from ⟨h0,h1⟩))
   go_enter Tryz.func108,Tryz.ntmps108
   go_wp2
   go_ret
   exact ⟨ret_bool hd.out.symm,rfl⟩
  ·have hd:=hid (decide_eq_false (show ¬ (0≤n∧n<2199023255552) from fun h=>h1 h.2))
   go_enter Tryz.func108,Tryz.ntmps108
   go_wp2
   go_ret
   exact ⟨ret_bool (by simp;omega),rfl⟩
 ·have hd:=hid (decide_eq_false (show ¬ (0≤n∧n<2199023255552) from fun h=>h0 h.1))
  go_enter Tryz.func108,Tryz.ntmps108
  go_wp2
  go_ret
  exact ⟨ret_bool (by simp;omega),rfl⟩
def sgS(b:Bool):List UInt8:=if b then [36] else []
theorem asign_any(b:Bool)(w:World) :
  Calls Tryz.prog 110 #[.bool b] w fun e w'=>e=.returned (.string ⟨(sgS b).toArray⟩)∧w'=w:=by
 cases b
 ·go_enter Tryz.func110,Tryz.ntmps110
  go_wp2
  go_ret
  exact ⟨rfl,rfl⟩
 ·go_enter Tryz.func110,Tryz.ntmps110
  go_wp2
  go_ret
  exact ⟨rfl,rfl⟩
def cnL(n:Int):List UInt8:=if 0≤n∧n<2199023255552 then nmL (n+1).toNat else []
theorem nm_nat(m:Nat):((UInt8.ofNat (65+m % 26)).toNat:Int)=65+(m:Int) % 26:=by
 rw [nm_byte];omega
def NI(N m:Nat)(l:List UInt8):Prop:=nmL m++l=nmL N
theorem NI.next{N m:Nat}{l:List UInt8}(h:NI N (m+1) l):NI N (m / 26) (UInt8.ofNat (65+m % 26)::l):=by
 unfold NI at *
 rw [nm_succ]at h;rw [←h];simp
theorem NI.len{N m:Nat}{l:List UInt8}(h:NI N m l)(hN:N≤2199023255552):(nmL m).length+l.length≤9:=by
 have h1:=nm_nine N hN;rw [←h,List.length_append]at h1;exact h1
structure RM (W:World) (B:Nat) (l:List UInt8):Prop where
 cells:∀ o:Nat,o<9→∃ v,W.cell? ⟨B,o,none⟩=some (.int .u8 v)
 tail:∀ j (h:j<l.length),W.cell? ⟨B,9-l.length+j,none⟩=some (.int .u8 (l[j].toNat:Int))
 free:∀ o:Nat,o<9→W.frozen? ⟨B,o,none⟩=false
 big:B<W.heap.size
theorem RM.set{W:World}{B k:Nat}{l:List UInt8}(h:RM W B l)(hk:k+l.length=8)(c:UInt8):RM (W.setCell ⟨B,k,none⟩ (.int .u8 (c.toNat:Int))) B (c::l):=by
 refine ⟨fun o ho=>?_,fun j hj=>?_,fun o ho=>?_,?_⟩
 ·by_cases e:o=k
  ·subst e
   obtain ⟨v,hv⟩:=h.cells o ho
   exact ⟨_,World.cell?_setCell_same _ _ _ hv⟩
  ·rw [World.cell?_setCell_other _ _ _ _ (by simp [Ne.symm e])]
   exact h.cells o ho
 ·have e9:9-(c::l).length=k:=by rw [List.length_cons];omega
  rw [e9]
  match j,hj with
  |0,_=>
   obtain ⟨v,hv⟩:=h.cells k (by omega)
   exact World.cell?_setCell_same _ _ _ hv
  |j+1,hj=>
   rw [World.cell?_setCell_other _ _ _ _ (by simp)]
   have h1:=h.tail j (by simpa using hj)
   rw [show 9-l.length+j=k+(j+1) by omega]at h1
   exact h1
 ·rw [World.frozen?_setCell];exact h.free o ho
 ·rw [World.size_setCell];exact h.big
theorem RM.start(w:World):RM (w.alloc (.cells #[.int .u8 0,.int .u8 0,.int .u8 0,.int .u8 0,.int .u8 0,.int .u8 0,.int .u8 0,.int .u8 0,.int .u8 0] 157)) w.heap.size []:=by
 refine ⟨fun o ho=>⟨0,?_⟩,fun j hj=>absurd hj (by simp),fun o ho=>World.frozen?_alloc_new _ _ _ _,by rw [World.size_alloc];omega⟩
 rw [World.cell?_alloc_new]
 rcases (by omega:o=0∨o=1∨o=2∨o=3∨o=4∨o=5∨o=6∨o=7∨o=8) with rfl|rfl|rfl|rfl|rfl|rfl|rfl|rfl|rfl <;> rfl
theorem name_yes(n:Int)(N:Nat)(w:World)(hN:Hid (n+1=(N:Int)))(n0:0≤n)(n1:n<2199023255552) :
  Calls Tryz.prog 111 #[.int .i64 n] w fun e w'=>e=.returned (.string ⟨(nmL N).toArray⟩)∧Q w w':=by
 have HM:=hid (fun W=>mayline_any n W)
 rw [show decide (0≤n∧n<2199023255552)=true from decide_eq_true ⟨n0,n1⟩]at HM
 have hal:Tryz.prog.arrayLen 157=9:=by kernel_rfl
 have HS:=hid (RM.start w);go_enter Tryz.func111,Tryz.ntmps111
 go_wp2_with (go_at_call 108;refine (HM.out _).mono ?_;rintro e w1 ⟨rfl,rfl⟩)
 go_loopw [0,4] (fun a b W=>∃ (x:Int) (m k:Nat) (l:List UInt8),a=.int .i64 x∧b=.int .i64 (k:Int)∧k+l.length=9∧Hid (x=(m:Int))∧0≤x∧x≤2199023255552∧NI N m l∧RM W w1.heap.size l∧Q w1 W) (fun a b _=>(intOf a).toNat)
 case atStart=>exact ⟨n+1,N,9,[],rfl,rfl,rfl,hN,by omega,by omega,List.append_nil _,HS.out,(Q.refl _).alloc _⟩
 case round=>
  obtain ⟨x,m,k,l,rfl,rfl,hk,hx,x0,x1,di,hr,hq⟩:=hrel;have hl20:=di.len (by have:=hN.out;omega)
  have HD:=hid di;have HR:=hid hr;have HQ:=hid hq;clear di hr hq;by_cases hp:0<x
  ·obtain ⟨p,rfl⟩:∃ p,m=p+1:=⟨m-1,by have:=hx.out;omega⟩
   have hne:0<(nmL (p+1)).length:=List.length_pos_iff.2 (nm_ne _ (by omega))
   obtain ⟨k,rfl⟩:∃ k',k=k'+1:=⟨k-1,by omega⟩
   have HN:=hid (HD.out.next);have hc:((UInt8.ofNat (65+p % 26)).toNat:Int)=65+(x-1) % 26:=by rw [nm_nat p,hx.out];omega
   obtain ⟨c,ec⟩:∃ c,c=UInt8.ofNat (65+p % 26):=⟨_,rfl⟩;rw [←ec]at HN hc;have hx':Hid ((x-1) / 26=((p / 26:Nat):Int)):=by show _=_;rw [hx.out];omega
   obtain ⟨v,hv⟩:=HR.out.cells k (by omega)
   have hf:=HR.out.free k (by omega)
   have hbg:=HR.out.big;have HW:=hid (HR.out.set (k:=k) (by omega) c)
   rw [hc]at HW;clear ec hc HD;go_wp2
   go_roundw
   case rel=>exact ⟨(x-1) / 26,p / 26,k,c::l,rfl,rfl,by rw [List.length_cons];omega,hx',by omega,by omega,HN.out,HW.out,HQ.out.setCell (Nat.le_refl _) _⟩
   case measure=>
    simp only [intOf]
    omega
  ·have hm0:m=0:=by have:=hx.out;omega
   subst hm0;have HF:Hid (l=nmL N):=by have:=HD.out;unfold NI at this;rw [nmL]at this;exact this
   have hlp:0<l.length:=by rw [HF.out];exact List.length_pos_iff.2 (nm_ne _ (by have:=hN.out;omega))
   have hsl:∀ W,(Instr.sliceAt 157 (.pointer (some ⟨w1.heap.size,0,none⟩)) (some (.int .i64 (k:Int))) none none).run Tryz.prog W=.ok (.slice (some ⟨w1.heap.size,k,none⟩) l.length l.length) W:=fun W=>by
    rw [run_sliceAt_array_l W 157 ⟨w1.heap.size,0,none⟩ (by kernel_rfl) .i64 (k:Int) (by omega) (by rw [hal];omega)]
    go_simp
    omega
   have hcv:(convert 129 9 (.slice (some ⟨w1.heap.size,k,none⟩) l.length l.length)).run Tryz.prog wr=.ok (.string ⟨l.toArray⟩) wr:=
    run_convert_bytes_back (P:=Tryz.prog) wr 129 9 5 ⟨w1.heap.size,k,none⟩ l.length l Tryz.underlying129 Tryz.underlying5 Tryz.underlying9 (fun j hj=>by
     have h1:=HR.out.tail j hj;rw [show 9-l.length+j=k+j by omega]at h1
     rw [Lib.add_plain];exact h1)
   clear HD;go_wp2
   go_ret
   exact ⟨ret_str (by rw [HF.out]),HQ.out⟩
theorem name_any(n:Int)(w:World) :
  Calls Tryz.prog 111 #[.int .i64 n] w fun e w'=>e=.returned (.string ⟨(cnL n).toArray⟩)∧Q w w':=by
 by_cases h:0≤n∧n<2199023255552
 ·unfold cnL
  rw [if_pos h];exact name_yes n _ w (by show _=_;omega) h.1 h.2
 ·have HC:Hid (cnL n=[]):=by show _=_;unfold cnL;rw [if_neg h]
  have HM:=hid (fun W=>mayline_any n W)
  rw [show decide (0≤n∧n<2199023255552)=false from decide_eq_false h]at HM
  clear h;go_enter Tryz.func111,Tryz.ntmps111
  go_wp2_with (go_at_call 108;refine (HM.out _).mono ?_;rintro e w1 ⟨rfl,rfl⟩)
  go_ret
  exact ⟨ret_str (by rw [HC.out]),Q.refl _⟩
end Go.Proofs.YtoikodohcieipaaGreatDoor
namespace Go.Proofs
open Go.Shelf
def Tryz.laysM173_ren:Go.Shelf.Ren:=⟨fun|173=>112|246=>115|283=>119|284=>120|285=>121|286=>122|129=>126|317=>125|318=>127|319=>128|320=>129|337=>132|338=>133|n=>n,fun|2=>2|3=>3|9=>9|4=>4|171=>163|0=>0|53=>137|37=>129|5=>5|173=>166|212=>170|51=>171|20=>20|213=>172|46=>148|232=>179|233=>180|n=>n,fun|17=>3|18=>5|19=>6|n=>n⟩
theorem Tryz.laysM173:Go.Proofs.LaysM.n173 Tryz.prog Tryz.laysM173_ren:={
 mixed:=by kernel_rfl
 f129:=Tryz.func126.trans (congrArg some (by kernel_rfl))
 f173:=Tryz.func112.trans (congrArg some (by kernel_rfl))
 f246:=Tryz.func115.trans (congrArg some (by kernel_rfl))
 f283:=Tryz.func119.trans (congrArg some (by kernel_rfl))
 f284:=Tryz.func120.trans (congrArg some (by kernel_rfl))
 f285:=Tryz.func121.trans (congrArg some (by kernel_rfl))
 f286:=Tryz.func122.trans (congrArg some (by kernel_rfl))
 f317:=Tryz.func125.trans (congrArg some (by kernel_rfl))
 f318:=Tryz.func127.trans (congrArg some (by kernel_rfl))
 f319:=Tryz.func128.trans (congrArg some (by kernel_rfl))
 f320:=Tryz.func129.trans (congrArg some (by kernel_rfl))
 f337:=Tryz.func132.trans (congrArg some (by kernel_rfl))
 f338:=Tryz.func133.trans (congrArg some (by kernel_rfl))
 t0:=Tryz.underlying0
 a0:=Tryz.isAgg0
 z0:=Tryz.sizeOf0
 v0:=Tryz.zeroValue0
 t2:=Tryz.underlying2
 a2:=Tryz.isAgg2
 z2:=Tryz.sizeOf2
 v2:=Tryz.zeroValue2
 t3:=Tryz.underlying3
 a3:=Tryz.isAgg3
 z3:=Tryz.sizeOf3
 v3:=Tryz.zeroValue3
 t4:=Tryz.underlying4
 a4:=Tryz.isAgg4
 z4:=Tryz.sizeOf4
 v4:=Tryz.zeroValue4
 t5:=Tryz.underlying5
 a5:=Tryz.isAgg5
 z5:=Tryz.sizeOf5
 v5:=Tryz.zeroValue5
 t9:=Tryz.underlying9
 a9:=Tryz.isAgg9
 z9:=Tryz.sizeOf9
 v9:=Tryz.zeroValue9
 t20:=Tryz.underlying20
 a20:=Tryz.isAgg20
 z20:=Tryz.sizeOf20
 v20:=Tryz.zeroValue20
 t37:=Tryz.underlying129
 a37:=Tryz.isAgg129
 z37:=Tryz.sizeOf129
 v37:=Tryz.zeroValue129
 t46:=Tryz.underlying148
 a46:=Tryz.isAgg148
 z46:=Tryz.sizeOf148
 v46:=Tryz.zeroValue148
 t51:=Tryz.underlying171
 a51:=Tryz.isAgg171
 z51:=Tryz.sizeOf171
 v51:=Tryz.zeroValue171
 t53:=Tryz.underlying137
 a53:=Tryz.isAgg137
 z53:=Tryz.sizeOf137
 v53:=Tryz.zeroValue137
 t171:=Tryz.underlying163
 a171:=Tryz.isAgg163
 z171:=Tryz.sizeOf163
 v171:=Tryz.zeroValue163
 t173:=Tryz.underlying166
 a173:=Tryz.isAgg166
 z173:=Tryz.sizeOf166
 v173:=Tryz.zeroValue166
 t212:=Tryz.underlying170
 a212:=Tryz.isAgg170
 z212:=Tryz.sizeOf170
 v212:=Tryz.zeroValue170
 t213:=Tryz.underlying172
 a213:=Tryz.isAgg172
 z213:=Tryz.sizeOf172
 t232:=Tryz.underlying179
 a232:=Tryz.isAgg179
 z232:=Tryz.sizeOf179
 v232:=Tryz.zeroValue179
 t233:=Tryz.underlying180
 a233:=Tryz.isAgg180
 z233:=Tryz.sizeOf180
 v233:=Tryz.zeroValue180
 g17:=by kernel_rfl
 g18:=by kernel_rfl
 g19:=by kernel_rfl
 i0:=by kernel_rfl
 i2:=by kernel_rfl
 i3:=by kernel_rfl
 i4:=by kernel_rfl
 i5:=by kernel_rfl
 i9:=by kernel_rfl
 i20:=by kernel_rfl
 i37:=by kernel_rfl
 i46:=by kernel_rfl
 i51:=by kernel_rfl
 i53:=by kernel_rfl
 i171:=by kernel_rfl
 i173:=by kernel_rfl
 i212:=by kernel_rfl
 i232:=by kernel_rfl
 i233:=by kernel_rfl
 m17:=by kernel_rfl
 m18:=by kernel_rfl
 m19:=by kernel_rfl }
open Go.RowKit Go.Sort Go.Lib in
theorem Tryz.strconv_FormatInt_10(n:Int)(h0:-9223372036854775808≤n)(h1:n≤9223372036854775807)(w:World)(htab:Lib.TabIs Tryz.prog w "internal/strconv.uint64pow10" .u64 Lib.pow10Tab) :
  Calls Tryz.prog 112 #[.int .i64 n,.int .i64 10] w fun e w'=>e=.returned (.string ⟨(Lib.itoa n).toArray⟩)∧∃ k os,w'=grow (w.drewN k) os:=Any.strconv_FormatInt_10 Tryz.laysM173 n h0 h1 w htab
end Go.Proofs
namespace Go.Proofs.YtoikodohcieipaaGreatDoor.V
open Go.RowKit
structure Dg (a0 a1 a2 a3 a4 a5 n:Int):Prop where
 l0:0≤a0
 h0:a0<4294967296
 l1:0≤a1
 h1:a1<4294967296
 l2:0≤a2
 h2:a2<4294967296
 l3:0≤a3
 h3:a3<4294967296
 l4:0≤a4
 h4:a4<4294967296
 l5:0≤a5
 h5:a5<4294967296
 e:n=a0+a1*4294967296+a2*18446744073709551616+a3*79228162514264337593543950336+a4*340282366920938463463374607431768211456+a5*1461501637330902918203684832716283019655932542976
def WR(n:Int)(e:Ending):Prop:=∃ a0 a1 a2 a3 a4 a5:Int,e=.returned (.agg #[.int .u64 a0,.int .u64 a1,.int .u64 a2,.int .u64 a3,.int .u64 a4,.int .u64 a5])∧Dg a0 a1 a2 a3 a4 a5 n
theorem one_any(n:Int)(w:World)(h0:0≤n)(h1:n<18446744073709551616) :
  Calls Tryz.prog 99 #[.int .u64 n] w fun e w'=>WR n e∧Q w w':=by
 go_enter Tryz.func99,Tryz.ntmps99
 go_wp2
 refine bodyPost_ret (v:=.agg #[.int .u64 (n % 4294967296),.int .u64 (n / 4294967296),.int .u64 0,.int .u64 0,.int .u64 0,.int .u64 0]) (by simp [results,Tryz.results99,go_sem]) rfl ⟨⟨_,_,_,_,_,_,rfl,?_⟩,((Q.refl w).alloc _).alloc _⟩
 exact ⟨by omega,by omega,by omega,by omega,by omega,by omega,by omega,by omega,by omega,by omega,by omega,by omega,by omega⟩
theorem plus_any(a0 a1 a2 a3 a4 a5 a b0 b1 b2 b3 b4 b5 b:Int)(w:World)(ha:Dg a0 a1 a2 a3 a4 a5 a)(hb:Dg b0 b1 b2 b3 b4 b5 b)(hlt:a+b<6277101735386680763835789423207666416102355444464034512896) :
  Calls Tryz.prog 98 #[.agg #[.int .u64 a0,.int .u64 a1,.int .u64 a2,.int .u64 a3,.int .u64 a4,.int .u64 a5],.agg #[.int .u64 b0,.int .u64 b1,.int .u64 b2,.int .u64 b3,.int .u64 b4,.int .u64 b5]] w fun e w'=>WR (a+b) e∧Q w w':=by
 obtain ⟨x0,y0,x1,y1,x2,y2,x3,y3,x4,y4,x5,y5,ea⟩:=ha;obtain ⟨u0,v0,u1,v1,u2,v2,u3,v3,u4,v4,u5,v5,eb⟩:=hb;obtain ⟨r0,E0⟩:∃ r,(a0+b0) % 4294967296=r:=⟨_,rfl⟩;obtain ⟨c0,F0⟩:∃ c,(a0+b0) / 4294967296=c:=⟨_,rfl⟩;have rl0:0≤r0:=by omega
 have rh0:r0<4294967296:=by omega
 have cl0:0≤c0:=by omega
 have ch0:c0≤1:=by omega
 obtain ⟨r1,E1⟩:∃ r,(a1+b1+c0) % 4294967296=r:=⟨_,rfl⟩;obtain ⟨c1,F1⟩:∃ c,(a1+b1+c0) / 4294967296=c:=⟨_,rfl⟩;have rl1:0≤r1:=by omega
 have rh1:r1<4294967296:=by omega
 have cl1:0≤c1:=by omega
 have ch1:c1≤1:=by omega
 obtain ⟨r2,E2⟩:∃ r,(a2+b2+c1) % 4294967296=r:=⟨_,rfl⟩;obtain ⟨c2,F2⟩:∃ c,(a2+b2+c1) / 4294967296=c:=⟨_,rfl⟩;have rl2:0≤r2:=by omega
 have rh2:r2<4294967296:=by omega
 have cl2:0≤c2:=by omega
 have ch2:c2≤1:=by omega
 obtain ⟨r3,E3⟩:∃ r,(a3+b3+c2) % 4294967296=r:=⟨_,rfl⟩;obtain ⟨c3,F3⟩:∃ c,(a3+b3+c2) / 4294967296=c:=⟨_,rfl⟩;have rl3:0≤r3:=by omega
 have rh3:r3<4294967296:=by omega
 have cl3:0≤c3:=by omega
 have ch3:c3≤1:=by omega
 obtain ⟨r4,E4⟩:∃ r,(a4+b4+c3) % 4294967296=r:=⟨_,rfl⟩;obtain ⟨c4,F4⟩:∃ c,(a4+b4+c3) / 4294967296=c:=⟨_,rfl⟩;have rl4:0≤r4:=by omega
 have rh4:r4<4294967296:=by omega
 have cl4:0≤c4:=by omega
 have ch4:c4≤1:=by omega
 obtain ⟨r5,E5⟩:∃ r,(a5+b5+c4) % 4294967296=r:=⟨_,rfl⟩;obtain ⟨c5,F5⟩:∃ c,(a5+b5+c4) / 4294967296=c:=⟨_,rfl⟩;have rl5:0≤r5:=by omega
 have rh5:r5<4294967296:=by omega
 have cl5:0≤c5:=by omega
 have ch5:c5≤1:=by omega
 have HD:Hid (Dg r0 r1 r2 r3 r4 r5 (a+b)):=⟨rl0,rh0,rl1,rh1,rl2,rh2,rl3,rh3,rl4,rh4,rl5,rh5,by omega⟩
 clear ea eb hlt;go_enter Tryz.func98,Tryz.ntmps98
 go_wp2
 refine wp_loop_rounds 7 ?_
 rw [rounds_succ];go_wp2
 go_region
 go_wp2
 rw [rounds_succ];go_wp2
 go_region
 go_wp2
 rw [rounds_succ];go_wp2
 go_region
 go_wp2
 rw [rounds_succ];go_wp2
 go_region
 go_wp2
 rw [rounds_succ];go_wp2
 go_region
 go_wp2
 rw [rounds_succ];go_wp2
 go_region
 go_wp2
 rw [rounds_succ];go_wp2
 exact bodyPost_ret (v:=.agg #[.int .u64 r0,.int .u64 r1,.int .u64 r2,.int .u64 r3,.int .u64 r4,.int .u64 r5]) (by simp [results,Tryz.results98,go_sem]) rfl ⟨⟨_,_,_,_,_,_,rfl,HD.out⟩,(by repeat (first|exact Q.refl _|refine Q.drew ?_|refine Q.alloc ?_ _))⟩
end Go.Proofs.YtoikodohcieipaaGreatDoor.V
namespace Go.Proofs.YtoikodohcieipaaGreatDoor.L.Ax
set_option linter.unusedVariables false
set_option linter.unusedSimpArgs false
set_option maxHeartbeats 4000000
def lf(g a:Int):Int:=if a<g then g-1 else g
def idx(k a t i:Int):Int:=
 if k=1 then (if a≤i then i+1 else i)
 else if k=2 then (if i=a then -1 else lf i a)
 else if i=a then lf t a else if lf t a≤lf i a then lf i a+1 else lf i a
def gap(k a t g:Int)(bh:Bool):Int:=
 if k=1 then (if a<g∨(g=a∧bh=true) then g+1 else g)
 else if k=2 then lf g a
 else if lf t a<lf g a∨(lf g a=lf t a∧bh=true) then lf g a+1 else lf g a
def ok(k a t:Int):Prop:=(k=1∧t=0)∨(k=2∧t=0)∨(k=3∧t≠a∧t≠a+1)
def okB(k a t:Int):Bool:=if k=1 then decide (t=0) else if k=2 then decide (t=0) else if k=3 then decide (t≠a∧t≠a+1) else false
theorem okB_iff(k a t:Int):okB k a t=true↔ok k a t:=by
 unfold okB ok;by_cases h1:k=1 <;> by_cases h2:k=2 <;> by_cases h3:k=3 <;> simp [h1,h2,h3] <;> omega
def trA(ka aa ta kb ab tb:Int)(pr:Bool):Int:=if ka=1 then gap kb ab tb aa (!pr) else idx kb ab tb aa
def trT(ka aa ta kb ab tb:Int)(pr:Bool):Int:=if ka=3 then gap kb ab tb ta (!pr) else 0
abbrev trO (ka aa ta kb ab tb:Int) (pr:Bool):Prop:=
 ¬ (ka=3∧kb=3∧ab=aa∧pr=true)∧0≤trA ka aa ta kb ab tb pr∧(ka=3→trT ka aa ta kb ab tb pr≠trA ka aa ta kb ab tb pr∧trT ka aa ta kb ab tb pr≠trA ka aa ta kb ab tb pr+1)
def two(ka aa ta kb ab tb i:Int)(pr:Bool):Int:=
 if idx ka aa ta i<0∨¬ trO kb ab tb ka aa ta pr then idx ka aa ta i else idx kb (trA kb ab tb ka aa ta pr) (trT kb ab tb ka aa ta pr) (idx ka aa ta i)
end Go.Proofs.YtoikodohcieipaaGreatDoor.L.Ax
