/- UTF-8, plainly: what stands be. -/
import Derived.Lib.ValidLaws
set_option linter.unusedVariables false
set_option linter.unusedSimpArgs false
set_option maxRecDepth 100000
set_option maxHeartbeats 8000000
namespace Go.Proofs.YtoikodohcieipaaGreatDoor.V
open Go Go.Lib
theorem lead_bad(m:List UInt8)(hne:m≠[])(c:Nat)(ec:(m.getD 0 0).toNat=c)(h:(128≤c∧c<194)∨245≤c):validD m=false:=by
 have hc:c<256:=by rw [←ec];exact (m.getD 0 0).toNat_lt
 rw [validD_lead m hne (by rw [ec];omega),ec]
 have hf:firstT c % 8=1:=by
  unfold firstT
  repeat' split
  all_goals first|omega|rfl
 rw [hf];simp [checkN]
theorem lead2(m:List UInt8)(hne:m≠[])(c:Nat)(ec:(m.getD 0 0).toNat=c)(h:194≤c∧c≤223) :
  validD m=if m.length<2∨(m.getD 1 0).toNat<128∨191<(m.getD 1 0).toNat then false else validD (m.drop 2):=by
 rw [validD_lead m hne (by rw [ec];omega),ec]
 have hf:firstT c=2:=by
  unfold firstT
  repeat' split
  all_goals first|omega|rfl
 rw [hf];unfold checkN
 simp only [show 2 % 8=2 from rfl,if_true]
 have e1:accLo (2 / 16)=128:=by decide
 have e2:accHi (2 / 16)=191:=by decide
 rw [e1,e2];by_cases hh:m.length<2∨(m.getD 1 0).toNat<128∨191<(m.getD 1 0).toNat
 ·rw [if_pos hh,if_pos hh]
 ·rw [if_neg hh,if_neg hh]
theorem lead3(m:List UInt8)(hne:m≠[])(c:Nat)(ec:(m.getD 0 0).toNat=c)(h:224≤c∧c≤239) :
  validD m=if m.length<3∨(m.getD 1 0).toNat<(if c=224 then 160 else 128)∨(if c=237 then 159 else 191)<(m.getD 1 0).toNat∨(m.getD 2 0).toNat<128∨191<(m.getD 2 0).toNat then false else validD (m.drop 3):=by
 rw [validD_lead m hne (by rw [ec];omega),ec]
 have hf:firstT c % 8=3∧accLo (firstT c / 16)=(if c=224 then 160 else 128)∧accHi (firstT c / 16)=(if c=237 then 159 else 191):=by
  by_cases h1:c=224
  ·subst h1;decide
  ·by_cases h2:c=237
   ·subst h2;decide
   ·rw [if_neg h1,if_neg h2]
    unfold firstT
    repeat' split
    all_goals first|omega|decide
 rw [hf.1,hf.2.1,hf.2.2];unfold checkN
 simp only [show ¬ (3=2) by omega,if_false,if_true]
 by_cases hh:m.length<3∨(m.getD 1 0).toNat<(if c=224 then 160 else 128)∨(if c=237 then 159 else 191)<(m.getD 1 0).toNat∨(m.getD 2 0).toNat<128∨191<(m.getD 2 0).toNat
 ·rw [if_pos hh,if_pos hh]
 ·rw [if_neg hh,if_neg hh]
theorem lead4(m:List UInt8)(hne:m≠[])(c:Nat)(ec:(m.getD 0 0).toNat=c)(h:240≤c∧c≤244) :
  validD m=if m.length<4∨(m.getD 1 0).toNat<(if c=240 then 144 else 128)∨(if c=244 then 143 else 191)<(m.getD 1 0).toNat∨(m.getD 2 0).toNat<128∨191<(m.getD 2 0).toNat∨(m.getD 3 0).toNat<128∨191<(m.getD 3 0).toNat then false else validD (m.drop 4):=by
 rw [validD_lead m hne (by rw [ec];omega),ec]
 have hf:firstT c % 8=4∧accLo (firstT c / 16)=(if c=240 then 144 else 128)∧accHi (firstT c / 16)=(if c=244 then 143 else 191):=by
  rcases (by omega:c=240∨c=241∨c=242∨c=243∨c=244) with rfl|rfl|rfl|rfl|rfl <;> decide
 rw [hf.1,hf.2.1,hf.2.2];unfold checkN
 simp only [show ¬ (4=2) by omega,show ¬ (4=3) by omega,if_false,if_true]
 by_cases hh:m.length<4∨(m.getD 1 0).toNat<(if c=240 then 144 else 128)∨(if c=244 then 143 else 191)<(m.getD 1 0).toNat∨(m.getD 2 0).toNat<128∨191<(m.getD 2 0).toNat∨(m.getD 3 0).toNat<128∨191<(m.getD 3 0).toNat
 ·rw [if_pos hh,if_pos hh]
 ·rw [if_neg hh,if_neg hh]
theorem drop_get(s:ByteArray)(k j:Nat)(h:k+j<s.size):((s.data.toList.drop k).getD j 0)=s[k+j]:=by
 have h':k+j<s.data.toList.length:=by simpa using h
 rw [List.getD_eq_getElem?_getD,List.getElem?_drop,List.getElem?_eq_getElem h']
 rfl
structure At (s:ByteArray) (k:Nat) (A:Bool):Prop where
 asc:∀ (h:k<s.size),s[k].toNat<128→validD (s.data.toList.drop (k+1))=A
 bad:∀ (h:k<s.size),((128≤s[k].toNat∧s[k].toNat<194)∨245≤s[k].toNat)→A=false
 two0:∀ (h:k<s.size),194≤s[k].toNat→s[k].toNat≤223→s.size≤k+1→A=false
 two1:∀ (h:k<s.size) (h1:k+1<s.size),194≤s[k].toNat→s[k].toNat≤223→(s[k+1].toNat<128∨191<s[k+1].toNat)→A=false
 two:∀ (h:k<s.size) (h1:k+1<s.size),194≤s[k].toNat→s[k].toNat≤223→(128≤s[k+1].toNat∧s[k+1].toNat≤191)→validD (s.data.toList.drop (k+2))=A
 three0:∀ (h:k<s.size),224≤s[k].toNat→s[k].toNat≤239→s.size≤k+2→A=false
 three1:∀ (h:k<s.size) (h1:k+1<s.size) (h2:k+2<s.size),224≤s[k].toNat→s[k].toNat≤239 →
  ((s[k].toNat=224∧s[k+1].toNat<160)∨(s[k].toNat=237∧159<s[k+1].toNat)∨s[k+1].toNat<128∨191<s[k+1].toNat∨s[k+2].toNat<128∨191<s[k+2].toNat)→A=false
 three:∀ (h:k<s.size) (h1:k+1<s.size) (h2:k+2<s.size),224≤s[k].toNat→s[k].toNat≤239 →
  ((s[k].toNat=224→160≤s[k+1].toNat)∧(s[k].toNat=237→s[k+1].toNat≤159)∧128≤s[k+1].toNat∧s[k+1].toNat≤191∧128≤s[k+2].toNat∧s[k+2].toNat≤191)→validD (s.data.toList.drop (k+3))=A
 four0:∀ (h:k<s.size),240≤s[k].toNat→s[k].toNat≤244→s.size≤k+3→A=false
 four1:∀ (h:k<s.size) (h1:k+1<s.size) (h2:k+2<s.size) (h3:k+3<s.size),240≤s[k].toNat→s[k].toNat≤244 →
  ((s[k].toNat=240∧s[k+1].toNat<144)∨(s[k].toNat=244∧143<s[k+1].toNat)∨s[k+1].toNat<128∨191<s[k+1].toNat∨s[k+2].toNat<128∨191<s[k+2].toNat∨s[k+3].toNat<128∨191<s[k+3].toNat)→A=false
 four:∀ (h:k<s.size) (h1:k+1<s.size) (h2:k+2<s.size) (h3:k+3<s.size),240≤s[k].toNat→s[k].toNat≤244 →
  ((s[k].toNat=240→144≤s[k+1].toNat)∧(s[k].toNat=244→s[k+1].toNat≤143)∧128≤s[k+1].toNat∧s[k+1].toNat≤191∧128≤s[k+2].toNat∧s[k+2].toNat≤191∧128≤s[k+3].toNat∧s[k+3].toNat≤191)→validD (s.data.toList.drop (k+4))=A
theorem at_of(s:ByteArray)(k:Nat)(A:Bool)(hA:validD (s.data.toList.drop k)=A):At s k A:=by
 have hlen:(s.data.toList.drop k).length=s.size-k:=by rw [List.length_drop];simp
 have hne:k<s.size→s.data.toList.drop k≠[]:=fun h e=>by rw [e]at hlen;simp at hlen;omega
 have e0:∀ (h:k<s.size),((s.data.toList.drop k).getD 0 0)=s[k]:=fun h=>drop_get s k 0 h
 have ed:∀ j,(s.data.toList.drop k).drop j=s.data.toList.drop (k+j):=fun j=>by rw [List.drop_drop]
 constructor
 ·intro h hc
  have hl:=hne h;cases e:s.data.toList.drop k with
  |nil=>exact absurd e hl
  |cons b t=>
   have hb:b=s[k]:=by rw [←e0 h,e];rfl
   rw [e,validD_cons b t (by rw [hb];exact hc)]at hA
   rw [←ed 1,e];exact hA
 ·intro h hc
  rw [←hA];exact lead_bad _ (hne h) _ (by rw [e0 h]) hc
 ·intro h h1 h2 hs
  rw [←hA,lead2 _ (hne h) _ (by rw [e0 h]) ⟨h1,h2⟩,if_pos (.inl (by rw [hlen];omega))]
 ·intro h hk h1 h2 hb
  rw [←hA,lead2 _ (hne h) _ (by rw [e0 h]) ⟨h1,h2⟩,drop_get s k 1 hk,if_pos (.inr hb)]
 ·intro h hk h1 h2 hb
  rw [lead2 _ (hne h) _ (by rw [e0 h]) ⟨h1,h2⟩,hlen,drop_get s k 1 hk,ed,if_neg (by omega)]at hA
  exact hA
 ·intro h h1 h2 hs
  rw [←hA,lead3 _ (hne h) _ (by rw [e0 h]) ⟨h1,h2⟩,if_pos (.inl (by rw [hlen];omega))]
 ·intro h hk1 hk2 h1 h2 hb
  rw [←hA,lead3 _ (hne h) _ (by rw [e0 h]) ⟨h1,h2⟩,drop_get s k 1 hk1,drop_get s k 2 hk2,if_pos]
  right
  rcases Decidable.em (s[k].toNat=224) with g1|g1
  ·rw [if_pos g1,if_neg (by omega)];omega
  ·rw [if_neg g1]
   rcases Decidable.em (s[k].toNat=237) with g2|g2
   ·rw [if_pos g2];omega
   ·rw [if_neg g2];omega
 ·intro h hk1 hk2 h1 h2 hb
  rw [lead3 _ (hne h) _ (by rw [e0 h]) ⟨h1,h2⟩,hlen,drop_get s k 1 hk1,drop_get s k 2 hk2,ed,if_neg]at hA
  ·exact hA
  ·rcases Decidable.em (s[k].toNat=224) with g1|g1
   ·rw [if_pos g1,if_neg (by omega)];omega
   ·rw [if_neg g1]
    rcases Decidable.em (s[k].toNat=237) with g2|g2
    ·rw [if_pos g2];omega
    ·rw [if_neg g2];omega
 ·intro h h1 h2 hs
  rw [←hA,lead4 _ (hne h) _ (by rw [e0 h]) ⟨h1,h2⟩,if_pos (.inl (by rw [hlen];omega))]
 ·intro h hk1 hk2 hk3 h1 h2 hb
  rw [←hA,lead4 _ (hne h) _ (by rw [e0 h]) ⟨h1,h2⟩,drop_get s k 1 hk1,drop_get s k 2 hk2,drop_get s k 3 hk3,if_pos]
  right
  rcases Decidable.em (s[k].toNat=240) with g1|g1
  ·rw [if_pos g1,if_neg (by omega)];omega
  ·rw [if_neg g1]
   rcases Decidable.em (s[k].toNat=244) with g2|g2
   ·rw [if_pos g2];omega
   ·rw [if_neg g2];omega
 ·intro h hk1 hk2 hk3 h1 h2 hb
  rw [lead4 _ (hne h) _ (by rw [e0 h]) ⟨h1,h2⟩,hlen,drop_get s k 1 hk1,drop_get s k 2 hk2,drop_get s k 3 hk3,ed,if_neg]at hA
  ·exact hA
  ·rcases Decidable.em (s[k].toNat=240) with g1|g1
   ·rw [if_pos g1,if_neg (by omega)];omega
   ·rw [if_neg g1]
    rcases Decidable.em (s[k].toNat=244) with g2|g2
    ·rw [if_pos g2];omega
    ·rw [if_neg g2];omega
end Go.Proofs.YtoikodohcieipaaGreatDoor.V
