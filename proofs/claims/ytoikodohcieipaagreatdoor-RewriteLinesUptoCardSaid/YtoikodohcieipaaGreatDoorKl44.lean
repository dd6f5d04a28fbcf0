/- The reference's Lines of any t. -/
import Derived.Test.YtoikodohcieipaaGreatDoorKl41
import Derived.Test.YtoikodohcieipaaGreatDoorKl42
import Derived.Test.YtoikodohcieipaaGreatDoorKl43
set_option linter.unusedVariables false
set_option linter.unusedSimpArgs false
set_option maxRecDepth 100000
set_option maxHeartbeats 8000000
namespace Go.Proofs.YtoikodohcieipaaGreatDoor
open Go.RowKit
theorem mall_node{k n:Int}{t:List UInt8}{b:Bool}{e:Int}{rs:List Rf}{ks:List Ex}(h:mall mayN (.mk k n t b e rs ks)=true):mayN (.mk k n t b e rs ks)=true∧∀ y∈ks,mall mayN y=true:=by
 unfold mall at h
 rw [Bool.and_eq_true_iff,mallL_all]at h;exact ⟨h.1,fun y hy=>List.all_eq_true.1 h.2 y hy⟩
theorem rlines_all(W0:World)(home on:ByteArray)(rows:Bool)(lk la lt:Int):∀ (s:Nat) (x:Ex) (v:Value) (W:World),SizeOf.sizeOf x≤s→Sn x→mall mayN x=true→RdI W0 x v→Q W0 W→Calls Tryz.prog 15 #[v,.string home,.string on,.bool rows,.agg #[.int .i64 lk,.int .i64 la,.int .i64 lt]] W fun e W'=>RepT W0 W (chg home.data.toList on.data.toList (mvB rows lk la lt) (mvR rows lk la lt) x) e W':=by
 intro s
 induction s with
 |zero=>
  intro x v W hs
  cases x with
  |mk k n t b e rs ks=>simp at hs
 |succ s ih=>
  intro x v W hs hn hmy hr hq
  cases x with
  |mk k n t b e rs ks=>
   unfold RdI at hr
   unfold Sn at hn
   obtain ⟨hm1,hm2⟩:=mall_node hmy;obtain ⟨hf1,hf2⟩:=may_refs hm1;obtain ⟨_,hn2,hn3,hn4,hn5⟩:=hn;obtain ⟨rv',kv,hv,hsl,ao,cap,hk,hle,hmx,hkd⟩:=hr;obtain ⟨a1,c1,hrv,hl⟩:=hsl;have hsl':Hid (Sl rf 5 W0 (.slice a1 rs.length c1) rs):=hid ⟨a1,c1,rfl,hl⟩
   subst hk hrv hv;have hcap:Hid (ks.length≤cap∧cap≤maxLen):=hid ⟨hle,hmx⟩
   have IH:Hid (∀ i (hi:i<ks.length) (v:Value) (W:World),RdI W0 ks[i] v→Q W0 W→Calls Tryz.prog 15 #[v,.string home,.string on,.bool rows,.agg #[.int .i64 lk,.int .i64 la,.int .i64 lt]] W fun e W'=>RepT W0 W (chg home.data.toList on.data.toList (mvB rows lk la lt) (mvR rows lk la lt) ks[i]) e W'):=
    hid (fun i hi v W hr hq=>ih ks[i] v W (by have:=kid_size (k:=k) (n:=n) (t:=t) (b:=b) (e:=e) (rs:=rs) i hi;omega) (sn_kid hn5 _ (List.getElem_mem hi)) (hm2 _ (List.getElem_mem hi)) hr hq)
   cases hh:hit home.data.toList on.data.toList rs
   ·cases hrs:rs with
    |nil=>
     rw [←hrs];exact rln_no W0 home on rows lk la lt k n ⟨t.toArray⟩ b e rs ks a1 c1 ao cap W hsl' hcap (hid hkd) (hid hq) hn4 hn2 IH (hid hh) (0::on.data.toList) (hid (fun h=>by rw [hrs]at h;simp at h)) (hid (fun h=>by have:=congrArg List.length h;simp at this))
    |cons r0 rs'=>
     rw [←hrs];have h1:orT r0.1 home.data.toList≠on.data.toList:=by rw [hrs]at hh;simp only [hit]at hh;exact of_decide_eq_false hh
     exact rln_no W0 home on rows lk la lt k n ⟨t.toArray⟩ b e rs ks a1 c1 ao cap W hsl' hcap (hid hkd) (hid hq) hn4 hn2 IH (hid hh) (orT r0.1 home.data.toList) (hid (fun h=>by subst hrs;rfl)) (hid h1)
   ·cases hrs:rs with
    |nil=>rw [hrs]at hh;simp [hit]at hh
    |cons r0 rs'=>
     rw [←hrs];have h1:orT r0.1 home.data.toList=on.data.toList:=by rw [hrs]at hh;simp only [hit]at hh;exact of_decide_eq_true hh
     have h2:Hid (∀ r∈rs,mayRf r=true∧r.1.length≤2000000):=hid (fun r hr=>⟨hf2 r hr,hn3 r hr⟩)
     cases rows
     ·exact rln_col W0 home on lk la lt k n ⟨t.toArray⟩ b e rs ks a1 c1 ao cap W hsl' hcap (hid hkd) (hid hq) hn4 hn2 IH (hid hh) (orT r0.1 home.data.toList) (hid (fun h=>by subst hrs;rfl)) (hid h1) h2
     ·exact rln_row W0 home on lk la lt k n ⟨t.toArray⟩ b e rs ks a1 c1 ao cap W hsl' hcap (hid hkd) (hid hq) hn4 hn2 IH (hid hh) (orT r0.1 home.data.toList) (hid (fun h=>by subst hrs;rfl)) (hid h1) h2
theorem rlines_any(x:Ex)(v:Value)(home on:ByteArray)(rows:Bool)(lk la lt:Int)(W:World)(hn:Sn x)(hm:mall mayN x=true)(hr:Rd W x v):Calls Tryz.prog 15 #[v,.string home,.string on,.bool rows,.agg #[.int .i64 lk,.int .i64 la,.int .i64 lt]] W fun e W'=>∃ v',e=.returned v'∧Rd W' (chg home.data.toList on.data.toList (mvB rows lk la lt) (mvR rows lk la lt) x) v'∧Q W W':=by
 refine (rlines_all W home on rows lk la lt _ x v W (Nat.le_refl _) hn hm (rd_rdi _ _ hr) (Q.refl W)).mono ?_
 rintro e W' ⟨v',he,h1,h2⟩
 exact ⟨v',he,Rdg.rd _ _ h1,h2⟩
end Go.Proofs.YtoikodohcieipaaGreatDoor
