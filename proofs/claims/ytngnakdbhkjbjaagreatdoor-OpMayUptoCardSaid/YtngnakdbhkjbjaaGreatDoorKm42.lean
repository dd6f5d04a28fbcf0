/- The reference's Norm; counterp. -/
import Derived.Test.YtngnakdbhkjbjaaGreatDoorKm41
import Derived.Test.YtngnakdbhkjbjaaGreatDoorKm25
import Derived.Test.YtngnakdbhkjbjaaGreatDoorKm03
set_option linter.unusedVariables false
set_option linter.unusedSimpArgs false
set_option maxRecDepth 100000
set_option maxHeartbeats 8000000
namespace Go.Proofs.YtngnakdbhkjbjaaGreatDoor.R
open Go.RowKit
theorem gps_nf{A G C:List _}(h:Gps A G C A.length):Rg.Nf (Rg.dif A []) (Rg.formR (Rg.csR A [] C) G):=by
 refine Rg.nf_ref h.ga (fun e=>?_) h.ca (fun e=>?_)
 ·rw [h.gm,List.take_of_length_le (Nat.le_refl _),List.append_nil]
 ·rw [h.cm,List.take_of_length_le (Nat.le_refl _),List.append_nil]
theorem rnorm_known:RN:=by
 intro v L l w h hl
 have HNL:=hid hl;have H1:=hid (some_any v L w h);have hlen:=Rg.cnted_len L;clear h hl;generalize Rg.cnted L=C at *;go_enter Tryz.func31,Tryz.ntmps31
 go_wp2_with (first
  |(go_at_call 55;refine H1.out.mono ?_;rintro e w1 ⟨v1,rfl,own1,q1⟩;have HQ1:=hid q1;have HO1:=hid own1;clear own1 q1)
  |(go_at_call 54;refine (form_any v1 C w1 _ HO1.out hlen).mono ?_;rintro e w2 ⟨v2,rfl,hp⟩;have HP:=hid hp;clear hp))
 go_ret
 obtain ⟨G,Cc,own,q,hg⟩:=HP.out
 exact ⟨_,rfl,own_eq (own.mono HQ1.out.size) (Rg.nf_uniq (gps_nf hg) HNL.out),HQ1.out.trans q⟩
end Go.Proofs.YtngnakdbhkjbjaaGreatDoor.R
