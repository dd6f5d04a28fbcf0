/- The reference's Norm; counterpanelaw4.RegionNorm: the walk. -/
import Derived.Test.YtkbpdgghnlnakaaUy
import Derived.Test.YtkbpdgghnlnakaaV
import Derived.Test.YtkbpdgghnlnakaaB1
namespace Go.Proofs.Ytkbpdgghnlnakaa
open Go.RowKit
set_option linter.unusedVariables false
set_option linter.unusedSimpArgs false

theorem gps_nf {A G C : List _} (h : Gps A G C A.length) : Rg.Nf (Rg.dif A []) (Rg.formR (Rg.csR A [] C) G) := by
  refine Rg.nf_ref h.ga (fun e => ?_) h.ca (fun e => ?_)
  · rw [h.gm, List.take_of_length_le (Nat.le_refl _), List.append_nil]
  · rw [h.cm, List.take_of_length_le (Nat.le_refl _), List.append_nil]
set_option maxRecDepth 100000 in
set_option maxHeartbeats 4000000 in
theorem rnorm_known : RN := by
  intro v L l w h hl
  have HNL := hid hl
  have H1 := hid (some_any v L w h)
  have hlen := Rg.cnted_len L
  clear h hl
  generalize Rg.cnted L = C at *
  go_enter Try.func12, Try.ntmps12
  go_wp2_with (first
    | (go_at_call 23; refine H1.out.mono ?_; rintro e w1 ⟨v1, rfl, own1, q1⟩; have HQ1 := hid q1; have HO1 := hid own1; clear own1 q1)
    | (go_at_call 22; refine (form_any v1 C w1 _ HO1.out hlen).mono ?_; rintro e w2 ⟨v2, rfl, hp⟩; have HP := hid hp; clear hp))
  go_ret
  obtain ⟨G, Cc, own, q, hg⟩ := HP.out
  exact ⟨_, rfl, own_eq (own.mono HQ1.out.size) (Rg.nf_uniq (gps_nf hg) HNL.out), HQ1.out.trans q⟩
theorem norm_walk (v : Value) (L : List Rg.Rc) (row col most : Int) (w : World) (h : Sl rc 4 w v L) (_ : -9223372036854775808 ≤ row) (_ : row ≤ 9223372036854775807) (_ : -9223372036854775808 ≤ col) (_ : col ≤ 9223372036854775807) (_ : -9223372036854775808 ≤ most) (hm : most ≤ 9223372036854775807) : Calls Try.prog 3 #[v, .int .i64 row, .int .i64 col, .int .i64 most] w fun e w' => e = .returned (.bool true) ∧ Q w w' :=
  norm_over rnorm_known v L row col most w h hm
end Go.Proofs.Ytkbpdgghnlnakaa
