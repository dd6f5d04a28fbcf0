/- region.Norm, region.Sub, region.Eq. -/
import Derived.Test.YtkbpdgghnlnakaaI
import Derived.Test.YtkbpdgghnlnakaaB
namespace Go.Proofs.Ytkbpdgghnlnakaa
open Go.RowKit
set_option linter.unusedVariables false
set_option linter.unusedSimpArgs false

theorem WPost.back {A B : List Rg.Rc} {w w1 : World} {v : Value} {w' : World} (h : WPost A B w1 v w') (q : Q w w1) : WPost A B w v w' := by
  obtain ⟨l, h1, h2, h3, h4, h5⟩ := h
  exact ⟨l, h1.mono q.size, q.trans h2, h3, h4, h5⟩
set_option maxHeartbeats 1000000 in
theorem norm_any (v : Value) (L : List Rg.Rc) (w : World) (h : Sl rc 4 w v L) : Calls Try.prog 8 #[v] w fun e w' => ∃ v', e = .returned v' ∧ WPost (Rg.cnted L) [] w v' w' := by
  have HC := hid (counted_any v L w h)
  have hlen := Rg.cnted_len L
  have HM := hid (Rg.cnted_mays L)
  generalize Rg.cnted L = C at *
  clear h
  go_enter Try.func8, Try.ntmps8
  go_wp2_with (first
    | (go_at_call 20; refine HC.out.mono ?_; rintro e w1 ⟨v1, rfl, own1, q1⟩; have HQ := hid q1; have HW := hid (without_any v1 _ C [] w1 (own1.sl rc_len (by decide)) (sl_nil w1) hlen (by simp) HM.out.ok (fun x hx => by simp at hx)); clear own1 q1)
    | (go_at_call 19; refine HW.out.mono ?_; rintro e w2 ⟨v2, rfl, hp⟩; have HP := hid (hp.back HQ.out); clear hp))
  go_ret
  exact ⟨_, rfl, HP.out⟩
set_option maxHeartbeats 1000000 in
theorem sub_any (va vb : Value) (A B : List Rg.Rc) (w : World) (ha : Sl rc 4 w va A) (hb : Sl rc 4 w vb B) : Calls Try.prog 17 #[va, vb] w fun e w' => ∃ v', e = .returned v' ∧ WPost (Rg.cnted A) (Rg.cnted B) w v' w' := by
  have HC := hid (counted_any va A w ha)
  have HB := hid hb
  have HD := hid (fun W (q : Q w W) => counted_any vb B W (HB.out.on q))
  have hla := Rg.cnted_len A
  have hlb := Rg.cnted_len B
  have HMA := hid (Rg.cnted_mays A)
  have HMB := hid (Rg.cnted_mays B)
  obtain ⟨ao, cap, rfl, _, _⟩ := ha.len
  obtain ⟨ao2, cap2, rfl, _, _⟩ := hb.len
  generalize Rg.cnted A = C at *
  generalize Rg.cnted B = D at *
  clear ha hb HB
  go_enter Try.func17, Try.ntmps17
  go_wp2_with (first
    | (go_at_call_of 20 A; refine HC.out.mono ?_; rintro e w1 ⟨v1, rfl, own1, q1⟩; have HQ := hid q1; have HS1 := hid (own1.sl rc_len (by decide)); clear own1 q1)
    | (go_at_call_of 20 B; refine (HD.out _ HQ.out).mono ?_; rintro e w2 ⟨v2, rfl, own2, q2⟩; have HQ2 := hid (HQ.out.trans q2); have HW := hid (without_any v1 v2 C D w2 (HS1.out.on q2) (own2.sl rc_len (by decide)) hla hlb HMA.out.ok HMB.out.ok); clear own2 q2)
    | (go_at_call 19; refine HW.out.mono ?_; rintro e w3 ⟨v3, rfl, hp⟩; have HP := hid (hp.back HQ2.out); clear hp))
  go_ret
  exact ⟨_, rfl, HP.out⟩
theorem norm_known (v : Value) (L l : List Rg.Rc) (w : World) (h : Sl rc 4 w v L) (hl : Rg.Nf (Rg.dif (Rg.cnted L) []) l) : Calls Try.prog 8 #[v] w fun e w' => ∃ v', e = .returned v' ∧ Own rc 28 4 w.heap.size w' v' l ∧ Q w w' :=
  (norm_any v L w h).mono fun e w' ⟨v', he, l', h1, h2, h3, _⟩ => ⟨v', he, own_eq h1 (Rg.nf_uniq h3 hl), h2⟩
/-- the sets are the same -/
theorem dif_same {A B : List Rg.Rc} (h : ∀ r c, Rg.has A r c = Rg.has B r c) (r c : Int) : Rg.dif A [] r c = Rg.dif B [] r c := by
  rw [Rg.dif_nil, Rg.dif_nil, h]
set_option maxHeartbeats 1000000 in
theorem eq_true (va vb : Value) (A B : List Rg.Rc) (w : World) (ha : Sl rc 4 w va A) (hb : Sl rc 4 w vb B) (h : ∀ r c, Rg.has (Rg.cnted A) r c = Rg.has (Rg.cnted B) r c) : Calls Try.prog 18 #[va, vb] w fun e w' => e = .returned (.bool true) ∧ Q w w' := by
  have HC := hid (norm_any va A w ha)
  have HB := hid hb
  have HD := hid (fun W (q : Q w W) => norm_any vb B W (HB.out.on q))
  have HE := hid (dif_same h)
  clear h
  by_cases hv : va = vb
  · subst hv
    have HD2 := hid (fun W (q : Q w W) => norm_any va B W (HB.out.on q))
    have HX : Hid (∀ W, Q w W → Calls Try.prog 8 #[va] W fun e w' => ∃ v', e = .returned v' ∧ ∃ l, Own rc 28 4 W.heap.size w' v' l ∧ Q W w' ∧ Rg.Nf (Rg.dif (Rg.cnted B) []) l ∧ l.length ≤ 1000000000000) := fun W q => (HD2.out W q).mono fun _ _ ⟨v', he, l, a, b, c, d, _⟩ => ⟨v', he, l, a, b, c, d⟩
    clear HC HD HD2 HB HE ha hb
    go_enter Try.func18, Try.ntmps18
    go_upto_region 1 with fail
    go_wp2_with (first
      | (go_at_call 24; refine HQ3.out.mono ?_; rintro e w3 ⟨rfl, q3⟩; have HQ4 := hid (HQ2.out.trans q3); clear q3)
      | (go_at_call 8; refine (HX.out _ (Q.refl _)).mono ?_; rintro e w1 ⟨v1, rfl, l1, own1, q1, n1, b1⟩; have HQ1 := hid q1; have HS1 := hid (own1.sl rc_len (by decide)); have HN1 := hid n1; have HB1 := hid b1; clear own1 q1 n1 b1)
      | (go_at_call 8; refine (HX.out _ HQ1.out).mono ?_; rintro e w2 ⟨v2, rfl, l2, own2, q2, n2, b2⟩; have HQ2 := hid (HQ1.out.trans q2); have HQ3 := hid (eqR_any v1 v2 l1 l2 w2 (HS1.out.on q2) (own2.sl rc_len (by decide)) HB1.out b2); rw [eqRc_iff.2 (Rg.nf_uniq HN1.out n2)] at HQ3; clear own2 q2 n2 b2))
    go_ret
    exact ⟨rfl, HQ4.out⟩
  · have HX : Hid (∀ W, Q w W → Calls Try.prog 8 #[vb] W fun e w' => ∃ v', e = .returned v' ∧ ∃ l, Own rc 28 4 W.heap.size w' v' l ∧ Q W w' ∧ Rg.Nf (Rg.dif (Rg.cnted B) []) l ∧ l.length ≤ 1000000000000) := fun W q => (HD.out W q).mono fun _ _ ⟨v', he, l, a, b, c, d, _⟩ => ⟨v', he, l, a, b, c, d⟩
    have HY : Hid (Calls Try.prog 8 #[va] w fun e w' => ∃ v', e = .returned v' ∧ ∃ l, Own rc 28 4 w.heap.size w' v' l ∧ Q w w' ∧ Rg.Nf (Rg.dif (Rg.cnted B) []) l ∧ l.length ≤ 1000000000000) := HC.out.mono fun _ _ ⟨v', he, l, a, b, c, d, _⟩ => ⟨v', he, l, a, b, Rg.nf_congr c HE.out, d⟩
    clear HC HD HB HE ha hb hv
    go_enter Try.func18, Try.ntmps18
    go_wp2_with (first
      | (go_at_call 24; refine HQ3.out.mono ?_; rintro e w3 ⟨rfl, q3⟩; have HQ4 := hid (HQ2.out.trans q3); clear q3)
      | (go_at_call_of 8 va; refine HY.out.mono ?_; rintro e w1 ⟨v1, rfl, l1, own1, q1, n1, b1⟩; have HQ1 := hid q1; have HS1 := hid (own1.sl rc_len (by decide)); have HN1 := hid n1; have HB1 := hid b1; clear own1 q1 n1 b1)
      | (go_at_call_of 8 vb; refine (HX.out _ HQ1.out).mono ?_; rintro e w2 ⟨v2, rfl, l2, own2, q2, n2, b2⟩; have HQ2 := hid (HQ1.out.trans q2); have HQ3 := hid (eqR_any v1 v2 l1 l2 w2 (HS1.out.on q2) (own2.sl rc_len (by decide)) HB1.out b2); rw [eqRc_iff.2 (Rg.nf_uniq HN1.out n2)] at HQ3; clear own2 q2 n2 b2))
    go_ret
    exact ⟨rfl, HQ4.out⟩
end Go.Proofs.Ytkbpdgghnlnakaa
