/- What every statement of this layer asks first: two rectangles, plainly; and what is cut to twelve. -/
import Derived.Test.YtkbpdgghnlnakaaJ
import Derived.Test.YtkbpdgghnlnakaaC
namespace Go.Proofs.Ytkbpdgghnlnakaa
open Go.RowKit
set_option linter.unusedVariables false
set_option linter.unusedSimpArgs false

def rs0 : List Rg.Rc := [⟨0, 0, 2, 2⟩, ⟨0, 2, 2, 3⟩]
def l0 : List Rg.Rc := [⟨0, 0, 2, 3⟩]
def b0 : List Rg.Rc := [⟨1, 1, 2, 2⟩]
def m0 : List Rg.Rc := [⟨0, 0, 1, 3⟩, ⟨1, 0, 2, 1⟩, ⟨1, 2, 2, 3⟩]
theorem cnt_rs0 : Rg.cnted rs0 = rs0 := by simp [Rg.cnted, rs0, Rg.mayB]
theorem cnt_l0 : Rg.cnted l0 = l0 := by simp [Rg.cnted, l0, Rg.mayB]
theorem cnt_b0 : Rg.cnted b0 = b0 := by simp [Rg.cnted, b0, Rg.mayB]
theorem cnt_m0 : Rg.cnted m0 = m0 := by simp [Rg.cnted, m0, Rg.mayB]
theorem nf_l0 : Rg.Nf (Rg.dif (Rg.cnted rs0) []) l0 := by
  rw [cnt_rs0]
  refine ⟨[⟨0, 2, [⟨0, 3⟩]⟩], 0, ⟨by simp, by simp, by simp, by simp, trivial⟩, rfl, fun r => ?_⟩
  rw [Rg.valB]
  by_cases h : (0 : Int) ≤ r ∧ r < 2
  · rw [if_pos h]
    refine ⟨⟨0, by simp, by simp, trivial⟩, fun c => ?_⟩
    rw [Bool.eq_iff_iff]
    simp [Rg.inS, Rg.dif, Rg.has, rs0, Rg.inR, Rg.act]
    omega
  · rw [if_neg h]
    refine ⟨⟨0, trivial⟩, fun c => ?_⟩
    rw [Bool.eq_iff_iff]
    simp [Rg.valB, Rg.inS, Rg.dif, Rg.has, rs0, Rg.inR, Rg.act]
    omega
theorem nf_m0 : Rg.Nf (Rg.dif (Rg.cnted l0) (Rg.cnted b0)) m0 := by
  rw [cnt_l0, cnt_b0]
  refine ⟨[⟨0, 1, [⟨0, 3⟩]⟩, ⟨1, 2, [⟨0, 1⟩, ⟨2, 3⟩]⟩], 0, ⟨by simp, by simp, by simp, by simp, by simp, by simp, by simp, by simp, trivial⟩, rfl, fun r => ?_⟩
  rw [Rg.valB, Rg.valB]
  by_cases h : (0 : Int) ≤ r ∧ r < 1
  · rw [if_pos h]
    refine ⟨⟨0, by simp, by simp, trivial⟩, fun c => ?_⟩
    rw [Bool.eq_iff_iff]
    simp [Rg.inS, Rg.dif, Rg.has, l0, b0, Rg.inR, Rg.act]
    omega
  · rw [if_neg h]
    by_cases h2 : (1 : Int) ≤ r ∧ r < 2
    · rw [if_pos h2]
      refine ⟨⟨0, by simp, by simp, by simp, by simp, trivial⟩, fun c => ?_⟩
      rw [Bool.eq_iff_iff]
      simp [Rg.inS, Rg.dif, Rg.has, l0, b0, Rg.inR, Rg.act]
      omega
    · rw [if_neg h2]
      refine ⟨⟨0, trivial⟩, fun c => ?_⟩
      rw [Bool.eq_iff_iff]
      simp [Rg.valB, Rg.inS, Rg.dif, Rg.has, l0, b0, Rg.inR, Rg.act]
      omega
theorem nf_self {S : Int → Int → Bool} {l : List Rg.Rc} (h : Rg.Nf S l) (hm : Rg.Mays l) (hl : l.length ≤ 256) : Rg.Nf (Rg.dif (Rg.cnted l) []) l := by
  rw [Rg.cnted_self hm hl]
  exact Rg.nf_congr h fun r c => by rw [Rg.dif_nil, Rg.nf_has h]
theorem mays_m0 : Rg.Mays m0 := by
  intro x hx
  simp [m0] at hx
  rcases hx with rfl | rfl | rfl <;> simp [Rg.May]
theorem nf_m1 : Rg.Nf (Rg.dif (Rg.cnted m0) []) m0 := nf_self nf_m0 mays_m0 (by simp [m0])
theorem ar_m0 : Rg.ar 100 0 m0 = 5 := by decide
theorem has_m0 : Rg.has (Rg.cnted m0) 0 0 = true := by rw [cnt_m0]; decide
theorem may_l0 : Rg.mayB ⟨0, 0, 2, 3⟩ = true := by decide
theorem sub_known (va vb : Value) (A B l : List Rg.Rc) (w : World) (ha : Sl rc 4 w va A) (hb : Sl rc 4 w vb B) (hl : Rg.Nf (Rg.dif (Rg.cnted A) (Rg.cnted B)) l) : Calls Try.prog 17 #[va, vb] w fun e w' => ∃ v', e = .returned v' ∧ Own rc 28 4 w.heap.size w' v' l ∧ Q w w' :=
  (sub_any va vb A B w ha hb).mono fun e w' ⟨v', he, l', h1, h2, h3, _⟩ => ⟨v', he, own_eq h1 (Rg.nf_uniq h3 hl), h2⟩
theorem sl_lit (W : World) (L : List Rg.Rc) (t : TypeId) (hl : L.length ≤ 1000) : Sl rc 4 (W.alloc (.cells (flat rc L).toArray t)) (.slice (some ⟨W.heap.size, 0, none⟩) L.length L.length) L :=
  Own.sl (e := t) (B := W.heap.size) (World.ownsRow_lit W (flat rc L).toArray L.length (Nat.le_refl _) (by unfold maxLen; omega) (by simpa using flat_len rc rc_len L)) rc_len (by decide)

set_option maxHeartbeats 2000000 in
theorem begun_any (w : World) : Calls Try.prog 6 #[] w fun e w' => e = .returned (.bool true) ∧ Q w w' := by
  have HQ0 : Hid (Q w (w.alloc (.cells (flat rc rs0).toArray 28))) := (Q.refl _).alloc _
  have H1 := hid (norm_known _ rs0 l0 _ (sl_lit w rs0 28 (by simp [rs0])) nf_l0)
  have H2 := hid (fun W v (h : Sl rc 4 W v l0) => sub_known v _ l0 b0 m0 (W.alloc (.cells (flat rc b0).toArray 28)) (h.on ((Q.refl _).alloc _)) (sl_lit W b0 28 (by simp [b0])) nf_m0)
  have H3 := hid (fun W v (h : Sl rc 4 W v m0) => area_any v m0 m0 100 100 W h nf_m1 (by simp [m0]) (by decide) (by decide))
  have H4 := hid (fun W v (h : Sl rc 4 W v m0) => has_any v m0 0 0 W h)
  rw [has_m0] at H4
  rw [ar_m0] at H3
  have H5 := hid (fun W v (h : Sl rc 4 W v l0) => eq_true v v l0 l0 W h h (fun _ _ => rfl))
  have H6 := hid (fun W => may_any 0 0 2 3 W)
  rw [may_l0] at H6
  simp only [flat, rs0, b0, rc, List.flatMap_cons, List.flatMap_nil, List.cons_append, List.nil_append, List.append_nil, List.length_cons, List.length_nil, Nat.zero_add, Nat.reduceAdd] at HQ0 H1 H2
  go_enter Try.func6, Try.ntmps6
  go_wp2_with (first
    | (go_at_call 8; refine H1.out.mono ?_; rintro e w1 ⟨v1, rfl, own1, q1⟩; have HO1 := hid own1; have HQ1 := hid (HQ0.out.trans q1); clear own1 q1 HQ0)
    | (go_at_call 17; refine (H2.out _ _ (HO1.out.sl rc_len (by decide))).mono ?_; rintro e w2 ⟨v2, rfl, own2, q2⟩; replace HO1 := hid ((HO1.out.on ((Q.refl _).alloc _)).on q2); have HQ2 := hid (HQ1.out.trans (((Q.refl _).alloc _).trans q2)); have HO2 := hid (own2.sl rc_len (by decide)); clear own2 q2 HQ1; obtain ⟨g1, cap1, rfl, _, _, _, _⟩ := HO1.out.shape (by simp [l0]); obtain ⟨ao2, cap2, rfl, _, _⟩ := HO2.out.len; have c3 : w2.cell? ⟨g1, 3, none⟩ = some (.int .i64 3) := HO1.out.cell rc_len (i := 0) (by simp [l0]) 3 _ rfl; simp only [l0, m0, List.length_cons, List.length_nil, Nat.zero_add, Nat.reduceAdd] at HO1 HO2 ⊢)
    | (go_at_call 15; refine (H3.out _ _ HO2.out).mono ?_; rintro e w3 ⟨rfl, q3⟩; replace HO1 := hid (HO1.out.on q3); replace HO2 := hid (HO2.out.on q3); have HQ3 := hid (HQ2.out.trans q3); clear q3 HQ2 c3)
    | (go_at_call 13; refine (H4.out _ _ HO2.out).mono ?_; rintro e w4 ⟨rfl, q4⟩; replace HO1 := hid (HO1.out.on q4); have HQ4 := hid (HQ3.out.trans q4); clear q4 HQ3)
    | (go_at_call 18; refine (H5.out _ _ (HO1.out.sl rc_len (by decide))).mono ?_; rintro e w5 ⟨rfl, q5⟩; replace HO1 := hid (HO1.out.on q5); have HQ5 := hid (HQ4.out.trans q5); clear q5 HQ4; have d0 : w5.cell? ⟨g1, 0, none⟩ = some (.int .i64 0) := HO1.out.cell rc_len (i := 0) (by simp) 0 _ rfl; have d1 : w5.cell? ⟨g1, 1, none⟩ = some (.int .i64 0) := HO1.out.cell rc_len (i := 0) (by simp) 1 _ rfl; have d2 : w5.cell? ⟨g1, 2, none⟩ = some (.int .i64 2) := HO1.out.cell rc_len (i := 0) (by simp) 2 _ rfl; have d3 : w5.cell? ⟨g1, 3, none⟩ = some (.int .i64 3) := HO1.out.cell rc_len (i := 0) (by simp) 3 _ rfl)
    | (go_at_call 9; refine (H6.out _).mono ?_; rintro e w6 ⟨rfl, rfl⟩))
  go_ret
  exact ⟨rfl, HQ5.out.alloc _⟩
end Go.Proofs.Ytkbpdgghnlnakaa
