/- The gaps where a rectangle begins or ends, from the top. -/
import Derived.Test.YtcgddnliiondoaaGreatDoorKp05
import Derived.Deep.CutBlock
set_option linter.unusedVariables false
set_option linter.unusedSimpArgs false
set_option maxRecDepth 100000
set_option maxHeartbeats 8000000
namespace Go.Proofs.YtcgddnliiondoaaGreatDoor.R
open Go.RowKit
def eds (L : List Rg.Rc) : List Int := L.flatMap fun x => [x.a, x.c]
theorem eds_append (L L' : List Rg.Rc) : eds (L ++ L') = eds L ++ eds L' := by unfold eds; simp
theorem eds_succ {L : List Rg.Rc} {j : Nat} (h : j < L.length) : eds (L.take (j + 1)) = eds (L.take j) ++ [L[j].a, L[j].c] := by
  rw [List.take_succ_eq_append_getElem h, eds_append]
  rfl
theorem eds_len (L : List Rg.Rc) : (eds L).length = 2 * L.length := by
  induction L with
  | nil => rfl
  | cons x L ih => unfold eds at *; simp only [List.flatMap_cons, List.length_append, ih, List.length_cons, List.length_nil]; omega
theorem eds_mem (L : List Rg.Rc) (e : Int) : e ∈ eds L ↔ Rg.EdR L e := by
  unfold eds Rg.EdR
  rw [List.mem_flatMap]
  constructor
  · rintro ⟨x, hx, h⟩
    refine ⟨x, hx, ?_⟩
    simpa using h
  · rintro ⟨x, hx, h⟩
    exact ⟨x, hx, by simpa using h⟩
def prt (A B : List Rg.Rc) : Nat → List Rg.Rc
  | 0 => []
  | 1 => A
  | _ => A ++ B
theorem own_two {W : World} {v : Value} {L : List Int} {x y : Int} {B : Nat} (h : W.ownsRow B 2 1 v (L.length + 2) (flat ie L ++ [.int .i64 x, .int .i64 y])) : Own ie 2 1 B W v (L ++ [x, y]) := by
  unfold Own
  rw [flat_append, List.length_append]
  exact h
set_option maxHeartbeats 4000000 in
theorem rowGaps_any (va vb : Value) (A B : List Rg.Rc) (bl : Nat) (w : World) (ha : Sl rc 4 w va A) (hb : Sl rc 4 w vb B) (hA : A.length ≤ 1000) (hB : B.length ≤ 1000) (k0 : w.cell? ⟨bl, 0, none⟩ = some va) (k1 : w.cell? ⟨bl, 1, none⟩ = some vb) :
    Calls Tryz.prog 132 #[.slice (some ⟨bl, 0, none⟩) 2 2] w fun e w' => ∃ v G, e = .returned v ∧ Own ie 2 1 w.heap.size w' v G ∧ Q w w' ∧ Rg.Ascl G ∧ (∀ e, e ∈ G ↔ Rg.EdR (A ++ B) e) ∧ G.length ≤ 4000 := by
  obtain ⟨i0, HI⟩ := inf_of info2
  have HI := hid HI
  have HA := hid ha
  have HB := hid hb
  have K0 := hid k0
  have K1 := hid k1
  have hbl : bl < w.heap.size := World.block_lt_of_cell? w ⟨bl, 0, none⟩ k0
  clear ha hb k0 k1
  go_enter Tryz.func132, Tryz.ntmps132
  go_wp2
  go_loopw [3, 10] (fun o s W => ∃ (n : Nat), n ≤ 2 ∧ s = .int .i64 n ∧ Own ie 2 1 w.heap.size W o (eds (prt A B n)) ∧ Q w W) (fun _ s _ => 2 - (intOf s).toNat)
  case atStart => exact ⟨0, Nat.zero_le _, rfl, own_nil _, Q.refl _⟩
  case round =>
    obtain ⟨n, hn, rfl, hown, hq⟩ := hrel
    have HOW := hid hown
    have HQ := hid hq
    clear hown hq
    by_cases hlt : n < 2
    · have hlt' : (n : Int) < 2 := by omega
      obtain ⟨v', L', cv, hs, hp, hl⟩ : ∃ v' L', w.cell? ⟨bl, n, none⟩ = some v' ∧ Sl rc 4 w v' L' ∧ prt A B (n + 1) = prt A B n ++ L' ∧ L'.length ≤ 1000 := by
        match n, hlt with
        | 0, _ => exact ⟨va, A, K0.out, HA.out, rfl, hA⟩
        | 1, _ => exact ⟨vb, B, K1.out, HB.out, rfl, hB⟩
      have hpl : (prt A B n).length ≤ 1000 := by
        match n, hlt with
        | 0, _ => exact Nat.zero_le _
        | 1, _ => exact hA
      have HL := hid hs
      have HP := hid hp
      have cv' : wr.cell? ⟨bl, n, none⟩ = some v' := (HQ.out.cell hbl).trans cv
      generalize prt A B n = P at *
      obtain ⟨ao, cap, rfl, _, _⟩ := hs.len
      clear hs hp cv
      obtain ⟨w0, rfl⟩ : ∃ w0, w0 = wr := ⟨wr, rfl⟩
      go_wp2_with fail
      clear cv'
      go_loopw [3, 16] (fun o s W => ∃ (j : Nat), j ≤ L'.length ∧ s = .int .i64 j ∧ Own ie 2 1 w.heap.size W o (eds P ++ eds (L'.take j)) ∧ Q w W) (fun _ s _ => L'.length - (intOf s).toNat)
      case atStart => exact ⟨0, Nat.zero_le _, rfl, own_eq HOW.out (by simp [eds]), HQ.out⟩
      case round =>
        clear HOW HQ
        obtain ⟨j, hj, rfl, hown, hq⟩ := hrel
        have HOW := hid hown
        have HQ := hid hq
        clear hown hq
        by_cases hjl : j < L'.length
        · have hjl' : (j : Int) < (L'.length : Int) := by omega
          obtain ⟨g, off, cap', e, _, _, hc⟩ := (HL.out.on HQ.out).at hjl
          cases e
          have HF := hid (eds_succ hjl)
          have hlen : (eds P ++ eds (L'.take j)).length ≤ 4000 := by
            rw [List.length_append, eds_len, eds_len, List.length_take]
            omega
          generalize L'[j] = x at *
          obtain ⟨xa, xb, xc, xd⟩ := x
          have c0 : wr.cell? ⟨g, off + j * 4, none⟩ = some (.int .i64 xa) := hc 0 _ rfl
          have c1 : wr.cell? ⟨g, off + j * 4 + 1, none⟩ = some (.int .i64 xb) := hc 1 _ rfl
          have c2 : wr.cell? ⟨g, off + j * 4 + 2, none⟩ = some (.int .i64 xc) := hc 2 _ rfl
          have c3 : wr.cell? ⟨g, off + j * 4 + 3, none⟩ = some (.int .i64 xd) := hc 3 _ rfl
          clear hc
          generalize hOO : eds P ++ eds (L'.take j) = OO at *
          have HOO := hid hOO
          clear hOO
          go_wp2_with (at_builtin; refine wpList_append_own _ rfl _ _ 135 rfl w.heap.size 2 i0 (.int .i64 0) 1 8 Tryz.underlying135 HI.out.1 HI.out.2.1 HI.out.2.2.1 HI.out.2.2.2 rfl (by decide) _ _ _ rfl ((HOW.out.alloc _).alloc _) _ 2 2 [.int .i64 xa, .int .i64 xc] rfl rfl (news_at _ [.int .i64 xa, .int .i64 xc] 2 _ (by simp)) (by simp [Value.oneCell']) (by unfold maxLen; omega) (by omega) (by have := HQ.out.size; simp; omega) ?_)
          intro v3 w3 hown' hgrow _
          have HO4 : Hid (Own ie 2 1 w.heap.size w3 v3 (eds P ++ eds (L'.take (j + 1)))) := by
            have := own_two hown'
            rw [← HOO.out, List.append_assoc] at this
            exact own_eq this (by rw [HF.out])
          have HQ4 : Hid (Q w w3) := Below.grown ((HQ.out.alloc _).alloc _) hgrow (by have := HQ.out.size; simp; omega) (HOW.out.blk)
          clear hown' hgrow HOW HQ c0 c1 c2 c3
          go_wp2_with fail
          go_roundw
          case rel => exact ⟨j + 1, by omega, by go_num, HO4.out, HQ4.out⟩
          case measure => simp [intOf]; omega
        · have hjl' : ¬ (j : Int) < (L'.length : Int) := by omega
          have HO4 : Hid (Own ie 2 1 w.heap.size wr u3 (eds (prt A B (n + 1)))) := own_eq HOW.out (by rw [HP.out, eds_append, List.take_of_length_le (by omega)])
          clear HOW
          go_wp2_with fail
          go_roundw
          case rel => exact ⟨n + 1, by omega, by go_num, HO4.out, HQ.out⟩
          case measure => simp [intOf]; omega
    · have hlt' : ¬ (n : Int) < 2 := by omega
      obtain rfl : n = 2 := by omega
      have HO2 : Hid (Own ie 2 1 w.heap.size wr u3 (eds (A ++ B))) := HOW.out
      have hlen : (eds (A ++ B)).length ≤ 4000 := by rw [eds_len, List.length_append]; omega
      have HM := hid (eds_mem (A ++ B))
      generalize eds (A ++ B) = Z at *
      clear HOW
      rcases Nat.eq_zero_or_pos Z.length with h0 | h0
      · have hn : Z = [] := List.eq_nil_of_length_eq_zero h0
        subst hn
        obtain ⟨ao, cap, rfl, _, _⟩ := (HO2.out.sl ie_len (by decide)).len
        simp only [List.length_nil] at HO2
        go_wp2_with (first
          | (go_at_call 147; refine (sort_none _ _ _).mono ?_; rintro e w2 ⟨rfl, rfl⟩)
          | (go_at_call 148; refine (compact_none _ _ _).mono ?_; rintro e w2 ⟨rfl, rfl⟩))
        go_ret
        exact ⟨_, [], rfl, HO2.out, HQ.out, trivial, HM.out, Nat.zero_le _⟩
      · obtain ⟨g, cap, rfl, hg, _, hcap, _⟩ := HO2.out.shape h0
        have HS := hid (sort_any Z _ g cap wr HO2.out (by omega))
        go_wp2_with (first
          | (go_at_call 147; refine HS.out.mono ?_; rintro e w2 ⟨rfl, Z2, hs2, hm2, hl2, own2, hgr2⟩; have HO3 := hid (own_eq own2 rfl); have HQ3 : Hid (Q w w2) := Below.grown HQ.out hgr2 HQ.out.size (fun k e => by cases e; exact hg); have HM2 := hid hm2; have HL2 := hid hl2; rw [← hl2] at own2; have HC := hid (compact_any Z2 _ g cap w2 own2 hs2 (by omega) (by omega)); rw [hl2] at HC; clear own2 hgr2 hm2 hs2 hl2)
          | (go_at_call 148; refine HC.out.mono ?_; rintro e w3 ⟨v3, Z3, rfl, hs3, hm3, hl3, own3, hgr3⟩; have HO4 := hid own3; have HQ4 : Hid (Q w w3) := Below.grown HQ3.out hgr3 HQ3.out.size (fun k e => by cases e; exact hg); have HM3 := hid hm3; have HL3 := hid hl3; have HS3 := hid hs3; clear own3 hgr3 hm3 hs3 hl3))
        go_ret
        refine ⟨_, Z3, rfl, HO4.out, HQ4.out, ascl_of HS3.out, fun e => by rw [HM3.out, HM2.out, HM.out], ?_⟩
        have := HL3.out
        omega
end Go.Proofs.YtcgddnliiondoaaGreatDoor.R
