/- The law ValueWorst, walked. -/
import Derived.Test.YtkhecmafhcdalaaDoorC0
namespace Go.Proofs.YtkhecmafhcdalaaDoor
open Go.RowKit
set_option linter.unusedVariables false
set_option linter.unusedSimpArgs false

theorem flat_cons (x : Cv) (l : List Cv) : flat (x :: l) = x.cut.cells ++ flat l := rfl
theorem flat_get : ∀ (l : List Cv) (i j : Nat), i < l.length → j < 5 → (flat l)[i * 5 + j]? = (l.getD i cv0).cut.cells[j]?
  | [], i, j, h, _ => by simp at h
  | x :: l, 0, j, _, hj => by
    rw [flat_cons, Nat.zero_mul, Nat.zero_add, List.getElem?_append_left (by simpa [Cv.cells] using hj)]
    rfl
  | x :: l, i + 1, j, h, hj => by
    have e : (i + 1) * 5 + j = x.cut.cells.length + (i * 5 + j) := by simp only [Cv.cells, List.length_cons, List.length_nil]; omega
    rw [flat_cons, e, List.getElem?_append_right (by omega), Nat.add_sub_cancel_left, flat_get l i j (by simpa using h) hj]
    rfl

theorem map_cut_getD (l : List Cv) (i : Nat) (h : i < l.length) : (l.map Cv.cut).getD i cv0 = (l.getD i cv0).cut := by
  simp [List.getD_eq_getElem?_getD, List.getElem?_eq_getElem h]

theorem own_at5 {W : World} {B n : Nat} {v : Value} {l : List Cv} (h : W.ownsRow B 30 5 v n (flat l)) (hl : l.length = n) (hn : 0 < n) :
    ∃ g cap, v = .slice (some ⟨g, 0, none⟩) n cap ∧ g < W.heap.size ∧ ∀ i, i < n → At5 W g (0 + i * 5) ((l.map Cv.cut).getD i cv0) := by
  obtain ⟨_, h⟩ := h
  rcases h with ⟨_, h0⟩ | ⟨g, cap, cur, hv, _, hg, _, _, _, ht⟩
  · omega
  · have hlt : g < W.heap.size := by
      rcases Nat.lt_or_ge g W.heap.size with h' | h'
      · exact h'
      · rw [Array.getElem?_eq_none h'] at hg; cases hg
    refine ⟨g, cap, hv, hlt, fun i hi => ?_⟩
    have hcell : ∀ j, j < 5 → W.cell? ⟨g, i * 5 + j, none⟩ = ((l.map Cv.cut).getD i cv0).cells[j]? := by
      intro j hj
      have h1 : (cur.toList.take (n * 5))[i * 5 + j]? = (flat l)[i * 5 + j]? := by rw [ht]
      rw [List.getElem?_take_of_lt (by omega), flat_get l i j (by omega) hj, ← map_cut_getD l i (by omega)] at h1
      rw [← h1]
      unfold World.cell?
      rw [hg]
      simp
    rw [Nat.zero_add]
    constructor
    · exact hcell 0 (by omega)
    · exact hcell 1 (by omega)
    · exact hcell 2 (by omega)
    · exact hcell 3 (by omega)
    · exact hcell 4 (by omega)

set_option maxHeartbeats 1000000 in
theorem worst_nil (w : World) : Calls Tryd.prog 30 #[.slice none 0 0] w fun e w' => e = .returned (.int .i64 0) ∧ Q w w' := by
  go_enter Tryd.func30, Tryd.ntmps30
  go_wp2
  refine wp_loop_rounds 1 ?_
  rw [rounds_succ]
  go_wp2
  go_ret
  exact ⟨rfl, Q.refl _⟩
set_option maxHeartbeats 1000000 in
theorem rworst_nil (w : World) : Calls Tryd.prog 31 #[.slice none 0 0] w fun e w' => e = .returned (.int .i64 0) ∧ Q w w' := by
  go_enter Tryd.func31, Tryd.ntmps31
  go_wp2
  refine wp_loop_rounds 1 ?_
  rw [rounds_succ]
  go_wp2
  go_ret
  exact ⟨rfl, Q.refl _⟩
set_option maxHeartbeats 1000000 in
theorem cutAll_nil (w : World) : Calls Tryd.prog 29 #[.slice none 0 0, .int .i64 30] w fun e w' => e = .returned (.slice none 0 0) ∧ Q w w' := by
  go_enter Tryd.func29, Tryd.ntmps29
  go_wp2
  refine wp_loop_rounds 1 ?_
  rw [rounds_succ]
  go_wp2
  go_ret
  exact ⟨rfl, Q.refl _⟩
set_option maxHeartbeats 1000000 in
theorem cutAll_zero (x : Addr) (cap : Nat) (w : World) : Calls Tryd.prog 29 #[.slice (some x) 0 cap, .int .i64 30] w fun e w' => e = .returned (.slice none 0 0) ∧ Q w w' := by
  go_enter Tryd.func29, Tryd.ntmps29
  go_wp2
  refine wp_loop_rounds 1 ?_
  rw [rounds_succ]
  go_wp2
  go_ret
  exact ⟨rfl, Q.refl _⟩

set_option maxHeartbeats 1000000 in
theorem vworst_none (s : Value) (w : World) (hw : Std2 w) (hc : ∀ W, Calls Tryd.prog 29 #[s, .int .i64 30] W fun e w' => e = .returned (.slice none 0 0) ∧ Q W w') :
    Calls Tryd.prog 6 #[s] w fun e w' => e = .returned (.bool true) ∧ Q w w' := by
  have HB := hid (begun2_any w hw)
  have HC := hid hc
  clear hw hc
  go_enter Tryd.func6, Tryd.ntmps6
  go_wp2_with (first
    | (go_at_call 13; refine HB.out.mono ?_; rintro r w1 ⟨rfl, q1⟩)
    | (go_at_call 29; refine (HC.out _).mono ?_; rintro r w2 ⟨rfl, q2⟩)
    | (go_at_call 30; refine (worst_nil _).mono ?_; rintro r w3 ⟨rfl, q3⟩)
    | (go_at_call 31; refine (rworst_nil _).mono ?_; rintro r w4 ⟨rfl, q4⟩))
  go_ret
  exact ⟨rfl, ((q1.trans q2).trans q3).trans q4⟩

set_option maxHeartbeats 1000000 in
theorem vworst_row (b off len cap n : Nat) (l : List Cv) (w : World) (hw : Std2 w) (hn : (len ≤ 30 ∧ n = len) ∨ (30 < len ∧ n = 30)) (hp : 0 < len) (hm : (len : Int) ≤ 9223372036854775807) (hl : l.length = n)
    (hc : ∀ i, i < n → At5 w b (off + i * 5) (l.getD i cv0)) :
    Calls Tryd.prog 6 #[.slice (some ⟨b, off, none⟩) len cap] w fun e w' => e = .returned (.bool true) ∧ Q w w' := by
  have HB := hid (begun2_any w hw)
  have HC := hid (fun W (q : Q w W) => cutAll_row b off len cap n l W hn hm hl (fun i hi => (hc i hi).on q))
  have HW := hid hw
  have HO : Hid (∀ (v : Value) (W B : World), W.ownsRow B.heap.size 30 5 v n (flat l) → Std2 W →
      (∀ W', Q W W' → Calls Tryd.prog 30 #[v] W' fun e w' => e = .returned (.int .i64 (worst (l.map Cv.cut))) ∧ Q W' w') ∧
      (∀ W', Q W W' → Calls Tryd.prog 31 #[v] W' fun e w' => e = .returned (.int .i64 (worst (l.map Cv.cut))) ∧ Q W' w')) := by
    intro v W B hown hs
    obtain ⟨g, cp, rfl, hg, h5⟩ := own_at5 hown hl (by omega)
    have hsz : ∀ i, i < n → (((l.map Cv.cut).getD i cv0).t.size : Int) ≤ 9223372036854775000 := fun i hi => by
      rw [map_cut_getD l i (by omega)]
      have := cutT_size (l.getD i cv0).t
      show ((cutT (l.getD i cv0).t).size : Int) ≤ _
      omega
    refine ⟨fun W' q => ?_, fun W' q => ?_⟩
    · exact worst_row g 0 n cp (l.map Cv.cut) W' (hs.on q) (by simpa using hl) (by omega) hsz (fun i hi => (h5 i hi).on q)
    · exact rworst_row g 0 n cp (l.map Cv.cut) W' (by simpa using hl) (by omega) hsz (fun i hi => (h5 i hi).on q)
  clear hw hc hn
  generalize worst (l.map Cv.cut) = z at *
  go_enter Tryd.func6, Tryd.ntmps6
  go_wp2_with (first
    | (go_at_call 13; refine HB.out.mono ?_; rintro r w1 ⟨rfl, q1⟩)
    | (go_at_call 29; refine (HC.out _ q1).mono ?_; rintro r w2 ⟨v, rfl, hown, q2⟩; have h2 := HO.out v w2 w1 hown (HW.out.on (q1.trans q2)); obtain ⟨h30, h31⟩ := h2; have H30 := hid h30; have H31 := hid h31; clear h30 h31 hown)
    | (go_at_call 30; refine (H30.out _ (Q.refl _)).mono ?_; rintro r w3 ⟨rfl, q3⟩)
    | (go_at_call 31; refine (H31.out _ q3).mono ?_; rintro r w4 ⟨rfl, q4⟩))
  go_ret
  exact ⟨rfl, ((q1.trans q2).trans q3).trans q4⟩
end Go.Proofs.YtkhecmafhcdalaaDoor
