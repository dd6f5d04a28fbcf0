/- Slices of numbers that the call itself makes; sums of what is turned round; Sum of none. -/
import Derived.Test.YtiplfalnaaeljaaDoorX
namespace Go.Proofs.YtiplfalnaaeljaaDoor
open Go.RowKit
set_option linter.unusedVariables false

theorem sum_rev (l : List Int) : l.reverse.sum = l.sum := by
  induction l with
  | nil => rfl
  | cons a l ih => rw [List.reverse_cons, List.sum_append, ih, List.sum_cons]; simp; omega

theorem own_slice {W : World} {B : Nat} {v : Value} {n : Nat} {zs : List Int} (h : W.ownsRow B 22 1 v n (zs.map (Value.int .i64))) (hl : zs.length = n) (hn : 0 < n) :
    ∃ g cap, v = .slice (some ⟨g, 0, none⟩) n cap ∧ ∀ i, i < n → W.cell? ⟨g, 0 + i, none⟩ = some (.int .i64 (zs.getD i 0)) := by
  obtain ⟨_, h⟩ := h
  rcases h with ⟨_, h0⟩ | ⟨g, cap, cur, hv, _, hg, _, _, _, ht⟩
  · omega
  · refine ⟨g, cap, hv, fun i hi => ?_⟩
    have hi' : i < (zs.map (Value.int .i64)).length := by simpa [hl] using hi
    have e : cur[i]? = some (Value.int .i64 (zs.getD i 0)) := by
      have h1 : (cur.toList.take (n * 1))[i]? = (zs.map (Value.int .i64))[i]? := by rw [ht]
      rw [List.getElem?_take_of_lt (by omega)] at h1
      rw [← Array.getElem?_toList, h1]
      simp [List.getD_eq_getElem?_getD, List.getElem?_eq_getElem (show i < zs.length by omega)]
    unfold World.cell?
    rw [hg]
    simpa using e

theorem drop_rev (zs : List Int) (i : Nat) (h : i < zs.length) : (zs.drop i).reverse = (zs.drop (i + 1)).reverse ++ [zs.getD i 0] := by
  rw [List.drop_eq_getElem_cons h, List.reverse_cons]
  simp [List.getD_eq_getElem?_getD, List.getElem?_eq_getElem h]

set_option maxHeartbeats 400000 in
theorem sum_nil (w : World) :
    Calls Tryd.prog 18 #[.slice none 0 0] w fun e w' => e = .returned (.tuple #[.int .i64 0, .bool true]) ∧ Q w w' := by
  go_enter Tryd.func18, Tryd.ntmps18
  go_wp2
  refine wp_loop_rounds 1 ?_
  rw [rounds_succ]
  go_wp2
  go_ret2
  exact ⟨rfl, Q.refl _⟩
end Go.Proofs.YtiplfalnaaeljaaDoor
