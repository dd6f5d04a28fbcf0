/- counterpanelaw4.Cut; slices that are cut or put together. -/
import Derived.Test.YtkbpdgghnlnakaaL0
namespace Go.Proofs.Ytkbpdgghnlnakaa
open Go.RowKit
set_option linter.unusedVariables false
set_option linter.unusedSimpArgs false

section
variable {α : Type} {enc : α → List Value} {k : Nat}
theorem sl_take {W : World} {ao : Option Addr} {cap : Nat} {L : List α} (h : Sl enc k W (.slice ao L.length cap) L) (n : Nat) (hn : n ≤ L.length) : Sl enc k W (.slice ao n cap) (L.take n) := by
  obtain ⟨ao', cap', hv, h1, h2, h⟩ := h
  simp only [Value.slice.injEq, true_and] at hv
  obtain ⟨rfl, rfl⟩ := hv
  have e : (L.take n).length = n := by rw [List.length_take]; omega
  refine ⟨ao, cap, by rw [e], by rw [e]; omega, h2, fun hl => ?_⟩
  obtain ⟨b, off, ha, hc⟩ := h (by rw [e] at hl; omega)
  refine ⟨b, off, ha, fun i hi => ?_⟩
  have := hc i (by rw [e] at hi; omega)
  rw [List.getElem_take]
  exact this
theorem sl_drop {W : World} {b off cap : Nat} {L : List α} (h : Sl enc k W (.slice (some ⟨b, off, none⟩) L.length cap) L) (n : Nat) (hn : n ≤ L.length) : Sl enc k W (.slice (some ⟨b, off + n * k, none⟩) (L.length - n) (cap - n)) (L.drop n) := by
  obtain ⟨ao', cap', hv, h1, h2, h⟩ := h
  simp only [Value.slice.injEq, true_and] at hv
  obtain ⟨rfl, rfl⟩ := hv
  refine ⟨_, _, by rw [List.length_drop], by rw [List.length_drop]; omega, by omega, fun hl => ?_⟩
  rw [List.length_drop] at hl
  obtain ⟨b', off', ha, hc⟩ := h (by omega)
  cases ha
  refine ⟨b, off + n * k, rfl, fun i hi => ?_⟩
  rw [List.length_drop] at hi
  have := hc (n + i) (by omega)
  rw [List.getElem_drop]
  rw [Nat.add_mul] at this
  rw [show off + n * k + i * k = off + (n * k + i * k) by omega]
  exact this
theorem sl_news {W : World} {ad : Addr} {n cap : Nat} {L : List α} (h : Sl enc k W (.slice (some ad) n cap) L) (hk : ∀ x, (enc x).length = k) (hp : 0 < k) : ∀ j u, (flat enc L)[j]? = some u → W.cell? (ad.add j) = some u := by
  obtain ⟨ao, cap', hv, h⟩ := h.cells hk hp
  simp only [Value.slice.injEq] at hv
  rcases h with rfl | ⟨ad', rfl, h⟩
  · intro j u hu; simp [flat] at hu
  · obtain ⟨e, _, _⟩ := hv
    cases e
    exact h
end
set_option maxHeartbeats 1000000 in
theorem cut_any (v : Value) (L : List Rg.Rc) (w : World) (h : Sl rc 4 w v L) : Calls Try.prog 7 #[v] w fun e w' => ∃ v', e = .returned v' ∧ Sl rc 4 w v' (L.take 12) ∧ w' = w := by
  have HS := hid h
  obtain ⟨ao, cap, rfl, h1, h2⟩ := h.len
  clear h
  have h3 : L.length ≤ 9223372036854775807 := Nat.le_trans h1 (by unfold maxLen at h2; omega)
  by_cases hl : 12 < L.length
  · have hl' : (12 : Int) < (L.length : Int) := by omega
    have hl2 : (12 : Int) ≤ (cap : Int) := by omega
    have hl3 : (cap : Int) ≤ 9223372036854775807 := by unfold maxLen at h2; omega
    have HR := hid (sl_take HS.out 12 (by omega))
    go_enter Try.func7, Try.ntmps7
    go_wp2
    go_ret
    exact ⟨_, rfl, HR.out, rfl⟩
  · have hl' : ¬ (12 : Int) < (L.length : Int) := by omega
    have HR : Hid (Sl rc 4 w (.slice ao L.length cap) (L.take 12)) := by
      show Sl _ _ _ _ _
      rw [List.take_of_length_le (show L.length ≤ 12 by omega)]
      exact HS.out
    go_enter Try.func7, Try.ntmps7
    go_wp2
    go_ret
    exact ⟨_, rfl, HR.out, rfl⟩
end Go.Proofs.Ytkbpdgghnlnakaa
