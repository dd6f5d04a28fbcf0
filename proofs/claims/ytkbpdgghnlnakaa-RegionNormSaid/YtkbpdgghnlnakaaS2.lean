/- Rectangles from the left: slices.SortedFunc, region.fromLeft. -/
import Derived.Test.YtkbpdgghnlnakaaS1
namespace Go.Proofs.Ytkbpdgghnlnakaa
open Go.RowKit Go.Shelf Go.Lib Go.Sort
set_option linter.unusedVariables false
set_option linter.unusedSimpArgs false

theorem sortF_none (p : Option Addr) (cap : Nat) (fv : Value) (w : World) : Calls Try.prog 40 #[.slice p 0 cap, fv] w fun e w' => e = .returned (.tuple #[]) ∧ w' = w := AnyF.slices_SortFunc_none Try.laySortF p cap fv w

set_option maxHeartbeats 1000000 in
theorem sortedFunc_any (Bs : Nat) (sv : Value) (L : List Rg.Rc) (hL : L.length ≤ 1000000) (w : World) (hBs : Bs < w.heap.size) (hc : w.cell? ⟨Bs, 0, none⟩ = some sv) (hI : Sl rc 4 w sv L) :
    Calls Try.prog 33 #[.func (.func 41) #[] #[.pointer (some ⟨Bs, 0, none⟩)], .func (.func 35) #[] #[]] w fun e w' => ∃ v L', e = .returned v ∧ Own rc 28 4 w.heap.size w' v L' ∧ L'.Perm L ∧ Srt L' ∧ Q w w' := by
  have H := hid (collect_any Bs sv L hL w hBs hc hI)
  clear hc hI
  rcases Nat.eq_zero_or_pos L.length with h0 | h0
  · have hn : L = [] := List.eq_nil_of_length_eq_zero h0
    subst hn
    go_enter Try.func33, Try.ntmps33
    go_wp2_with (first
      | (go_at_call 39; refine H.out.mono ?_; rintro e w1 ⟨v', rfl, own, q1⟩; have HO := hid own; have HQ := hid q1; clear own q1; obtain ⟨ao, cap, rfl, _, _⟩ := (HO.out.sl rc_len (by decide)).len; simp only [List.length_nil] at HO)
      | (go_at_call 40; refine (sortF_none _ _ _ _).mono ?_; rintro e w2 ⟨rfl, rfl⟩))
    go_ret
    exact ⟨_, [], rfl, HO.out, .refl _, List.Pairwise.nil, HQ.out⟩
  · go_enter Try.func33, Try.ntmps33
    go_wp2_with (first
      | (go_at_call 39; refine H.out.mono ?_; rintro e w1 ⟨v', rfl, own, q1⟩; have HO := hid own; have HQ := hid q1; clear own q1; obtain ⟨g, cap, rfl, hg, _, _, _⟩ := HO.out.shape h0; have HS := hid (sortF_any L _ g cap w1 HO.out hL))
      | (go_at_call 40; refine HS.out.mono ?_; rintro e w2 ⟨rfl, L', hp, hs, own2, hgr⟩; have HO2 := hid own2; have HQ2 : Hid (Q w w2) := Below.grown HQ.out hgr HQ.out.size (fun k e => by cases e; exact hg); have HP := hid hp; have HS2 := hid hs; clear own2 hgr hp hs))
    go_ret
    exact ⟨_, L', rfl, HO2.out, HP.out, HS2.out, HQ2.out⟩

set_option maxHeartbeats 1000000 in
theorem fromLeft_any (v : Value) (L : List Rg.Rc) (w : World) (h : Sl rc 4 w v L) (hL : L.length ≤ 1000000) : Calls Try.prog 26 #[v] w fun e w' => ∃ v' L', e = .returned v' ∧ Own rc 28 4 w.heap.size w' v' L' ∧ L'.Perm L ∧ Srt L' ∧ Q w w' := by
  have HS := hid h
  obtain ⟨ao, cap, rfl, _, _⟩ := h.len
  clear h
  have HQ0 : Hid (Q w (w.alloc (.cells #[.slice ao L.length cap] 22))) := (Q.refl _).alloc _
  have HF := hid (sortedFunc_any w.heap.size (.slice ao L.length cap) L hL (w.alloc (.cells #[.slice ao L.length cap] 22)) (by simp) (by simp) (HS.out.on HQ0.out))
  go_enter Try.func26, Try.ntmps26
  go_wp2_with (first
    | (go_at_call 34; refine (values_any _ _ _ _).mono ?_; rintro e w1 ⟨rfl, rfl⟩)
    | (go_at_call 33; refine HF.out.mono ?_; rintro e w1 ⟨v', L', rfl, own, hp, hs, q1⟩; have HO := hid (own.mono (B' := w.heap.size) (by simp)); have HQ := hid (HQ0.out.trans q1); have HP := hid hp; have HS2 := hid hs; clear own q1 hp hs))
  go_ret
  exact ⟨_, L', rfl, HO.out, HP.out, HS2.out, HQ.out⟩
end Go.Proofs.Ytkbpdgghnlnakaa
