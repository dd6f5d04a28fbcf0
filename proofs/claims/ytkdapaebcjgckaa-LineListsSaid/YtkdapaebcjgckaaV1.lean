/- counterpanelaw3.along: where a line goes by some operations. -/
import Derived.Test.YtkdapaebcjgckaaV0
namespace Go.Proofs.Ytkdapaebcjgckaa
open Go.RowKit
set_option linter.unusedVariables false
set_option linter.unusedSimpArgs false

theorem drop_cons (L : List Ax.Ln) (k : Nat) (h : k < L.length) : L.drop k = L[k] :: L.drop (k + 1) := List.drop_eq_getElem_cons h
set_option maxHeartbeats 2000000 in
theorem along_any (v : Value) (L : List Ax.Ln) (i : Int) (w : World) (h : Sl w v L) (hm : L.length ≤ 1000) : Calls Try.prog 18 #[v, .int .i64 i] w fun e w' => e = .returned (.int .i64 (alongX L i)) ∧ Q w w' := by
  have HS := hid h
  clear h
  go_enter Try.func18, Try.ntmps18
  go_wp2
  go_loopw [1, 5] (fun a s W => ∃ (k : Nat) (j : Int), k ≤ L.length ∧ s = .int .i64 k ∧ a = .int .i64 j ∧ Q w W ∧ Hid (alongX (L.drop k) j = alongX L i)) (fun _ s _ => L.length - (intOf s).toNat)
  case atStart => exact ⟨0, i, Nat.zero_le _, rfl, rfl, Q.refl _, rfl⟩
  case round =>
    obtain ⟨k, j, hk, rfl, rfl, hq, hz⟩ := hrel
    have HQ := hid hq
    clear hq
    by_cases hlt : k < L.length
    · have hlt' : (k : Int) < (L.length : Int) := by omega
      obtain ⟨g, off, cap, rfl, hc⟩ := (HS.out.on HQ.out).at hlt
      by_cases hj : 0 ≤ j
      · have HZ : Hid (alongX (L.drop (k + 1)) (ix L[k].k L[k].a L[k].t j) = alongX L i) := by
          show _ = _
          rw [← hz.out, drop_cons L k hlt, alongX_cons _ _ hj]
        generalize L[k] = x at *
        obtain ⟨xk, xa, xt⟩ := x
        obtain ⟨c0, c1, c2⟩ := hc
        simp only at c0 c1 c2
        go_wp2_with (go_at_call 10; refine (index_any _ _ _ _ _).mono ?_; rintro e w1 ⟨rfl, q1⟩)
        go_roundw
        case rel => exact ⟨k + 1, _, by omega, by go_num, rfl, HQ.out.trans q1, HZ⟩
        case measure => simp [intOf]; omega
      · have HZ : Hid (j = alongX L i) := by
          show _ = _
          rw [← hz.out, alongX_neg _ (by omega)]
        clear hc
        go_wp2
        go_ret
        exact ⟨ret_int HZ.out, HQ.out⟩
    · have hlt' : ¬ (k : Int) < (L.length : Int) := by omega
      have HZ : Hid (j = alongX L i) := by
        show _ = _
        rw [← hz.out, List.drop_eq_nil_of_le (by omega)]
        rfl
      obtain ⟨ao, cap, rfl⟩ := HS.out.len
      go_wp2
      go_ret
      exact ⟨ret_int HZ.out, HQ.out⟩
end Go.Proofs.Ytkdapaebcjgckaa
