/- The reference: May, left, out: what each returns. -/
import Derived.Test.YtkdapaebcjgckaaC0
namespace Go.Proofs.Ytkdapaebcjgckaa
open Go.RowKit
set_option linter.unusedVariables false
set_option linter.unusedSimpArgs false

set_option maxHeartbeats 1000000 in
theorem rmay_in (k a t : Int) (w : World) (hA : mnB a = true) (hT : mnB t = true) : Calls Try.prog 11 #[.agg #[.int .i64 k, .int .i64 a, .int .i64 t]] w fun e w' => e = .returned (.bool (mayB k a t)) ∧ w' = w.alloc (.cells #[.int .i64 k, .int .i64 a, .int .i64 t] 23) := by
  have H := hid (mayB_of (k := k) hA hT)
  have hb : 0 ≤ a ∧ a < 2199023255552 := by unfold mnB at hA; simpa using hA
  have hb' : 0 ≤ t ∧ t < 2199023255552 := by unfold mnB at hT; simpa using hT
  obtain ⟨hb0, hb1⟩ := hb
  obtain ⟨hb2, hb3⟩ := hb'
  clear hA hT
  by_cases h1 : k = 1
  · have HR : Hid ((t == 0) = mayB k a t) := by show _ = _; rw [H.out]; unfold Ax.okB; rw [if_pos h1]; rw [Bool.eq_iff_iff]; simp
    have h1' : (k == 1) = true := by simpa using h1
    clear h1
    go_enter Try.func11, Try.ntmps11
    go_wp2
    all_goals go_ret
    all_goals exact ⟨ret_bool HR.out, rfl⟩
  · have h1' : (k == 1) = false := by simpa using h1
    by_cases h2 : k = 2
    · have HR : Hid ((t == 0) = mayB k a t) := by show _ = _; rw [H.out]; unfold Ax.okB; rw [if_neg h1, if_pos h2]; rw [Bool.eq_iff_iff]; simp
      have h2' : (k == 2) = true := by simpa using h2
      clear h1 h2
      go_enter Try.func11, Try.ntmps11
      go_wp2
      all_goals go_ret
      all_goals exact ⟨ret_bool HR.out, rfl⟩
    · have h2' : (k == 2) = false := by simpa using h2
      by_cases h3 : k = 3
      · have h3' : (k == 3) = true := by simpa using h3
        have HE : Hid (mayB k a t = decide (t ≠ a ∧ t ≠ a + 1)) := by show _ = _; rw [H.out]; unfold Ax.okB; rw [if_neg h1, if_neg h2, if_pos h3]
        by_cases h4 : t = a
        · have HR : Hid (false = mayB k a t) := by show _ = _; rw [HE.out]; simp [h4]
          have h4' : (t != a) = false := by simpa using h4
          clear h1 h2 h3 h4
          go_enter Try.func11, Try.ntmps11
          go_wp2
          all_goals go_ret
          all_goals exact ⟨ret_bool HR.out, rfl⟩
        · have h4' : (t != a) = true := by simpa using h4
          by_cases h5 : t = a + 1
          · have HR : Hid (false = mayB k a t) := by show _ = _; rw [HE.out]; simp [h5]
            have h5' : (t != a + 1) = false := by simpa using h5
            clear h1 h2 h3 h4 h5
            go_enter Try.func11, Try.ntmps11
            go_wp2
            all_goals go_ret
            all_goals exact ⟨ret_bool HR.out, rfl⟩
          · have HR : Hid (true = mayB k a t) := by show _ = _; rw [HE.out]; simp [h4, h5]
            have h5' : (t != a + 1) = true := by simpa using h5
            clear h1 h2 h3 h4 h5
            go_enter Try.func11, Try.ntmps11
            go_wp2
            all_goals go_ret
            all_goals exact ⟨ret_bool HR.out, rfl⟩
      · have h3' : (k == 3) = false := by simpa using h3
        have HR : Hid (false = mayB k a t) := by show _ = _; rw [H.out]; unfold Ax.okB; rw [if_neg h1, if_neg h2, if_neg h3]
        clear h1 h2 h3
        go_enter Try.func11, Try.ntmps11
        go_wp2
        all_goals go_ret
        all_goals exact ⟨ret_bool HR.out, rfl⟩

set_option maxHeartbeats 1000000 in
theorem rmay_any (k a t : Int) (w : World) : Calls Try.prog 11 #[.agg #[.int .i64 k, .int .i64 a, .int .i64 t]] w fun e w' => e = .returned (.bool (mayB k a t)) ∧ w' = w.alloc (.cells #[.int .i64 k, .int .i64 a, .int .i64 t] 23) := by
  cases hA : mnB a
  · have H := hid (mayB_noA (k := k) (t := t) hA)
    have hb : a < 0 ∨ 0 ≤ a ∧ 2199023255552 ≤ a := by unfold mnB at hA; simp at hA; omega
    clear hA
    rcases hb with h | ⟨h0, h⟩
    all_goals
      go_enter Try.func11, Try.ntmps11
      go_wp2
      go_ret
      exact ⟨ret_bool H.out, rfl⟩
  · cases hT : mnB t
    · have H := hid (mayB_noT (k := k) (a := a) hT)
      have ha : 0 ≤ a ∧ a < 2199023255552 := by unfold mnB at hA; simpa using hA
      obtain ⟨ha0, ha1⟩ := ha
      have hb : t < 0 ∨ 0 ≤ t ∧ 2199023255552 ≤ t := by unfold mnB at hT; simp at hT; omega
      clear hA hT
      rcases hb with h | ⟨h0, h⟩
      all_goals
        go_enter Try.func11, Try.ntmps11
        go_wp2
        go_ret
        exact ⟨ret_bool H.out, rfl⟩
    · exact rmay_in k a t w hA hT

set_option maxHeartbeats 400000 in
theorem out_any (n : Int) (w : World) : Calls Try.prog 30 #[.int .i64 n] w fun e w' => e = .returned (.bool (!plB n)) ∧ w' = w := by
  by_cases h0 : 0 ≤ n
  · by_cases h1 : n ≤ 1152921504606846976
    · have H : Hid ((decide (n < 0) || decide (1152921504606846976 < n)) = !plB n) := by
        show _ = _
        rw [Bool.eq_iff_iff]
        simp [plB]
      go_enter Try.func30, Try.ntmps30
      go_wp2
      go_ret
      exact ⟨ret_bool H.out, rfl⟩
    · have H : Hid (true = !plB n) := by show _ = _; simp [plB, h0, h1]
      go_enter Try.func30, Try.ntmps30
      go_wp2
      go_ret
      exact ⟨ret_bool H.out, rfl⟩
  · have H : Hid (true = !plB n) := by show _ = _; simp [plB, h0]
    go_enter Try.func30, Try.ntmps30
    go_wp2
    go_ret
    exact ⟨ret_bool H.out, rfl⟩

set_option maxHeartbeats 400000 in
theorem left_any (n a : Int) (w : World) (ha : 0 ≤ a) (hn : n ≤ 4611686018427387904) : Calls Try.prog 31 #[.int .i64 n, .int .i64 a] w fun e w' => e = .returned (.int .i64 (Ax.lf n a)) ∧ w' = w := by
  by_cases h : a < n
  · have H : Hid (n - 1 = Ax.lf n a) := by show _ = _; simp [Ax.lf, h]
    go_enter Try.func31, Try.ntmps31
    go_wp2
    go_ret
    exact ⟨ret_int H.out, rfl⟩
  · have H : Hid (n = Ax.lf n a) := by show _ = _; simp [Ax.lf, h]
    go_enter Try.func31, Try.ntmps31
    go_wp2
    go_ret
    exact ⟨ret_int H.out, rfl⟩
end Go.Proofs.Ytkdapaebcjgckaa
