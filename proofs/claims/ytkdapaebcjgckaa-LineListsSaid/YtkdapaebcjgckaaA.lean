/- Package axis: the small functions, May: what each returns. -/
import Derived.Test.YtkdapaebcjgckaaQ
namespace Go.Proofs.Ytkdapaebcjgckaa
open Go.RowKit
set_option linter.unusedVariables false
set_option linter.unusedSimpArgs false

set_option maxHeartbeats 400000 in
theorem mayNumber_any (n : Int) (w : World) : Calls Try.prog 28 #[.int .i64 n] w fun e w' => e = .returned (.bool (mnB n)) ∧ w' = w := by
  by_cases h0 : 0 ≤ n
  · by_cases h1 : n < 2199023255552
    · have H : Hid (true = mnB n) := by show _ = _; simp [mnB, h0, h1]
      go_enter Try.func28, Try.ntmps28
      go_wp2
      go_ret
      exact ⟨ret_bool H.out, rfl⟩
    · have H : Hid (false = mnB n) := by show _ = _; simp [mnB, h0, h1]
      go_enter Try.func28, Try.ntmps28
      go_wp2
      go_ret
      exact ⟨ret_bool H.out, rfl⟩
  · have H : Hid (false = mnB n) := by show _ = _; simp [mnB, h0]
    go_enter Try.func28, Try.ntmps28
    go_wp2
    go_ret
    exact ⟨ret_bool H.out, rfl⟩

set_option maxHeartbeats 400000 in
theorem mayPlace_any (n : Int) (w : World) : Calls Try.prog 21 #[.int .i64 n] w fun e w' => e = .returned (.bool (plB n)) ∧ w' = w := by
  by_cases h0 : 0 ≤ n
  · by_cases h1 : n ≤ 1152921504606846976
    · have H : Hid (true = plB n) := by show _ = _; simp [plB, h0, h1]
      go_enter Try.func21, Try.ntmps21
      go_wp2
      go_ret
      exact ⟨ret_bool H.out, rfl⟩
    · have H : Hid (false = plB n) := by show _ = _; simp [plB, h0, h1]
      go_enter Try.func21, Try.ntmps21
      go_wp2
      go_ret
      exact ⟨ret_bool H.out, rfl⟩
  · have H : Hid (false = plB n) := by show _ = _; simp [plB, h0]
    go_enter Try.func21, Try.ntmps21
    go_wp2
    go_ret
    exact ⟨ret_bool H.out, rfl⟩

set_option maxHeartbeats 400000 in
theorem closed_any (n a : Int) (w : World) (ha : 0 ≤ a) (hn : n ≤ 4611686018427387904) : Calls Try.prog 23 #[.int .i64 n, .int .i64 a] w fun e w' => e = .returned (.int .i64 (Ax.lf n a)) ∧ w' = w := by
  by_cases h : a < n
  · have H : Hid (n - 1 = Ax.lf n a) := by show _ = _; simp [Ax.lf, h]
    go_enter Try.func23, Try.ntmps23
    go_wp2
    go_ret
    exact ⟨ret_int H.out, rfl⟩
  · have H : Hid (n = Ax.lf n a) := by show _ = _; simp [Ax.lf, h]
    go_enter Try.func23, Try.ntmps23
    go_wp2
    go_ret
    exact ⟨ret_int H.out, rfl⟩

set_option maxHeartbeats 400000 in
theorem openedGap_any (g a : Int) (bh : Bool) (w : World) (h0 : -4611686018427387904 ≤ g) (hn : g ≤ 4611686018427387904) : Calls Try.prog 29 #[.int .i64 g, .int .i64 a, .bool bh] w fun e w' => e = .returned (.int .i64 (og g a bh)) ∧ w' = w := by
  by_cases h : a < g
  · have H : Hid (g + 1 = og g a bh) := by show _ = _; simp [og, h]
    go_enter Try.func29, Try.ntmps29
    go_wp2
    go_ret
    exact ⟨ret_int H.out, rfl⟩
  · by_cases h2 : g = a
    · cases bh
      · have H : Hid (g = og g a false) := by show _ = _; simp [og, h]
        have h3 : (g == a) = true := by simpa using h2
        clear h2
        go_enter Try.func29, Try.ntmps29
        go_wp2
        go_ret
        exact ⟨ret_int H.out, rfl⟩
      · have H : Hid (g + 1 = og g a true) := by show _ = _; simp [og, h, h2]
        have h3 : (g == a) = true := by simpa using h2
        clear h2
        go_enter Try.func29, Try.ntmps29
        go_wp2
        go_ret
        exact ⟨ret_int H.out, rfl⟩
    · have H : Hid (g = og g a bh) := by show _ = _; simp [og, h, h2]
      have h3 : (g == a) = false := by simpa using h2
      clear h2
      go_enter Try.func29, Try.ntmps29
      go_wp2
      go_ret
      exact ⟨ret_int H.out, rfl⟩

set_option maxHeartbeats 400000 in
theorem opened_any (g a : Int) (w : World) (h0 : -4611686018427387904 ≤ g) (hn : g ≤ 4611686018427387904) : Calls Try.prog 22 #[.int .i64 g, .int .i64 a] w fun e w' => e = .returned (.int .i64 (og g a true)) ∧ w' = w := by
  go_enter Try.func22, Try.ntmps22
  go_wp2_with (go_at_call 29; refine (openedGap_any _ _ _ _ h0 hn).mono ?_; rintro e w1 ⟨rfl, rfl⟩)
  go_ret
  exact ⟨rfl, rfl⟩

set_option maxHeartbeats 400000 in
theorem landing_any (k a t : Int) (w : World) (ha : 0 ≤ a) (hn : t ≤ 4611686018427387904) : Calls Try.prog 24 #[.agg #[.int .i64 k, .int .i64 a, .int .i64 t]] w fun e w' => e = .returned (.int .i64 (Ax.lf t a)) ∧ w' = w.alloc (.cells #[.int .i64 k, .int .i64 a, .int .i64 t] 23) := by
  go_enter Try.func24, Try.ntmps24
  go_wp2_with (go_at_call 23; refine (closed_any _ _ _ ha hn).mono ?_; rintro e w1 ⟨rfl, rfl⟩)
  go_ret
  exact ⟨rfl, rfl⟩
end Go.Proofs.Ytkdapaebcjgckaa
