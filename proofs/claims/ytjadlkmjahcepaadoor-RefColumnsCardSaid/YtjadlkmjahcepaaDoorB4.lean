/- a1.mayLine, sign; strings.Clone: what each returns. -/
import Derived.Test.YtjadlkmjahcepaaDoorQ
namespace Go.Proofs.YtjadlkmjahcepaaDoor
open Go.RowKit
set_option linter.unusedVariables false
set_option linter.unusedSimpArgs false

theorem may_any (n : Int) (w : World) :
    Calls Tryd.prog 28 #[.int .i64 n] w fun e w' => e = .returned (.bool (decide (0 ≤ n ∧ n < 2199023255552))) ∧ w' = w := by
  by_cases h0 : 0 ≤ n
  · by_cases h1 : n < 2199023255552
    · have hd := hid (decide_eq_true (show 0 ≤ n ∧ n < 2199023255552 from ⟨h0, h1⟩))
      go_enter Tryd.func28, Tryd.ntmps28
      go_wp2
      go_ret
      exact ⟨ret_bool hd.out.symm, rfl⟩
    · have hd := hid (decide_eq_false (show ¬ (0 ≤ n ∧ n < 2199023255552) from fun h => h1 h.2))
      go_enter Tryd.func28, Tryd.ntmps28
      go_wp2
      go_ret
      exact ⟨ret_bool (by simp; omega), rfl⟩
  · have hd := hid (decide_eq_false (show ¬ (0 ≤ n ∧ n < 2199023255552) from fun h => h0 h.1))
    go_enter Tryd.func28, Tryd.ntmps28
    go_wp2
    go_ret
    exact ⟨ret_bool (by simp; omega), rfl⟩

/-- the sign of a line that stays -/
def sgL (b : Bool) : List UInt8 := if b then [36] else []
theorem sign_any (b : Bool) (w : World) :
    Calls Tryd.prog 29 #[.bool b] w fun e w' => e = .returned (.string ⟨(sgL b).toArray⟩) ∧ w' = w := by
  cases b
  · go_enter Tryd.func29, Tryd.ntmps29
    go_wp2
    go_ret
    exact ⟨rfl, rfl⟩
  · go_enter Tryd.func29, Tryd.ntmps29
    go_wp2
    go_ret
    exact ⟨rfl, rfl⟩

theorem clone_any (s : ByteArray) (w : World) (hs : s.size ≤ 281474976710656) :
    Calls Tryd.prog 26 #[.string s] w fun e w' => e = .returned (.string s) ∧ Q w w' := by
  have HC := hid (fun W => Tryd.stringslite_Clone s W hs)
  clear hs
  go_enter Tryd.func26, Tryd.ntmps26
  go_wp2_with (go_at_call 34; refine (HC.out _).mono ?_; rintro e w1 ⟨rfl, q1⟩)
  go_ret
  exact ⟨rfl, q1⟩
end Go.Proofs.YtjadlkmjahcepaaDoor
