/- DiskPrefix, walked. -/
import Derived.Test.YtbknbffmpnomlaaDo
import Derived.Test.YtbknbffmpnomlaaDu
import Derived.Laws.MakeOwn
namespace Go.Proofs.Ytbknbffmpnomlaa
open Go.RowKit
set_option linter.unusedVariables false
set_option linter.unusedSimpArgs false

set_option maxRecDepth 100000 in
set_option maxHeartbeats 4000000 in
theorem prefix_out (a b c : Int) (h : a < 1 ∨ a > 40 ∨ b < 1 ∨ b > 40 ∨ c < 0) (w : World) : Calls Try.prog 5 #[.int .i64 a, .int .i64 b, .int .i64 c] w fun e W' => e = .returned (.bool true) ∧ Q w W' := by
  have HB := hid (begun_any w)
  by_cases h1 : a < 1
  · clear h
    go_enter Try.func5, Try.ntmps5
    go_wp2_with (go_at_call 6; refine HB.out.mono ?_; rintro e9 w1 ⟨rfl, hq⟩; have HQ1 := hid hq; clear hq)
    go_ret
    exact ⟨rfl, HQ1.out⟩
  by_cases h2 : a > 40
  · clear h
    go_enter Try.func5, Try.ntmps5
    go_wp2_with (go_at_call 6; refine HB.out.mono ?_; rintro e9 w1 ⟨rfl, hq⟩; have HQ1 := hid hq; clear hq)
    go_ret
    exact ⟨rfl, HQ1.out⟩
  by_cases h3 : b < 1
  · clear h
    go_enter Try.func5, Try.ntmps5
    go_wp2_with (go_at_call 6; refine HB.out.mono ?_; rintro e9 w1 ⟨rfl, hq⟩; have HQ1 := hid hq; clear hq)
    go_ret
    exact ⟨rfl, HQ1.out⟩
  by_cases h4 : b > 40
  · clear h
    go_enter Try.func5, Try.ntmps5
    go_wp2_with (go_at_call 6; refine HB.out.mono ?_; rintro e9 w1 ⟨rfl, hq⟩; have HQ1 := hid hq; clear hq)
    go_ret
    exact ⟨rfl, HQ1.out⟩
  have h5 : c < 0 := by omega
  clear h
  go_enter Try.func5, Try.ntmps5
  go_wp2_with (go_at_call 6; refine HB.out.mono ?_; rintro e9 w1 ⟨rfl, hq⟩; have HQ1 := hid hq; clear hq)
  go_ret
  exact ⟨rfl, HQ1.out⟩
end Go.Proofs.Ytbknbffmpnomlaa
