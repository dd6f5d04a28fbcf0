/- No disk; the law's walk. -/
import Derived.Test.YtbknbffmpnomlaaDo
namespace Go.Proofs.Ytbknbffmpnomlaa
open Go.RowKit
set_option linter.unusedVariables false
set_option linter.unusedSimpArgs false

theorem append_none (w : World) (x : ByteArray) (a : Option Addr) (n c : Nat) : Calls Try.prog 9 #[.pointer none, .string x, .slice a n c] w fun e W' => (∃ v, e = .returned v) ∧ W' = w := by
  go_enter Try.func9, Try.ntmps9
  go_wp2
  refine bodyPost_ret (results_none rfl _ _ _) rfl ?_
  exact ⟨⟨_, rfl⟩, rfl⟩
theorem create_none (w : World) (x : ByteArray) : Calls Try.prog 10 #[.pointer none, .string x] w fun e W' => (∃ v, e = .returned v) ∧ W' = w := by
  go_enter Try.func10, Try.ntmps10
  go_wp2
  refine bodyPost_ret (results_none rfl _ _ _) rfl ?_
  exact ⟨⟨_, rfl⟩, rfl⟩
theorem sync_none (w : World) : Calls Try.prog 13 #[.pointer none] w fun e W' => (∃ v, e = .returned v) ∧ W' = w := by
  go_enter Try.func13, Try.ntmps13
  go_wp2
  refine bodyPost_ret (results_none rfl _ _ _) rfl ?_
  exact ⟨⟨_, rfl⟩, rfl⟩
theorem read_none (w : World) (x : ByteArray) : Calls Try.prog 18 #[.pointer none, .string x] w fun e W' => e = .returned (.tuple #[.slice none 0 0, .bool false]) ∧ W' = w := by
  go_enter Try.func18, Try.ntmps18
  go_wp2
  go_ret2
  exact ⟨rfl, rfl⟩
theorem units_none (w : World) : Calls Try.prog 19 #[.pointer none] w fun e W' => e = .returned (.int .i64 0) ∧ W' = w := by
  go_enter Try.func19, Try.ntmps19
  go_wp2
  go_ret
  exact ⟨rfl, rfl⟩
theorem cut_none (w : World) (n : Int) : Calls Try.prog 15 #[.pointer none, .int .i64 n] w fun e W' => e = .returned (.pointer none) ∧ W' = w := by
  go_enter Try.func15, Try.ntmps15
  go_wp2
  go_ret
  exact ⟨rfl, rfl⟩
set_option maxRecDepth 100000 in
set_option maxHeartbeats 4000000 in
theorem none_any (w : World) : Calls Try.prog 4 #[] w fun e W' => e = .returned (.bool true) ∧ Q w W' := by
  have HB := begun_any
  go_enter Try.func4, Try.ntmps4
  go_wp2_with (first
    | (go_at_call 9; refine (append_none _ _ _ _ _).mono ?_; rintro e9 w1 ⟨⟨v9, rfl⟩, rfl⟩)
    | (go_at_call 10; refine (create_none _ _).mono ?_; rintro e9 w1 ⟨⟨v9, rfl⟩, rfl⟩)
    | (go_at_call 13; refine (sync_none _).mono ?_; rintro e9 w1 ⟨⟨v9, rfl⟩, rfl⟩)
    | (go_at_call 18; refine (read_none _ _).mono ?_; rintro e9 w1 ⟨rfl, rfl⟩)
    | (go_at_call 6; refine (HB _).mono ?_; rintro e9 w2 ⟨rfl, hq⟩; have HQ2 := hid hq; clear hq)
    | (go_at_call 19; refine (units_none _).mono ?_; rintro e9 w3 ⟨rfl, rfl⟩)
    | (go_at_call 15; refine (cut_none _ _).mono ?_; rintro e9 w3 ⟨rfl, rfl⟩))
  go_ret
  exact ⟨rfl, Q.trans ((Q.refl w).alloc _) HQ2.out⟩
end Go.Proofs.Ytbknbffmpnomlaa
