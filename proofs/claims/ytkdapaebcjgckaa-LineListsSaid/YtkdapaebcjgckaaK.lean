/- counterpanelaw3.LineBack: a line that comes and goes, a line that moves and moves back: the walk. -/
import Derived.Test.YtkdapaebcjgckaaJ1
namespace Go.Proofs.Ytkdapaebcjgckaa
open Go.RowKit
set_option linter.unusedVariables false
set_option linter.unusedSimpArgs false

theorem may_mk {k a t : Int} (ha : 0 ≤ a) (ha' : a < 2199023255552) (ht : 0 ≤ t) (ht' : t < 2199023255552) (h : Ax.ok k a t) : mayB k a t = true := by
  unfold mayB; exact decide_eq_true ⟨⟨ha, ha'⟩, ⟨ht, ht'⟩, (Ax.okB_iff k a t).2 h⟩
theorem pl_mk {i : Int} (h : 0 ≤ i) (h' : i ≤ 1152921504606846976) : plB i = true := by unfold plB; exact decide_eq_true ⟨h, h'⟩
theorem ok_ins (a : Int) : Ax.ok 1 a 0 := .inl ⟨rfl, rfl⟩
theorem ok_del (a : Int) : Ax.ok 2 a 0 := .inr (.inl ⟨rfl, rfl⟩)
theorem ok_mov {a t : Int} (h : t ≠ a) (h' : t ≠ a + 1) : Ax.ok 3 a t := .inr (.inr ⟨rfl, h, h'⟩)
theorem ins_del {a i : Int} (ha : 0 ≤ a) (hi : 0 ≤ i) (ha' : a ≤ 1099511627776) (hi' : i ≤ 1099511627776) : ix 2 a 0 (ix 1 a 0 i) = i := by
  have h1 : ix 1 a 0 i = Ax.idx 1 a 0 i := ix_yes (may_mk ha (by omega) (by omega) (by omega) (ok_ins a)) (pl_mk hi (by omega))
  have b := Ax.idx_hi 1 a 0 i i (ok_ins a) ha (by omega) hi (by omega) hi
  have b' := (Ax.idx_stays 1 a 0 i (ok_ins a) ha (by omega) hi).2 (.inl (by decide))
  rw [h1, ix_yes (may_mk ha (by omega) (by omega) (by omega) (ok_del a)) (pl_mk b' (by omega))]
  exact Ax.ins_del a i ha hi
theorem mov_back {a t i : Int} (ha : 0 ≤ a) (ht : 0 ≤ t) (hi : 0 ≤ i) (ha' : a ≤ 1099511627776) (ht' : t ≤ 1099511627776) (hi' : i ≤ 1099511627776) (h : t ≠ a) (h' : t ≠ a + 1) :
    ix 3 (ix 3 a t a) (if ix 3 a t a < a then a + 1 else a) (ix 3 a t i) = i := by
  have hm := may_mk ha (by omega) ht (by omega) (ok_mov h h')
  have h1 : ix 3 a t i = Ax.idx 3 a t i := ix_yes hm (pl_mk hi (by omega))
  have h2 : ix 3 a t a = Ax.idx 3 a t a := ix_yes hm (pl_mk ha (by omega))
  have b := Ax.idx_hi 3 a t i 1099511627776 (ok_mov h h') ha ht hi (by omega) ht'
  have b' := (Ax.idx_stays 3 a t i (ok_mov h h') ha ht hi).2 (.inl (by decide))
  have c := Ax.idx_hi 3 a t a 1099511627776 (ok_mov h h') ha ht ha (by omega) ht'
  have m := Ax.mov_back a t i (Ax.idx 3 a t a) (if Ax.idx 3 a t a < a then a + 1 else a) ha ht h h' hi rfl rfl
  rw [h1, h2, ix_yes (may_mk m.2.2 (by omega) (by split <;> omega) (by split <;> omega) m.2.1) (pl_mk b' (by omega))]
  exact m.1
theorem ix_mbd {a t i : Int} (ha : 0 ≤ a) (ht : 0 ≤ t) (hi : 0 ≤ i) (ha' : a ≤ 1099511627776) (ht' : t ≤ 1099511627776) (hi' : i ≤ 1099511627776) (h : t ≠ a) (h' : t ≠ a + 1) : 0 ≤ ix 3 a t i ∧ ix 3 a t i ≤ 1099511627777 := by
  rw [ix_yes (may_mk ha (by omega) ht (by omega) (ok_mov h h')) (pl_mk hi (by omega))]
  exact ⟨(Ax.idx_stays 3 a t i (ok_mov h h') ha ht hi).2 (.inl (by decide)), Ax.idx_hi 3 a t i 1099511627776 (ok_mov h h') ha ht hi (by omega) ht'⟩

set_option maxHeartbeats 1000000 in
theorem back_out (a t i : Int) (w : World) (h : a < 0 ∨ 0 ≤ a ∧ t < 0 ∨ 0 ≤ a ∧ 0 ≤ t ∧ i < 0 ∨ 0 ≤ a ∧ 0 ≤ t ∧ 0 ≤ i ∧ 1099511627776 < a ∨ 0 ≤ a ∧ 0 ≤ t ∧ 0 ≤ i ∧ a ≤ 1099511627776 ∧ 1099511627776 < t ∨ 0 ≤ a ∧ 0 ≤ t ∧ 0 ≤ i ∧ a ≤ 1099511627776 ∧ t ≤ 1099511627776 ∧ 1099511627776 < i) :
    Calls Try.prog 8 #[.int .i64 a, .int .i64 t, .int .i64 i] w fun e w' => e = .returned (.bool true) ∧ Q w w' := by
  rcases h with h | ⟨h0, h⟩ | ⟨h0, h1, h⟩ | ⟨h0, h1, h2, h⟩ | ⟨h0, h1, h2, h3, h⟩ | ⟨h0, h1, h2, h3, h4, h⟩
  all_goals
    go_enter Try.func8, Try.ntmps8
    go_wp2_with (go_at_call 9; refine (begun_any _).mono ?_; rintro e w1 ⟨rfl, q1⟩)
    go_ret
    exact ⟨rfl, q1⟩

set_option maxHeartbeats 1000000 in
theorem back_near (a t i : Int) (w : World) (h0 : 0 ≤ a) (h1 : 0 ≤ t) (h2 : 0 ≤ i) (h3 : a ≤ 1099511627776) (h4 : t ≤ 1099511627776) (h5 : i ≤ 1099511627776) (h : t = a ∨ (t == a) = false ∧ t = a + 1) :
    Calls Try.prog 8 #[.int .i64 a, .int .i64 t, .int .i64 i] w fun e w' => e = .returned (.bool true) ∧ Q w w' := by
  have hb := ins_del h0 h2 h3 h5
  rcases h with rfl | ⟨hn, h⟩
  · go_enter Try.func8, Try.ntmps8
    go_wp2_with (first | (go_at_call 9; refine (begun_any _).mono ?_; rintro e w1 ⟨rfl, q1⟩) | (go_at_call 10; refine (index_any _ _ _ _ _).mono ?_; rintro e w2 ⟨rfl, q2⟩; replace q1 := q1.trans q2; clear q2))
    go_ret
    exact ⟨rfl, q1⟩
  · have h' : (t == a + 1) = true := by simpa using h
    clear h
    go_enter Try.func8, Try.ntmps8
    go_wp2_with (first | (go_at_call 9; refine (begun_any _).mono ?_; rintro e w1 ⟨rfl, q1⟩) | (go_at_call 10; refine (index_any _ _ _ _ _).mono ?_; rintro e w2 ⟨rfl, q2⟩; replace q1 := q1.trans q2; clear q2))
    go_ret
    exact ⟨rfl, q1⟩
end Go.Proofs.Ytkdapaebcjgckaa
