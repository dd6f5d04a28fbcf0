/- Package builtin: comparing; operators. -/
import Derived.Test.YtfjpdopmojfchaaGreatDoorBi
namespace Go.Proofs.YtfjpdopmojfchaaGreatDoor
open Go.RowKit
set_option linter.unusedVariables false
set_option linter.unusedSimpArgs false
/-- the order of two values -/
def cvC (a b : Cv) : Int := cmpV a.k a.n a.t.toList a.b a.e b.k b.n b.t.toList b.b b.e
/-- a blank as the other one's kind has it -/
def lk (a b : Cv) : Cv := if a.k = 0 then { a with k := b.k } else a
theorem lk_sm {a b : Cv} (h : a.sm) : (lk a b).sm := by unfold lk; split <;> exact h
theorem cmpC_any (a b : Cv) (w : World) (hw : Std2 w) (ha : a.sm) (hb : b.sm) : Calls Tryz.prog 94 #[a.v, b.v] w fun x w' => x = .returned (.int .i64 (cvC a b)) ∧ Q w w' := compare_any _ _ _ _ _ _ _ _ _ _ w hw ha hb
set_option maxHeartbeats 1000000 in
theorem bcompare_any (a b : Cv) (w : World) (hw : Std2 w) (ha : a.sm) (hb : b.sm) : Calls Tryz.prog 45 #[a.v, b.v] w fun x w' => x = .returned (.int .i64 (cvC (lk a b) (lk b a))) ∧ Q w w' := by
  have HC := hid (fun W (q : Q w W) => cmpC_any (lk a b) (lk b a) W (hw.on q) (lk_sm ha) (lk_sm hb))
  generalize hc : cvC (lk a b) (lk b a) = c at *
  clear hc hw ha hb
  obtain ⟨ak, an, at', ab, ae⟩ := a
  obtain ⟨bk, bn, bt, bb, be⟩ := b
  by_cases h0 : ak = 0
  · subst h0
    by_cases h1 : bk = 0
    · subst h1
      simp only [lk, Cv.v, vv, if_true] at HC ⊢
      go_enter Tryz.func45, Tryz.ntmps45
      go_wp2_with (go_at_call 94; refine (HC.out _ (by first | exact ((Q.refl _).alloc _).alloc _ | exact ((((Q.refl _).alloc _).alloc _).setCell (by simp) _) | skip)).mono ?_; rintro x w1 ⟨rfl, q1⟩)
      go_ret
      exact ⟨rfl, (((Q.refl _).alloc _).alloc _).trans q1⟩
    · have h1' : (bk == 0) = false := beq_eq_false_iff_ne.2 h1
      simp only [lk, Cv.v, vv, if_true, if_neg h1] at HC ⊢
      go_enter Tryz.func45, Tryz.ntmps45
      go_wp2_with (go_at_call 94; refine (HC.out _ (((Q.refl _).alloc _).alloc _)).mono ?_; rintro x w1 ⟨rfl, q1⟩)
      go_ret
      exact ⟨rfl, (((Q.refl _).alloc _).alloc _).trans q1⟩
  · have h0' : (ak == 0) = false := beq_eq_false_iff_ne.2 h0
    by_cases h1 : bk = 0
    · subst h1
      simp only [lk, Cv.v, vv, if_true, if_neg h0] at HC ⊢
      go_enter Tryz.func45, Tryz.ntmps45
      go_wp2_with (go_at_call 94; refine (HC.out _ (((Q.refl _).alloc _).alloc _)).mono ?_; rintro x w1 ⟨rfl, q1⟩)
      go_ret
      exact ⟨rfl, (((Q.refl _).alloc _).alloc _).trans q1⟩
    · have h1' : (bk == 0) = false := beq_eq_false_iff_ne.2 h1
      simp only [lk, Cv.v, vv, if_neg h1, if_neg h0] at HC ⊢
      go_enter Tryz.func45, Tryz.ntmps45
      go_wp2_with (go_at_call 94; refine (HC.out _ (((Q.refl _).alloc _).alloc _)).mono ?_; rintro x w1 ⟨rfl, q1⟩)
      go_ret
      exact ⟨rfl, (((Q.refl _).alloc _).alloc _).trans q1⟩
theorem holds_eq (c : Int) (w : World) : Calls Tryz.prog 44 #[.string ⟨#[61]⟩, .int .i64 c] w fun x w' => x = .returned (.bool ((c == 0))) ∧ w' = w := by
  go_enter Tryz.func44, Tryz.ntmps44
  go_wp2
  go_ret
  exact ⟨rfl, rfl⟩
theorem holds_ne (c : Int) (w : World) : Calls Tryz.prog 44 #[.string ⟨#[60, 62]⟩, .int .i64 c] w fun x w' => x = .returned (.bool ((c != 0))) ∧ w' = w := by
  go_enter Tryz.func44, Tryz.ntmps44
  go_wp2
  go_ret
  exact ⟨rfl, rfl⟩
theorem holds_lt (c : Int) (w : World) : Calls Tryz.prog 44 #[.string ⟨#[60]⟩, .int .i64 c] w fun x w' => x = .returned (.bool (decide (c < 0))) ∧ w' = w := by
  go_enter Tryz.func44, Tryz.ntmps44
  go_wp2
  go_ret
  exact ⟨rfl, rfl⟩
theorem holds_le (c : Int) (w : World) : Calls Tryz.prog 44 #[.string ⟨#[60, 61]⟩, .int .i64 c] w fun x w' => x = .returned (.bool (decide (c ≤ 0))) ∧ w' = w := by
  go_enter Tryz.func44, Tryz.ntmps44
  go_wp2
  go_ret
  exact ⟨rfl, rfl⟩
theorem holds_gt (c : Int) (w : World) : Calls Tryz.prog 44 #[.string ⟨#[62]⟩, .int .i64 c] w fun x w' => x = .returned (.bool (decide (0 < c))) ∧ w' = w := by
  go_enter Tryz.func44, Tryz.ntmps44
  go_wp2
  go_ret
  exact ⟨rfl, rfl⟩
theorem holds_ge (c : Int) (w : World) : Calls Tryz.prog 44 #[.string ⟨#[62, 61]⟩, .int .i64 c] w fun x w' => x = .returned (.bool (decide (0 ≤ c))) ∧ w' = w := by
  go_enter Tryz.func44, Tryz.ntmps44
  go_wp2
  go_ret
  exact ⟨rfl, rfl⟩
theorem ctd_sm {a : Cv} (h : a.sm) : (ctd a).sm := by
  unfold ctd
  split
  · exact h
  · show (((⟨#[]⟩ : ByteArray).size : Nat) : Int) ≤ _; decide
theorem worst2_any (x z : Cv) (w : World) (hw : Std2 w) (hx : x.sm) (hz : z.sm) : ∀ W, Q w W → Calls Tryz.prog 38 #[.slice (some ⟨W.heap.size, 0, none⟩) 2 2] (W.alloc (.cells #[.int .i64 x.k, .int .i64 x.n, .string x.t, .bool x.b, .int .i64 x.e, .int .i64 z.k, .int .i64 z.n, .string z.t, .bool z.b, .int .i64 z.e] 37)) fun r W' => r = .returned (.int .i64 (worst [x, z])) ∧ Q W W' := fun W q =>
  (worst_sl [x, z] _ _ (hw.on (q.alloc _)) (sl_lit Cv.len W [x, z] 2 rfl (by omega) 37) (by simp) (fun y hy => by simp at hy; rcases hy with rfl | rfl; exact hx; exact hz)).mono fun r W' h => ⟨h.1, ((Q.refl _).alloc _).trans h.2⟩
theorem B3.setTwo {w W : World} {a b : Cv} (J : Bb3 w a b W) (x z : Cv) : Bb3 w x z (set5 (set5 W w.heap.size (.int .i64 x.k) (.int .i64 x.n) (.string x.t) (.bool x.b) (.int .i64 x.e)) (w.heap.size + 1) (.int .i64 z.k) (.int .i64 z.n) (.string z.t) (.bool z.b) (.int .i64 z.e)) :=
  ⟨(J.q.set5 (Nat.le_refl _)).set5 (by omega), J.x.set5.far5 (by omega), (J.y.far5 (by omega)).set5, (J.z.far5 (by omega)).far5 (by omega)⟩
end Go.Proofs.YtfjpdopmojfchaaGreatDoor
