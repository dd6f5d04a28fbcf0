/- counterpanelaw3.LineApart: the walk, of kind 2. -/
import Derived.Test.YtkdapaebcjgckaaN1
namespace Go.Proofs.Ytkdapaebcjgckaa
open Go.RowKit
set_option linter.unusedVariables false
set_option linter.unusedSimpArgs false

set_option maxHeartbeats 4000000 in
theorem apart_k2 (a t i j A B C : Int) (w : World) (hm : mayB 2 a t = true) (g0 : 0 ≤ i) (g1 : 0 ≤ j) (g2 : i ≤ 576460752303423488) (g3 : j ≤ 576460752303423488) (hA : ix 2 a t i = A) (hB : ix 2 a t j = B) (hC : bk 2 a t i = C) (h : Ap 2 a t i j A B C) :
    Calls Try.prog 3 #[.agg #[.int .i64 2, .int .i64 a, .int .i64 t], .int .i64 i, .int .i64 j] w fun e w' => e = .returned (.bool true) ∧ Q w w' := by
  obtain ⟨p1, p2, p3, p4, p5⟩ := h
  by_cases e : i = a
  · have nA0 : A < 0 := by
      rcases Int.lt_or_le A 0 with h | h
      · exact h
      · have := p4.1 h; omega
    have e' : (i != a) = false := by simpa using e
    have P1 := hid p1
    have hC0 : 0 ≤ C := p5.2 (.inl (by decide))
    have rC := p3 hC0
    clear e
    clear p1 p2 p3 p4 p5
    by_cases hij : i = j
    · have hj : (i != j) = false := by simpa using hij
      clear hij
      have J := hid (j1_new w 2 a t)
      go_enter Try.func3, Try.ntmps3
      go_wp2_with fail
      go_upto_region 4 with (go_at_call 9; refine (begun_any _).mono ?_; rintro e w1 ⟨rfl, q1⟩; replace J := hid (J.out.on q1); clear q1)
      have hk0 : Hid (w1.drew.cell? ⟨w.heap.size, 0, none⟩ = some (.int .i64 2) ∧ w1.drew.cell? ⟨w.heap.size, 1, none⟩ = some (.int .i64 a) ∧ w1.drew.cell? ⟨w.heap.size, 2, none⟩ = some (.int .i64 t)) := ⟨J.out.x.c0, J.out.x.c1, J.out.x.c2⟩
      go_region_held3 (fun W => (W.cell? ⟨w.heap.size, 0, none⟩ = some (.int .i64 2) ∧ W.cell? ⟨w.heap.size, 1, none⟩ = some (.int .i64 a) ∧ W.cell? ⟨w.heap.size, 2, none⟩ = some (.int .i64 t))) (with_reducible (first | exact hk0.out | exact hk1.out | exact hk2.out))
        (first
          | (go_at_call_of 10 i; refine (index_any _ _ _ _ _).mono ?_; rintro r w2 ⟨rfl, q2⟩; replace J := hid (J.out.drew.on q2); clear q2; have hk1 : Hid (w2.cell? ⟨w.heap.size, 0, none⟩ = some (.int .i64 2) ∧ w2.cell? ⟨w.heap.size, 1, none⟩ = some (.int .i64 a) ∧ w2.cell? ⟨w.heap.size, 2, none⟩ = some (.int .i64 t)) := ⟨J.out.x.c0, J.out.x.c1, J.out.x.c2⟩)
          | (go_at_call_of 10 j; refine (index_any _ _ _ _ _).mono ?_; rintro r w3 ⟨rfl, q3⟩; replace J := hid (J.out.on q3); clear q3; have hk2 : Hid (w3.cell? ⟨w.heap.size, 0, none⟩ = some (.int .i64 2) ∧ w3.cell? ⟨w.heap.size, 1, none⟩ = some (.int .i64 a) ∧ w3.cell? ⟨w.heap.size, 2, none⟩ = some (.int .i64 t)) := ⟨J.out.x.c0, J.out.x.c1, J.out.x.c2⟩))
      have s0 := J.out.x.c0
      have s1 := J.out.x.c1
      have s2 := J.out.x.c2
      go_wp2_with (first
        | (go_at_call 11; refine (rmay_any _ _ _ _).mono ?_; rintro r w4 ⟨rfl, rfl⟩; replace J := hid (J.out.on ((Q.refl _).alloc (.cells #[.int .i64 2, .int .i64 a, .int .i64 t] 23))); have u0 := J.out.x.c0; have u1 := J.out.x.c1; have u2 := J.out.x.c2)
        | (go_at_call 12; refine (back_any _ _ _ _ _).mono ?_; rintro r w5 ⟨rfl, q5⟩; replace J := hid (J.out.on q5); clear q5; have v0 := J.out.x.c0; have v1 := J.out.x.c1; have v2 := J.out.x.c2)
        | (go_at_call 10; refine (index_any _ _ _ _ _).mono ?_; rintro r w6 ⟨rfl, q6⟩; replace J := hid (J.out.on q6); clear q6; have x0 := J.out.x.c0; have x1 := J.out.x.c1; have x2 := J.out.x.c2))
      go_ret
      first | exact ⟨rfl, J.out.q⟩ | exact ⟨ret_bool (by simp <;> omega), J.out.q⟩
    · have hj : (i != j) = true := by simpa using hij
      clear hij
      have J := hid (j1_new w 2 a t)
      go_enter Try.func3, Try.ntmps3
      go_wp2_with fail
      go_upto_region 4 with (go_at_call 9; refine (begun_any _).mono ?_; rintro e w1 ⟨rfl, q1⟩; replace J := hid (J.out.on q1); clear q1)
      have hk0 : Hid (w1.drew.cell? ⟨w.heap.size, 0, none⟩ = some (.int .i64 2) ∧ w1.drew.cell? ⟨w.heap.size, 1, none⟩ = some (.int .i64 a) ∧ w1.drew.cell? ⟨w.heap.size, 2, none⟩ = some (.int .i64 t)) := ⟨J.out.x.c0, J.out.x.c1, J.out.x.c2⟩
      go_region_held3 (fun W => (W.cell? ⟨w.heap.size, 0, none⟩ = some (.int .i64 2) ∧ W.cell? ⟨w.heap.size, 1, none⟩ = some (.int .i64 a) ∧ W.cell? ⟨w.heap.size, 2, none⟩ = some (.int .i64 t))) (with_reducible (first | exact hk0.out | exact hk1.out | exact hk2.out))
        (first
          | (go_at_call_of 10 i; refine (index_any _ _ _ _ _).mono ?_; rintro r w2 ⟨rfl, q2⟩; replace J := hid (J.out.drew.on q2); clear q2; have hk1 : Hid (w2.cell? ⟨w.heap.size, 0, none⟩ = some (.int .i64 2) ∧ w2.cell? ⟨w.heap.size, 1, none⟩ = some (.int .i64 a) ∧ w2.cell? ⟨w.heap.size, 2, none⟩ = some (.int .i64 t)) := ⟨J.out.x.c0, J.out.x.c1, J.out.x.c2⟩)
          | (go_at_call_of 10 j; refine (index_any _ _ _ _ _).mono ?_; rintro r w3 ⟨rfl, q3⟩; replace J := hid (J.out.on q3); clear q3; have hk2 : Hid (w3.cell? ⟨w.heap.size, 0, none⟩ = some (.int .i64 2) ∧ w3.cell? ⟨w.heap.size, 1, none⟩ = some (.int .i64 a) ∧ w3.cell? ⟨w.heap.size, 2, none⟩ = some (.int .i64 t)) := ⟨J.out.x.c0, J.out.x.c1, J.out.x.c2⟩))
      have s0 := J.out.x.c0
      have s1 := J.out.x.c1
      have s2 := J.out.x.c2
      go_wp2_with (first
        | (go_at_call 11; refine (rmay_any _ _ _ _).mono ?_; rintro r w4 ⟨rfl, rfl⟩; replace J := hid (J.out.on ((Q.refl _).alloc (.cells #[.int .i64 2, .int .i64 a, .int .i64 t] 23))); have u0 := J.out.x.c0; have u1 := J.out.x.c1; have u2 := J.out.x.c2)
        | (go_at_call 12; refine (back_any _ _ _ _ _).mono ?_; rintro r w5 ⟨rfl, q5⟩; replace J := hid (J.out.on q5); clear q5; have v0 := J.out.x.c0; have v1 := J.out.x.c1; have v2 := J.out.x.c2)
        | (go_at_call 10; refine (index_any _ _ _ _ _).mono ?_; rintro r w6 ⟨rfl, q6⟩; replace J := hid (J.out.on q6); clear q6; have x0 := J.out.x.c0; have x1 := J.out.x.c1; have x2 := J.out.x.c2))
      go_ret
      first | exact ⟨rfl, J.out.q⟩ | exact ⟨ret_bool (by simp <;> omega), J.out.q⟩
  · have e' : (i != a) = true := by simpa using e
    have P1 := hid p1
    have hA0 : 0 ≤ A := p4.2 (.inr e)
    have rA := p2 hA0
    have hC0 : 0 ≤ C := p5.2 (.inl (by decide))
    have rC := p3 hC0
    clear e
    clear p1 p2 p3 p4 p5
    by_cases hij : i = j
    · have hj : (i != j) = false := by simpa using hij
      clear hij
      have J := hid (j1_new w 2 a t)
      go_enter Try.func3, Try.ntmps3
      go_wp2_with fail
      go_upto_region 4 with (go_at_call 9; refine (begun_any _).mono ?_; rintro e w1 ⟨rfl, q1⟩; replace J := hid (J.out.on q1); clear q1)
      have hk0 : Hid (w1.drew.cell? ⟨w.heap.size, 0, none⟩ = some (.int .i64 2) ∧ w1.drew.cell? ⟨w.heap.size, 1, none⟩ = some (.int .i64 a) ∧ w1.drew.cell? ⟨w.heap.size, 2, none⟩ = some (.int .i64 t)) := ⟨J.out.x.c0, J.out.x.c1, J.out.x.c2⟩
      go_region_held3 (fun W => (W.cell? ⟨w.heap.size, 0, none⟩ = some (.int .i64 2) ∧ W.cell? ⟨w.heap.size, 1, none⟩ = some (.int .i64 a) ∧ W.cell? ⟨w.heap.size, 2, none⟩ = some (.int .i64 t))) (with_reducible (first | exact hk0.out | exact hk1.out | exact hk2.out))
        (first
          | (go_at_call_of 10 i; refine (index_any _ _ _ _ _).mono ?_; rintro r w2 ⟨rfl, q2⟩; replace J := hid (J.out.drew.on q2); clear q2; have hk1 : Hid (w2.cell? ⟨w.heap.size, 0, none⟩ = some (.int .i64 2) ∧ w2.cell? ⟨w.heap.size, 1, none⟩ = some (.int .i64 a) ∧ w2.cell? ⟨w.heap.size, 2, none⟩ = some (.int .i64 t)) := ⟨J.out.x.c0, J.out.x.c1, J.out.x.c2⟩)
          | (go_at_call_of 10 j; refine (index_any _ _ _ _ _).mono ?_; rintro r w3 ⟨rfl, q3⟩; replace J := hid (J.out.on q3); clear q3; have hk2 : Hid (w3.cell? ⟨w.heap.size, 0, none⟩ = some (.int .i64 2) ∧ w3.cell? ⟨w.heap.size, 1, none⟩ = some (.int .i64 a) ∧ w3.cell? ⟨w.heap.size, 2, none⟩ = some (.int .i64 t)) := ⟨J.out.x.c0, J.out.x.c1, J.out.x.c2⟩))
      have s0 := J.out.x.c0
      have s1 := J.out.x.c1
      have s2 := J.out.x.c2
      go_wp2_with (first
        | (go_at_call 11; refine (rmay_any _ _ _ _).mono ?_; rintro r w4 ⟨rfl, rfl⟩; replace J := hid (J.out.on ((Q.refl _).alloc (.cells #[.int .i64 2, .int .i64 a, .int .i64 t] 23))); have u0 := J.out.x.c0; have u1 := J.out.x.c1; have u2 := J.out.x.c2)
        | (go_at_call 12; refine (back_any _ _ _ _ _).mono ?_; rintro r w5 ⟨rfl, q5⟩; replace J := hid (J.out.on q5); clear q5; have v0 := J.out.x.c0; have v1 := J.out.x.c1; have v2 := J.out.x.c2)
        | (go_at_call 10; refine (index_any _ _ _ _ _).mono ?_; rintro r w6 ⟨rfl, q6⟩; replace J := hid (J.out.on q6); clear q6; have x0 := J.out.x.c0; have x1 := J.out.x.c1; have x2 := J.out.x.c2))
      go_ret
      first | exact ⟨rfl, J.out.q⟩ | exact ⟨ret_bool (by simp <;> omega), J.out.q⟩
    · have hj : (i != j) = true := by simpa using hij
      have hAB : (A == B) = false := by simpa using P1.out hij hA0
      clear hij
      have J := hid (j1_new w 2 a t)
      go_enter Try.func3, Try.ntmps3
      go_wp2_with fail
      go_upto_region 4 with (go_at_call 9; refine (begun_any _).mono ?_; rintro e w1 ⟨rfl, q1⟩; replace J := hid (J.out.on q1); clear q1)
      have hk0 : Hid (w1.drew.cell? ⟨w.heap.size, 0, none⟩ = some (.int .i64 2) ∧ w1.drew.cell? ⟨w.heap.size, 1, none⟩ = some (.int .i64 a) ∧ w1.drew.cell? ⟨w.heap.size, 2, none⟩ = some (.int .i64 t)) := ⟨J.out.x.c0, J.out.x.c1, J.out.x.c2⟩
      go_region_held3 (fun W => (W.cell? ⟨w.heap.size, 0, none⟩ = some (.int .i64 2) ∧ W.cell? ⟨w.heap.size, 1, none⟩ = some (.int .i64 a) ∧ W.cell? ⟨w.heap.size, 2, none⟩ = some (.int .i64 t))) (with_reducible (first | exact hk0.out | exact hk1.out | exact hk2.out))
        (first
          | (go_at_call_of 10 i; refine (index_any _ _ _ _ _).mono ?_; rintro r w2 ⟨rfl, q2⟩; replace J := hid (J.out.drew.on q2); clear q2; have hk1 : Hid (w2.cell? ⟨w.heap.size, 0, none⟩ = some (.int .i64 2) ∧ w2.cell? ⟨w.heap.size, 1, none⟩ = some (.int .i64 a) ∧ w2.cell? ⟨w.heap.size, 2, none⟩ = some (.int .i64 t)) := ⟨J.out.x.c0, J.out.x.c1, J.out.x.c2⟩)
          | (go_at_call_of 10 j; refine (index_any _ _ _ _ _).mono ?_; rintro r w3 ⟨rfl, q3⟩; replace J := hid (J.out.on q3); clear q3; have hk2 : Hid (w3.cell? ⟨w.heap.size, 0, none⟩ = some (.int .i64 2) ∧ w3.cell? ⟨w.heap.size, 1, none⟩ = some (.int .i64 a) ∧ w3.cell? ⟨w.heap.size, 2, none⟩ = some (.int .i64 t)) := ⟨J.out.x.c0, J.out.x.c1, J.out.x.c2⟩))
      have s0 := J.out.x.c0
      have s1 := J.out.x.c1
      have s2 := J.out.x.c2
      go_wp2_with (first
        | (go_at_call 11; refine (rmay_any _ _ _ _).mono ?_; rintro r w4 ⟨rfl, rfl⟩; replace J := hid (J.out.on ((Q.refl _).alloc (.cells #[.int .i64 2, .int .i64 a, .int .i64 t] 23))); have u0 := J.out.x.c0; have u1 := J.out.x.c1; have u2 := J.out.x.c2)
        | (go_at_call 12; refine (back_any _ _ _ _ _).mono ?_; rintro r w5 ⟨rfl, q5⟩; replace J := hid (J.out.on q5); clear q5; have v0 := J.out.x.c0; have v1 := J.out.x.c1; have v2 := J.out.x.c2)
        | (go_at_call 10; refine (index_any _ _ _ _ _).mono ?_; rintro r w6 ⟨rfl, q6⟩; replace J := hid (J.out.on q6); clear q6; have x0 := J.out.x.c0; have x1 := J.out.x.c1; have x2 := J.out.x.c2))
      go_ret
      first | exact ⟨rfl, J.out.q⟩ | exact ⟨ret_bool (by simp <;> omega), J.out.q⟩
end Go.Proofs.Ytkdapaebcjgckaa
