/- counterpanelaw3.LineSides: one round of its loop, and its last two tests, in any world that holds the boxes. -/
import Derived.Test.YtkdapaebcjgckaaS2
namespace Go.Proofs.Ytkdapaebcjgckaa
open Go.RowKit
set_option linter.unusedVariables false
set_option linter.unusedSimpArgs false

theorem J4.cs {w W : World} {bx by' sb : Nat} {k a t k' a' t' x0 x1 x2 y0 y1 y2 : Int} {f : Nat → Int} (h : J4 w bx by' sb k a t k' a' t' x0 x1 x2 y0 y1 y2 f W) : W.cell? ⟨w.heap.size, 0, none⟩ = some (.int .i64 k) ∧ W.cell? ⟨w.heap.size, 1, none⟩ = some (.int .i64 a) ∧ W.cell? ⟨w.heap.size, 2, none⟩ = some (.int .i64 t) ∧ W.cell? ⟨w.heap.size + 1, 0, none⟩ = some (.int .i64 k') ∧ W.cell? ⟨w.heap.size + 1, 1, none⟩ = some (.int .i64 a') ∧ W.cell? ⟨w.heap.size + 1, 2, none⟩ = some (.int .i64 t') ∧ W.cell? ⟨bx, 0, none⟩ = some (.int .i64 x0) ∧ W.cell? ⟨bx, 1, none⟩ = some (.int .i64 x1) ∧ W.cell? ⟨bx, 2, none⟩ = some (.int .i64 x2) ∧ W.cell? ⟨by', 0, none⟩ = some (.int .i64 y0) ∧ W.cell? ⟨by', 1, none⟩ = some (.int .i64 y1) ∧ W.cell? ⟨by', 2, none⟩ = some (.int .i64 y2) := ⟨h.j.l.c0, h.j.l.c1, h.j.l.c2, h.j.m.c0, h.j.m.c1, h.j.m.c2, h.x.c0, h.x.c1, h.x.c2, h.y.c0, h.y.c1, h.y.c2⟩
theorem J4.csn {w W : World} {bx by' sb : Nat} {k a t k' a' t' x0 x1 x2 y0 y1 y2 : Int} {f : Nat → Int} (h : J4 w bx by' sb k a t k' a' t' x0 x1 x2 y0 y1 y2 f W) {n : Nat} {N : Int} (hn : n < 11) (hN : f n = N) : W.cell? ⟨w.heap.size, 0, none⟩ = some (.int .i64 k) ∧ W.cell? ⟨w.heap.size, 1, none⟩ = some (.int .i64 a) ∧ W.cell? ⟨w.heap.size, 2, none⟩ = some (.int .i64 t) ∧ W.cell? ⟨w.heap.size + 1, 0, none⟩ = some (.int .i64 k') ∧ W.cell? ⟨w.heap.size + 1, 1, none⟩ = some (.int .i64 a') ∧ W.cell? ⟨w.heap.size + 1, 2, none⟩ = some (.int .i64 t') ∧ W.cell? ⟨bx, 0, none⟩ = some (.int .i64 x0) ∧ W.cell? ⟨bx, 1, none⟩ = some (.int .i64 x1) ∧ W.cell? ⟨bx, 2, none⟩ = some (.int .i64 x2) ∧ W.cell? ⟨by', 0, none⟩ = some (.int .i64 y0) ∧ W.cell? ⟨by', 1, none⟩ = some (.int .i64 y1) ∧ W.cell? ⟨by', 2, none⟩ = some (.int .i64 y2) ∧ W.cell? ⟨sb, n, none⟩ = some (.int .i64 N) := ⟨h.j.l.c0, h.j.l.c1, h.j.l.c2, h.j.m.c0, h.j.m.c1, h.j.m.c2, h.x.c0, h.x.c1, h.x.c2, h.y.c0, h.y.c1, h.y.c2, hN ▸ h.s n hn⟩

set_option maxRecDepth 100000 in
set_option maxHeartbeats 8000000 in
theorem sides_in (k a t k' a' t' i : Int) (x0 x1 x2 y0 y1 y2 : Int) (xb yb : Bool) (w : World) (hm : mayB k a t = true) (hm' : mayB k' a' t' = true) (h0 : 0 ≤ i) (h1 : i ≤ 1125899906842624) (h2 : a ≤ 1099511627776) (h3 : t ≤ 1099511627776) (h4 : a' ≤ 1099511627776) (h5 : t' ≤ 1099511627776)
    (e0 : trK k a t k' a' t' true = x0) (e1 : trA k a t k' a' t' true = x1) (e2 : trT k a t k' a' t' true = x2) (e3 : trB k a t k' a' t' true = xb) (f0 : trK k' a' t' k a t false = y0) (f1 : trA k' a' t' k a t false = y1) (f2 : trT k' a' t' k a t false = y2) (f3 : trB k' a' t' k a t false = yb)
    (hE : ∀ n : Int, 0 ≤ n → n ≤ 576460752303423488 → en k a t y0 y1 y2 yb n = en k' a' t' x0 x1 x2 xb n) (hM : k = 1 → xb = true ∧ md k a y0 y1 y2 yb = x1) (hN : k' = 1 → yb = true ∧ md k' a' x0 x1 x2 xb = y1) :
    Calls Try.prog 5 #[.agg #[.int .i64 k, .int .i64 a, .int .i64 t], .agg #[.int .i64 k', .int .i64 a', .int .i64 t'], .int .i64 i] w fun e w' => e = .returned (.bool true) ∧ Q w w' := by
  have J := hid (j2_new w k a t k' a' t')
  have HE := hid hE
  have HM := hid hM
  have HN := hid hN
  have hB := may_bd hm
  have hB' := may_bd hm'
  obtain ⟨⟨a0, a1⟩, ⟨t0, t1⟩, -⟩ := hB
  obtain ⟨⟨b0, b1⟩, ⟨u0, u1⟩, -⟩ := hB'
  clear hE hM hN
  go_enter Try.func5, Try.ntmps5
  go_wp2_with fail
  go_upto_region 7 with (first
    | (go_at_call 9; refine (begun_any _).mono ?_; rintro e w1 ⟨rfl, q1⟩; replace J := hid (J.out.on q1); clear q1; have s0 := J.out.l.c0; have s1 := J.out.l.c1; have s2 := J.out.l.c2; have s3 := J.out.m.c0; have s4 := J.out.m.c1; have s5 := J.out.m.c2; have z0 := J.out.l.lt; have z1 := J.out.m.lt)
    | (go_at_call 11; refine (rmay_any _ _ _ _).mono ?_; rintro r w4 ⟨rfl, rfl⟩)
    | (go_at_call 13; refine (transform_tup _ _ _ _ _ _ _ _).mono ?_; rintro r w2 ⟨rfl, q2⟩; replace J := hid (J.out.on ((((Q.refl _).alloc _).alloc _).trans q2)); clear q2; have r0 := J.out.l.c0; have r1 := J.out.l.c1; have r2 := J.out.l.c2; have r3 := J.out.m.c0; have r4 := J.out.m.c1; have r5 := J.out.m.c2; have y0' := J.out.l.lt; have y1' := J.out.m.lt))
  have X := hid (lb_new w2 x0 x1 x2)
  replace J := hid (J.out.on ((Q.refl _).alloc (.cells #[.int .i64 x0, .int .i64 x1, .int .i64 x2] 23)))
  clear s0 s1 s2 s3 s4 s5 z0 z1
  go_wp2_with (go_at_call 13; refine (transform_tup _ _ _ _ _ _ _ _).mono ?_; rintro r w3 ⟨rfl, q3⟩; replace J := hid (J.out.on q3); replace X := hid (X.out.on q3); clear q3; have v0 := J.out.l.c0; have v1 := J.out.l.c1; have v2 := J.out.l.c2; have v3 := J.out.m.c0; have v4 := J.out.m.c1; have v5 := J.out.m.c2; have z0' := J.out.l.lt; have z1' := J.out.m.lt)
  have Y := hid (lb_new w3 y0 y1 y2)
  have JJ : Hid (J4 w w2.heap.size w3.heap.size (w3.heap.size + 1) k a t k' a' t' x0 x1 x2 y0 y1 y2 (nr i a t a' t') ((w3.alloc (.cells #[.int .i64 y0, .int .i64 y1, .int .i64 y2] 23)).alloc (.cells #[.int .i64 i, .int .i64 a, .int .i64 a', .int .i64 t, .int .i64 t', .int .i64 (a + 1), .int .i64 (a' + 1), .int .i64 (t - 1), .int .i64 (t' - 1), .int .i64 (i % 8), .int .i64 0] 2))) := by
    refine ⟨(J.out.on ((Q.refl _).alloc _)).on ((Q.refl _).alloc _), (X.out.alloc _).alloc _, Y.out.alloc _, ?_⟩
    intro n hn
    have h := nr_new (w3.alloc (.cells #[.int .i64 y0, .int .i64 y1, .int .i64 y2] 23)) i a t a' t' n hn
    rw [World.size_alloc] at h
    exact h
  clear J X Y v0 v1 v2 v3 v4 v5 z0' z1' r0 r1 r2 r3 r4 r5 y0' y1'
  have HLE := hid (fun n => nr_le (n := n) h0 h1 h2 h3 h4 h5)
  go_loopw [13] (fun s W => ∃ n : Nat, n ≤ 11 ∧ s = .int .i64 n ∧ J4 w w2.heap.size w3.heap.size (w3.heap.size + 1) k a t k' a' t' x0 x1 x2 y0 y1 y2 (nr i a t a' t') W) (fun s _ => 11 - (intOf s).toNat)
  case atStart => exact ⟨0, Nat.zero_le _, rfl, JJ.out⟩
  case round =>
    obtain ⟨n, hn, rfl, J0⟩ := hrel
    have J := hid J0
    clear J0 JJ
    by_cases hlt : n < 11
    · have hlt' : (n : Int) < 11 := by omega
      have hle := HLE.out n
      obtain ⟨N, hN⟩ : ∃ N, nr i a t a' t' n = N := ⟨_, rfl⟩
      rw [hN] at hle
      have HNN := hid hN
      clear hN
      by_cases hp : 0 ≤ N
      · have hpd : decide (0 ≤ N) = true := decide_eq_true hp
        obtain ⟨E, hE1⟩ : ∃ E, en k a t y0 y1 y2 yb N = E := ⟨_, rfl⟩
        have hE2 : en k' a' t' x0 x1 x2 xb N = E := by rw [← hE1]; exact (HE.out N hp (by omega)).symm
        have c := (J.out.csn hlt HNN.out)
        go_upto_region 12 with fail
        have hk0 : Hid (wr.drew.cell? ⟨w.heap.size, 0, none⟩ = some (.int .i64 k) ∧ wr.drew.cell? ⟨w.heap.size, 1, none⟩ = some (.int .i64 a) ∧ wr.drew.cell? ⟨w.heap.size, 2, none⟩ = some (.int .i64 t) ∧ wr.drew.cell? ⟨w.heap.size + 1, 0, none⟩ = some (.int .i64 k') ∧ wr.drew.cell? ⟨w.heap.size + 1, 1, none⟩ = some (.int .i64 a') ∧ wr.drew.cell? ⟨w.heap.size + 1, 2, none⟩ = some (.int .i64 t') ∧ wr.drew.cell? ⟨w2.heap.size, 0, none⟩ = some (.int .i64 x0) ∧ wr.drew.cell? ⟨w2.heap.size, 1, none⟩ = some (.int .i64 x1) ∧ wr.drew.cell? ⟨w2.heap.size, 2, none⟩ = some (.int .i64 x2) ∧ wr.drew.cell? ⟨w3.heap.size, 0, none⟩ = some (.int .i64 y0) ∧ wr.drew.cell? ⟨w3.heap.size, 1, none⟩ = some (.int .i64 y1) ∧ wr.drew.cell? ⟨w3.heap.size, 2, none⟩ = some (.int .i64 y2) ∧ wr.drew.cell? ⟨w3.heap.size + 1, n, none⟩ = some (.int .i64 N)) := hid (J.out.drew.csn hlt HNN.out)
        go_region_held3 (fun W => (W.cell? ⟨w.heap.size, 0, none⟩ = some (.int .i64 k) ∧ W.cell? ⟨w.heap.size, 1, none⟩ = some (.int .i64 a) ∧ W.cell? ⟨w.heap.size, 2, none⟩ = some (.int .i64 t) ∧ W.cell? ⟨w.heap.size + 1, 0, none⟩ = some (.int .i64 k') ∧ W.cell? ⟨w.heap.size + 1, 1, none⟩ = some (.int .i64 a') ∧ W.cell? ⟨w.heap.size + 1, 2, none⟩ = some (.int .i64 t') ∧ W.cell? ⟨w2.heap.size, 0, none⟩ = some (.int .i64 x0) ∧ W.cell? ⟨w2.heap.size, 1, none⟩ = some (.int .i64 x1) ∧ W.cell? ⟨w2.heap.size, 2, none⟩ = some (.int .i64 x2) ∧ W.cell? ⟨w3.heap.size, 0, none⟩ = some (.int .i64 y0) ∧ W.cell? ⟨w3.heap.size, 1, none⟩ = some (.int .i64 y1) ∧ W.cell? ⟨w3.heap.size, 2, none⟩ = some (.int .i64 y2) ∧ W.cell? ⟨w3.heap.size + 1, n, none⟩ = some (.int .i64 N))) (with_reducible (first | exact hk0.out | exact hk1.out | exact hk2.out))
          (first
            | (go_at_call_of 15 yb; refine (end_any _ _ _ _ _ _ _ _ _).mono ?_; rintro r w4 ⟨rfl, q4⟩; replace J := hid (J.out.drew.on q4); clear q4; have hk1 : Hid (w4.cell? ⟨w.heap.size, 0, none⟩ = some (.int .i64 k) ∧ w4.cell? ⟨w.heap.size, 1, none⟩ = some (.int .i64 a) ∧ w4.cell? ⟨w.heap.size, 2, none⟩ = some (.int .i64 t) ∧ w4.cell? ⟨w.heap.size + 1, 0, none⟩ = some (.int .i64 k') ∧ w4.cell? ⟨w.heap.size + 1, 1, none⟩ = some (.int .i64 a') ∧ w4.cell? ⟨w.heap.size + 1, 2, none⟩ = some (.int .i64 t') ∧ w4.cell? ⟨w2.heap.size, 0, none⟩ = some (.int .i64 x0) ∧ w4.cell? ⟨w2.heap.size, 1, none⟩ = some (.int .i64 x1) ∧ w4.cell? ⟨w2.heap.size, 2, none⟩ = some (.int .i64 x2) ∧ w4.cell? ⟨w3.heap.size, 0, none⟩ = some (.int .i64 y0) ∧ w4.cell? ⟨w3.heap.size, 1, none⟩ = some (.int .i64 y1) ∧ w4.cell? ⟨w3.heap.size, 2, none⟩ = some (.int .i64 y2) ∧ w4.cell? ⟨w3.heap.size + 1, n, none⟩ = some (.int .i64 N)) := hid (J.out.csn hlt HNN.out))
            | (go_at_call_of 15 xb; refine (end_any _ _ _ _ _ _ _ _ _).mono ?_; rintro r w5 ⟨rfl, q5⟩; replace J := hid (J.out.on q5); clear q5; have hk2 : Hid (w5.cell? ⟨w.heap.size, 0, none⟩ = some (.int .i64 k) ∧ w5.cell? ⟨w.heap.size, 1, none⟩ = some (.int .i64 a) ∧ w5.cell? ⟨w.heap.size, 2, none⟩ = some (.int .i64 t) ∧ w5.cell? ⟨w.heap.size + 1, 0, none⟩ = some (.int .i64 k') ∧ w5.cell? ⟨w.heap.size + 1, 1, none⟩ = some (.int .i64 a') ∧ w5.cell? ⟨w.heap.size + 1, 2, none⟩ = some (.int .i64 t') ∧ w5.cell? ⟨w2.heap.size, 0, none⟩ = some (.int .i64 x0) ∧ w5.cell? ⟨w2.heap.size, 1, none⟩ = some (.int .i64 x1) ∧ w5.cell? ⟨w2.heap.size, 2, none⟩ = some (.int .i64 x2) ∧ w5.cell? ⟨w3.heap.size, 0, none⟩ = some (.int .i64 y0) ∧ w5.cell? ⟨w3.heap.size, 1, none⟩ = some (.int .i64 y1) ∧ w5.cell? ⟨w3.heap.size, 2, none⟩ = some (.int .i64 y2) ∧ w5.cell? ⟨w3.heap.size + 1, n, none⟩ = some (.int .i64 N)) := hid (J.out.csn hlt HNN.out)))
        go_wp2
        go_roundw
        case rel => exact ⟨n + 1, by omega, by go_num, J.out⟩
        case measure => simp [intOf]; omega
      · have hpd : decide (0 ≤ N) = false := decide_eq_false hp
        go_upto_region 12 with fail
        have hk0 : Hid (wr.drew.cell? ⟨w.heap.size, 0, none⟩ = some (.int .i64 k) ∧ wr.drew.cell? ⟨w.heap.size, 1, none⟩ = some (.int .i64 a) ∧ wr.drew.cell? ⟨w.heap.size, 2, none⟩ = some (.int .i64 t) ∧ wr.drew.cell? ⟨w.heap.size + 1, 0, none⟩ = some (.int .i64 k') ∧ wr.drew.cell? ⟨w.heap.size + 1, 1, none⟩ = some (.int .i64 a') ∧ wr.drew.cell? ⟨w.heap.size + 1, 2, none⟩ = some (.int .i64 t') ∧ wr.drew.cell? ⟨w2.heap.size, 0, none⟩ = some (.int .i64 x0) ∧ wr.drew.cell? ⟨w2.heap.size, 1, none⟩ = some (.int .i64 x1) ∧ wr.drew.cell? ⟨w2.heap.size, 2, none⟩ = some (.int .i64 x2) ∧ wr.drew.cell? ⟨w3.heap.size, 0, none⟩ = some (.int .i64 y0) ∧ wr.drew.cell? ⟨w3.heap.size, 1, none⟩ = some (.int .i64 y1) ∧ wr.drew.cell? ⟨w3.heap.size, 2, none⟩ = some (.int .i64 y2) ∧ wr.drew.cell? ⟨w3.heap.size + 1, n, none⟩ = some (.int .i64 N)) := hid (J.out.drew.csn hlt HNN.out)
        have c := (J.out.csn hlt HNN.out)
        obtain ⟨c0, c1, c2, c3, c4, c5, c6, c7, c8, c9, c10, c11, c12⟩ := c
        clear hk0
        go_quiet (fail)
        go_wp2
        go_roundw
        case rel => exact ⟨n + 1, by omega, by go_num, J.out.on ((Q.refl _).drewN _)⟩
        case measure => simp [intOf]; omega
    · have hlt' : ¬ (n : Int) < 11 := by omega
      have HM1 := HM.out
      have HN1 := HN.out
      go_upto_region 14 with fail
      by_cases hk : k = 1
      · obtain ⟨hx, hM1⟩ := HM1 hk
        have hkb : (k == 1) = true := by simpa using hk
        clear hk HM1 HN1
        subst hx
        have hk0 : Hid (wr.drew.cell? ⟨w.heap.size, 0, none⟩ = some (.int .i64 k) ∧ wr.drew.cell? ⟨w.heap.size, 1, none⟩ = some (.int .i64 a) ∧ wr.drew.cell? ⟨w.heap.size, 2, none⟩ = some (.int .i64 t) ∧ wr.drew.cell? ⟨w.heap.size + 1, 0, none⟩ = some (.int .i64 k') ∧ wr.drew.cell? ⟨w.heap.size + 1, 1, none⟩ = some (.int .i64 a') ∧ wr.drew.cell? ⟨w.heap.size + 1, 2, none⟩ = some (.int .i64 t') ∧ wr.drew.cell? ⟨w2.heap.size, 0, none⟩ = some (.int .i64 x0) ∧ wr.drew.cell? ⟨w2.heap.size, 1, none⟩ = some (.int .i64 x1) ∧ wr.drew.cell? ⟨w2.heap.size, 2, none⟩ = some (.int .i64 x2) ∧ wr.drew.cell? ⟨w3.heap.size, 0, none⟩ = some (.int .i64 y0) ∧ wr.drew.cell? ⟨w3.heap.size, 1, none⟩ = some (.int .i64 y1) ∧ wr.drew.cell? ⟨w3.heap.size, 2, none⟩ = some (.int .i64 y2)) := hid J.out.drew.cs
        go_region_held3 (fun W => (W.cell? ⟨w.heap.size, 0, none⟩ = some (.int .i64 k) ∧ W.cell? ⟨w.heap.size, 1, none⟩ = some (.int .i64 a) ∧ W.cell? ⟨w.heap.size, 2, none⟩ = some (.int .i64 t) ∧ W.cell? ⟨w.heap.size + 1, 0, none⟩ = some (.int .i64 k') ∧ W.cell? ⟨w.heap.size + 1, 1, none⟩ = some (.int .i64 a') ∧ W.cell? ⟨w.heap.size + 1, 2, none⟩ = some (.int .i64 t') ∧ W.cell? ⟨w2.heap.size, 0, none⟩ = some (.int .i64 x0) ∧ W.cell? ⟨w2.heap.size, 1, none⟩ = some (.int .i64 x1) ∧ W.cell? ⟨w2.heap.size, 2, none⟩ = some (.int .i64 x2) ∧ W.cell? ⟨w3.heap.size, 0, none⟩ = some (.int .i64 y0) ∧ W.cell? ⟨w3.heap.size, 1, none⟩ = some (.int .i64 y1) ∧ W.cell? ⟨w3.heap.size, 2, none⟩ = some (.int .i64 y2))) (with_reducible (first | exact hk0.out | exact hk1.out))
          (first
            | (go_at_call 16; refine (made_any _ _ _ _ _ _ _ _).mono ?_; rintro r w6 ⟨rfl, q6⟩; replace J := hid (J.out.drew.on q6); clear q6; have hk1 : Hid (w6.cell? ⟨w.heap.size, 0, none⟩ = some (.int .i64 k) ∧ w6.cell? ⟨w.heap.size, 1, none⟩ = some (.int .i64 a) ∧ w6.cell? ⟨w.heap.size, 2, none⟩ = some (.int .i64 t) ∧ w6.cell? ⟨w.heap.size + 1, 0, none⟩ = some (.int .i64 k') ∧ w6.cell? ⟨w.heap.size + 1, 1, none⟩ = some (.int .i64 a') ∧ w6.cell? ⟨w.heap.size + 1, 2, none⟩ = some (.int .i64 t') ∧ w6.cell? ⟨w2.heap.size, 0, none⟩ = some (.int .i64 x0) ∧ w6.cell? ⟨w2.heap.size, 1, none⟩ = some (.int .i64 x1) ∧ w6.cell? ⟨w2.heap.size, 2, none⟩ = some (.int .i64 x2) ∧ w6.cell? ⟨w3.heap.size, 0, none⟩ = some (.int .i64 y0) ∧ w6.cell? ⟨w3.heap.size, 1, none⟩ = some (.int .i64 y1) ∧ w6.cell? ⟨w3.heap.size, 2, none⟩ = some (.int .i64 y2)) := hid J.out.cs))
        go_upto_region 16 with fail
        by_cases hk : k' = 1
        · obtain ⟨hx, hN1⟩ := HN.out hk
          have hkc : (k' != 1) = false := by simpa using hk
          clear hk
          subst hx
          have hk2 : Hid (w6.drew.cell? ⟨w.heap.size, 0, none⟩ = some (.int .i64 k) ∧ w6.drew.cell? ⟨w.heap.size, 1, none⟩ = some (.int .i64 a) ∧ w6.drew.cell? ⟨w.heap.size, 2, none⟩ = some (.int .i64 t) ∧ w6.drew.cell? ⟨w.heap.size + 1, 0, none⟩ = some (.int .i64 k') ∧ w6.drew.cell? ⟨w.heap.size + 1, 1, none⟩ = some (.int .i64 a') ∧ w6.drew.cell? ⟨w.heap.size + 1, 2, none⟩ = some (.int .i64 t') ∧ w6.drew.cell? ⟨w2.heap.size, 0, none⟩ = some (.int .i64 x0) ∧ w6.drew.cell? ⟨w2.heap.size, 1, none⟩ = some (.int .i64 x1) ∧ w6.drew.cell? ⟨w2.heap.size, 2, none⟩ = some (.int .i64 x2) ∧ w6.drew.cell? ⟨w3.heap.size, 0, none⟩ = some (.int .i64 y0) ∧ w6.drew.cell? ⟨w3.heap.size, 1, none⟩ = some (.int .i64 y1) ∧ w6.drew.cell? ⟨w3.heap.size, 2, none⟩ = some (.int .i64 y2)) := hid J.out.drew.cs
          go_region_held3 (fun W => (W.cell? ⟨w.heap.size, 0, none⟩ = some (.int .i64 k) ∧ W.cell? ⟨w.heap.size, 1, none⟩ = some (.int .i64 a) ∧ W.cell? ⟨w.heap.size, 2, none⟩ = some (.int .i64 t) ∧ W.cell? ⟨w.heap.size + 1, 0, none⟩ = some (.int .i64 k') ∧ W.cell? ⟨w.heap.size + 1, 1, none⟩ = some (.int .i64 a') ∧ W.cell? ⟨w.heap.size + 1, 2, none⟩ = some (.int .i64 t') ∧ W.cell? ⟨w2.heap.size, 0, none⟩ = some (.int .i64 x0) ∧ W.cell? ⟨w2.heap.size, 1, none⟩ = some (.int .i64 x1) ∧ W.cell? ⟨w2.heap.size, 2, none⟩ = some (.int .i64 x2) ∧ W.cell? ⟨w3.heap.size, 0, none⟩ = some (.int .i64 y0) ∧ W.cell? ⟨w3.heap.size, 1, none⟩ = some (.int .i64 y1) ∧ W.cell? ⟨w3.heap.size, 2, none⟩ = some (.int .i64 y2))) (with_reducible (first | exact hk2.out | exact hk3.out))
            (first
              | (go_at_call 16; refine (made_any _ _ _ _ _ _ _ _).mono ?_; rintro r w7 ⟨rfl, q7⟩; replace J := hid (J.out.drew.on q7); clear q7; have hk3 : Hid (w7.cell? ⟨w.heap.size, 0, none⟩ = some (.int .i64 k) ∧ w7.cell? ⟨w.heap.size, 1, none⟩ = some (.int .i64 a) ∧ w7.cell? ⟨w.heap.size, 2, none⟩ = some (.int .i64 t) ∧ w7.cell? ⟨w.heap.size + 1, 0, none⟩ = some (.int .i64 k') ∧ w7.cell? ⟨w.heap.size + 1, 1, none⟩ = some (.int .i64 a') ∧ w7.cell? ⟨w.heap.size + 1, 2, none⟩ = some (.int .i64 t') ∧ w7.cell? ⟨w2.heap.size, 0, none⟩ = some (.int .i64 x0) ∧ w7.cell? ⟨w2.heap.size, 1, none⟩ = some (.int .i64 x1) ∧ w7.cell? ⟨w2.heap.size, 2, none⟩ = some (.int .i64 x2) ∧ w7.cell? ⟨w3.heap.size, 0, none⟩ = some (.int .i64 y0) ∧ w7.cell? ⟨w3.heap.size, 1, none⟩ = some (.int .i64 y1) ∧ w7.cell? ⟨w3.heap.size, 2, none⟩ = some (.int .i64 y2)) := hid J.out.cs))
          go_wp2
          go_ret
          exact ⟨rfl, J.out.j.q⟩
        · have hkc : (k' != 1) = true := by simpa using hk
          clear hk
          obtain ⟨d0, d1, d2, d3, d4, d5, d6, d7, d8, d9, d10, d11⟩ := J.out.cs
          go_quiet (fail)
          go_wp2
          go_ret
          exact ⟨rfl, (J.out.on ((Q.refl _).drewN _)).j.q⟩
      · have hkb : (k == 1) = false := by simpa using hk
        clear hk HM1 HN1
        obtain ⟨d0, d1, d2, d3, d4, d5, d6, d7, d8, d9, d10, d11⟩ := J.out.cs
        go_quiet (fail)
        rename_i nq
        replace J := hid (J.out.on ((Q.refl wr).drewN nq))
        clear d0 d1 d2 d3 d4 d5 d6 d7 d8 d9 d10 d11
        generalize wr.drewN nq = wq at *
        go_upto_region 16 with fail
        by_cases hk : k' = 1
        · obtain ⟨hx, hN1⟩ := HN.out hk
          have hkc : (k' != 1) = false := by simpa using hk
          clear hk
          subst hx
          have hk2 : Hid (wq.drew.cell? ⟨w.heap.size, 0, none⟩ = some (.int .i64 k) ∧ wq.drew.cell? ⟨w.heap.size, 1, none⟩ = some (.int .i64 a) ∧ wq.drew.cell? ⟨w.heap.size, 2, none⟩ = some (.int .i64 t) ∧ wq.drew.cell? ⟨w.heap.size + 1, 0, none⟩ = some (.int .i64 k') ∧ wq.drew.cell? ⟨w.heap.size + 1, 1, none⟩ = some (.int .i64 a') ∧ wq.drew.cell? ⟨w.heap.size + 1, 2, none⟩ = some (.int .i64 t') ∧ wq.drew.cell? ⟨w2.heap.size, 0, none⟩ = some (.int .i64 x0) ∧ wq.drew.cell? ⟨w2.heap.size, 1, none⟩ = some (.int .i64 x1) ∧ wq.drew.cell? ⟨w2.heap.size, 2, none⟩ = some (.int .i64 x2) ∧ wq.drew.cell? ⟨w3.heap.size, 0, none⟩ = some (.int .i64 y0) ∧ wq.drew.cell? ⟨w3.heap.size, 1, none⟩ = some (.int .i64 y1) ∧ wq.drew.cell? ⟨w3.heap.size, 2, none⟩ = some (.int .i64 y2)) := hid J.out.drew.cs
          go_region_held3 (fun W => (W.cell? ⟨w.heap.size, 0, none⟩ = some (.int .i64 k) ∧ W.cell? ⟨w.heap.size, 1, none⟩ = some (.int .i64 a) ∧ W.cell? ⟨w.heap.size, 2, none⟩ = some (.int .i64 t) ∧ W.cell? ⟨w.heap.size + 1, 0, none⟩ = some (.int .i64 k') ∧ W.cell? ⟨w.heap.size + 1, 1, none⟩ = some (.int .i64 a') ∧ W.cell? ⟨w.heap.size + 1, 2, none⟩ = some (.int .i64 t') ∧ W.cell? ⟨w2.heap.size, 0, none⟩ = some (.int .i64 x0) ∧ W.cell? ⟨w2.heap.size, 1, none⟩ = some (.int .i64 x1) ∧ W.cell? ⟨w2.heap.size, 2, none⟩ = some (.int .i64 x2) ∧ W.cell? ⟨w3.heap.size, 0, none⟩ = some (.int .i64 y0) ∧ W.cell? ⟨w3.heap.size, 1, none⟩ = some (.int .i64 y1) ∧ W.cell? ⟨w3.heap.size, 2, none⟩ = some (.int .i64 y2))) (with_reducible (first | exact hk2.out | exact hk3.out))
            (first
              | (go_at_call 16; refine (made_any _ _ _ _ _ _ _ _).mono ?_; rintro r w7 ⟨rfl, q7⟩; replace J := hid (J.out.drew.on q7); clear q7; have hk3 : Hid (w7.cell? ⟨w.heap.size, 0, none⟩ = some (.int .i64 k) ∧ w7.cell? ⟨w.heap.size, 1, none⟩ = some (.int .i64 a) ∧ w7.cell? ⟨w.heap.size, 2, none⟩ = some (.int .i64 t) ∧ w7.cell? ⟨w.heap.size + 1, 0, none⟩ = some (.int .i64 k') ∧ w7.cell? ⟨w.heap.size + 1, 1, none⟩ = some (.int .i64 a') ∧ w7.cell? ⟨w.heap.size + 1, 2, none⟩ = some (.int .i64 t') ∧ w7.cell? ⟨w2.heap.size, 0, none⟩ = some (.int .i64 x0) ∧ w7.cell? ⟨w2.heap.size, 1, none⟩ = some (.int .i64 x1) ∧ w7.cell? ⟨w2.heap.size, 2, none⟩ = some (.int .i64 x2) ∧ w7.cell? ⟨w3.heap.size, 0, none⟩ = some (.int .i64 y0) ∧ w7.cell? ⟨w3.heap.size, 1, none⟩ = some (.int .i64 y1) ∧ w7.cell? ⟨w3.heap.size, 2, none⟩ = some (.int .i64 y2)) := hid J.out.cs))
          go_wp2
          go_ret
          exact ⟨rfl, J.out.j.q⟩
        · have hkc : (k' != 1) = true := by simpa using hk
          clear hk
          obtain ⟨d0, d1, d2, d3, d4, d5, d6, d7, d8, d9, d10, d11⟩ := J.out.cs
          go_quiet (fail)
          go_wp2
          go_ret
          exact ⟨rfl, (J.out.on ((Q.refl _).drewN _)).j.q⟩
end Go.Proofs.Ytkdapaebcjgckaa
