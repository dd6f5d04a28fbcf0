/- counterpaneref1.quo, walked: a. -/
import Derived.Test.YtfjpdopmojfchaaGreatDoorKc07
import Derived.Deep.RegionWith
import Derived.Deep.CutRange
set_option linter.unusedVariables false
set_option linter.unusedSimpArgs false
set_option maxRecDepth 100000
set_option maxHeartbeats 8000000
namespace Go.Proofs.YtfjpdopmojfchaaGreatDoor
open Go.RowKit
structure Jq (w : World) (a0 a1 a2 a3 a4 a5 d0 d1 q0 q1 q2 q3 q4 q5 r0 r1 r2 r3 r4 r5 : Int) (W : World) : Prop where
  q : Q w W
  ra : Row W (w.heap.size) a0 a1 a2 a3 a4 a5
  rz : Row W (w.heap.size + 1) 0 0 0 0 0 0
  rd : Row W (w.heap.size + 1 + 1 + 1 + 1 + 1 + 1) d0 d1 0 0 0 0
  rq : Row W (w.heap.size + 1 + 1) q0 q1 q2 q3 q4 q5
  rr : Row W (w.heap.size + 1 + 1 + 1) r0 r1 r2 r3 r4 r5
theorem Jq.on {w W W' : World} {a0 a1 a2 a3 a4 a5 d0 d1 q0 q1 q2 q3 q4 q5 r0 r1 r2 r3 r4 r5 : Int} (h : Jq w a0 a1 a2 a3 a4 a5 d0 d1 q0 q1 q2 q3 q4 q5 r0 r1 r2 r3 r4 r5 W) (k : Q W W') : Jq w a0 a1 a2 a3 a4 a5 d0 d1 q0 q1 q2 q3 q4 q5 r0 r1 r2 r3 r4 r5 W' :=
  ⟨h.q.trans k, h.ra.on k, h.rz.on k, h.rd.on k, h.rq.on k, h.rr.on k⟩
theorem Jq.drew {w W : World} {a0 a1 a2 a3 a4 a5 d0 d1 q0 q1 q2 q3 q4 q5 r0 r1 r2 r3 r4 r5 : Int} (h : Jq w a0 a1 a2 a3 a4 a5 d0 d1 q0 q1 q2 q3 q4 q5 r0 r1 r2 r3 r4 r5 W) : Jq w a0 a1 a2 a3 a4 a5 d0 d1 q0 q1 q2 q3 q4 q5 r0 r1 r2 r3 r4 r5 W.drew := h.on (Q.refl _).drew
def set6 (W : World) (b : Nat) (s0 s1 s2 s3 s4 s5 : Int) : World :=
  (((((W.setCell ⟨b, 0, none⟩ (.int .u64 s0)).setCell ⟨b, 1, none⟩ (.int .u64 s1)).setCell ⟨b, 2, none⟩ (.int .u64 s2)).setCell ⟨b, 3, none⟩ (.int .u64 s3)).setCell ⟨b, 4, none⟩ (.int .u64 s4)).setCell ⟨b, 5, none⟩ (.int .u64 s5)
theorem Row.set6 {W : World} {b : Nat} {r0 r1 r2 r3 r4 r5 s0 s1 s2 s3 s4 s5 : Int} (h : Row W b r0 r1 r2 r3 r4 r5) : Row (set6 W b s0 s1 s2 s3 s4 s5) b s0 s1 s2 s3 s4 s5 := h.set0.set1.set2.set3.set4.set5
theorem Row.far6 {W : World} {b b' : Nat} {r0 r1 r2 r3 r4 r5 s0 s1 s2 s3 s4 s5 : Int} (h : Row W b r0 r1 r2 r3 r4 r5) (hb : b' ≠ b) : Row (YtfjpdopmojfchaaGreatDoor.set6 W b' s0 s1 s2 s3 s4 s5) b r0 r1 r2 r3 r4 r5 := (((((h.far hb).far hb).far hb).far hb).far hb).far hb
theorem Q.set6 {a w : World} (h : Q a w) {b : Nat} (hb : a.heap.size ≤ b) {s0 s1 s2 s3 s4 s5 : Int} : Q a (YtfjpdopmojfchaaGreatDoor.set6 w b s0 s1 s2 s3 s4 s5) := (((((h.setCell hb _).setCell hb _).setCell hb _).setCell hb _).setCell hb _).setCell hb _
theorem Jq.setR {w W : World} {a0 a1 a2 a3 a4 a5 d0 d1 q0 q1 q2 q3 q4 q5 r0 r1 r2 r3 r4 r5 s0 s1 s2 s3 s4 s5 : Int} (h : Jq w a0 a1 a2 a3 a4 a5 d0 d1 q0 q1 q2 q3 q4 q5 r0 r1 r2 r3 r4 r5 W) : Jq w a0 a1 a2 a3 a4 a5 d0 d1 q0 q1 q2 q3 q4 q5 s0 s1 s2 s3 s4 s5 (set6 W (w.heap.size + 1 + 1 + 1) s0 s1 s2 s3 s4 s5) :=
  ⟨h.q.set6 (by omega), h.ra.far6 (by omega), h.rz.far6 (by omega), h.rd.far6 (by omega), h.rq.far6 (by omega), h.rr.set6⟩
theorem Jq.setQ {w W : World} {a0 a1 a2 a3 a4 a5 d0 d1 q0 q1 q2 q3 q4 q5 r0 r1 r2 r3 r4 r5 s0 s1 s2 s3 s4 s5 : Int} (h : Jq w a0 a1 a2 a3 a4 a5 d0 d1 q0 q1 q2 q3 q4 q5 r0 r1 r2 r3 r4 r5 W) : Jq w a0 a1 a2 a3 a4 a5 d0 d1 s0 s1 s2 s3 s4 s5 r0 r1 r2 r3 r4 r5 (set6 W (w.heap.size + 1 + 1) s0 s1 s2 s3 s4 s5) :=
  ⟨h.q.set6 (by omega), h.ra.far6 (by omega), h.rz.far6 (by omega), h.rd.far6 (by omega), h.rq.set6, h.rr.far6 (by omega)⟩
theorem Jq.incQ {w W : World} {a0 a1 a2 a3 a4 a5 d0 d1 q0 q1 q2 q3 q4 q5 r0 r1 r2 r3 r4 r5 v : Int} (h : Jq w a0 a1 a2 a3 a4 a5 d0 d1 q0 q1 q2 q3 q4 q5 r0 r1 r2 r3 r4 r5 W) : Jq w a0 a1 a2 a3 a4 a5 d0 d1 v q1 q2 q3 q4 q5 r0 r1 r2 r3 r4 r5 (W.setCell ⟨w.heap.size + 1 + 1, 0, none⟩ (.int .u64 v)) :=
  ⟨h.q.setCell (by omega) _, h.ra.far (by omega), h.rz.far (by omega), h.rd.far (by omega), h.rq.set0, h.rr.far (by omega)⟩
theorem quo_small (m : Nat) (a n : Int) (ha : 0 ≤ a) (hl : a < 6277101735386680763835789423207666416102355444464034512896) (hn : 0 < n) : a / 2 ^ (m + 1) / n * 2 < 6277101735386680763835789423207666416102355444464034512896 := by
  have h1 : a / 2 ^ (m + 1) ≤ a / 2 := by
    rw [Int.pow_succ, Int.mul_comm, ← Int.ediv_ediv_of_nonneg (by omega)]
    exact Int.ediv_le_self _ (by omega)
  have h0 : 0 ≤ a / 2 ^ (m + 1) := Int.ediv_nonneg ha (Int.le_of_lt (Int.pow_pos (by omega)))
  have h2 : a / 2 ^ (m + 1) / n ≤ a / 2 ^ (m + 1) := Int.ediv_le_self _ h0
  omega
set_option maxHeartbeats 8000000 in
theorem quo_any (a0 a1 a2 a3 a4 a5 a n : Int) (w : World) (ha : Dg a0 a1 a2 a3 a4 a5 a) (n0 : 0 < n) (n1 : n < 18446744073709551616) :
    Calls Tryz.prog 99 #[.agg #[.int .u64 a0, .int .u64 a1, .int .u64 a2, .int .u64 a3, .int .u64 a4, .int .u64 a5], .int .u64 n] w fun e w' => WR (a / n) e ∧ Q w w' := by
  obtain ⟨d0, ed0⟩ : ∃ b, n % 4294967296 = b := ⟨_, rfl⟩
  obtain ⟨d1, ed1⟩ : ∃ b, n / 4294967296 = b := ⟨_, rfl⟩
  have DD : Hid (Dg d0 d1 0 0 0 0 n) := by
    show Dg _ _ _ _ _ _ _
    exact ⟨by omega, by omega, by omega, by omega, by omega, by omega, by omega, by omega, by omega, by omega, by omega, by omega, by omega⟩
  have HA := hid ha
  have hA0 : Hid (0 ≤ a ∧ a < 6277101735386680763835789423207666416102355444464034512896) := by
    obtain ⟨x0, y0, x1, y1, x2, y2, x3, y3, x4, y4, x5, y5, ea⟩ := ha
    show _ ∧ _
    omega
  clear ha
  go_enter Tryz.func99, Tryz.ntmps99
  go_wp2_with (go_at_call 101; refine (one_exact n _ (by omega) n1).mono ?_; rintro e w1 ⟨rfl, o1, o2, rfl⟩)
  go_loopw [8] (fun i W => ∃ (m : Nat) (q0 q1 q2 q3 q4 q5 qq r0 r1 r2 r3 r4 r5 rr : Int), m ≤ 192 ∧ i = .int .i64 ((m : Int) - 1) ∧ Jq w a0 a1 a2 a3 a4 a5 d0 d1 q0 q1 q2 q3 q4 q5 r0 r1 r2 r3 r4 r5 W ∧ Dg q0 q1 q2 q3 q4 q5 qq ∧ Dg r0 r1 r2 r3 r4 r5 rr ∧ QI m a n qq rr) (fun i _ => (intOf i + 1).toNat)
  case atStart =>
    refine ⟨192, 0, 0, 0, 0, 0, 0, 0, 0, 0, 0, 0, 0, 0, 0, by omega, rfl, ⟨?_, ?_, ?_, ?_, ?_, ?_⟩, ?_, ?_, ?_⟩
    · repeat (first | exact Q.refl _ | refine Q.drew ?_ | refine Q.alloc ?_ _)
    · exact (row_new w 111 a0 a1 a2 a3 a4 a5).on (by repeat (first | exact Q.refl _ | refine Q.drew ?_ | refine Q.alloc ?_ _))
    · have h := row_new (w.alloc (.cells #[.int .u64 a0, .int .u64 a1, .int .u64 a2, .int .u64 a3, .int .u64 a4, .int .u64 a5] 111)) 111 0 0 0 0 0 0
      simp only [World.size_alloc] at h
      exact h.on (by repeat (first | exact Q.refl _ | refine Q.drew ?_ | refine Q.alloc ?_ _))
    · have h := row_new ((((((w.alloc (.cells #[.int .u64 a0, .int .u64 a1, .int .u64 a2, .int .u64 a3, .int .u64 a4, .int .u64 a5] 111)).alloc (.cells #[.int .u64 0, .int .u64 0, .int .u64 0, .int .u64 0, .int .u64 0, .int .u64 0] 111)).alloc (.cells #[.int .u64 0, .int .u64 0, .int .u64 0, .int .u64 0, .int .u64 0, .int .u64 0] 111)).alloc (.cells #[.int .u64 0, .int .u64 0, .int .u64 0, .int .u64 0, .int .u64 0, .int .u64 0] 111)).alloc o1).alloc o2) 111 d0 d1 0 0 0 0
      simp only [World.size_alloc] at h
      exact h.on (by repeat (first | exact Q.refl _ | refine Q.drew ?_ | refine Q.alloc ?_ _))
    · have h := row_new ((w.alloc (.cells #[.int .u64 a0, .int .u64 a1, .int .u64 a2, .int .u64 a3, .int .u64 a4, .int .u64 a5] 111)).alloc (.cells #[.int .u64 0, .int .u64 0, .int .u64 0, .int .u64 0, .int .u64 0, .int .u64 0] 111)) 111 0 0 0 0 0 0
      simp only [World.size_alloc] at h
      exact h.on (by repeat (first | exact Q.refl _ | refine Q.drew ?_ | refine Q.alloc ?_ _))
    · have h := row_new (((w.alloc (.cells #[.int .u64 a0, .int .u64 a1, .int .u64 a2, .int .u64 a3, .int .u64 a4, .int .u64 a5] 111)).alloc (.cells #[.int .u64 0, .int .u64 0, .int .u64 0, .int .u64 0, .int .u64 0, .int .u64 0] 111)).alloc (.cells #[.int .u64 0, .int .u64 0, .int .u64 0, .int .u64 0, .int .u64 0, .int .u64 0] 111)) 111 0 0 0 0 0 0
      simp only [World.size_alloc] at h
      exact h.on (by repeat (first | exact Q.refl _ | refine Q.drew ?_ | refine Q.alloc ?_ _))
    · exact ⟨by omega, by omega, by omega, by omega, by omega, by omega, by omega, by omega, by omega, by omega, by omega, by omega, by omega⟩
    · exact ⟨by omega, by omega, by omega, by omega, by omega, by omega, by omega, by omega, by omega, by omega, by omega, by omega, by omega⟩
    · exact QI.start a n hA0.out.1 hA0.out.2 n0
  case round =>
    obtain ⟨m, q0, q1, q2, q3, q4, q5, qq, r0, r1, r2, r3, r4, r5, rr, hm, rfl, j0, dq, dr, qi⟩ := hrel
    rcases m with _ | m
    · have HQ : Hid (qq = a / n) := by
        show _ = _
        have h := qi.eq
        rw [Int.pow_zero, Int.ediv_one] at h
        exact h
      have DQ := hid dq
      have hz : ((0 : Nat) : Int) - 1 < 0 := by omega
      clear qi dq dr
      have c0 := j0.rq.c0
      have c1 := j0.rq.c1
      have c2 := j0.rq.c2
      have c3 := j0.rq.c3
      have c4 := j0.rq.c4
      have c5 := j0.rq.c5
      have zc0 := j0.rz.c0
      have zc1 := j0.rz.c1
      have zc2 := j0.rz.c2
      have zc3 := j0.rz.c3
      have zc4 := j0.rz.c4
      have zc5 := j0.rz.c5
      have zf0 := j0.rz.f0
      have zf1 := j0.rz.f1
      have zf2 := j0.rz.f2
      have zf3 := j0.rz.f3
      have zf4 := j0.rz.f4
      have zf5 := j0.rz.f5
      go_wp2
      have hr := j0.rz.set0 (v := q0) |>.set1 (v := q1) |>.set2 (v := q2) |>.set3 (v := q3) |>.set4 (v := q4) |>.set5 (v := q5)
      refine bodyPost_ret (v := .agg #[.int .u64 q0, .int .u64 q1, .int .u64 q2, .int .u64 q3, .int .u64 q4, .int .u64 q5]) (by simp [results, Tryz.results99, go_sem, hr.c0, hr.c1, hr.c2, hr.c3, hr.c4, hr.c5]) rfl ⟨⟨_, _, _, _, _, _, rfl, ?_⟩, (((((j0.q.setCell (by omega) _).setCell (by omega) _).setCell (by omega) _).setCell (by omega) _).setCell (by omega) _).setCell (by omega) _⟩
      rw [← HQ.out]
      exact DQ.out
    · have hj : ∃ j : Int, j = ((m + 1 : Nat) : Int) - 1 ∧ 0 ≤ j ∧ j ≤ 191 := ⟨_, rfl, by omega, by omega⟩
      obtain ⟨j, ej, j0', j1'⟩ := hj
      rw [← ej]
      have EJ := hid ej
      have QI1 := hid qi
      have D1 := hid dq
      have D2 := hid dr
      clear ej qi dq dr
      obtain ⟨b, hbd⟩ : ∃ b, b = a / 2 ^ m % 2 := ⟨_, rfl⟩
      obtain ⟨b0, b1, lq, lr, ur, hge, hlt⟩ := QI1.out.next hbd
      have Hge := hid hge
      have Hlt := hid hlt
      have HB := hid hbd
      have HM := hid hm
      have hrb : rr * 2 + b < 6277101735386680763835789423207666416102355444464034512896 := by omega
      have T1 := hid (fun W => twice_any r0 r1 r2 r3 r4 r5 rr b W D2.out b0 b1 hrb)
      clear hge hlt hbd hm hrb
      go_wp2
      go_cut [] from 11 to 37 (fun W => ∃ s0 s1 s2 s3 s4 s5 : Int, Jq w a0 a1 a2 a3 a4 a5 d0 d1 q0 q1 q2 q3 q4 q5 s0 s1 s2 s3 s4 s5 W ∧ Dg s0 s1 s2 s3 s4 s5 (rr * 2 + b))
      case first =>
        have hc : m / 32 = 0 ∨ m / 32 = 1 ∨ m / 32 = 2 ∨ m / 32 = 3 ∨ m / 32 = 4 ∨ m / 32 = 5 := by have := HM.out; omega
        rcases hc with hc | hc | hc | hc | hc | hc
        · have J32 : j / 32 = 0 := by have := EJ.out; omega
          have J32' : j.tdiv 32 = 0 := by rw [Int.tdiv_eq_ediv_of_nonneg j0']; exact J32
          have JM : j % 32 = ((m % 32 : Nat) : Int) := by have := EJ.out; omega
          have hbit := bit0 a0 a1 a2 a3 a4 a5 a (m % 32) HA.out (Nat.mod_lt _ (by omega))
          rw [show 0 + m % 32 = m by omega, ← HB.out] at hbit
          have hs32 : m % 32 < 32 := Nat.mod_lt _ (by omega)
          generalize m % 32 = s at *
          have JM' : j.tmod 32 = (s : Int) := by rw [Int.tmod_eq_emod_of_nonneg j0']; exact JM
          obtain ⟨g, eg⟩ : ∃ g, a0 / 2 ^ s = g := ⟨_, rfl⟩
          have lg : 0 ≤ g := by rw [← eg]; exact Int.ediv_nonneg HA.out.l0 (Int.le_of_lt (Int.pow_pos (by omega)))
          rw [eg] at hbit
          have eb : g % 2 = b := hbit.symm
          have eb' : g.tmod 2 = b := by rw [Int.tmod_eq_emod_of_nonneg lg]; exact eb
          clear hbit hc
          have ca := j0.ra.c0
          have la := HA.out.l0
          have ua := HA.out.h0
          have c0 := j0.rr.c0
          have c1 := j0.rr.c1
          have c2 := j0.rr.c2
          have c3 := j0.rr.c3
          have c4 := j0.rr.c4
          have c5 := j0.rr.c5
          go_region_with (go_at_call 135; refine (T1.out _).mono ?_; rintro e w2 ⟨⟨s0, s1, s2, s3, s4, s5, rfl, ds⟩, q2⟩; have j2 := j0.drew.on q2; have xc0 := j2.rr.c0; have xc1 := j2.rr.c1; have xc2 := j2.rr.c2; have xc3 := j2.rr.c3; have xc4 := j2.rr.c4; have xc5 := j2.rr.c5; have xf0 := j2.rr.f0; have xf1 := j2.rr.f1; have xf2 := j2.rr.f2; have xf3 := j2.rr.f3; have xf4 := j2.rr.f4; have xf5 := j2.rr.f5)
          all_goals
            go_wp2_with fail
            go_meet
            case rel => exact ⟨s0, s1, s2, s3, s4, s5, j2.setR, ds⟩
        · have J32 : j / 32 = 1 := by have := EJ.out; omega
          have J32' : j.tdiv 32 = 1 := by rw [Int.tdiv_eq_ediv_of_nonneg j0']; exact J32
          have JM : j % 32 = ((m % 32 : Nat) : Int) := by have := EJ.out; omega
          have hbit := bit1 a0 a1 a2 a3 a4 a5 a (m % 32) HA.out (Nat.mod_lt _ (by omega))
          rw [show 32 + m % 32 = m by omega, ← HB.out] at hbit
          have hs32 : m % 32 < 32 := Nat.mod_lt _ (by omega)
          generalize m % 32 = s at *
          have JM' : j.tmod 32 = (s : Int) := by rw [Int.tmod_eq_emod_of_nonneg j0']; exact JM
          obtain ⟨g, eg⟩ : ∃ g, a1 / 2 ^ s = g := ⟨_, rfl⟩
          have lg : 0 ≤ g := by rw [← eg]; exact Int.ediv_nonneg HA.out.l1 (Int.le_of_lt (Int.pow_pos (by omega)))
          rw [eg] at hbit
          have eb : g % 2 = b := hbit.symm
          have eb' : g.tmod 2 = b := by rw [Int.tmod_eq_emod_of_nonneg lg]; exact eb
          clear hbit hc
          have ca := j0.ra.c1
          have la := HA.out.l1
          have ua := HA.out.h1
          have c0 := j0.rr.c0
          have c1 := j0.rr.c1
          have c2 := j0.rr.c2
          have c3 := j0.rr.c3
          have c4 := j0.rr.c4
          have c5 := j0.rr.c5
          go_region_with (go_at_call 135; refine (T1.out _).mono ?_; rintro e w2 ⟨⟨s0, s1, s2, s3, s4, s5, rfl, ds⟩, q2⟩; have j2 := j0.drew.on q2; have xc0 := j2.rr.c0; have xc1 := j2.rr.c1; have xc2 := j2.rr.c2; have xc3 := j2.rr.c3; have xc4 := j2.rr.c4; have xc5 := j2.rr.c5; have xf0 := j2.rr.f0; have xf1 := j2.rr.f1; have xf2 := j2.rr.f2; have xf3 := j2.rr.f3; have xf4 := j2.rr.f4; have xf5 := j2.rr.f5)
          all_goals
            go_wp2_with fail
            go_meet
            case rel => exact ⟨s0, s1, s2, s3, s4, s5, j2.setR, ds⟩
        · have J32 : j / 32 = 2 := by have := EJ.out; omega
          have J32' : j.tdiv 32 = 2 := by rw [Int.tdiv_eq_ediv_of_nonneg j0']; exact J32
          have JM : j % 32 = ((m % 32 : Nat) : Int) := by have := EJ.out; omega
          have hbit := bit2 a0 a1 a2 a3 a4 a5 a (m % 32) HA.out (Nat.mod_lt _ (by omega))
          rw [show 64 + m % 32 = m by omega, ← HB.out] at hbit
          have hs32 : m % 32 < 32 := Nat.mod_lt _ (by omega)
          generalize m % 32 = s at *
          have JM' : j.tmod 32 = (s : Int) := by rw [Int.tmod_eq_emod_of_nonneg j0']; exact JM
          obtain ⟨g, eg⟩ : ∃ g, a2 / 2 ^ s = g := ⟨_, rfl⟩
          have lg : 0 ≤ g := by rw [← eg]; exact Int.ediv_nonneg HA.out.l2 (Int.le_of_lt (Int.pow_pos (by omega)))
          rw [eg] at hbit
          have eb : g % 2 = b := hbit.symm
          have eb' : g.tmod 2 = b := by rw [Int.tmod_eq_emod_of_nonneg lg]; exact eb
          clear hbit hc
          have ca := j0.ra.c2
          have la := HA.out.l2
          have ua := HA.out.h2
          have c0 := j0.rr.c0
          have c1 := j0.rr.c1
          have c2 := j0.rr.c2
          have c3 := j0.rr.c3
          have c4 := j0.rr.c4
          have c5 := j0.rr.c5
          go_region_with (go_at_call 135; refine (T1.out _).mono ?_; rintro e w2 ⟨⟨s0, s1, s2, s3, s4, s5, rfl, ds⟩, q2⟩; have j2 := j0.drew.on q2; have xc0 := j2.rr.c0; have xc1 := j2.rr.c1; have xc2 := j2.rr.c2; have xc3 := j2.rr.c3; have xc4 := j2.rr.c4; have xc5 := j2.rr.c5; have xf0 := j2.rr.f0; have xf1 := j2.rr.f1; have xf2 := j2.rr.f2; have xf3 := j2.rr.f3; have xf4 := j2.rr.f4; have xf5 := j2.rr.f5)
          all_goals
            go_wp2_with fail
            go_meet
            case rel => exact ⟨s0, s1, s2, s3, s4, s5, j2.setR, ds⟩
        · have J32 : j / 32 = 3 := by have := EJ.out; omega
          have J32' : j.tdiv 32 = 3 := by rw [Int.tdiv_eq_ediv_of_nonneg j0']; exact J32
          have JM : j % 32 = ((m % 32 : Nat) : Int) := by have := EJ.out; omega
          have hbit := bit3 a0 a1 a2 a3 a4 a5 a (m % 32) HA.out (Nat.mod_lt _ (by omega))
          rw [show 96 + m % 32 = m by omega, ← HB.out] at hbit
          have hs32 : m % 32 < 32 := Nat.mod_lt _ (by omega)
          generalize m % 32 = s at *
          have JM' : j.tmod 32 = (s : Int) := by rw [Int.tmod_eq_emod_of_nonneg j0']; exact JM
          obtain ⟨g, eg⟩ : ∃ g, a3 / 2 ^ s = g := ⟨_, rfl⟩
          have lg : 0 ≤ g := by rw [← eg]; exact Int.ediv_nonneg HA.out.l3 (Int.le_of_lt (Int.pow_pos (by omega)))
          rw [eg] at hbit
          have eb : g % 2 = b := hbit.symm
          have eb' : g.tmod 2 = b := by rw [Int.tmod_eq_emod_of_nonneg lg]; exact eb
          clear hbit hc
          have ca := j0.ra.c3
          have la := HA.out.l3
          have ua := HA.out.h3
          have c0 := j0.rr.c0
          have c1 := j0.rr.c1
          have c2 := j0.rr.c2
          have c3 := j0.rr.c3
          have c4 := j0.rr.c4
          have c5 := j0.rr.c5
          go_region_with (go_at_call 135; refine (T1.out _).mono ?_; rintro e w2 ⟨⟨s0, s1, s2, s3, s4, s5, rfl, ds⟩, q2⟩; have j2 := j0.drew.on q2; have xc0 := j2.rr.c0; have xc1 := j2.rr.c1; have xc2 := j2.rr.c2; have xc3 := j2.rr.c3; have xc4 := j2.rr.c4; have xc5 := j2.rr.c5; have xf0 := j2.rr.f0; have xf1 := j2.rr.f1; have xf2 := j2.rr.f2; have xf3 := j2.rr.f3; have xf4 := j2.rr.f4; have xf5 := j2.rr.f5)
          all_goals
            go_wp2_with fail
            go_meet
            case rel => exact ⟨s0, s1, s2, s3, s4, s5, j2.setR, ds⟩
        · have J32 : j / 32 = 4 := by have := EJ.out; omega
          have J32' : j.tdiv 32 = 4 := by rw [Int.tdiv_eq_ediv_of_nonneg j0']; exact J32
          have JM : j % 32 = ((m % 32 : Nat) : Int) := by have := EJ.out; omega
          have hbit := bit4 a0 a1 a2 a3 a4 a5 a (m % 32) HA.out (Nat.mod_lt _ (by omega))
          rw [show 128 + m % 32 = m by omega, ← HB.out] at hbit
          have hs32 : m % 32 < 32 := Nat.mod_lt _ (by omega)
          generalize m % 32 = s at *
          have JM' : j.tmod 32 = (s : Int) := by rw [Int.tmod_eq_emod_of_nonneg j0']; exact JM
          obtain ⟨g, eg⟩ : ∃ g, a4 / 2 ^ s = g := ⟨_, rfl⟩
          have lg : 0 ≤ g := by rw [← eg]; exact Int.ediv_nonneg HA.out.l4 (Int.le_of_lt (Int.pow_pos (by omega)))
          rw [eg] at hbit
          have eb : g % 2 = b := hbit.symm
          have eb' : g.tmod 2 = b := by rw [Int.tmod_eq_emod_of_nonneg lg]; exact eb
          clear hbit hc
          have ca := j0.ra.c4
          have la := HA.out.l4
          have ua := HA.out.h4
          have c0 := j0.rr.c0
          have c1 := j0.rr.c1
          have c2 := j0.rr.c2
          have c3 := j0.rr.c3
          have c4 := j0.rr.c4
          have c5 := j0.rr.c5
          go_region_with (go_at_call 135; refine (T1.out _).mono ?_; rintro e w2 ⟨⟨s0, s1, s2, s3, s4, s5, rfl, ds⟩, q2⟩; have j2 := j0.drew.on q2; have xc0 := j2.rr.c0; have xc1 := j2.rr.c1; have xc2 := j2.rr.c2; have xc3 := j2.rr.c3; have xc4 := j2.rr.c4; have xc5 := j2.rr.c5; have xf0 := j2.rr.f0; have xf1 := j2.rr.f1; have xf2 := j2.rr.f2; have xf3 := j2.rr.f3; have xf4 := j2.rr.f4; have xf5 := j2.rr.f5)
          all_goals
            go_wp2_with fail
            go_meet
            case rel => exact ⟨s0, s1, s2, s3, s4, s5, j2.setR, ds⟩
        · have J32 : j / 32 = 5 := by have := EJ.out; omega
          have J32' : j.tdiv 32 = 5 := by rw [Int.tdiv_eq_ediv_of_nonneg j0']; exact J32
          have JM : j % 32 = ((m % 32 : Nat) : Int) := by have := EJ.out; omega
          have hbit := bit5 a0 a1 a2 a3 a4 a5 a (m % 32) HA.out (Nat.mod_lt _ (by omega))
          rw [show 160 + m % 32 = m by omega, ← HB.out] at hbit
          have hs32 : m % 32 < 32 := Nat.mod_lt _ (by omega)
          generalize m % 32 = s at *
          have JM' : j.tmod 32 = (s : Int) := by rw [Int.tmod_eq_emod_of_nonneg j0']; exact JM
          obtain ⟨g, eg⟩ : ∃ g, a5 / 2 ^ s = g := ⟨_, rfl⟩
          have lg : 0 ≤ g := by rw [← eg]; exact Int.ediv_nonneg HA.out.l5 (Int.le_of_lt (Int.pow_pos (by omega)))
          rw [eg] at hbit
          have eb : g % 2 = b := hbit.symm
          have eb' : g.tmod 2 = b := by rw [Int.tmod_eq_emod_of_nonneg lg]; exact eb
          clear hbit hc
          have ca := j0.ra.c5
          have la := HA.out.l5
          have ua := HA.out.h5
          have c0 := j0.rr.c0
          have c1 := j0.rr.c1
          have c2 := j0.rr.c2
          have c3 := j0.rr.c3
          have c4 := j0.rr.c4
          have c5 := j0.rr.c5
          go_region_with (go_at_call 135; refine (T1.out _).mono ?_; rintro e w2 ⟨⟨s0, s1, s2, s3, s4, s5, rfl, ds⟩, q2⟩; have j2 := j0.drew.on q2; have xc0 := j2.rr.c0; have xc1 := j2.rr.c1; have xc2 := j2.rr.c2; have xc3 := j2.rr.c3; have xc4 := j2.rr.c4; have xc5 := j2.rr.c5; have xf0 := j2.rr.f0; have xf1 := j2.rr.f1; have xf2 := j2.rr.f2; have xf3 := j2.rr.f3; have xf4 := j2.rr.f4; have xf5 := j2.rr.f5)
          all_goals
            go_wp2_with fail
            go_meet
            case rel => exact ⟨s0, s1, s2, s3, s4, s5, j2.setR, ds⟩
      case rest =>
        obtain ⟨s0, s1, s2, s3, s4, s5, j3, ds⟩ := hcut
        have DS := hid ds
        clear j0 ds T1
        have hqb : Hid (qq * 2 + 0 < 6277101735386680763835789423207666416102355444464034512896) := by
          show _ < _
          have h1 := QI1.out.eq
          have h2 := quo_small m a n hA0.out.1 hA0.out.2 n0
          rw [← h1] at h2
          omega
        have T2 := hid (fun W => twice_any q0 q1 q2 q3 q4 q5 qq 0 W D1.out (by omega) (by omega) hqb.out)
        have c0 := j3.rq.c0
        have c1 := j3.rq.c1
        have c2 := j3.rq.c2
        have c3 := j3.rq.c3
        have c4 := j3.rq.c4
        have c5 := j3.rq.c5
        go_upto_region 7 with fail
        go_cut [] from 11 to 37 (fun W => ∃ t0 t1 t2 t3 t4 t5 : Int, Jq w a0 a1 a2 a3 a4 a5 d0 d1 t0 t1 t2 t3 t4 t5 s0 s1 s2 s3 s4 s5 W ∧ Dg t0 t1 t2 t3 t4 t5 (qq * 2 + 0))
        case first =>
          go_wp2_with (go_at_call 135; refine (T2.out _).mono ?_; rintro e w4 ⟨⟨t0, t1, t2, t3, t4, t5, rfl, dt⟩, q4⟩; have j4 := j3.on q4; have xc0 := j4.rq.c0; have xc1 := j4.rq.c1; have xc2 := j4.rq.c2; have xc3 := j4.rq.c3; have xc4 := j4.rq.c4; have xc5 := j4.rq.c5; have xf0 := j4.rq.f0; have xf1 := j4.rq.f1; have xf2 := j4.rq.f2; have xf3 := j4.rq.f3; have xf4 := j4.rq.f4; have xf5 := j4.rq.f5)
          go_meet
          case rel => exact ⟨t0, t1, t2, t3, t4, t5, j4.setQ, dt⟩
        case rest =>
          obtain ⟨t0, t1, t2, t3, t4, t5, j5, dt⟩ := hcut
          rw [Int.add_zero] at dt
          have DT := hid dt
          clear dt j3 T2 hqb c0 c1 c2 c3 c4 c5
          have L := hid (fun W => less_any s0 s1 s2 s3 s4 s5 (rr * 2 + b) d0 d1 0 0 0 0 n W DS.out DD.out)
          have c0 := j5.rr.c0
          have c1 := j5.rr.c1
          have c2 := j5.rr.c2
          have c3 := j5.rr.c3
          have c4 := j5.rr.c4
          have c5 := j5.rr.c5
          have dc0 := j5.rd.c0
          have dc1 := j5.rd.c1
          have dc2 := j5.rd.c2
          have dc3 := j5.rd.c3
          have dc4 := j5.rd.c4
          have dc5 := j5.rd.c5
          by_cases hc : rr * 2 + b < n
          · simp only [decide_eq_true hc] at L
            have HQ := hid (Hlt.out hc)
            clear hc
            go_wp2_with (go_at_call 119; refine (L.out _).mono ?_; rintro e w5 ⟨rfl, q5⟩)
            go_roundw
            case rel => exact ⟨m, t0, t1, t2, t3, t4, t5, qq * 2, s0, s1, s2, s3, s4, s5, rr * 2 + b, by have := HM.out; omega, by have := EJ.out; rw [show j - 1 = (m : Int) - 1 by omega], j5.on q5, DT.out, DS.out, HQ.out⟩
            case measure => have := EJ.out; simp [intOf]; omega
          · simp only [decide_eq_false hc] at L
            have HQ := hid (Hge.out (by omega))
            have hle : Hid (n ≤ rr * 2 + b) := by show _ ≤ _; omega
            clear hc
            have M := hid (fun W => minus_any s0 s1 s2 s3 s4 s5 (rr * 2 + b) d0 d1 0 0 0 0 n W DS.out DD.out hle.out)
            clear c0 c1 c2 c3 c4 c5
            have c0 := j5.rr.c0
            have c1 := j5.rr.c1
            have c2 := j5.rr.c2
            have c3 := j5.rr.c3
            have c4 := j5.rr.c4
            have c5 := j5.rr.c5
            go_upto_region 9 with (go_at_call 119; refine (L.out _).mono ?_; rintro e w5 ⟨rfl, q5⟩)
            have j6 := j5.on q5
            clear c0 c1 c2 c3 c4 c5 dc0 dc1 dc2 dc3 dc4 dc5 j5 q5 L
            have c0 := j6.rr.c0
            have c1 := j6.rr.c1
            have c2 := j6.rr.c2
            have c3 := j6.rr.c3
            have c4 := j6.rr.c4
            have c5 := j6.rr.c5
            have dc0 := j6.rd.c0
            have dc1 := j6.rd.c1
            have dc2 := j6.rd.c2
            have dc3 := j6.rd.c3
            have dc4 := j6.rd.c4
            have dc5 := j6.rd.c5
            go_cut [] from 11 to 37 (fun W => ∃ v0 v1 v2 v3 v4 v5 : Int, Jq w a0 a1 a2 a3 a4 a5 d0 d1 t0 t1 t2 t3 t4 t5 v0 v1 v2 v3 v4 v5 W ∧ Dg v0 v1 v2 v3 v4 v5 (rr * 2 + b - n))
            case first =>
              go_wp2_with (go_at_call 120; refine (M.out _).mono ?_; rintro e w7 ⟨⟨v0, v1, v2, v3, v4, v5, rfl, dv⟩, q7⟩; have j7 := j6.on q7; have xc0 := j7.rr.c0; have xc1 := j7.rr.c1; have xc2 := j7.rr.c2; have xc3 := j7.rr.c3; have xc4 := j7.rr.c4; have xc5 := j7.rr.c5; have xf0 := j7.rr.f0; have xf1 := j7.rr.f1; have xf2 := j7.rr.f2; have xf3 := j7.rr.f3; have xf4 := j7.rr.f4; have xf5 := j7.rr.f5)
              go_meet
              case rel => exact ⟨v0, v1, v2, v3, v4, v5, j7.setR, dv⟩
            case rest =>
              clear c0 c1 c2 c3 c4 c5 dc0 dc1 dc2 dc3 dc4 dc5 j6 M
              obtain ⟨v0, v1, v2, v3, v4, v5, j8, dv⟩ := hcut
              have DV := hid dv
              have lt0 := DT.out.l0
              have ut0 : t0 + 1 < 4294967296 := by
                obtain ⟨x0, y0, x1, y1, x2, y2, x3, y3, x4, y4, x5, y5, ea⟩ := DT.out
                omega
              have DT1 : Hid (Dg (t0 + 1) t1 t2 t3 t4 t5 (qq * 2 + 1)) := by
                obtain ⟨x0, y0, x1, y1, x2, y2, x3, y3, x4, y4, x5, y5, ea⟩ := DT.out
                exact ⟨by omega, by omega, by omega, by omega, by omega, by omega, by omega, by omega, by omega, by omega, by omega, by omega, by omega⟩
              clear dv
              have c0 := j8.rq.c0
              have f0 := j8.rq.f0
              go_wp2
              go_roundw
              case rel => exact ⟨m, t0 + 1, t1, t2, t3, t4, t5, qq * 2 + 1, v0, v1, v2, v3, v4, v5, rr * 2 + b - n, by have := HM.out; omega, by have := EJ.out; rw [show j - 1 = (m : Int) - 1 by omega], j8.incQ, DT1.out, DV.out, HQ.out⟩
              case measure => have := EJ.out; simp [intOf]; omega
end Go.Proofs.YtfjpdopmojfchaaGreatDoor
