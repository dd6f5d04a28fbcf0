/- The walks of FixRing and FixCut: each returns true. -/
import Derived.Test.YtiplfalnaaeljaaDoorB
namespace Go.Proofs.YtiplfalnaaeljaaDoor
open Go.RowKit

theorem mulV_comm (a b : Int) : mulV a b = mulV b a := by
  unfold mulV
  rw [Nat.mul_comm, bne_comm]

theorem mulV_one (a : Int) : mulV a 10000 = a := by
  unfold mulV
  have e : a.natAbs * (10000 : Int).natAbs / 10000 = a.natAbs := Nat.mul_div_cancel _ (by omega)
  rw [e]
  by_cases h : a < 0
  · rw [show (decide (a < 0) != decide ((10000 : Int) < 0)) = true by simp [h]]
    show -(a.natAbs : Int) = a
    omega
  · rw [show (decide (a < 0) != decide ((10000 : Int) < 0)) = false by simp [h]]
    show (a.natAbs : Int) = a
    omega

theorem divV_one (a : Int) : divV a 10000 = a := by
  unfold divV
  have e : a.natAbs * 10000 / (10000 : Int).natAbs = a.natAbs := Nat.mul_div_cancel _ (by omega)
  rw [e]
  by_cases h : a < 0
  · rw [show (decide (a < 0) != decide ((10000 : Int) < 0)) = true by simp [h]]
    show -(a.natAbs : Int) = a
    omega
  · rw [show (decide (a < 0) != decide ((10000 : Int) < 0)) = false by simp [h]]
    show (a.natAbs : Int) = a
    omega

theorem fit_fx {a : Int} (h : Fx a) : fitB a = true := fitB_yes h.lo h.hi

theorem mul_one_any (a : Int) (w : World) (ha : Fx a) :
    Calls Tryd.prog 14 #[.int .i64 a, .int .i64 10000] w fun e w' => e = .returned (.tuple #[.int .i64 a, .bool true]) ∧ Q w w' := by
  refine (mul_any a 10000 w ha ⟨by omega, by omega⟩).mono ?_
  rintro e w' ⟨rfl, hq⟩
  rw [mulV_one, fit_fx ha, keep_yes (fit_fx ha)]
  exact ⟨rfl, hq⟩

theorem div_one_any (a : Int) (w : World) (ha : Fx a) :
    Calls Tryd.prog 16 #[.int .i64 a, .int .i64 10000] w fun e w' => e = .returned (.tuple #[.int .i64 a, .bool true]) ∧ Q w w' := by
  refine (div_any a 10000 w ha ⟨by omega, by omega⟩ (by decide)).mono ?_
  rintro e w' ⟨rfl, hq⟩
  rw [divV_one, fit_fx ha, keep_yes (fit_fx ha)]
  exact ⟨rfl, hq⟩

set_option maxHeartbeats 1000000 in
theorem ring_walk (a b : Int) (w : World) (hw : Std w) (ha : Fx a) (hb : Fx b) :
    Calls Tryd.prog 6 #[.int .i64 a, .int .i64 b] w fun e w' => e = .returned (.bool true) ∧ Q w w' := by
  have HM := hid (fun w => mul_any a b w ha hb)
  have HN := hid (fun w => mul_any b a w hb ha)
  rw [mulV_comm b a] at HN
  generalize keep (mulV a b) = m at *
  generalize fitB (mulV a b) = f at *
  have HA := hid (fun w => add_any a b w ha hb)
  by_cases hf : fitB (a + b) = true
  · rw [hf, keep_yes hf] at HA
    have hx := fit_of hf
    have HS := hid (fun w => sub_any (a + b) b w hx hb)
    have e : a + b - b = a := by omega
    rw [e, fit_fx ha, keep_yes (fit_fx ha)] at HS
    clear e hf
    go_enter Tryd.func6, Tryd.ntmps6
    go_wp2_with (first
      | (go_at_call 9; refine (begun_any _ hw).mono ?_; rintro e w1 ⟨rfl, q1⟩)
      | (go_at_call 10; refine (HA.out _).mono ?_; rintro e w2 ⟨rfl, rfl⟩)
      | (go_at_call 12; refine (HS.out _).mono ?_; rintro e w2 ⟨rfl, rfl⟩))
    refine (HM.out _).mono ?_
    rintro e w3 ⟨rfl, q3⟩
    go_wp2_with fail
    refine (HN.out _).mono ?_
    rintro e w4 ⟨rfl, q4⟩
    go_wp2_with fail
    refine (mul_one_any a _ ha).mono ?_
    rintro e w5 ⟨rfl, q5⟩
    go_wp2_with fail
    refine (div_one_any a _ ha).mono ?_
    rintro e w6 ⟨rfl, q6⟩
    go_wp2
    go_ret
    exact ⟨rfl, (((q1.trans q3).trans q4).trans q5).trans q6⟩
  · have hf' : fitB (a + b) = false := by simpa using hf
    rw [hf', keep_no hf'] at HA
    clear hf hf'
    go_enter Tryd.func6, Tryd.ntmps6
    go_wp2_with (first
      | (go_at_call 9; refine (begun_any _ hw).mono ?_; rintro e w1 ⟨rfl, q1⟩)
      | (go_at_call 10; refine (HA.out _).mono ?_; rintro e w2 ⟨rfl, rfl⟩))
    refine (HM.out _).mono ?_
    rintro e w3 ⟨rfl, q3⟩
    go_wp2_with fail
    refine (HN.out _).mono ?_
    rintro e w4 ⟨rfl, q4⟩
    go_wp2_with fail
    refine (mul_one_any a _ ha).mono ?_
    rintro e w5 ⟨rfl, q5⟩
    go_wp2_with fail
    refine (div_one_any a _ ha).mono ?_
    rintro e w6 ⟨rfl, q6⟩
    go_wp2
    go_ret
    exact ⟨rfl, (((q1.trans q3).trans q4).trans q5).trans q6⟩

theorem sgn_abs (n : Nat) (g : Bool) : (sgn (n : Int) g).natAbs = n := by
  cases g
  · exact Int.natAbs_natCast n
  · show (-(n : Int)).natAbs = n
    rw [Int.natAbs_neg]
    exact Int.natAbs_natCast n
theorem dec_yes {p : Prop} [Decidable p] (h : p) : decide p = true := decide_eq_true h
theorem dec_no {p : Prop} [Decidable p] (h : ¬ p) : decide p = false := decide_eq_false h

/-- What FixCut asks of p = the product of the quotient with the divisor. -/
structure CutP (a b p : Int) : Prop where
  lo : -21474836480000 ≤ p
  hi : p ≤ 21474836480000
  neg : a < 0 → p ≤ 0
  pos : 0 ≤ a → 0 ≤ p
  near : a * 10000 - p < b * 10000 ∨ a * 10000 - p < -(b * 10000)
  near' : p - a * 10000 < b * 10000 ∨ p - a * 10000 < -(b * 10000)

theorem cut_core (a b : Int) (n r P : Nat) (ha0 : -2147483648 ≤ a) (ha1 : a ≤ 2147483647) (h : P + r = a.natAbs * 10000) (hr : r < b.natAbs) (h0 : n = 0 → P = 0) :
    CutP a b (sgn (P : Int) (decide (sgn (n : Int) (decide (a * 10000 < 0) != decide (b * 10000 < 0)) < 0) != decide (b * 10000 < 0))) := by
  by_cases ha : a < 0
  · rw [dec_yes (show a * 10000 < 0 by omega)]
    by_cases hb : b < 0
    · rw [dec_yes (show b * 10000 < 0 by omega)]
      show CutP a b (sgn (P : Int) (decide ((n : Int) < 0) != true))
      rw [dec_no (show ¬ (n : Int) < 0 by omega)]
      show CutP a b (-(P : Int))
      exact ⟨by omega, by omega, by omega, by omega, by omega, by omega⟩
    · rw [dec_no (show ¬ b * 10000 < 0 by omega)]
      show CutP a b (sgn (P : Int) (decide (-(n : Int) < 0) != false))
      rcases Nat.eq_zero_or_pos n with hn | hn
      · have hP := h0 hn
        subst hn hP
        show CutP a b 0
        exact ⟨by omega, by omega, by omega, by omega, by omega, by omega⟩
      · rw [dec_yes (show -(n : Int) < 0 by omega)]
        show CutP a b (-(P : Int))
        exact ⟨by omega, by omega, by omega, by omega, by omega, by omega⟩
  · rw [dec_no (show ¬ a * 10000 < 0 by omega)]
    by_cases hb : b < 0
    · rw [dec_yes (show b * 10000 < 0 by omega)]
      show CutP a b (sgn (P : Int) (decide (-(n : Int) < 0) != true))
      rcases Nat.eq_zero_or_pos n with hn | hn
      · have hP := h0 hn
        subst hn hP
        show CutP a b 0
        exact ⟨by omega, by omega, by omega, by omega, by omega, by omega⟩
      · rw [dec_yes (show -(n : Int) < 0 by omega)]
        show CutP a b (P : Int)
        exact ⟨by omega, by omega, by omega, by omega, by omega, by omega⟩
    · rw [dec_no (show ¬ b * 10000 < 0 by omega)]
      show CutP a b (sgn (P : Int) (decide ((n : Int) < 0) != false))
      rw [dec_no (show ¬ (n : Int) < 0 by omega)]
      show CutP a b (P : Int)
      exact ⟨by omega, by omega, by omega, by omega, by omega, by omega⟩

theorem cut_facts (a b : Int) (ha0 : -2147483648 ≤ a) (ha1 : a ≤ 2147483647) (hz : b ≠ 0) :
    Fx (divV (a * 10000) (b * 10000)) ∧ CutP a b (mulV (divV (a * 10000) (b * 10000)) (b * 10000)) := by
  have hB : 0 < b.natAbs := by omega
  have e1 : (a * 10000).natAbs * 10000 / (b * 10000).natAbs = a.natAbs * 10000 / b.natAbs := by
    rw [Int.natAbs_mul, Int.natAbs_mul]
    exact Nat.mul_div_mul_right _ _ (by decide)
  have e2 := Nat.div_add_mod (a.natAbs * 10000) b.natAbs
  have e3 : a.natAbs * 10000 % b.natAbs < b.natAbs := Nat.mod_lt _ hB
  have e4 : a.natAbs * 10000 / b.natAbs ≤ a.natAbs * 10000 := Nat.div_le_self _ _
  have e6 : (b * 10000).natAbs = b.natAbs * 10000 := by rw [Int.natAbs_mul]; rfl
  obtain ⟨n, hn⟩ : ∃ n, n = a.natAbs * 10000 / b.natAbs := ⟨_, rfl⟩
  obtain ⟨r, hr⟩ : ∃ r, r = a.natAbs * 10000 % b.natAbs := ⟨_, rfl⟩
  rw [← hn] at e1 e2 e4
  rw [← hr] at e2 e3
  have e7 : n * (b.natAbs * 10000) / 10000 = b.natAbs * n := by
    rw [← Nat.mul_assoc, Nat.mul_div_cancel _ (by decide), Nat.mul_comm]
  have hq : divV (a * 10000) (b * 10000) = sgn (n : Int) (decide (a * 10000 < 0) != decide (b * 10000 < 0)) := by unfold divV; rw [e1]
  rw [hq]
  constructor
  · cases (decide (a * 10000 < 0) != decide (b * 10000 < 0))
    · show Fx (n : Int)
      exact ⟨by omega, by omega⟩
    · show Fx (-(n : Int))
      exact ⟨by omega, by omega⟩
  · unfold mulV
    rw [sgn_abs, e6, e7]
    exact cut_core a b n r _ ha0 ha1 e2 e3 (fun h => by rw [h, Nat.mul_zero])

set_option maxHeartbeats 1000000 in
theorem cut_zero (a : Int) (w : World) (hw : Std w) (ha0 : -2147483648 ≤ a) (ha1 : a ≤ 2147483647) :
    Calls Tryd.prog 7 #[.int .i32 a, .int .i16 0] w fun e w' => e = .returned (.bool true) ∧ Q w w' := by
  go_enter Tryd.func7, Tryd.ntmps7
  go_wp2_with (first
    | (go_at_call 9; refine (begun_any _ hw).mono ?_; rintro e w1 ⟨rfl, q1⟩)
    | (go_at_call 16; refine (div_none a _).mono ?_; rintro e w2 ⟨rfl, q2⟩))
  go_ret
  exact ⟨rfl, q1.trans q2⟩

set_option maxHeartbeats 1000000 in
theorem cut_some (a b : Int) (w : World) (hw : Std w) (ha0 : -2147483648 ≤ a) (ha1 : a ≤ 2147483647) (hb0 : -32768 ≤ b) (hb1 : b ≤ 32767) (hz : (b == 0) = false) :
    Calls Tryd.prog 7 #[.int .i32 a, .int .i16 b] w fun e w' => e = .returned (.bool true) ∧ Q w w' := by
  have hne : b ≠ 0 := beq_eq_false_iff_ne.1 hz
  obtain ⟨fq, hp⟩ := cut_facts a b ha0 ha1 hne
  have hyz : ((b * 10000 : Int) == 0) = false := beq_eq_false_iff_ne.2 (by omega)
  have HD := hid (fun w => div_any (a * 10000) (b * 10000) w ⟨by omega, by omega⟩ ⟨by omega, by omega⟩ hyz)
  have HM := hid (fun w => mul_any (divV (a * 10000) (b * 10000)) (b * 10000) w fq ⟨by omega, by omega⟩)
  have hlo := hp.lo; have hhi := hp.hi; have hneg := hid hp.neg; have hpos := hid hp.pos; have n1 := hid hp.near; have n2 := hid hp.near'
  rw [fit_fx fq, keep_yes (fit_fx fq)] at HD
  have fp : Fx (mulV (divV (a * 10000) (b * 10000)) (b * 10000)) := ⟨by omega, by omega⟩
  rw [fit_fx fp, keep_yes (fit_fx fp)] at HM
  clear hp fp hyz hne
  generalize mulV (divV (a * 10000) (b * 10000)) (b * 10000) = p at *
  generalize divV (a * 10000) (b * 10000) = q at *
  go_enter Tryd.func7, Tryd.ntmps7
  go_wp2_with (first
    | (go_at_call 9; refine (begun_any _ hw).mono ?_; rintro e w1 ⟨rfl, q1⟩)
    | (go_at_call 16; refine (HD.out _).mono ?_; rintro e w2 ⟨rfl, q2⟩)
    | (go_at_call 14; refine (HM.out _).mono ?_; rintro e w3 ⟨rfl, q3⟩))
  all_goals
    go_ret
    refine ⟨ret_bool ?_, (q1.trans q2).trans q3⟩
    have k1 := hneg.out
    have k2 := hpos.out
    have k3 := n1.out
    have k4 := n2.out
    first | exact decide_eq_true (by omega) | (exfalso; omega)
end Go.Proofs.YtiplfalnaaeljaaDoor
