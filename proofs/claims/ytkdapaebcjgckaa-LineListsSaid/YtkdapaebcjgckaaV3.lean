/- counterpanelaw3.LineLists: the operations that are taken; the walk. -/
import Derived.Test.YtkdapaebcjgckaaV1
import Derived.Test.YtkdapaebcjgckaaV2
import Derived.Test.YtkdapaebcjgckaaX0
import Derived.Deep.CutBlock
namespace Go.Proofs.Ytkdapaebcjgckaa
open Go.RowKit
set_option linter.unusedVariables false
set_option linter.unusedSimpArgs false

/-- is it taken? -/
def fB (x : Ax.Ln) : Bool := mayB x.k x.a x.t && decide (x.a < 549755813888) && decide (x.t < 549755813888)
theorem fB_m {k a t : Int} (h : mayB k a t = false) : fB ⟨k, a, t⟩ = false := by unfold fB; simp [h]
theorem fB_a {k a t : Int} (h : ¬ a < 549755813888) : fB ⟨k, a, t⟩ = false := by unfold fB; simp [h]
theorem fB_t {k a t : Int} (h : ¬ t < 549755813888) : fB ⟨k, a, t⟩ = false := by unfold fB; simp [h]
theorem fB_y {k a t : Int} (h : mayB k a t = true) (ha : a < 549755813888) (ht : t < 549755813888) : fB ⟨k, a, t⟩ = true := by unfold fB; simp [h, ha, ht]
def FL (L : List Ax.Ln) (n : Nat) : List Ax.Ln := (L.take n).filter fB
def M (L : List Ax.Ln) : Nat := min L.length 6
theorem M_le (L : List Ax.Ln) : M L ≤ L.length ∧ M L ≤ 6 := by unfold M; omega
theorem M_lo {L : List Ax.Ln} (h : L.length ≤ 6) : M L = L.length := by unfold M; omega
theorem M_hi {L : List Ax.Ln} (h : ¬ L.length ≤ 6) : M L = 6 ∧ 6 < L.length := by unfold M; omega
theorem FL_zero (L : List Ax.Ln) : FL L 0 = [] := by unfold FL; simp
theorem FL_succ (L : List Ax.Ln) (n : Nat) (h : n < L.length) : FL L (n + 1) = if fB L[n] = true then FL L n ++ [L[n]] else FL L n := by
  unfold FL
  rw [List.take_succ_eq_append_getElem h, List.filter_append]
  cases hb : fB L[n] <;> simp [List.filter_cons, hb]
theorem FL_len (L : List Ax.Ln) (n : Nat) : (FL L n).length ≤ n := by
  unfold FL
  have := List.length_filter_le fB (L.take n)
  have h2 := List.length_take_le n L
  omega
theorem FL_fm (L : List Ax.Ln) (n : Nat) : ∀ x ∈ FL L n, Fm 549755813888 x := by
  intro x hx
  unfold FL at hx
  have h := (List.mem_filter.1 hx).2
  unfold fB at h
  simp only [Bool.and_eq_true, decide_eq_true_eq] at h
  exact ⟨h.1.1, by have := h.1.2; omega, by have := h.2; omega⟩

set_option maxRecDepth 100000 in
set_option maxHeartbeats 8000000 in
theorem lists_walk (va vb : Value) (A B : List Ax.Ln) (w : World) (ha : Sl w va A) (hb : Sl w vb B) (hA : A.length ≤ 9223372036854775807) (hB : B.length ≤ 9223372036854775807) :
    Calls Try.prog 7 #[va, vb] w fun e w' => e = .returned (.bool true) ∧ Q w w' := by
  obtain ⟨i0, hi, hz⟩ := Option.map_eq_some_iff.1 info23
  simp only [Prod.mk.injEq] at hz
  obtain ⟨hz0, hz1, hz2⟩ := hz
  have HI := hid hi
  have HZ := hid (And.intro hz0 (And.intro hz1 hz2))
  have HA := hid ha
  have HB := hid hb
  clear hi hz0 hz1 hz2 ha hb
  go_enter Try.func7, Try.ntmps7
  go_upto_block 0 with (go_at_call 9; refine (begun_any _).mono ?_; rintro e w1 ⟨rfl, q1⟩)
  have Q1 := hid q1
  replace HA := hid (HA.out.on q1)
  replace HB := hid (HB.out.on q1)
  clear q1
  go_cut [6, 8] from 18 to 55 (fun v s W => W.ownsRow w1.heap.size 23 3 v (FL A (M A)).length (flat (FL A (M A))) ∧ Q w1 W)
  case first =>
    go_wp2_with fail
    go_loopw [6, 8] (fun v s W => ∃ n : Nat, n ≤ M A ∧ s = .int .i64 n ∧ W.ownsRow w1.heap.size 23 3 v (FL A n).length (flat (FL A n)) ∧ Q w1 W) (fun _ s _ => M A - (intOf s).toNat)
    case atStart => exact ⟨0, Nat.zero_le _, rfl, by rw [FL_zero]; exact World.ownsRow_nil _ _ _ _, Q.refl _⟩
    case round =>
      obtain ⟨n, hn, rfl, hown, hq⟩ := hrel
      have HOW := hid hown
      have HQ := hid hq
      clear hown hq
      by_cases hlt : n < M A
      · have hl1 : (n : Int) < (A.length : Int) := by have := M_le A; omega
        have hl6 : (n : Int) < 6 := by have := M_le A; omega
        have hnl : n < A.length := by omega
        obtain ⟨g, off, cap, rfl, hc⟩ := (HA.out.on HQ.out).at hnl
        have hFL := hid (FL_succ A n hnl)
        have hlen := FL_len A n
        generalize A[n] = x at *
        obtain ⟨xk, xa, xt⟩ := x
        have zg := hc.lt
        obtain ⟨c0, c1, c2⟩ := hc
        simp only at c0 c1 c2
        cases hm : mayB xk xa xt
        · rw [fB_m hm] at hFL
          go_wp2_with (go_at_call 11; refine (rmay_any _ _ _ _).mono ?_; rintro r w4 ⟨rfl, rfl⟩)
          go_roundw
          case rel => exact ⟨n + 1, by omega, by go_num, by rw [hFL.out]; exact HOW.out.alloc _, HQ.out.alloc _⟩
          case measure => simp [intOf]; omega
        · by_cases ha : xa < 549755813888
          · by_cases ht : xt < 549755813888
            · rw [fB_y hm ha ht] at hFL
              go_wp2_with (first | (go_at_call 11; refine (rmay_any _ _ _ _).mono ?_; rintro r w4 ⟨rfl, rfl⟩) | (at_builtin; refine wpList_append_own _ rfl _ _ 35 rfl w1.heap.size 23 i0 (.agg #[.int .i64 0, .int .i64 0, .int .i64 0]) 3 24 Try.underlying35 HI.out HZ.out.1 HZ.out.2.1 HZ.out.2.2 rfl (by decide) _ _ _ rfl ((HOW.out.alloc _).alloc _) ⟨wr.heap.size + 1, 0, none⟩ 1 1 [.int .i64 xk, .int .i64 xa, .int .i64 xt] rfl rfl ?c1 ?c2 ?c3 ?c4 ?c5 ?_))
              case c1 =>
                intro j u hj
                match j, hj with
                | 0, hj => simp at hj; subst hj; simp [Addr.add]
                | 1, hj => simp at hj; subst hj; simp [Addr.add]
                | 2, hj => simp at hj; subst hj; simp [Addr.add]
                | j + 3, hj => simp at hj
              case c2 =>
                intro u hu
                simp at hu
                rcases hu with rfl | rfl | rfl <;> rfl
              case c3 => unfold maxLen; omega
              case c4 => omega
              case c5 => have := HQ.out.size; simp; omega
              · intro v5 w5 hown5 hgrow5 _
                have HO5 : Hid (w5.ownsRow w1.heap.size 23 3 v5 (FL A (n + 1)).length (flat (FL A (n + 1)))) := by
                  show World.ownsRow _ _ _ _ _ _ _
                  rw [hFL.out]
                  simp only [if_true]
                  rw [flat_snoc, List.length_append]
                  exact hown5
                have HQ5 : Hid (Q w1 w5) := Below.grown ((HQ.out.alloc _).alloc _) hgrow5 (by have := HQ.out.size; simp; omega) (own_blk HOW.out)
                clear hown5 hgrow5 c0 c1 c2
                go_wp2
                go_roundw
                case rel => exact ⟨n + 1, by omega, by go_num, HO5.out, HQ5.out⟩
                case measure => simp [intOf]; omega
            · rw [fB_t ht] at hFL
              go_wp2_with (go_at_call 11; refine (rmay_any _ _ _ _).mono ?_; rintro r w4 ⟨rfl, rfl⟩)
              go_roundw
              case rel => exact ⟨n + 1, by omega, by go_num, by rw [hFL.out]; exact HOW.out.alloc _, HQ.out.alloc _⟩
              case measure => simp [intOf]; omega
          · rw [fB_a ha] at hFL
            go_wp2_with (go_at_call 11; refine (rmay_any _ _ _ _).mono ?_; rintro r w4 ⟨rfl, rfl⟩)
            go_roundw
            case rel => exact ⟨n + 1, by omega, by go_num, by rw [hFL.out]; exact HOW.out.alloc _, HQ.out.alloc _⟩
            case measure => simp [intOf]; omega
      · obtain rfl : n = M A := by omega
        obtain ⟨ao, cap, rfl⟩ := HA.out.len
        by_cases h6 : A.length ≤ 6
        · have hl1 : ¬ ((M A : Nat) : Int) < (A.length : Int) := by have := M_lo h6; omega
          go_wp2
          go_meet
          exact ⟨HOW.out, HQ.out⟩
        · have hl1 : ((M A : Nat) : Int) < (A.length : Int) := by have := M_hi h6; omega
          have hl6 : ¬ ((M A : Nat) : Int) < 6 := by have := M_hi h6; omega
          go_wp2
          go_meet
          exact ⟨HOW.out, HQ.out⟩
  case rest =>
    obtain ⟨ox, qx⟩ := hcut
    obtain ⟨w2, rfl⟩ : ∃ w2, w2 = wc := ⟨wc, rfl⟩
    have OX := hid ox
    have Q2 := hid (Q1.out.trans qx)
    replace HB := hid (HB.out.on qx)
    clear ox qx Q1 HA
    go_upto_block 2 with fail
    go_cut [7, 9] from 56 to 93 (fun v s W => W.ownsRow w2.heap.size 23 3 v (FL B (M B)).length (flat (FL B (M B))) ∧ Q w2 W)
    case first =>
      go_wp2_with fail
      go_loopw [7, 9] (fun v s W => ∃ n : Nat, n ≤ M B ∧ s = .int .i64 n ∧ W.ownsRow w2.heap.size 23 3 v (FL B n).length (flat (FL B n)) ∧ Q w2 W) (fun _ s _ => M B - (intOf s).toNat)
      case atStart => exact ⟨0, Nat.zero_le _, rfl, by rw [FL_zero]; exact World.ownsRow_nil _ _ _ _, Q.refl _⟩
      case round =>
        obtain ⟨n, hn, rfl, hown, hq⟩ := hrel
        have HOW := hid hown
        have HQ := hid hq
        clear hown hq
        by_cases hlt : n < M B
        · have hl1 : (n : Int) < (B.length : Int) := by have := M_le B; omega
          have hl6 : (n : Int) < 6 := by have := M_le B; omega
          have hnl : n < B.length := by omega
          obtain ⟨g, off, cap, rfl, hc⟩ := (HB.out.on HQ.out).at hnl
          have hFL := hid (FL_succ B n hnl)
          have hlen := FL_len B n
          generalize B[n] = x at *
          obtain ⟨xk, xa, xt⟩ := x
          have zg := hc.lt
          obtain ⟨c0, c1, c2⟩ := hc
          simp only at c0 c1 c2
          cases hm : mayB xk xa xt
          · rw [fB_m hm] at hFL
            go_wp2_with (go_at_call 11; refine (rmay_any _ _ _ _).mono ?_; rintro r w4 ⟨rfl, rfl⟩)
            go_roundw
            case rel => exact ⟨n + 1, by omega, by go_num, by rw [hFL.out]; exact HOW.out.alloc _, HQ.out.alloc _⟩
            case measure => simp [intOf]; omega
          · by_cases ha : xa < 549755813888
            · by_cases ht : xt < 549755813888
              · rw [fB_y hm ha ht] at hFL
                go_wp2_with (first | (go_at_call 11; refine (rmay_any _ _ _ _).mono ?_; rintro r w4 ⟨rfl, rfl⟩) | (at_builtin; refine wpList_append_own _ rfl _ _ 35 rfl w2.heap.size 23 i0 (.agg #[.int .i64 0, .int .i64 0, .int .i64 0]) 3 24 Try.underlying35 HI.out HZ.out.1 HZ.out.2.1 HZ.out.2.2 rfl (by decide) _ _ _ rfl ((HOW.out.alloc _).alloc _) ⟨wr.heap.size + 1, 0, none⟩ 1 1 [.int .i64 xk, .int .i64 xa, .int .i64 xt] rfl rfl ?d1 ?d2 ?d3 ?d4 ?d5 ?_))
                case d1 =>
                  intro j u hj
                  match j, hj with
                  | 0, hj => simp at hj; subst hj; simp [Addr.add]
                  | 1, hj => simp at hj; subst hj; simp [Addr.add]
                  | 2, hj => simp at hj; subst hj; simp [Addr.add]
                  | j + 3, hj => simp at hj
                case d2 =>
                  intro u hu
                  simp at hu
                  rcases hu with rfl | rfl | rfl <;> rfl
                case d3 => unfold maxLen; omega
                case d4 => omega
                case d5 => have := HQ.out.size; simp; omega
                · intro v5 w5 hown5 hgrow5 _
                  have HO5 : Hid (w5.ownsRow w2.heap.size 23 3 v5 (FL B (n + 1)).length (flat (FL B (n + 1)))) := by
                    show World.ownsRow _ _ _ _ _ _ _
                    rw [hFL.out]
                    simp only [if_true]
                    rw [flat_snoc, List.length_append]
                    exact hown5
                  have HQ5 : Hid (Q w2 w5) := Below.grown ((HQ.out.alloc _).alloc _) hgrow5 (by have := HQ.out.size; simp; omega) (own_blk HOW.out)
                  clear hown5 hgrow5 c0 c1 c2
                  go_wp2
                  go_roundw
                  case rel => exact ⟨n + 1, by omega, by go_num, HO5.out, HQ5.out⟩
                  case measure => simp [intOf]; omega
              · rw [fB_t ht] at hFL
                go_wp2_with (go_at_call 11; refine (rmay_any _ _ _ _).mono ?_; rintro r w4 ⟨rfl, rfl⟩)
                go_roundw
                case rel => exact ⟨n + 1, by omega, by go_num, by rw [hFL.out]; exact HOW.out.alloc _, HQ.out.alloc _⟩
                case measure => simp [intOf]; omega
            · rw [fB_a ha] at hFL
              go_wp2_with (go_at_call 11; refine (rmay_any _ _ _ _).mono ?_; rintro r w4 ⟨rfl, rfl⟩)
              go_roundw
              case rel => exact ⟨n + 1, by omega, by go_num, by rw [hFL.out]; exact HOW.out.alloc _, HQ.out.alloc _⟩
              case measure => simp [intOf]; omega
        · obtain rfl : n = M B := by omega
          obtain ⟨ao, cap, rfl⟩ := HB.out.len
          by_cases h6 : B.length ≤ 6
          · have hl1 : ¬ ((M B : Nat) : Int) < (B.length : Int) := by have := M_lo h6; omega
            go_wp2
            go_meet
            exact ⟨HOW.out, HQ.out⟩
          · have hl1 : ((M B : Nat) : Int) < (B.length : Int) := by have := M_hi h6; omega
            have hl6 : ¬ ((M B : Nat) : Int) < 6 := by have := M_hi h6; omega
            go_wp2
            go_meet
            exact ⟨HOW.out, HQ.out⟩
    case rest =>
      obtain ⟨oy, qy⟩ := hcut
      obtain ⟨w3, rfl⟩ : ∃ w3, w3 = wc := ⟨wc, rfl⟩
      have Q3 := hid (Q2.out.trans qy)
      have HX := hid (sl_own (own_on OX.out qy))
      have HY := hid (sl_own oy)
      have lX : (FL A (M A)).length ≤ 6 := by have := FL_len A (M A); have := M_le A; omega
      have lY : (FL B (M B)).length ≤ 6 := by have := FL_len B (M B); have := M_le B; omega
      have HMEET := hid (fun (n : Int) (h : n ≤ 30) => lists_meet (FL_fm A (M A)) (FL_fm B (M B)) lX lY n h)
      clear oy qy OX Q2 HB
      generalize FL A (M A) = X at *
      generalize FL B (M B) = Y at *
      go_wp2_with (go_at_call 17; refine (lists_any u6 u7 _ _ _ HX.out HY.out lX lY).mono ?_; rintro e w4 ⟨v1, v2, rfl, s1, s2, q4⟩)
      have Q4 := hid (Q3.out.trans q4)
      have lP := (HMEET.out 0 (by decide)).2.1
      have lR := (HMEET.out 0 (by decide)).2.2
      have HC1 := hid (fun (n : Int) W (q : Q w4 W) => along_any u6 X n W ((HX.out.on q4).on q) (by omega))
      have HC2 := hid (fun (n : Int) W (q : Q w4 W) => along_any u7 Y n W ((HY.out.on q4).on q) (by omega))
      have HC3 := hid (fun (n : Int) W (q : Q w4 W) => along_any v2 _ n W (s2.on q) (by omega))
      have HC4 := hid (fun (n : Int) W (q : Q w4 W) => along_any v1 _ n W (s1.on q) (by omega))
      clear HX HY s1 s2 q4 Q3 lX lY lP lR
      generalize (listsX X Y).1 = PP at *
      generalize (listsX X Y).2 = RR at *
      go_loopw [12] (fun s W => ∃ n : Nat, n ≤ 30 ∧ s = .int .i64 n ∧ Q w4 W) (fun s _ => 30 - (intOf s).toNat)
      case atStart => exact ⟨0, Nat.zero_le _, rfl, Q.refl _⟩
      case round =>
        obtain ⟨n, hn, rfl, hq⟩ := hrel
        have HQ := hid hq
        clear hq
        by_cases hlt : n < 30
        · have hlt' : (n : Int) < 30 := by omega
          have hmt := (HMEET.out n (by omega)).1
          have H1 := hid (HC1.out n)
          have H2 := hid (HC2.out n)
          generalize alongX X n = K at *
          generalize alongX Y n = J at *
          have H3 := hid (HC3.out K)
          have H4 := hid (HC4.out J)
          by_cases hK : 0 ≤ K
          · by_cases hJ : 0 ≤ J
            · rw [hmt] at H3
              generalize alongX PP J = Z at *
              clear hmt
              go_wp2_with (first | (go_at_call_of 18 u6; refine (H1.out _ HQ.out).mono ?_; rintro e w5 ⟨rfl, q5⟩; replace HQ := hid (HQ.out.trans q5); clear q5) | (go_at_call_of 18 u7; refine (H2.out _ HQ.out).mono ?_; rintro e w6 ⟨rfl, q5⟩; replace HQ := hid (HQ.out.trans q5); clear q5) | (go_at_call_of 18 v2; refine (H3.out _ HQ.out).mono ?_; rintro e w7 ⟨rfl, q5⟩; replace HQ := hid (HQ.out.trans q5); clear q5) | (go_at_call_of 18 v1; refine (H4.out _ HQ.out).mono ?_; rintro e w8 ⟨rfl, q5⟩; replace HQ := hid (HQ.out.trans q5); clear q5))
              go_roundw
              case rel => exact ⟨n + 1, by omega, by go_num, HQ.out⟩
              case measure => simp [intOf]; omega
            · rw [hmt, alongX_neg _ (by omega)] at H3
              clear hmt
              go_wp2_with (first | (go_at_call_of 18 u6; refine (H1.out _ HQ.out).mono ?_; rintro e w5 ⟨rfl, q5⟩; replace HQ := hid (HQ.out.trans q5); clear q5) | (go_at_call_of 18 u7; refine (H2.out _ HQ.out).mono ?_; rintro e w6 ⟨rfl, q5⟩; replace HQ := hid (HQ.out.trans q5); clear q5) | (go_at_call_of 18 v2; refine (H3.out _ HQ.out).mono ?_; rintro e w7 ⟨rfl, q5⟩; replace HQ := hid (HQ.out.trans q5); clear q5))
              go_roundw
              case rel => exact ⟨n + 1, by omega, by go_num, HQ.out⟩
              case measure => simp [intOf]; omega
          · by_cases hJ : 0 ≤ J
            · rw [← hmt, alongX_neg _ (by omega)] at H4
              clear hmt
              go_wp2_with (first | (go_at_call_of 18 u6; refine (H1.out _ HQ.out).mono ?_; rintro e w5 ⟨rfl, q5⟩; replace HQ := hid (HQ.out.trans q5); clear q5) | (go_at_call_of 18 u7; refine (H2.out _ HQ.out).mono ?_; rintro e w6 ⟨rfl, q5⟩; replace HQ := hid (HQ.out.trans q5); clear q5) | (go_at_call_of 18 v1; refine (H4.out _ HQ.out).mono ?_; rintro e w8 ⟨rfl, q5⟩; replace HQ := hid (HQ.out.trans q5); clear q5))
              go_roundw
              case rel => exact ⟨n + 1, by omega, by go_num, HQ.out⟩
              case measure => simp [intOf]; omega
            · rw [alongX_neg _ (by omega), alongX_neg _ (by omega)] at hmt
              subst hmt
              go_wp2_with (first | (go_at_call_of 18 u6; refine (H1.out _ HQ.out).mono ?_; rintro e w5 ⟨rfl, q5⟩; replace HQ := hid (HQ.out.trans q5); clear q5) | (go_at_call_of 18 u7; refine (H2.out _ HQ.out).mono ?_; rintro e w6 ⟨rfl, q5⟩; replace HQ := hid (HQ.out.trans q5); clear q5))
              go_roundw
              case rel => exact ⟨n + 1, by omega, by go_num, HQ.out⟩
              case measure => simp [intOf]; omega
        · have hlt' : ¬ (n : Int) < 30 := by omega
          go_wp2
          go_ret
          exact ⟨rfl, Q4.out.trans HQ.out⟩
end Go.Proofs.Ytkdapaebcjgckaa
