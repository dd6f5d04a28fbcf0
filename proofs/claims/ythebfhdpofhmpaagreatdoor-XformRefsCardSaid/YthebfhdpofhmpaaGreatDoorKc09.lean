/- parse.sameNode, walked. -/
import Derived.Test.YthebfhdpofhmpaaGreatDoorKc05
import Derived.Test.YthebfhdpofhmpaaGreatDoorKc00
set_option linter.unusedVariables false
set_option linter.unusedSimpArgs false
set_option maxRecDepth 100000
set_option maxHeartbeats 8000000
namespace Go.Proofs.YthebfhdpofhmpaaGreatDoor
open Go.RowKit
def sameB : Ex → Ex → Bool
  | .mk k n t b e rs ks, .mk k2 n2 t2 b2 e2 rs2 ks2 => decide (k = k2 ∧ n = n2 ∧ t = t2 ∧ b = b2 ∧ e = e2 ∧ rs = rs2 ∧ ks.length = ks2.length)
theorem sameB_iff (x y : Ex) : sameB x y = true ↔ hd x = hd y ∧ (kd x).length = (kd y).length := by
  cases x with
  | mk k n t b e rs ks =>
    cases y with
    | mk k' n' t' b' e' rs' ks' =>
      simp only [sameB, hd, kd, decide_eq_true_eq, Prod.mk.injEq]
      constructor
      · rintro ⟨h1, h2, h3, h4, h5, h6, h7⟩
        exact ⟨⟨h1, h2, h3, h4, h5, h6⟩, h7⟩
      · rintro ⟨⟨h1, h2, h3, h4, h5, h6⟩, h7⟩
        exact ⟨h1, h2, h3, h4, h5, h6, h7⟩
set_option maxHeartbeats 16000000 in
theorem same_q (x y : Ex) (b off b' off' : Nat) (c0 c1 c2 c3 c4 c5 c6 d0 d1 d2 d3 d4 d5 d6 : Value) (W : World) (hx : Kid W x b off c0 c1 c2 c3 c4 c5 c6) (hy : Kid W y b' off' d0 d1 d2 d3 d4 d5 d6) :
    Calls Tryz.prog 70 #[.pointer (some ⟨b, off, none⟩), .pointer (some ⟨b', off', none⟩)] W fun e W' => e = .returned (.bool (sameB x y)) ∧ ∃ m, W' = W.drewN m := by
  obtain ⟨g0, g1, g2, g3, g4, g5, g6, rx⟩ := hx
  obtain ⟨h0, h1, h2, h3, h4, h5, h6, ry⟩ := hy
  obtain ⟨k, n, t, bb, e, rs, ks, rv, kv, ao, cap, hv, px⟩ := rx.prt
  obtain ⟨k2, n2, t2, bb2, e2, rs2, ks2, rv2, kv2, ao2, cap2, hv2, py⟩ := ry.prt
  simp only [Value.agg.injEq, Array.mk.injEq, List.cons.injEq, and_true] at hv hv2
  obtain ⟨rfl, rfl, rfl, rfl, rfl, rfl, rfl⟩ := hv
  obtain ⟨rfl, rfl, rfl, rfl, rfl, rfl, rfl⟩ := hv2
  obtain rfl := px.kl
  obtain rfl := py.kl
  rw [px.ex, py.ex]
  unfold sameB
  have HC := hid (fun n => eqrf_any_q c5 d5 rs rs2 (W.drewN n) (px.rl.on ((Q.refl _).drewN n)) (py.rl.on ((Q.refl _).drewN n)))
  simp only [eqRf_dec] at HC
  obtain ⟨a5, p5, e5, _⟩ := px.rl
  obtain ⟨a52, p52, e52, _⟩ := py.rl
  subst e5 e52
  clear px py rx ry
  go_enter Tryz.func70, Tryz.ntmps70
  go_wp2_with fail
  refine wp_region_quiet_lit (by kernel_rfl) (by kernel_rfl) ?_
  dsimp only [List.append]
  by_cases q0 : k = k2
  · have f0 : (k == k2) = true := by rw [q0]; simp
    by_cases q1 : n = n2
    · have f1 : (n == n2) = true := by rw [q1]; simp
      by_cases q2 : t.data.toList = t2.data.toList
      · have f2 : (t.toList == t2.toList) = true := by rw [toL', toL']; rw [q2]; simp
        by_cases q3 : bb = bb2
        · have f3 : (bb == bb2) = true := by rw [q3]; simp
          by_cases q4 : e = e2
          · have f4 : (e == e2) = true := by rw [q4]; simp
            by_cases q5 : rs = rs2
            · have f5 : decide (rs = rs2) = true := decide_eq_true q5; rw [f5] at HC
              by_cases q6 : ks.length = ks2.length
              · have f6 : ((ks.length : Int) == (ks2.length : Int)) = true := by rw [q6]; simp
                have HR := hid (decide_eq_true (p := k = k2 ∧ n = n2 ∧ t.data.toList = t2.data.toList ∧ bb = bb2 ∧ e = e2 ∧ rs = rs2 ∧ ks.length = ks2.length) ⟨q0, q1, q2, q3, q4, q5, q6⟩)
                clear q0 q1 q2 q3 q4 q5 q6
                repeat (go_big_quiet_step (first | (go_at_call 95; refine Calls.quiet_of (HC.out _)) | (refine Calls.quiet_of (HC.out _))))
                refine wpQuiet_nil ?_
                intro _ hw'
                obtain ⟨nq, hw''⟩ := hw'
                subst hw''
                go_wp2_with fail
                go_ret
                exact ⟨ret_bool HR.out.symm, _, rfl⟩
              · have f6 : ((ks.length : Int) == (ks2.length : Int)) = false := by rw [beq_eq_false_iff_ne]; omega
                have HR := hid (decide_eq_false (p := k = k2 ∧ n = n2 ∧ t.data.toList = t2.data.toList ∧ bb = bb2 ∧ e = e2 ∧ rs = rs2 ∧ ks.length = ks2.length) (fun hh => q6 hh.2.2.2.2.2.2))
                clear q0 q1 q2 q3 q4 q5 q6
                repeat (go_big_quiet_step (first | (go_at_call 95; refine Calls.quiet_of (HC.out _)) | (refine Calls.quiet_of (HC.out _))))
                refine wpQuiet_nil ?_
                intro _ hw'
                obtain ⟨nq, hw''⟩ := hw'
                subst hw''
                go_wp2_with fail
                go_ret
                exact ⟨ret_bool HR.out.symm, _, rfl⟩
            · have f5 : decide (rs = rs2) = false := decide_eq_false q5; rw [f5] at HC
              have HR := hid (decide_eq_false (p := k = k2 ∧ n = n2 ∧ t.data.toList = t2.data.toList ∧ bb = bb2 ∧ e = e2 ∧ rs = rs2 ∧ ks.length = ks2.length) (fun hh => q5 hh.2.2.2.2.2.1))
              clear q0 q1 q2 q3 q4 q5
              repeat (go_big_quiet_step (first | (go_at_call 95; refine Calls.quiet_of (HC.out _)) | (refine Calls.quiet_of (HC.out _))))
              refine wpQuiet_nil ?_
              intro _ hw'
              obtain ⟨nq, hw''⟩ := hw'
              subst hw''
              go_wp2_with fail
              go_ret
              exact ⟨ret_bool HR.out.symm, _, rfl⟩
          · have f4 : (e == e2) = false := by rw [beq_eq_false_iff_ne]; exact q4
            have HR := hid (decide_eq_false (p := k = k2 ∧ n = n2 ∧ t.data.toList = t2.data.toList ∧ bb = bb2 ∧ e = e2 ∧ rs = rs2 ∧ ks.length = ks2.length) (fun hh => q4 hh.2.2.2.2.1))
            clear q0 q1 q2 q3 q4
            repeat (go_big_quiet_step (fail))
            refine wpQuiet_nil ?_
            intro _ hw'
            obtain ⟨nq, hw''⟩ := hw'
            subst hw''
            go_wp2_with fail
            go_ret
            exact ⟨ret_bool HR.out.symm, _, rfl⟩
        · have f3 : (bb == bb2) = false := by rw [beq_eq_false_iff_ne]; exact q3
          have HR := hid (decide_eq_false (p := k = k2 ∧ n = n2 ∧ t.data.toList = t2.data.toList ∧ bb = bb2 ∧ e = e2 ∧ rs = rs2 ∧ ks.length = ks2.length) (fun hh => q3 hh.2.2.2.1))
          clear q0 q1 q2 q3
          repeat (go_big_quiet_step (fail))
          refine wpQuiet_nil ?_
          intro _ hw'
          obtain ⟨nq, hw''⟩ := hw'
          subst hw''
          go_wp2_with fail
          go_ret
          exact ⟨ret_bool HR.out.symm, _, rfl⟩
      · have f2 : (t.toList == t2.toList) = false := by rw [toL', toL']; rw [beq_eq_false_iff_ne]; exact q2
        have HR := hid (decide_eq_false (p := k = k2 ∧ n = n2 ∧ t.data.toList = t2.data.toList ∧ bb = bb2 ∧ e = e2 ∧ rs = rs2 ∧ ks.length = ks2.length) (fun hh => q2 hh.2.2.1))
        clear q0 q1 q2
        repeat (go_big_quiet_step (fail))
        refine wpQuiet_nil ?_
        intro _ hw'
        obtain ⟨nq, hw''⟩ := hw'
        subst hw''
        go_wp2_with fail
        go_ret
        exact ⟨ret_bool HR.out.symm, _, rfl⟩
    · have f1 : (n == n2) = false := by rw [beq_eq_false_iff_ne]; exact q1
      have HR := hid (decide_eq_false (p := k = k2 ∧ n = n2 ∧ t.data.toList = t2.data.toList ∧ bb = bb2 ∧ e = e2 ∧ rs = rs2 ∧ ks.length = ks2.length) (fun hh => q1 hh.2.1))
      clear q0 q1
      repeat (go_big_quiet_step (fail))
      refine wpQuiet_nil ?_
      intro _ hw'
      obtain ⟨nq, hw''⟩ := hw'
      subst hw''
      go_wp2_with fail
      go_ret
      exact ⟨ret_bool HR.out.symm, _, rfl⟩
  · have f0 : (k == k2) = false := by rw [beq_eq_false_iff_ne]; exact q0
    have HR := hid (decide_eq_false (p := k = k2 ∧ n = n2 ∧ t.data.toList = t2.data.toList ∧ bb = bb2 ∧ e = e2 ∧ rs = rs2 ∧ ks.length = ks2.length) (fun hh => q0 hh.1))
    clear q0
    repeat (go_big_quiet_step (fail))
    refine wpQuiet_nil ?_
    intro _ hw'
    obtain ⟨nq, hw''⟩ := hw'
    subst hw''
    go_wp2_with fail
    go_ret
    exact ⟨ret_bool HR.out.symm, _, rfl⟩
end Go.Proofs.YthebfhdpofhmpaaGreatDoor
