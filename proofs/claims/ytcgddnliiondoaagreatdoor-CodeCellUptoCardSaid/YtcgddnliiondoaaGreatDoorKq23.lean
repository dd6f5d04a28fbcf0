/- counterpaneref5.may, walked: nodes with kids. -/
import Derived.Test.YtcgddnliiondoaaGreatDoorKq21
import Derived.Test.YtcgddnliiondoaaGreatDoorKq05
set_option linter.unusedVariables false
set_option linter.unusedSimpArgs false
set_option maxRecDepth 100000
set_option maxHeartbeats 8000000
namespace Go.Proofs.YtcgddnliiondoaaGreatDoor
open Go.RowKit
set_option maxHeartbeats 4000000 in
theorem ltr_any (s : ByteArray) (w : World) (hs : s.size ≤ 4000000000) : Calls Tryz.prog 91 #[.string s] w fun e w' => e = .returned (.bool (decide (0 < s.data.toList.length) && allL s.data.toList)) ∧ w' = w := by
  by_cases h : 0 < s.size
  · have h1 : 0 < s.data.toList.length := by rw [len_data]; exact h
    rw [decide_eq_true h1, Bool.true_and]
    exact letters_any s w h hs
  · have h0 : s.size = 0 := by omega
    have h1 : ¬ 0 < s.data.toList.length := by rw [len_data]; omega
    rw [decide_eq_false h1, Bool.false_and]
    have e : s = ⟨#[]⟩ := by
      have : s.data.toList = [] := List.eq_nil_of_length_eq_zero (by rw [len_data]; exact h0)
      exact bytes_eq this
    subst e
    clear h h0 h1
    go_enter Tryz.func91, Tryz.ntmps91
    go_wp2_with fail
    refine wp_loop_rounds 1 ?_
    rw [rounds_succ]
    go_wp2_with fail
    go_ret
    exact ⟨rfl, rfl⟩
theorem rmL_take (ks : List Ex) (d i : Nat) (h : i < ks.length) (hb : rm ks[i] d = false) : rm.rmL ks d = false := by
  rw [rmL_all, Bool.eq_false_iff]
  intro e
  rw [List.all_eq_true] at e
  have := e ks[i] (List.getElem_mem h)
  rw [hb] at this
  cases this
theorem rmL_yes (ks : List Ex) (d : Nat) (h : ∀ i (hi : i < ks.length), rm ks[i] d = true) : rm.rmL ks d = true := by
  rw [rmL_all, List.all_eq_true]
  intro x hx
  obtain ⟨i, hi, e⟩ := List.getElem_of_mem hx
  rw [← e]
  exact h i hi
theorem nam_no {t : List UInt8} (h : (decide (0 < t.length) && allL t) = false ∨ 20 < t.length ∨ t = truW ∨ t = flsW) : namF t = false := by
  unfold namF
  rcases h with h | h | h | h
  · unfold allL at h
    cases h1 : decide (0 < t.length)
    · rfl
    · rw [h1, Bool.true_and] at h
      rw [h, Bool.and_false, Bool.and_false, Bool.true_and]
  · rw [decide_eq_false (by omega : ¬ t.length ≤ 20)]
    simp
  · rw [decide_eq_false (fun g : ¬ (t = truW ∨ t = flsW) => g (.inl h))]
    simp
  · rw [decide_eq_false (fun g : ¬ (t = truW ∨ t = flsW) => g (.inr h))]
    simp
theorem nam_yes {t : List UInt8} (h1 : (decide (0 < t.length) && allL t) = true) (h2 : ¬ 20 < t.length) (h3 : ¬ t = truW) (h4 : ¬ t = flsW) : namF t = true := by
  unfold namF
  unfold allL at h1
  rw [Bool.and_eq_true] at h1
  rw [h1.1, h1.2, decide_eq_true (by omega : t.length ≤ 20), decide_eq_true (show ¬ (t = truW ∨ t = flsW) from fun g => g.elim h3 h4)]
  rfl
set_option maxHeartbeats 8000000 in
theorem rn_7 (n : Int) (t : ByteArray) (b : Bool) (e : Int) (a1 : Option Addr) (l1 c1 : Nat) (a2 : Option Addr) (l2 c2 : Nat) (W : World) (d : Nat) (ks : List Ex) (hlen : Hid (ks.length = l2)) (hcap : l2 ≤ 9223372036854775807)
    (HKid : Hid (∀ i (hi : i < ks.length) V, Q W V → ∃ b' off c0 c1 c2 c3 c4 c5 c6, a2 = some ⟨b', off, none⟩ ∧ Kid V ks[i] b' (off + i * 7) c0 c1 c2 c3 c4 c5 c6))
    (IH : Hid (∀ i (hi : i < ks.length) v V, Rd V ks[i] v → Calls Tryz.prog 58 #[v, .int .i64 ((d : Int) + 1)] V fun e W' => e = .returned (.bool (rm ks[i] (d + 1))) ∧ Q V W')) :
    Calls Tryz.prog 58 #[.agg #[.int .i64 7, .int .i64 n, .string t, .bool b, .int .i64 e, .slice a1 l1 c1, .slice a2 l2 c2], .int .i64 (d : Int)] W fun e' W' => e' = .returned (.bool (decide (d ≤ 50) && (((decide (l2 = 1)) && bareB n t.data.toList b e l1 0) && rm.rmL ks (d + 1)))) ∧ Q W W' := by
  by_cases q_d : 50 < d
  · skip
    have s_d : (50 : Int) < (d : Int) := by omega
    have HR : Hid ((decide (d ≤ 50) && (((decide (l2 = 1)) && bareB n t.data.toList b e l1 0) && rm.rmL ks (d + 1))) = false) := by show _ = _; rw [decide_eq_false (by omega), Bool.false_and]
    generalize (decide (d ≤ 50) && (((decide (l2 = 1)) && bareB n t.data.toList b e l1 0) && rm.rmL ks (d + 1))) = rr at HR ⊢
    go_enter Tryz.func58, Tryz.ntmps58
    go_wp2_with fail
    go_ret
    exact ⟨ret_bool HR.out.symm, (Q.refl _).alloc _⟩
  · skip
    have s_d : ¬ (50 : Int) < (d : Int) := by omega
    by_cases q_n0 : n ≠ 0
    · skip
      have s_n : (n == 0) = false := by rw [beq_eq_false_iff_ne]; exact q_n0
      have HR : Hid ((decide (d ≤ 50) && (((decide (l2 = 1)) && bareB n t.data.toList b e l1 0) && rm.rmL ks (d + 1))) = false) := by show _ = _; rw [show bareB n t.data.toList b e l1 0 = false from decide_eq_false (fun h => q_n0 h.1), Bool.and_false, Bool.false_and, Bool.and_false]
      generalize (decide (d ≤ 50) && (((decide (l2 = 1)) && bareB n t.data.toList b e l1 0) && rm.rmL ks (d + 1))) = rr at HR ⊢
      go_enter Tryz.func58, Tryz.ntmps58
      go_wp2_with fail
      go_ret
      exact ⟨ret_bool HR.out.symm, (Q.refl _).alloc _⟩
    · skip
      obtain rfl : n = 0 := Classical.not_not.1 q_n0
      by_cases q_b : b = true
      · skip
        have s_b : b = true := q_b
        have HR : Hid ((decide (d ≤ 50) && (((decide (l2 = 1)) && bareB 0 t.data.toList b e l1 0) && rm.rmL ks (d + 1))) = false) := by show _ = _; rw [show bareB 0 t.data.toList b e l1 0 = false from decide_eq_false (fun h => by rw [q_b] at h; exact absurd h.2.2.1 (by simp)), Bool.and_false, Bool.false_and, Bool.and_false]
        generalize (decide (d ≤ 50) && (((decide (l2 = 1)) && bareB 0 t.data.toList b e l1 0) && rm.rmL ks (d + 1))) = rr at HR ⊢
        go_enter Tryz.func58, Tryz.ntmps58
        go_wp2_with fail
        go_ret
        exact ⟨ret_bool HR.out.symm, (Q.refl _).alloc _⟩
      · skip
        have s_b : b = false := Bool.eq_false_iff.2 q_b
        by_cases q_e0 : e ≠ 0
        · skip
          have s_e : (e == 0) = false := by rw [beq_eq_false_iff_ne]; exact q_e0
          have HR : Hid ((decide (d ≤ 50) && (((decide (l2 = 1)) && bareB 0 t.data.toList b e l1 0) && rm.rmL ks (d + 1))) = false) := by show _ = _; rw [show bareB 0 t.data.toList b e l1 0 = false from decide_eq_false (fun h => q_e0 h.2.2.2.1), Bool.and_false, Bool.false_and, Bool.and_false]
          generalize (decide (d ≤ 50) && (((decide (l2 = 1)) && bareB 0 t.data.toList b e l1 0) && rm.rmL ks (d + 1))) = rr at HR ⊢
          go_enter Tryz.func58, Tryz.ntmps58
          go_wp2_with fail
          go_ret
          exact ⟨ret_bool HR.out.symm, (Q.refl _).alloc _⟩
        · skip
          obtain rfl : e = 0 := Classical.not_not.1 q_e0
          by_cases q_t0 : t.data.toList ≠ []
          · skip
            have s_t : (t.toList == []) = false := by rw [toL, beq_eq_false_iff_ne]; exact q_t0
            have HR : Hid ((decide (d ≤ 50) && (((decide (l2 = 1)) && bareB 0 t.data.toList b 0 l1 0) && rm.rmL ks (d + 1))) = false) := by show _ = _; rw [show bareB 0 t.data.toList b 0 l1 0 = false from decide_eq_false (fun h => q_t0 h.2.1), Bool.and_false, Bool.false_and, Bool.and_false]
            generalize (decide (d ≤ 50) && (((decide (l2 = 1)) && bareB 0 t.data.toList b 0 l1 0) && rm.rmL ks (d + 1))) = rr at HR ⊢
            go_enter Tryz.func58, Tryz.ntmps58
            go_wp2_with fail
            go_ret
            exact ⟨ret_bool HR.out.symm, (Q.refl _).alloc _⟩
          · skip
            have s_t : (t.toList == []) = true := by rw [toL, Classical.not_not.1 q_t0]; rfl
            by_cases q_l1 : l1 ≠ 0
            · skip
              have s_r : ((l1 : Int) == 0) = false := by rw [beq_eq_false_iff_ne]; omega
              have HR : Hid ((decide (d ≤ 50) && (((decide (l2 = 1)) && bareB 0 t.data.toList b 0 l1 0) && rm.rmL ks (d + 1))) = false) := by show _ = _; rw [show bareB 0 t.data.toList b 0 l1 0 = false from decide_eq_false (fun h => q_l1 h.2.2.2.2.1), Bool.and_false, Bool.false_and, Bool.and_false]
              generalize (decide (d ≤ 50) && (((decide (l2 = 1)) && bareB 0 t.data.toList b 0 l1 0) && rm.rmL ks (d + 1))) = rr at HR ⊢
              go_enter Tryz.func58, Tryz.ntmps58
              go_wp2_with fail
              go_ret
              exact ⟨ret_bool HR.out.symm, (Q.refl _).alloc _⟩
            · skip
              obtain rfl : l1 = 0 := Classical.not_not.1 q_l1
              by_cases q_k1 : l2 ≠ 1
              · skip
                have s_k : ((l2 : Int) == 1) = false := by rw [beq_eq_false_iff_ne]; omega
                have HR : Hid ((decide (d ≤ 50) && (((decide (l2 = 1)) && bareB 0 t.data.toList b 0 0 0) && rm.rmL ks (d + 1))) = false) := by show _ = _; rw [show (decide (l2 = 1)) = false from decide_eq_false q_k1, Bool.false_and, Bool.false_and, Bool.and_false]
                generalize (decide (d ≤ 50) && (((decide (l2 = 1)) && bareB 0 t.data.toList b 0 0 0) && rm.rmL ks (d + 1))) = rr at HR ⊢
                go_enter Tryz.func58, Tryz.ntmps58
                go_wp2_with fail
                go_ret
                exact ⟨ret_bool HR.out.symm, (Q.refl _).alloc _⟩
              · skip
                obtain rfl : l2 = 1 := Classical.not_not.1 q_k1
                have HR : Hid ((decide (d ≤ 50) && (((decide (1 = 1)) && bareB 0 t.data.toList b 0 0 0) && rm.rmL ks (d + 1))) = rm.rmL ks (d + 1)) := by show _ = _; rw [decide_eq_true (by omega : d ≤ 50), show (decide (1 = 1)) = true from decide_eq_true rfl, show bareB 0 t.data.toList b 0 0 0 = true from decide_eq_true ⟨rfl, Classical.not_not.1 q_t0, s_b, rfl, rfl, rfl⟩, Bool.true_and, Bool.true_and, Bool.true_and]
                generalize (decide (d ≤ 50) && (((decide (1 = 1)) && bareB 0 t.data.toList b 0 0 0) && rm.rmL ks (d + 1))) = rr at HR ⊢
                clear q_d q_n0 q_e0 q_t0 q_l1 q_k1
                go_enter Tryz.func58, Tryz.ntmps58
                go_wp2_with fail
                refine wp_loop_rounds 1 ?_
                rw [rounds_succ]
                go_wp2_with fail
                have HX0 := hid (Bx.start W (.int .i64 7) (.int .i64 0) (.string t) (.bool false) (.int .i64 0) (.slice a1 0 c1) (.slice a2 1 c2) 40)
                go_loopw [8] (fun z wr => ∃ (i : Nat), i ≤ 1 ∧ z = .int .i64 (i : Int) ∧ Hid (Bx W wr (.int .i64 7) (.int .i64 0) (.string t) (.bool false) (.int .i64 0) (.slice a1 0 c1) (.slice a2 1 c2)) ∧ Hid (∀ j (hj : j < ks.length), j < i → rm ks[j] (d + 1) = true)) (fun z _ => 1 - (intOf z).toNat)
                case atStart => exact ⟨0, Nat.zero_le _, rfl, HX0, hid (fun j hj h => absurd h (by omega))⟩
                case round =>
                  obtain ⟨i, hi, rfl, HX, HA⟩ := hrel
                  have HQ : Hid (Q W wr) := hid HX.out.q
                  have x6 := HX.out.g6
                  by_cases hlt : i < 1
                  · have hlt' : (i : Int) < ((1 : Nat) : Int) := by omega
                    have hik : i < ks.length := by rw [hlen.out]; exact hlt
                    obtain ⟨b', off, e0, e1, e2, e3, e4, e5, e6, rfl, hK⟩ := HKid.out i hik wr HQ.out
                    obtain ⟨k', n', t', b1', e', a1', l1', c1', a2', l2', c2', hsh⟩ := hK.rd.shape
                    simp only [Value.agg.injEq, Array.mk.injEq, List.cons.injEq, and_true] at hsh
                    obtain ⟨rfl, rfl, rfl, rfl, rfl, rfl, rfl⟩ := hsh
                    obtain ⟨h0, g1, h2, h3, h4, h5, h6, hrd⟩ := hK
                    have HI := hid (fun V (q : Q wr V) => IH.out i hik _ V (Rd.on q _ _ hrd))
                    clear hrd
                    have hdd : IntKind.i64.wrap ((d : Int) + 1) = (d : Int) + 1 := by rw [IntKind.wrap_i64]; omega
                    cases hb : rm ks[i] (d + 1)
                    · rw [hb] at HI
                      have HF : Hid (rr = false) := by show _ = _; rw [HR.out]; exact rmL_take ks (d + 1) i hik hb
                      clear hb hik
                      go_wp2_with (go_at_call 58; refine (HI.out _ (by repeat (first | with_reducible exact Q.refl _ | with_reducible refine Q.drewN ?_ _ | with_reducible refine Q.drew ?_))).mono ?_; rintro e9 w9 ⟨rfl, q9⟩; have Q9 := hid q9; clear q9)
                      go_ret
                      exact ⟨ret_bool HF.out.symm, HQ.out.trans Q9.out⟩
                    · rw [hb] at HI
                      have HA2 : Hid (∀ j (hj : j < ks.length), j < i + 1 → rm ks[j] (d + 1) = true) := hid (fun j hj h => by
                        by_cases e : j = i
                        · subst e; exact hb
                        · exact HA.out j hj (by omega))
                      clear hb hik
                      go_wp2_with (go_at_call 58; refine (HI.out _ (by repeat (first | with_reducible exact Q.refl _ | with_reducible refine Q.drewN ?_ _ | with_reducible refine Q.drew ?_))).mono ?_; rintro e9 w9 ⟨rfl, q9⟩; have Q9 := hid q9; clear q9)
                      go_roundw
                      case rel => exact ⟨i + 1, by omega, by go_num, hid (HX.out.on Q9.out), HA2⟩
                      case measure => simp [intOf]; omega
                  · have hlt' : ¬ (i : Int) < ((1 : Nat) : Int) := by omega
                    have HF : Hid (rr = true) := by show _ = _; rw [HR.out]; exact rmL_yes ks (d + 1) (fun j hj => HA.out j hj (by rw [hlen.out] at hj; omega))
                    go_wp2_with fail
                    go_ret
                    exact ⟨ret_bool HF.out.symm, HQ.out⟩
set_option maxHeartbeats 8000000 in
theorem rn_8 (n : Int) (t : ByteArray) (b : Bool) (e : Int) (a1 : Option Addr) (l1 c1 : Nat) (a2 : Option Addr) (l2 c2 : Nat) (W : World) (d : Nat) (ks : List Ex) (hlen : Hid (ks.length = l2)) (hcap : l2 ≤ 9223372036854775807)
    (HKid : Hid (∀ i (hi : i < ks.length) V, Q W V → ∃ b' off c0 c1 c2 c3 c4 c5 c6, a2 = some ⟨b', off, none⟩ ∧ Kid V ks[i] b' (off + i * 7) c0 c1 c2 c3 c4 c5 c6))
    (IH : Hid (∀ i (hi : i < ks.length) v V, Rd V ks[i] v → Calls Tryz.prog 58 #[v, .int .i64 ((d : Int) + 1)] V fun e W' => e = .returned (.bool (rm ks[i] (d + 1))) ∧ Q V W')) :
    Calls Tryz.prog 58 #[.agg #[.int .i64 8, .int .i64 n, .string t, .bool b, .int .i64 e, .slice a1 l1 c1, .slice a2 l2 c2], .int .i64 (d : Int)] W fun e' W' => e' = .returned (.bool (decide (d ≤ 50) && (((decide (1 ≤ lvl t.data.toList) && decide (l2 = 2)) && bareB n [] b e l1 0) && rm.rmL ks (d + 1)))) ∧ Q W W' := by
  have HM := hid (fun W' => level_any t W')
  obtain ⟨lv, hlv⟩ : ∃ lv, lvl t.data.toList = lv := ⟨_, rfl⟩
  rw [hlv] at HM ⊢
  clear hlv
  by_cases q_d : 50 < d
  · skip
    have s_d : (50 : Int) < (d : Int) := by omega
    have HR : Hid ((decide (d ≤ 50) && (((decide (1 ≤ lv) && decide (l2 = 2)) && bareB n [] b e l1 0) && rm.rmL ks (d + 1))) = false) := by show _ = _; rw [decide_eq_false (by omega), Bool.false_and]
    generalize (decide (d ≤ 50) && (((decide (1 ≤ lv) && decide (l2 = 2)) && bareB n [] b e l1 0) && rm.rmL ks (d + 1))) = rr at HR ⊢
    go_enter Tryz.func58, Tryz.ntmps58
    go_wp2_with (go_at_call 90; refine (HM.out _).mono ?_; rintro e9 w9 ⟨rfl, h9⟩; replace h9 := h9.symm; subst h9)
    go_ret
    exact ⟨ret_bool HR.out.symm, (Q.refl _).alloc _⟩
  · skip
    have s_d : ¬ (50 : Int) < (d : Int) := by omega
    by_cases q_n0 : n ≠ 0
    · skip
      have s_n : (n == 0) = false := by rw [beq_eq_false_iff_ne]; exact q_n0
      have HR : Hid ((decide (d ≤ 50) && (((decide (1 ≤ lv) && decide (l2 = 2)) && bareB n [] b e l1 0) && rm.rmL ks (d + 1))) = false) := by show _ = _; rw [show bareB n [] b e l1 0 = false from decide_eq_false (fun h => q_n0 h.1), Bool.and_false, Bool.false_and, Bool.and_false]
      generalize (decide (d ≤ 50) && (((decide (1 ≤ lv) && decide (l2 = 2)) && bareB n [] b e l1 0) && rm.rmL ks (d + 1))) = rr at HR ⊢
      go_enter Tryz.func58, Tryz.ntmps58
      go_wp2_with (go_at_call 90; refine (HM.out _).mono ?_; rintro e9 w9 ⟨rfl, h9⟩; replace h9 := h9.symm; subst h9)
      go_ret
      exact ⟨ret_bool HR.out.symm, (Q.refl _).alloc _⟩
    · skip
      obtain rfl : n = 0 := Classical.not_not.1 q_n0
      by_cases q_b : b = true
      · skip
        have s_b : b = true := q_b
        have HR : Hid ((decide (d ≤ 50) && (((decide (1 ≤ lv) && decide (l2 = 2)) && bareB 0 [] b e l1 0) && rm.rmL ks (d + 1))) = false) := by show _ = _; rw [show bareB 0 [] b e l1 0 = false from decide_eq_false (fun h => by rw [q_b] at h; exact absurd h.2.2.1 (by simp)), Bool.and_false, Bool.false_and, Bool.and_false]
        generalize (decide (d ≤ 50) && (((decide (1 ≤ lv) && decide (l2 = 2)) && bareB 0 [] b e l1 0) && rm.rmL ks (d + 1))) = rr at HR ⊢
        go_enter Tryz.func58, Tryz.ntmps58
        go_wp2_with (go_at_call 90; refine (HM.out _).mono ?_; rintro e9 w9 ⟨rfl, h9⟩; replace h9 := h9.symm; subst h9)
        go_ret
        exact ⟨ret_bool HR.out.symm, (Q.refl _).alloc _⟩
      · skip
        have s_b : b = false := Bool.eq_false_iff.2 q_b
        by_cases q_e0 : e ≠ 0
        · skip
          have s_e : (e == 0) = false := by rw [beq_eq_false_iff_ne]; exact q_e0
          have HR : Hid ((decide (d ≤ 50) && (((decide (1 ≤ lv) && decide (l2 = 2)) && bareB 0 [] b e l1 0) && rm.rmL ks (d + 1))) = false) := by show _ = _; rw [show bareB 0 [] b e l1 0 = false from decide_eq_false (fun h => q_e0 h.2.2.2.1), Bool.and_false, Bool.false_and, Bool.and_false]
          generalize (decide (d ≤ 50) && (((decide (1 ≤ lv) && decide (l2 = 2)) && bareB 0 [] b e l1 0) && rm.rmL ks (d + 1))) = rr at HR ⊢
          go_enter Tryz.func58, Tryz.ntmps58
          go_wp2_with (go_at_call 90; refine (HM.out _).mono ?_; rintro e9 w9 ⟨rfl, h9⟩; replace h9 := h9.symm; subst h9)
          go_ret
          exact ⟨ret_bool HR.out.symm, (Q.refl _).alloc _⟩
        · skip
          obtain rfl : e = 0 := Classical.not_not.1 q_e0
          by_cases q_lv0 : lv = 0
          · skip
            have s_v : ((lv : Int) == 0) = true := by rw [q_lv0]; rfl
            have HR : Hid ((decide (d ≤ 50) && (((decide (1 ≤ lv) && decide (l2 = 2)) && bareB 0 [] b 0 l1 0) && rm.rmL ks (d + 1))) = false) := by show _ = _; rw [show (decide (1 ≤ lv) && decide (l2 = 2)) = false from by rw [decide_eq_false (by omega), Bool.false_and], Bool.false_and, Bool.false_and, Bool.and_false]
            generalize (decide (d ≤ 50) && (((decide (1 ≤ lv) && decide (l2 = 2)) && bareB 0 [] b 0 l1 0) && rm.rmL ks (d + 1))) = rr at HR ⊢
            go_enter Tryz.func58, Tryz.ntmps58
            go_wp2_with (go_at_call 90; refine (HM.out _).mono ?_; rintro e9 w9 ⟨rfl, h9⟩; replace h9 := h9.symm; subst h9)
            go_ret
            exact ⟨ret_bool HR.out.symm, (Q.refl _).alloc _⟩
          · skip
            have s_v : ((lv : Int) == 0) = false := by rw [beq_eq_false_iff_ne]; omega
            by_cases q_l1 : l1 ≠ 0
            · skip
              have s_r : ((l1 : Int) == 0) = false := by rw [beq_eq_false_iff_ne]; omega
              have HR : Hid ((decide (d ≤ 50) && (((decide (1 ≤ lv) && decide (l2 = 2)) && bareB 0 [] b 0 l1 0) && rm.rmL ks (d + 1))) = false) := by show _ = _; rw [show bareB 0 [] b 0 l1 0 = false from decide_eq_false (fun h => q_l1 h.2.2.2.2.1), Bool.and_false, Bool.false_and, Bool.and_false]
              generalize (decide (d ≤ 50) && (((decide (1 ≤ lv) && decide (l2 = 2)) && bareB 0 [] b 0 l1 0) && rm.rmL ks (d + 1))) = rr at HR ⊢
              go_enter Tryz.func58, Tryz.ntmps58
              go_wp2_with (go_at_call 90; refine (HM.out _).mono ?_; rintro e9 w9 ⟨rfl, h9⟩; replace h9 := h9.symm; subst h9)
              go_ret
              exact ⟨ret_bool HR.out.symm, (Q.refl _).alloc _⟩
            · skip
              obtain rfl : l1 = 0 := Classical.not_not.1 q_l1
              by_cases q_k2 : l2 ≠ 2
              · skip
                have s_k : ((l2 : Int) == 2) = false := by rw [beq_eq_false_iff_ne]; omega
                have HR : Hid ((decide (d ≤ 50) && (((decide (1 ≤ lv) && decide (l2 = 2)) && bareB 0 [] b 0 0 0) && rm.rmL ks (d + 1))) = false) := by show _ = _; rw [show (decide (1 ≤ lv) && decide (l2 = 2)) = false from by rw [decide_eq_false q_k2, Bool.and_false], Bool.false_and, Bool.false_and, Bool.and_false]
                generalize (decide (d ≤ 50) && (((decide (1 ≤ lv) && decide (l2 = 2)) && bareB 0 [] b 0 0 0) && rm.rmL ks (d + 1))) = rr at HR ⊢
                go_enter Tryz.func58, Tryz.ntmps58
                go_wp2_with (go_at_call 90; refine (HM.out _).mono ?_; rintro e9 w9 ⟨rfl, h9⟩; replace h9 := h9.symm; subst h9)
                go_ret
                exact ⟨ret_bool HR.out.symm, (Q.refl _).alloc _⟩
              · skip
                obtain rfl : l2 = 2 := Classical.not_not.1 q_k2
                have HR : Hid ((decide (d ≤ 50) && (((decide (1 ≤ lv) && decide (2 = 2)) && bareB 0 [] b 0 0 0) && rm.rmL ks (d + 1))) = rm.rmL ks (d + 1)) := by show _ = _; rw [decide_eq_true (by omega : d ≤ 50), show (decide (1 ≤ lv) && decide (2 = 2)) = true from by rw [decide_eq_true (by omega : 1 ≤ lv)]; rfl, show bareB 0 [] b 0 0 0 = true from decide_eq_true ⟨rfl, rfl, s_b, rfl, rfl, rfl⟩, Bool.true_and, Bool.true_and, Bool.true_and]
                generalize (decide (d ≤ 50) && (((decide (1 ≤ lv) && decide (2 = 2)) && bareB 0 [] b 0 0 0) && rm.rmL ks (d + 1))) = rr at HR ⊢
                clear q_d q_n0 q_e0 q_lv0 q_l1 q_k2
                go_enter Tryz.func58, Tryz.ntmps58
                go_wp2_with (go_at_call 90; refine (HM.out _).mono ?_; rintro e9 w9 ⟨rfl, h9⟩; replace h9 := h9.symm; subst h9)
                refine wp_loop_rounds 1 ?_
                rw [rounds_succ]
                go_wp2_with fail
                have HX0 := hid (Bx.start W (.int .i64 8) (.int .i64 0) (.string t) (.bool false) (.int .i64 0) (.slice a1 0 c1) (.slice a2 2 c2) 40)
                go_loopw [8] (fun z wr => ∃ (i : Nat), i ≤ 2 ∧ z = .int .i64 (i : Int) ∧ Hid (Bx W wr (.int .i64 8) (.int .i64 0) (.string t) (.bool false) (.int .i64 0) (.slice a1 0 c1) (.slice a2 2 c2)) ∧ Hid (∀ j (hj : j < ks.length), j < i → rm ks[j] (d + 1) = true)) (fun z _ => 2 - (intOf z).toNat)
                case atStart => exact ⟨0, Nat.zero_le _, rfl, HX0, hid (fun j hj h => absurd h (by omega))⟩
                case round =>
                  obtain ⟨i, hi, rfl, HX, HA⟩ := hrel
                  have HQ : Hid (Q W wr) := hid HX.out.q
                  have x6 := HX.out.g6
                  by_cases hlt : i < 2
                  · have hlt' : (i : Int) < ((2 : Nat) : Int) := by omega
                    have hik : i < ks.length := by rw [hlen.out]; exact hlt
                    obtain ⟨b', off, e0, e1, e2, e3, e4, e5, e6, rfl, hK⟩ := HKid.out i hik wr HQ.out
                    obtain ⟨k', n', t', b1', e', a1', l1', c1', a2', l2', c2', hsh⟩ := hK.rd.shape
                    simp only [Value.agg.injEq, Array.mk.injEq, List.cons.injEq, and_true] at hsh
                    obtain ⟨rfl, rfl, rfl, rfl, rfl, rfl, rfl⟩ := hsh
                    obtain ⟨h0, g1, h2, h3, h4, h5, h6, hrd⟩ := hK
                    have HI := hid (fun V (q : Q wr V) => IH.out i hik _ V (Rd.on q _ _ hrd))
                    clear hrd
                    have hdd : IntKind.i64.wrap ((d : Int) + 1) = (d : Int) + 1 := by rw [IntKind.wrap_i64]; omega
                    cases hb : rm ks[i] (d + 1)
                    · rw [hb] at HI
                      have HF : Hid (rr = false) := by show _ = _; rw [HR.out]; exact rmL_take ks (d + 1) i hik hb
                      clear hb hik
                      go_wp2_with (go_at_call 58; refine (HI.out _ (by repeat (first | with_reducible exact Q.refl _ | with_reducible refine Q.drewN ?_ _ | with_reducible refine Q.drew ?_))).mono ?_; rintro e9 w9 ⟨rfl, q9⟩; have Q9 := hid q9; clear q9)
                      go_ret
                      exact ⟨ret_bool HF.out.symm, HQ.out.trans Q9.out⟩
                    · rw [hb] at HI
                      have HA2 : Hid (∀ j (hj : j < ks.length), j < i + 1 → rm ks[j] (d + 1) = true) := hid (fun j hj h => by
                        by_cases e : j = i
                        · subst e; exact hb
                        · exact HA.out j hj (by omega))
                      clear hb hik
                      go_wp2_with (go_at_call 58; refine (HI.out _ (by repeat (first | with_reducible exact Q.refl _ | with_reducible refine Q.drewN ?_ _ | with_reducible refine Q.drew ?_))).mono ?_; rintro e9 w9 ⟨rfl, q9⟩; have Q9 := hid q9; clear q9)
                      go_roundw
                      case rel => exact ⟨i + 1, by omega, by go_num, hid (HX.out.on Q9.out), HA2⟩
                      case measure => simp [intOf]; omega
                  · have hlt' : ¬ (i : Int) < ((2 : Nat) : Int) := by omega
                    have HF : Hid (rr = true) := by show _ = _; rw [HR.out]; exact rmL_yes ks (d + 1) (fun j hj => HA.out j hj (by rw [hlen.out] at hj; omega))
                    go_wp2_with fail
                    go_ret
                    exact ⟨ret_bool HF.out.symm, HQ.out⟩
set_option maxHeartbeats 8000000 in
theorem rn_9 (n : Int) (t : ByteArray) (b : Bool) (e : Int) (a1 : Option Addr) (l1 c1 : Nat) (a2 : Option Addr) (l2 c2 : Nat) (W : World) (d : Nat) (hs : t.size ≤ 4000000000) (ks : List Ex) (hlen : Hid (ks.length = l2)) (hcap : l2 ≤ 9223372036854775807)
    (HKid : Hid (∀ i (hi : i < ks.length) V, Q W V → ∃ b' off c0 c1 c2 c3 c4 c5 c6, a2 = some ⟨b', off, none⟩ ∧ Kid V ks[i] b' (off + i * 7) c0 c1 c2 c3 c4 c5 c6))
    (IH : Hid (∀ i (hi : i < ks.length) v V, Rd V ks[i] v → Calls Tryz.prog 58 #[v, .int .i64 ((d : Int) + 1)] V fun e W' => e = .returned (.bool (rm ks[i] (d + 1))) ∧ Q V W')) :
    Calls Tryz.prog 58 #[.agg #[.int .i64 9, .int .i64 n, .string t, .bool b, .int .i64 e, .slice a1 l1 c1, .slice a2 l2 c2], .int .i64 (d : Int)] W fun e' W' => e' = .returned (.bool (decide (d ≤ 50) && (((namF t.data.toList && decide (l2 ≤ 30)) && bareB n [] b e l1 0) && rm.rmL ks (d + 1)))) ∧ Q W W' := by
  have HL := hid (fun W' => ltr_any t W' hs)
  by_cases q_d : 50 < d
  · skip
    have s_d : (50 : Int) < (d : Int) := by omega
    have HR : Hid ((decide (d ≤ 50) && (((namF t.data.toList && decide (l2 ≤ 30)) && bareB n [] b e l1 0) && rm.rmL ks (d + 1))) = false) := by show _ = _; rw [decide_eq_false (by omega), Bool.false_and]
    generalize (decide (d ≤ 50) && (((namF t.data.toList && decide (l2 ≤ 30)) && bareB n [] b e l1 0) && rm.rmL ks (d + 1))) = rr at HR ⊢
    go_enter Tryz.func58, Tryz.ntmps58
    go_wp2_with (go_at_call 91; refine (HL.out _).mono ?_; rintro e9 w9 ⟨rfl, h9⟩; replace h9 := h9.symm; subst h9)
    go_ret
    exact ⟨ret_bool HR.out.symm, (Q.refl _).alloc _⟩
  · skip
    have s_d : ¬ (50 : Int) < (d : Int) := by omega
    by_cases q_n0 : n ≠ 0
    · skip
      have s_n : (n == 0) = false := by rw [beq_eq_false_iff_ne]; exact q_n0
      have HR : Hid ((decide (d ≤ 50) && (((namF t.data.toList && decide (l2 ≤ 30)) && bareB n [] b e l1 0) && rm.rmL ks (d + 1))) = false) := by show _ = _; rw [show bareB n [] b e l1 0 = false from decide_eq_false (fun h => q_n0 h.1), Bool.and_false, Bool.false_and, Bool.and_false]
      generalize (decide (d ≤ 50) && (((namF t.data.toList && decide (l2 ≤ 30)) && bareB n [] b e l1 0) && rm.rmL ks (d + 1))) = rr at HR ⊢
      go_enter Tryz.func58, Tryz.ntmps58
      go_wp2_with (go_at_call 91; refine (HL.out _).mono ?_; rintro e9 w9 ⟨rfl, h9⟩; replace h9 := h9.symm; subst h9)
      go_ret
      exact ⟨ret_bool HR.out.symm, (Q.refl _).alloc _⟩
    · skip
      obtain rfl : n = 0 := Classical.not_not.1 q_n0
      by_cases q_b : b = true
      · skip
        have s_b : b = true := q_b
        have HR : Hid ((decide (d ≤ 50) && (((namF t.data.toList && decide (l2 ≤ 30)) && bareB 0 [] b e l1 0) && rm.rmL ks (d + 1))) = false) := by show _ = _; rw [show bareB 0 [] b e l1 0 = false from decide_eq_false (fun h => by rw [q_b] at h; exact absurd h.2.2.1 (by simp)), Bool.and_false, Bool.false_and, Bool.and_false]
        generalize (decide (d ≤ 50) && (((namF t.data.toList && decide (l2 ≤ 30)) && bareB 0 [] b e l1 0) && rm.rmL ks (d + 1))) = rr at HR ⊢
        go_enter Tryz.func58, Tryz.ntmps58
        go_wp2_with (go_at_call 91; refine (HL.out _).mono ?_; rintro e9 w9 ⟨rfl, h9⟩; replace h9 := h9.symm; subst h9)
        go_ret
        exact ⟨ret_bool HR.out.symm, (Q.refl _).alloc _⟩
      · skip
        have s_b : b = false := Bool.eq_false_iff.2 q_b
        by_cases q_e0 : e ≠ 0
        · skip
          have s_e : (e == 0) = false := by rw [beq_eq_false_iff_ne]; exact q_e0
          have HR : Hid ((decide (d ≤ 50) && (((namF t.data.toList && decide (l2 ≤ 30)) && bareB 0 [] b e l1 0) && rm.rmL ks (d + 1))) = false) := by show _ = _; rw [show bareB 0 [] b e l1 0 = false from decide_eq_false (fun h => q_e0 h.2.2.2.1), Bool.and_false, Bool.false_and, Bool.and_false]
          generalize (decide (d ≤ 50) && (((namF t.data.toList && decide (l2 ≤ 30)) && bareB 0 [] b e l1 0) && rm.rmL ks (d + 1))) = rr at HR ⊢
          go_enter Tryz.func58, Tryz.ntmps58
          go_wp2_with (go_at_call 91; refine (HL.out _).mono ?_; rintro e9 w9 ⟨rfl, h9⟩; replace h9 := h9.symm; subst h9)
          go_ret
          exact ⟨ret_bool HR.out.symm, (Q.refl _).alloc _⟩
        · skip
          obtain rfl : e = 0 := Classical.not_not.1 q_e0
          by_cases q_k30 : 30 < l2
          · skip
            have s_k : (30 : Int) < (l2 : Int) := by omega
            have HR : Hid ((decide (d ≤ 50) && (((namF t.data.toList && decide (l2 ≤ 30)) && bareB 0 [] b 0 l1 0) && rm.rmL ks (d + 1))) = false) := by show _ = _; rw [show (namF t.data.toList && decide (l2 ≤ 30)) = false from by rw [decide_eq_false (by omega), Bool.and_false], Bool.false_and, Bool.false_and, Bool.and_false]
            generalize (decide (d ≤ 50) && (((namF t.data.toList && decide (l2 ≤ 30)) && bareB 0 [] b 0 l1 0) && rm.rmL ks (d + 1))) = rr at HR ⊢
            go_enter Tryz.func58, Tryz.ntmps58
            go_wp2_with (go_at_call 91; refine (HL.out _).mono ?_; rintro e9 w9 ⟨rfl, h9⟩; replace h9 := h9.symm; subst h9)
            go_ret
            exact ⟨ret_bool HR.out.symm, (Q.refl _).alloc _⟩
          · skip
            have s_k : ¬ (30 : Int) < (l2 : Int) := by omega
            by_cases q_ltr : (decide (0 < t.data.toList.length) && allL t.data.toList) = false
            · skip
              rw [q_ltr] at HL
              have HR : Hid ((decide (d ≤ 50) && (((namF t.data.toList && decide (l2 ≤ 30)) && bareB 0 [] b 0 l1 0) && rm.rmL ks (d + 1))) = false) := by show _ = _; rw [show (namF t.data.toList && decide (l2 ≤ 30)) = false from by rw [nam_no (.inl q_ltr), Bool.false_and], Bool.false_and, Bool.false_and, Bool.and_false]
              generalize (decide (d ≤ 50) && (((namF t.data.toList && decide (l2 ≤ 30)) && bareB 0 [] b 0 l1 0) && rm.rmL ks (d + 1))) = rr at HR ⊢
              go_enter Tryz.func58, Tryz.ntmps58
              go_wp2_with (go_at_call 91; refine (HL.out _).mono ?_; rintro e9 w9 ⟨rfl, h9⟩; replace h9 := h9.symm; subst h9)
              go_ret
              exact ⟨ret_bool HR.out.symm, (Q.refl _).alloc _⟩
            · skip
              have q_l2 : (decide (0 < t.data.toList.length) && allL t.data.toList) = true := by simpa using q_ltr
              rw [q_l2] at HL
              by_cases q_len20 : 20 < t.size
              · skip
                have s_l : (20 : Int) < (t.size : Int) := by omega
                have HR : Hid ((decide (d ≤ 50) && (((namF t.data.toList && decide (l2 ≤ 30)) && bareB 0 [] b 0 l1 0) && rm.rmL ks (d + 1))) = false) := by show _ = _; rw [show (namF t.data.toList && decide (l2 ≤ 30)) = false from by rw [nam_no (.inr (.inl (by rw [len_data]; omega))), Bool.false_and], Bool.false_and, Bool.false_and, Bool.and_false]
                generalize (decide (d ≤ 50) && (((namF t.data.toList && decide (l2 ≤ 30)) && bareB 0 [] b 0 l1 0) && rm.rmL ks (d + 1))) = rr at HR ⊢
                go_enter Tryz.func58, Tryz.ntmps58
                go_wp2_with (go_at_call 91; refine (HL.out _).mono ?_; rintro e9 w9 ⟨rfl, h9⟩; replace h9 := h9.symm; subst h9)
                go_ret
                exact ⟨ret_bool HR.out.symm, (Q.refl _).alloc _⟩
              · skip
                have s_l : ¬ (20 : Int) < (t.size : Int) := by omega
                by_cases q_tru : t.data.toList = truW
                · skip
                  have s_1 : (t.toList == [84, 82, 85, 69]) = true := by rw [toL, q_tru]; rfl
                  have HR : Hid ((decide (d ≤ 50) && (((namF t.data.toList && decide (l2 ≤ 30)) && bareB 0 [] b 0 l1 0) && rm.rmL ks (d + 1))) = false) := by show _ = _; rw [show (namF t.data.toList && decide (l2 ≤ 30)) = false from by rw [nam_no (.inr (.inr (.inl q_tru))), Bool.false_and], Bool.false_and, Bool.false_and, Bool.and_false]
                  generalize (decide (d ≤ 50) && (((namF t.data.toList && decide (l2 ≤ 30)) && bareB 0 [] b 0 l1 0) && rm.rmL ks (d + 1))) = rr at HR ⊢
                  go_enter Tryz.func58, Tryz.ntmps58
                  go_wp2_with (go_at_call 91; refine (HL.out _).mono ?_; rintro e9 w9 ⟨rfl, h9⟩; replace h9 := h9.symm; subst h9)
                  go_ret
                  exact ⟨ret_bool HR.out.symm, (Q.refl _).alloc _⟩
                · skip
                  have s_1 : (t.toList == [84, 82, 85, 69]) = false := by rw [toL, beq_eq_false_iff_ne]; exact q_tru
                  by_cases q_fls : t.data.toList = flsW
                  · skip
                    have s_2 : (t.toList == [70, 65, 76, 83, 69]) = true := by rw [toL, q_fls]; rfl
                    have HR : Hid ((decide (d ≤ 50) && (((namF t.data.toList && decide (l2 ≤ 30)) && bareB 0 [] b 0 l1 0) && rm.rmL ks (d + 1))) = false) := by show _ = _; rw [show (namF t.data.toList && decide (l2 ≤ 30)) = false from by rw [nam_no (.inr (.inr (.inr q_fls))), Bool.false_and], Bool.false_and, Bool.false_and, Bool.and_false]
                    generalize (decide (d ≤ 50) && (((namF t.data.toList && decide (l2 ≤ 30)) && bareB 0 [] b 0 l1 0) && rm.rmL ks (d + 1))) = rr at HR ⊢
                    go_enter Tryz.func58, Tryz.ntmps58
                    go_wp2_with (go_at_call 91; refine (HL.out _).mono ?_; rintro e9 w9 ⟨rfl, h9⟩; replace h9 := h9.symm; subst h9)
                    go_ret
                    exact ⟨ret_bool HR.out.symm, (Q.refl _).alloc _⟩
                  · skip
                    have s_2 : (t.toList == [70, 65, 76, 83, 69]) = false := by rw [toL, beq_eq_false_iff_ne]; exact q_fls
                    by_cases q_l1 : l1 ≠ 0
                    · skip
                      have s_r : ((l1 : Int) == 0) = false := by rw [beq_eq_false_iff_ne]; omega
                      have HR : Hid ((decide (d ≤ 50) && (((namF t.data.toList && decide (l2 ≤ 30)) && bareB 0 [] b 0 l1 0) && rm.rmL ks (d + 1))) = false) := by show _ = _; rw [show bareB 0 [] b 0 l1 0 = false from decide_eq_false (fun h => q_l1 h.2.2.2.2.1), Bool.and_false, Bool.false_and, Bool.and_false]
                      generalize (decide (d ≤ 50) && (((namF t.data.toList && decide (l2 ≤ 30)) && bareB 0 [] b 0 l1 0) && rm.rmL ks (d + 1))) = rr at HR ⊢
                      go_enter Tryz.func58, Tryz.ntmps58
                      go_wp2_with (go_at_call 91; refine (HL.out _).mono ?_; rintro e9 w9 ⟨rfl, h9⟩; replace h9 := h9.symm; subst h9)
                      go_ret
                      exact ⟨ret_bool HR.out.symm, (Q.refl _).alloc _⟩
                    · skip
                      obtain rfl : l1 = 0 := Classical.not_not.1 q_l1
                      have HR : Hid ((decide (d ≤ 50) && (((namF t.data.toList && decide (l2 ≤ 30)) && bareB 0 [] b 0 0 0) && rm.rmL ks (d + 1))) = rm.rmL ks (d + 1)) := by show _ = _; rw [decide_eq_true (by omega : d ≤ 50), show (namF t.data.toList && decide (l2 ≤ 30)) = true from by rw [nam_yes q_l2 (by rw [len_data]; omega) q_tru q_fls, decide_eq_true (by omega : l2 ≤ 30)]; rfl, show bareB 0 [] b 0 0 0 = true from decide_eq_true ⟨rfl, rfl, s_b, rfl, rfl, rfl⟩, Bool.true_and, Bool.true_and, Bool.true_and]
                      generalize (decide (d ≤ 50) && (((namF t.data.toList && decide (l2 ≤ 30)) && bareB 0 [] b 0 0 0) && rm.rmL ks (d + 1))) = rr at HR ⊢
                      clear q_d q_n0 q_e0 q_k30 q_ltr q_len20 q_tru q_fls q_l1 q_l2
                      go_enter Tryz.func58, Tryz.ntmps58
                      go_wp2_with (go_at_call 91; refine (HL.out _).mono ?_; rintro e9 w9 ⟨rfl, h9⟩; replace h9 := h9.symm; subst h9)
                      refine wp_loop_rounds 1 ?_
                      rw [rounds_succ]
                      go_wp2_with fail
                      have HX0 := hid (Bx.start W (.int .i64 9) (.int .i64 0) (.string t) (.bool false) (.int .i64 0) (.slice a1 0 c1) (.slice a2 l2 c2) 40)
                      go_loopw [8] (fun z wr => ∃ (i : Nat), i ≤ l2 ∧ z = .int .i64 (i : Int) ∧ Hid (Bx W wr (.int .i64 9) (.int .i64 0) (.string t) (.bool false) (.int .i64 0) (.slice a1 0 c1) (.slice a2 l2 c2)) ∧ Hid (∀ j (hj : j < ks.length), j < i → rm ks[j] (d + 1) = true)) (fun z _ => l2 - (intOf z).toNat)
                      case atStart => exact ⟨0, Nat.zero_le _, rfl, HX0, hid (fun j hj h => absurd h (by omega))⟩
                      case round =>
                        obtain ⟨i, hi, rfl, HX, HA⟩ := hrel
                        have HQ : Hid (Q W wr) := hid HX.out.q
                        have x6 := HX.out.g6
                        by_cases hlt : i < l2
                        · have hlt' : (i : Int) < (l2 : Int) := by omega
                          have hik : i < ks.length := by rw [hlen.out]; exact hlt
                          obtain ⟨b', off, e0, e1, e2, e3, e4, e5, e6, rfl, hK⟩ := HKid.out i hik wr HQ.out
                          obtain ⟨k', n', t', b1', e', a1', l1', c1', a2', l2', c2', hsh⟩ := hK.rd.shape
                          simp only [Value.agg.injEq, Array.mk.injEq, List.cons.injEq, and_true] at hsh
                          obtain ⟨rfl, rfl, rfl, rfl, rfl, rfl, rfl⟩ := hsh
                          obtain ⟨h0, g1, h2, h3, h4, h5, h6, hrd⟩ := hK
                          have HI := hid (fun V (q : Q wr V) => IH.out i hik _ V (Rd.on q _ _ hrd))
                          clear hrd
                          have hdd : IntKind.i64.wrap ((d : Int) + 1) = (d : Int) + 1 := by rw [IntKind.wrap_i64]; omega
                          cases hb : rm ks[i] (d + 1)
                          · rw [hb] at HI
                            have HF : Hid (rr = false) := by show _ = _; rw [HR.out]; exact rmL_take ks (d + 1) i hik hb
                            clear hb hik
                            go_wp2_with (go_at_call 58; refine (HI.out _ (by repeat (first | with_reducible exact Q.refl _ | with_reducible refine Q.drewN ?_ _ | with_reducible refine Q.drew ?_))).mono ?_; rintro e9 w9 ⟨rfl, q9⟩; have Q9 := hid q9; clear q9)
                            go_ret
                            exact ⟨ret_bool HF.out.symm, HQ.out.trans Q9.out⟩
                          · rw [hb] at HI
                            have HA2 : Hid (∀ j (hj : j < ks.length), j < i + 1 → rm ks[j] (d + 1) = true) := hid (fun j hj h => by
                              by_cases e : j = i
                              · subst e; exact hb
                              · exact HA.out j hj (by omega))
                            clear hb hik
                            go_wp2_with (go_at_call 58; refine (HI.out _ (by repeat (first | with_reducible exact Q.refl _ | with_reducible refine Q.drewN ?_ _ | with_reducible refine Q.drew ?_))).mono ?_; rintro e9 w9 ⟨rfl, q9⟩; have Q9 := hid q9; clear q9)
                            go_roundw
                            case rel => exact ⟨i + 1, by omega, by go_num, hid (HX.out.on Q9.out), HA2⟩
                            case measure => simp [intOf]; omega
                        · have hlt' : ¬ (i : Int) < (l2 : Int) := by omega
                          have HF : Hid (rr = true) := by show _ = _; rw [HR.out]; exact rmL_yes ks (d + 1) (fun j hj => HA.out j hj (by rw [hlen.out] at hj; omega))
                          go_wp2_with fail
                          go_ret
                          exact ⟨ret_bool HF.out.symm, HQ.out⟩
end Go.Proofs.YtcgddnliiondoaaGreatDoor
