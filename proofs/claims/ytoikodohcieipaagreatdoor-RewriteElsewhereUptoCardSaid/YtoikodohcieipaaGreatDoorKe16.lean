/- The program's reader: errors' . -/
import Derived.Test.YtoikodohcieipaaGreatDoorKe11
import Derived.Test.YtoikodohcieipaaGreatDoorKe00
import Derived.Test.YtoikodohcieipaaGreatDoorKe07
import Derived.Test.YtoikodohcieipaaGreatDoorKe04
import Derived.Test.YtoikodohcieipaaGreatDoorKe06
import Derived.Maps.AppendAt
set_option linter.unusedVariables false
set_option linter.unusedSimpArgs false
set_option maxRecDepth 100000
set_option maxHeartbeats 8000000
namespace Go.Proofs.YtoikodohcieipaaGreatDoor
open Go.RowKit
set_option maxHeartbeats 2000000 in
theorem ptruth_any (s : ByteArray) (w : World) : Calls Tryz.prog 106 #[.string s] w fun e w' => e = .returned (.bool (decide (s.data.toList = truW ∨ s.data.toList = flsW))) ∧ w' = w := by
  have et := hid (toL s)
  by_cases h1 : s.data.toList = truW
  · have f1 : (s.toList == [84, 82, 85, 69]) = true := by rw [et.out, h1]; rfl
    have HR : Hid (decide (s.data.toList = truW ∨ s.data.toList = flsW) = true) := by show _ = _; exact decide_eq_true (.inl h1)
    generalize decide (s.data.toList = truW ∨ s.data.toList = flsW) = r at HR ⊢
    clear et h1
    go_enter Tryz.func106, Tryz.ntmps106
    go_wp2
    go_ret
    exact ⟨ret_bool HR.out.symm, rfl⟩
  · have f1 : (s.toList == [84, 82, 85, 69]) = false := by rw [et.out, beq_eq_false_iff_ne]; exact h1
    by_cases h2 : s.data.toList = flsW
    · have f2 : (s.toList == [70, 65, 76, 83, 69]) = true := by rw [et.out, h2]; rfl
      have HR : Hid (decide (s.data.toList = truW ∨ s.data.toList = flsW) = true) := by show _ = _; exact decide_eq_true (.inr h2)
      generalize decide (s.data.toList = truW ∨ s.data.toList = flsW) = r at HR ⊢
      clear et h1 h2
      go_enter Tryz.func106, Tryz.ntmps106
      go_wp2
      go_ret
      exact ⟨ret_bool HR.out.symm, rfl⟩
    · have f2 : (s.toList == [70, 65, 76, 83, 69]) = false := by rw [et.out, beq_eq_false_iff_ne]; exact h2
      have HR : Hid (decide (s.data.toList = truW ∨ s.data.toList = flsW) = false) := by show _ = _; exact decide_eq_false (fun e => e.elim h1 h2)
      generalize decide (s.data.toList = truW ∨ s.data.toList = flsW) = r at HR ⊢
      clear et h1 h2
      go_enter Tryz.func106, Tryz.ntmps106
      go_wp2
      go_ret
      exact ⟨ret_bool HR.out.symm, rfl⟩
set_option maxHeartbeats 4000000 in
theorem mayname_any (s : ByteArray) (w : World) (hs : s.size ≤ 4000000000) : Calls Tryz.prog 93 #[.string s] w fun e w' => e = .returned (.bool (namF s.data.toList)) ∧ w' = w := by
  have hl := len_data s
  by_cases h0 : s.size = 0
  · have HR : Hid (namF s.data.toList = false) := by show _ = _; unfold namF; rw [hl, h0]; rfl
    have e0 : ((s.size : Int) == 0) = true := by rw [h0]; rfl
    generalize namF s.data.toList = r at HR ⊢
    clear hl
    go_enter Tryz.func93, Tryz.ntmps93
    go_wp2_with fail
    go_ret
    exact ⟨ret_bool HR.out.symm, rfl⟩
  · have e0 : ((s.size : Int) == 0) = false := by rw [beq_eq_false_iff_ne]; omega
    by_cases h20 : (20 : Int) < (s.size : Int)
    · have HR : Hid (namF s.data.toList = false) := by show _ = _; unfold namF; rw [hl, decide_eq_false (show ¬ s.size ≤ 20 by omega)]; simp
      generalize namF s.data.toList = r at HR ⊢
      clear hl h0
      go_enter Tryz.func93, Tryz.ntmps93
      go_wp2_with fail
      go_ret
      exact ⟨ret_bool HR.out.symm, rfl⟩
    · have HT := hid (ptruth_any s w)
      by_cases htr : s.data.toList = truW ∨ s.data.toList = flsW
      · rw [decide_eq_true htr] at HT
        have HR : Hid (namF s.data.toList = false) := by show _ = _; unfold namF; rw [decide_eq_false (show ¬ ¬ (s.data.toList = truW ∨ s.data.toList = flsW) from fun e => e htr)]; simp
        generalize namF s.data.toList = r at HR ⊢
        clear hl h0 htr
        go_enter Tryz.func93, Tryz.ntmps93
        go_wp2_with (go_at_call 106; refine HT.out.mono ?_; rintro e9 w9 ⟨rfl, h9⟩; replace h9 := h9.symm; subst h9)
        go_ret
        exact ⟨ret_bool HR.out.symm, rfl⟩
      · rw [decide_eq_false htr] at HT
        have HR : Hid (namF s.data.toList = allL s.data.toList) := by
          show _ = _
          unfold namF allL
          rw [hl, decide_eq_true (show 0 < s.size by omega), decide_eq_true (show s.size ≤ 20 by omega), decide_eq_true htr]
          simp
        generalize namF s.data.toList = r at HR ⊢
        clear hl h0 htr
        go_enter Tryz.func93, Tryz.ntmps93
        go_wp2_with (go_at_call 106; refine HT.out.mono ?_; rintro e9 w9 ⟨rfl, h9⟩; replace h9 := h9.symm; subst h9)
        go_loop [18, 3] (fun i _ => ∃ k : Nat, k ≤ s.size ∧ i = .int .i64 k ∧ Hid (allL (s.data.toList.take k) = true)) (fun i _ => s.size - (intOf i).toNat)
        case atStart => exact ⟨0, Nat.zero_le _, rfl, rfl⟩
        case round =>
          obtain ⟨k, hk, rfl, ha⟩ := hrel
          by_cases hlt : k < s.size
          · by_cases hd : let1 s[k] = true
            · have ha' : Hid (allL (s.data.toList.take (k + 1)) = true) := by
                show _ = _
                have := ha.out
                rw [take_snoc s k hlt, allL_app, this]
                unfold allL
                simp [hd]
              have b0 : ¬ (s[k].toNat : Int) < 65 := by unfold let1 at hd; simp at hd; omega
              have b1 : ¬ 90 < (s[k].toNat : Int) := by unfold let1 at hd; simp at hd; omega
              clear hd
              go_wp2_with fail
              go_round
              case rel => exact ⟨k + 1, by omega, by go_num, ha'⟩
              case measure => simp [intOf]; omega
            · have hN := hid (allL_no s k hlt (by simpa using hd))
              by_cases b0 : (s[k].toNat : Int) < 65
              · clear hd
                go_wp2_with fail
                go_ret
                exact ⟨ret_bool (by rw [HR.out, hN.out]), rfl⟩
              · have b1 : 90 < (s[k].toNat : Int) := by unfold let1 at hd; simp at hd; omega
                clear hd
                go_wp2_with fail
                go_ret
                exact ⟨ret_bool (by rw [HR.out, hN.out]), rfl⟩
          · have hN : Hid (allL s.data.toList = true) := by
              show _ = _
              have := ha.out
              rw [take_all s k (by omega)] at this
              exact this
            go_wp2_with fail
            go_ret
            exact ⟨ret_bool (by rw [HR.out, hN.out]), rfl⟩
def bareB (n : Int) (t : List UInt8) (b : Bool) (e : Int) (l1 l2 : Nat) : Bool := decide (n = 0 ∧ t = [] ∧ b = false ∧ e = 0 ∧ l1 = 0 ∧ l2 = 0)
theorem bare_b (k n : Int) (t : ByteArray) (b : Bool) (e : Int) (a1 : Option Addr) (l1 c1 : Nat) (a2 : Option Addr) (l2 c2 : Nat) (r : Bool) (h : bareB n t.data.toList b e l1 l2 = r) (W : World) : Calls Tryz.prog 94 #[.agg #[.int .i64 k, .int .i64 n, .string t, .bool b, .int .i64 e, .slice a1 l1 c1, .slice a2 l2 c2]] W fun e' W' => e' = .returned (.bool r) ∧ Q W W' := by
  rw [← h]
  exact bare_any k n t b e a1 l1 c1 a2 l2 c2 W
theorem two_new (W : World) (c0 c1 c2 c3 c4 c5 c6 : Value) : Tb (((W.alloc (.cells #[c0, c1, c2, c3, c4, c5, c6] 26)).alloc (.cells #[c0, c1, c2, c3, c4, c5, c6] 26)).drew) W.heap.size c0 c1 c2 c3 c4 c5 c6 ∧ Tb (((W.alloc (.cells #[c0, c1, c2, c3, c4, c5, c6] 26)).alloc (.cells #[c0, c1, c2, c3, c4, c5, c6] 26)).drew) (W.heap.size + 1) c0 c1 c2 c3 c4 c5 c6 := by
  constructor
  · exact ((tb_new W c0 c1 c2 c3 c4 c5 c6 26).on ((Qx.refl (W.heap.size + 5) _).alloc _) (by omega)).on ((Qx.refl (W.heap.size + 5) _).drew) (by omega)
  · have h := (tb_new (W.alloc (.cells #[c0, c1, c2, c3, c4, c5, c6] 26)) c0 c1 c2 c3 c4 c5 c6 26).on (p := W.heap.size + 5) ((Qx.refl _ _).drew) (by simp)
    rw [show (W.alloc (.cells #[c0, c1, c2, c3, c4, c5, c6] 26)).heap.size = W.heap.size + 1 by simp] at h
    exact h
set_option maxHeartbeats 4000000 in
theorem mn_1 (n : Int) (t : ByteArray) (b : Bool) (e : Int) (a1 : Option Addr) (l1 c1 : Nat) (a2 : Option Addr) (l2 c2 : Nat) (W : World) : Calls Tryz.prog 73 #[.agg #[.int .i64 1, .int .i64 n, .string t, .bool b, .int .i64 e, .slice a1 l1 c1, .slice a2 l2 c2]] W fun e' W' => e' = .returned (.bool ((decide (0 ≤ n)) && bareB 0 t.data.toList b e l1 l2)) ∧ Q W W' := by
  obtain ⟨rb, hrb⟩ : ∃ rb, bareB 0 t.data.toList b e l1 l2 = rb := ⟨_, rfl⟩
  have HB := hid (fun W' => bare_b 1 0 t b e a1 l1 c1 a2 l2 c2 rb hrb W')
  obtain ⟨t1, t2⟩ := two_new W (.int .i64 1) (.int .i64 n) (.string t) (.bool b) (.int .i64 e) (.slice a1 l1 c1) (.slice a2 l2 c2)
  have T1 := hid t1
  have T2 := hid t2
  have HQ : Hid (Q W (((W.alloc (.cells #[.int .i64 1, .int .i64 n, .string t, .bool b, .int .i64 e, .slice a1 l1 c1, .slice a2 l2 c2] 26)).alloc (.cells #[.int .i64 1, .int .i64 n, .string t, .bool b, .int .i64 e, .slice a1 l1 c1, .slice a2 l2 c2] 26)).drew)) := hid (((Q.refl _).alloc _).alloc _).drew
  have HRB := hid hrb
  clear hrb t1 t2
  by_cases h : 0 ≤ n
  ·
    have HR : Hid (((decide (0 ≤ n)) && bareB 0 t.data.toList b e l1 l2) = rb) := by
      show _ = _
      rw [show (decide (0 ≤ n)) = true from decide_eq_true h]
      exact (Bool.true_and _).trans HRB.out
    generalize ((decide (0 ≤ n)) && bareB 0 t.data.toList b e l1 l2) = rr at HR ⊢
    go_enter Tryz.func73, Tryz.ntmps73
    go_wp2_with fail
    go_region
    obtain ⟨w1, hw1⟩ : ∃ w1, w1 = (((W.alloc (.cells #[.int .i64 1, .int .i64 n, .string t, .bool b, .int .i64 e, .slice a1 l1 c1, .slice a2 l2 c2] 26)).alloc (.cells #[.int .i64 1, .int .i64 n, .string t, .bool b, .int .i64 e, .slice a1 l1 c1, .slice a2 l2 c2] 26)).drew) := ⟨_, rfl⟩
    rw [← hw1] at T1 T2 HQ
    rw [← hw1]
    clear hw1
    obtain ⟨g0, g1, g2, g3, g4, g5, g6, _⟩ := T1.out
    obtain ⟨d0, d1, d2, d3, d4, d5, d6, yf⟩ := T2.out
    have y0 := yf 0
    have y1 := yf 1
    have y2 := yf 2
    have y3 := yf 3
    have y4 := yf 4
    have y5 := yf 5
    have y6 := yf 6
    clear yf
    go_wp2_with (first | (go_at_call 94; refine (HB.out _).mono ?_; rintro e9 w9 ⟨rfl, q9⟩; have Q9 := hid q9; clear q9))
    go_ret
    exact ⟨ret_bool HR.out.symm, Q.trans (by repeat (first | with_reducible exact QC.out | with_reducible exact HQ.out | with_reducible refine Q.drewN ?_ _ | with_reducible refine Q.drew ?_ | with_reducible refine Q.alloc ?_ _ | with_reducible refine Q.setCell ?_ (by simp) _)) Q9.out⟩
  ·
    have HR : Hid (((decide (0 ≤ n)) && bareB 0 t.data.toList b e l1 l2) = false) := by
      show _ = _
      rw [show (decide (0 ≤ n)) = false from decide_eq_false h]
      exact Bool.false_and _
    generalize ((decide (0 ≤ n)) && bareB 0 t.data.toList b e l1 l2) = rr at HR ⊢
    go_enter Tryz.func73, Tryz.ntmps73
    go_wp2_with fail
    go_region
    obtain ⟨w1, hw1⟩ : ∃ w1, w1 = (((W.alloc (.cells #[.int .i64 1, .int .i64 n, .string t, .bool b, .int .i64 e, .slice a1 l1 c1, .slice a2 l2 c2] 26)).alloc (.cells #[.int .i64 1, .int .i64 n, .string t, .bool b, .int .i64 e, .slice a1 l1 c1, .slice a2 l2 c2] 26)).drew) := ⟨_, rfl⟩
    rw [← hw1] at T1 T2 HQ
    rw [← hw1]
    clear hw1
    obtain ⟨g0, g1, g2, g3, g4, g5, g6, _⟩ := T1.out
    obtain ⟨d0, d1, d2, d3, d4, d5, d6, yf⟩ := T2.out
    have y0 := yf 0
    have y1 := yf 1
    have y2 := yf 2
    have y3 := yf 3
    have y4 := yf 4
    have y5 := yf 5
    have y6 := yf 6
    clear yf
    go_wp2_with fail
    go_ret
    exact ⟨ret_bool HR.out.symm, (by repeat (first | with_reducible exact QC.out | with_reducible exact HQ.out | with_reducible refine Q.drewN ?_ _ | with_reducible refine Q.drew ?_ | with_reducible refine Q.alloc ?_ _ | with_reducible refine Q.setCell ?_ (by simp) _))⟩
set_option maxHeartbeats 4000000 in
theorem mn_2 (n : Int) (t : ByteArray) (b : Bool) (e : Int) (a1 : Option Addr) (l1 c1 : Nat) (a2 : Option Addr) (l2 c2 : Nat) (W : World) (hw : Std W) (hs : t.size ≤ 4000000000) : Calls Tryz.prog 73 #[.agg #[.int .i64 2, .int .i64 n, .string t, .bool b, .int .i64 e, .slice a1 l1 c1, .slice a2 l2 c2]] W fun e' W' => e' = .returned (.bool ((V.mayB 2 0 t.toList false 0) && bareB n [] b e l1 l2)) ∧ Q W W' := by
  obtain ⟨rb, hrb⟩ : ∃ rb, bareB n [] b e l1 l2 = rb := ⟨_, rfl⟩
  have HB := hid (fun W' => bare_b 2 n ⟨#[]⟩ b e a1 l1 c1 a2 l2 c2 rb hrb W')
  obtain ⟨t1, t2⟩ := two_new W (.int .i64 2) (.int .i64 n) (.string t) (.bool b) (.int .i64 e) (.slice a1 l1 c1) (.slice a2 l2 c2)
  have T1 := hid t1
  have T2 := hid t2
  have HQ : Hid (Q W (((W.alloc (.cells #[.int .i64 2, .int .i64 n, .string t, .bool b, .int .i64 e, .slice a1 l1 c1, .slice a2 l2 c2] 26)).alloc (.cells #[.int .i64 2, .int .i64 n, .string t, .bool b, .int .i64 e, .slice a1 l1 c1, .slice a2 l2 c2] 26)).drew)) := hid (((Q.refl _).alloc _).alloc _).drew
  have HRB := hid hrb
  clear hrb t1 t2
  have HM := hid (fun W' (q : Q W W') => V.may_any 2 0 t false 0 W' (hw.on q) (by omega))
  clear hw
  cases h : V.mayB 2 0 t.toList false 0
  ·
    rw [h] at HM
    have HR : Hid (((false) && bareB n [] b e l1 l2) = false) := by
      show _ = _
      rw [show (false) = false from rfl]
      exact Bool.false_and _
    generalize ((false) && bareB n [] b e l1 l2) = rr at HR ⊢
    go_enter Tryz.func73, Tryz.ntmps73
    go_wp2_with fail
    go_region
    obtain ⟨w1, hw1⟩ : ∃ w1, w1 = (((W.alloc (.cells #[.int .i64 2, .int .i64 n, .string t, .bool b, .int .i64 e, .slice a1 l1 c1, .slice a2 l2 c2] 26)).alloc (.cells #[.int .i64 2, .int .i64 n, .string t, .bool b, .int .i64 e, .slice a1 l1 c1, .slice a2 l2 c2] 26)).drew) := ⟨_, rfl⟩
    rw [← hw1] at T1 T2 HQ
    rw [← hw1]
    clear hw1
    obtain ⟨g0, g1, g2, g3, g4, g5, g6, _⟩ := T1.out
    obtain ⟨d0, d1, d2, d3, d4, d5, d6, yf⟩ := T2.out
    have y0 := yf 0
    have y1 := yf 1
    have y2 := yf 2
    have y3 := yf 3
    have y4 := yf 4
    have y5 := yf 5
    have y6 := yf 6
    clear yf
    go_wp2_with (first | (go_at_call 88; refine (HM.out _ HQ.out).mono ?_; rintro e8 w2 ⟨rfl, q2⟩; have QC := hid (HQ.out.trans q2); have T3 := hid (T2.out.on (Qx.of (p := W.heap.size + 5) q2) (by omega)); clear q2; have v0 := T3.out.g0; have v1 := T3.out.g1; have v2 := T3.out.g2; have v3 := T3.out.g3; have v4 := T3.out.g4; have v5 := T3.out.g5; have v6 := T3.out.g6; have x0 := T3.out.f 0; have x1 := T3.out.f 1; have x2 := T3.out.f 2; have x3 := T3.out.f 3; have x4 := T3.out.f 4; have x5 := T3.out.f 5; have x6 := T3.out.f 6))
    go_ret
    exact ⟨ret_bool HR.out.symm, (by repeat (first | with_reducible exact QC.out | with_reducible exact HQ.out | with_reducible refine Q.drewN ?_ _ | with_reducible refine Q.drew ?_ | with_reducible refine Q.alloc ?_ _ | with_reducible refine Q.setCell ?_ (by simp) _))⟩
  ·
    rw [h] at HM
    have HR : Hid (((true) && bareB n [] b e l1 l2) = rb) := by
      show _ = _
      rw [show (true) = true from rfl]
      exact (Bool.true_and _).trans HRB.out
    generalize ((true) && bareB n [] b e l1 l2) = rr at HR ⊢
    go_enter Tryz.func73, Tryz.ntmps73
    go_wp2_with fail
    go_region
    obtain ⟨w1, hw1⟩ : ∃ w1, w1 = (((W.alloc (.cells #[.int .i64 2, .int .i64 n, .string t, .bool b, .int .i64 e, .slice a1 l1 c1, .slice a2 l2 c2] 26)).alloc (.cells #[.int .i64 2, .int .i64 n, .string t, .bool b, .int .i64 e, .slice a1 l1 c1, .slice a2 l2 c2] 26)).drew) := ⟨_, rfl⟩
    rw [← hw1] at T1 T2 HQ
    rw [← hw1]
    clear hw1
    obtain ⟨g0, g1, g2, g3, g4, g5, g6, _⟩ := T1.out
    obtain ⟨d0, d1, d2, d3, d4, d5, d6, yf⟩ := T2.out
    have y0 := yf 0
    have y1 := yf 1
    have y2 := yf 2
    have y3 := yf 3
    have y4 := yf 4
    have y5 := yf 5
    have y6 := yf 6
    clear yf
    go_wp2_with (first | (go_at_call 88; refine (HM.out _ HQ.out).mono ?_; rintro e8 w2 ⟨rfl, q2⟩; have QC := hid (HQ.out.trans q2); have T3 := hid (T2.out.on (Qx.of (p := W.heap.size + 5) q2) (by omega)); clear q2; have v0 := T3.out.g0; have v1 := T3.out.g1; have v2 := T3.out.g2; have v3 := T3.out.g3; have v4 := T3.out.g4; have v5 := T3.out.g5; have v6 := T3.out.g6; have x0 := T3.out.f 0; have x1 := T3.out.f 1; have x2 := T3.out.f 2; have x3 := T3.out.f 3; have x4 := T3.out.f 4; have x5 := T3.out.f 5; have x6 := T3.out.f 6) | (go_at_call 94; refine (HB.out _).mono ?_; rintro e9 w9 ⟨rfl, q9⟩; have Q9 := hid q9; clear q9))
    go_ret
    exact ⟨ret_bool HR.out.symm, Q.trans (by repeat (first | with_reducible exact QC.out | with_reducible exact HQ.out | with_reducible refine Q.drewN ?_ _ | with_reducible refine Q.drew ?_ | with_reducible refine Q.alloc ?_ _ | with_reducible refine Q.setCell ?_ (by simp) _)) Q9.out⟩
set_option maxHeartbeats 4000000 in
theorem mn_3 (n : Int) (t : ByteArray) (b : Bool) (e : Int) (a1 : Option Addr) (l1 c1 : Nat) (a2 : Option Addr) (l2 c2 : Nat) (W : World) : Calls Tryz.prog 73 #[.agg #[.int .i64 3, .int .i64 n, .string t, .bool b, .int .i64 e, .slice a1 l1 c1, .slice a2 l2 c2]] W fun e' W' => e' = .returned (.bool ((true) && bareB n t.data.toList false e l1 l2)) ∧ Q W W' := by
  obtain ⟨rb, hrb⟩ : ∃ rb, bareB n t.data.toList false e l1 l2 = rb := ⟨_, rfl⟩
  have HB := hid (fun W' => bare_b 3 n t false e a1 l1 c1 a2 l2 c2 rb hrb W')
  obtain ⟨t1, t2⟩ := two_new W (.int .i64 3) (.int .i64 n) (.string t) (.bool b) (.int .i64 e) (.slice a1 l1 c1) (.slice a2 l2 c2)
  have T1 := hid t1
  have T2 := hid t2
  have HQ : Hid (Q W (((W.alloc (.cells #[.int .i64 3, .int .i64 n, .string t, .bool b, .int .i64 e, .slice a1 l1 c1, .slice a2 l2 c2] 26)).alloc (.cells #[.int .i64 3, .int .i64 n, .string t, .bool b, .int .i64 e, .slice a1 l1 c1, .slice a2 l2 c2] 26)).drew)) := hid (((Q.refl _).alloc _).alloc _).drew
  have HRB := hid hrb
  clear hrb t1 t2
  have HR : Hid (((true) && bareB n t.data.toList false e l1 l2) = rb) := by
    show _ = _
    rw [show (true) = true from rfl]
    exact (Bool.true_and _).trans HRB.out
  generalize ((true) && bareB n t.data.toList false e l1 l2) = rr at HR ⊢
  go_enter Tryz.func73, Tryz.ntmps73
  go_wp2_with fail
  go_region
  obtain ⟨w1, hw1⟩ : ∃ w1, w1 = (((W.alloc (.cells #[.int .i64 3, .int .i64 n, .string t, .bool b, .int .i64 e, .slice a1 l1 c1, .slice a2 l2 c2] 26)).alloc (.cells #[.int .i64 3, .int .i64 n, .string t, .bool b, .int .i64 e, .slice a1 l1 c1, .slice a2 l2 c2] 26)).drew) := ⟨_, rfl⟩
  rw [← hw1] at T1 T2 HQ
  rw [← hw1]
  clear hw1
  obtain ⟨g0, g1, g2, g3, g4, g5, g6, _⟩ := T1.out
  obtain ⟨d0, d1, d2, d3, d4, d5, d6, yf⟩ := T2.out
  have y0 := yf 0
  have y1 := yf 1
  have y2 := yf 2
  have y3 := yf 3
  have y4 := yf 4
  have y5 := yf 5
  have y6 := yf 6
  clear yf
  go_wp2_with (first | (go_at_call 94; refine (HB.out _).mono ?_; rintro e9 w9 ⟨rfl, q9⟩; have Q9 := hid q9; clear q9))
  go_ret
  exact ⟨ret_bool HR.out.symm, Q.trans (by repeat (first | with_reducible exact QC.out | with_reducible exact HQ.out | with_reducible refine Q.drewN ?_ _ | with_reducible refine Q.drew ?_ | with_reducible refine Q.alloc ?_ _ | with_reducible refine Q.setCell ?_ (by simp) _)) Q9.out⟩
set_option maxHeartbeats 4000000 in
theorem mn_4 (n : Int) (t : ByteArray) (b : Bool) (e : Int) (a1 : Option Addr) (l1 c1 : Nat) (a2 : Option Addr) (l2 c2 : Nat) (W : World) (hw : Std W) : Calls Tryz.prog 73 #[.agg #[.int .i64 4, .int .i64 n, .string t, .bool b, .int .i64 e, .slice a1 l1 c1, .slice a2 l2 c2]] W fun e' W' => e' = .returned (.bool ((decide (enL e ≠ [])) && bareB n t.data.toList b 0 l1 l2)) ∧ Q W W' := by
  obtain ⟨rb, hrb⟩ : ∃ rb, bareB n t.data.toList b 0 l1 l2 = rb := ⟨_, rfl⟩
  have HB := hid (fun W' => bare_b 4 n t b 0 a1 l1 c1 a2 l2 c2 rb hrb W')
  obtain ⟨t1, t2⟩ := two_new W (.int .i64 4) (.int .i64 n) (.string t) (.bool b) (.int .i64 e) (.slice a1 l1 c1) (.slice a2 l2 c2)
  have T1 := hid t1
  have T2 := hid t2
  have HQ : Hid (Q W (((W.alloc (.cells #[.int .i64 4, .int .i64 n, .string t, .bool b, .int .i64 e, .slice a1 l1 c1, .slice a2 l2 c2] 26)).alloc (.cells #[.int .i64 4, .int .i64 n, .string t, .bool b, .int .i64 e, .slice a1 l1 c1, .slice a2 l2 c2] 26)).drew)) := hid (((Q.refl _).alloc _).alloc _).drew
  have HRB := hid hrb
  clear hrb t1 t2
  have HM := hid (fun W' (q : Q W W') => V.name_any e W' (hw.on q).nam)
  clear hw
  obtain ⟨S, hS, lS⟩ : ∃ S : ByteArray, ⟨(enL e).toArray⟩ = S ∧ S.data.toList = enL e := ⟨_, rfl, rfl⟩
  rw [hS] at HM
  by_cases h : enL e ≠ []
  ·
    have f4 : (S.toList == []) = false := by rw [toL, lS, beq_eq_false_iff_ne]; exact h
    clear hS lS
    have HR : Hid (((decide (enL e ≠ [])) && bareB n t.data.toList b 0 l1 l2) = rb) := by
      show _ = _
      rw [show (decide (enL e ≠ [])) = true from decide_eq_true h]
      exact (Bool.true_and _).trans HRB.out
    generalize ((decide (enL e ≠ [])) && bareB n t.data.toList b 0 l1 l2) = rr at HR ⊢
    go_enter Tryz.func73, Tryz.ntmps73
    go_wp2_with fail
    go_region
    obtain ⟨w1, hw1⟩ : ∃ w1, w1 = (((W.alloc (.cells #[.int .i64 4, .int .i64 n, .string t, .bool b, .int .i64 e, .slice a1 l1 c1, .slice a2 l2 c2] 26)).alloc (.cells #[.int .i64 4, .int .i64 n, .string t, .bool b, .int .i64 e, .slice a1 l1 c1, .slice a2 l2 c2] 26)).drew) := ⟨_, rfl⟩
    rw [← hw1] at T1 T2 HQ
    rw [← hw1]
    clear hw1
    obtain ⟨g0, g1, g2, g3, g4, g5, g6, _⟩ := T1.out
    obtain ⟨d0, d1, d2, d3, d4, d5, d6, yf⟩ := T2.out
    have y0 := yf 0
    have y1 := yf 1
    have y2 := yf 2
    have y3 := yf 3
    have y4 := yf 4
    have y5 := yf 5
    have y6 := yf 6
    clear yf
    go_wp2_with (first | (go_at_call 89; refine (HM.out _ HQ.out).mono ?_; rintro e8 w2 ⟨rfl, h2⟩; replace h2 := h2.symm; subst h2) | (go_at_call 94; refine (HB.out _).mono ?_; rintro e9 w9 ⟨rfl, q9⟩; have Q9 := hid q9; clear q9))
    go_ret
    exact ⟨ret_bool HR.out.symm, Q.trans (by repeat (first | with_reducible exact QC.out | with_reducible exact HQ.out | with_reducible refine Q.drewN ?_ _ | with_reducible refine Q.drew ?_ | with_reducible refine Q.alloc ?_ _ | with_reducible refine Q.setCell ?_ (by simp) _)) Q9.out⟩
  ·
    have f4 : (S.toList == []) = true := by rw [toL, lS, Classical.not_not.1 h]; rfl
    clear hS lS
    have HR : Hid (((decide (enL e ≠ [])) && bareB n t.data.toList b 0 l1 l2) = false) := by
      show _ = _
      rw [show (decide (enL e ≠ [])) = false from decide_eq_false h]
      exact Bool.false_and _
    generalize ((decide (enL e ≠ [])) && bareB n t.data.toList b 0 l1 l2) = rr at HR ⊢
    go_enter Tryz.func73, Tryz.ntmps73
    go_wp2_with fail
    go_region
    obtain ⟨w1, hw1⟩ : ∃ w1, w1 = (((W.alloc (.cells #[.int .i64 4, .int .i64 n, .string t, .bool b, .int .i64 e, .slice a1 l1 c1, .slice a2 l2 c2] 26)).alloc (.cells #[.int .i64 4, .int .i64 n, .string t, .bool b, .int .i64 e, .slice a1 l1 c1, .slice a2 l2 c2] 26)).drew) := ⟨_, rfl⟩
    rw [← hw1] at T1 T2 HQ
    rw [← hw1]
    clear hw1
    obtain ⟨g0, g1, g2, g3, g4, g5, g6, _⟩ := T1.out
    obtain ⟨d0, d1, d2, d3, d4, d5, d6, yf⟩ := T2.out
    have y0 := yf 0
    have y1 := yf 1
    have y2 := yf 2
    have y3 := yf 3
    have y4 := yf 4
    have y5 := yf 5
    have y6 := yf 6
    clear yf
    go_wp2_with (first | (go_at_call 89; refine (HM.out _ HQ.out).mono ?_; rintro e8 w2 ⟨rfl, h2⟩; replace h2 := h2.symm; subst h2))
    go_ret
    exact ⟨ret_bool HR.out.symm, (by repeat (first | with_reducible exact QC.out | with_reducible exact HQ.out | with_reducible refine Q.drewN ?_ _ | with_reducible refine Q.drew ?_ | with_reducible refine Q.alloc ?_ _ | with_reducible refine Q.setCell ?_ (by simp) _))⟩
set_option maxHeartbeats 4000000 in
theorem mn_7 (n : Int) (t : ByteArray) (b : Bool) (e : Int) (a1 : Option Addr) (l1 c1 : Nat) (a2 : Option Addr) (l2 c2 : Nat) (W : World) : Calls Tryz.prog 73 #[.agg #[.int .i64 7, .int .i64 n, .string t, .bool b, .int .i64 e, .slice a1 l1 c1, .slice a2 l2 c2]] W fun e' W' => e' = .returned (.bool ((decide (l2 = 1)) && bareB n t.data.toList b e l1 0)) ∧ Q W W' := by
  obtain ⟨rb, hrb⟩ : ∃ rb, bareB n t.data.toList b e l1 0 = rb := ⟨_, rfl⟩
  have HB := hid (fun W' => bare_b 7 n t b e a1 l1 c1 none 0 0 rb hrb W')
  obtain ⟨t1, t2⟩ := two_new W (.int .i64 7) (.int .i64 n) (.string t) (.bool b) (.int .i64 e) (.slice a1 l1 c1) (.slice a2 l2 c2)
  have T1 := hid t1
  have T2 := hid t2
  have HQ : Hid (Q W (((W.alloc (.cells #[.int .i64 7, .int .i64 n, .string t, .bool b, .int .i64 e, .slice a1 l1 c1, .slice a2 l2 c2] 26)).alloc (.cells #[.int .i64 7, .int .i64 n, .string t, .bool b, .int .i64 e, .slice a1 l1 c1, .slice a2 l2 c2] 26)).drew)) := hid (((Q.refl _).alloc _).alloc _).drew
  have HRB := hid hrb
  clear hrb t1 t2
  by_cases h : l2 = 1
  ·
    have f7 : ((l2 : Int) == 1) = true := by rw [h]; rfl
    have HR : Hid (((decide (l2 = 1)) && bareB n t.data.toList b e l1 0) = rb) := by
      show _ = _
      rw [show (decide (l2 = 1)) = true from decide_eq_true h]
      exact (Bool.true_and _).trans HRB.out
    generalize ((decide (l2 = 1)) && bareB n t.data.toList b e l1 0) = rr at HR ⊢
    clear h
    go_enter Tryz.func73, Tryz.ntmps73
    go_wp2_with fail
    go_region
    obtain ⟨w1, hw1⟩ : ∃ w1, w1 = (((W.alloc (.cells #[.int .i64 7, .int .i64 n, .string t, .bool b, .int .i64 e, .slice a1 l1 c1, .slice a2 l2 c2] 26)).alloc (.cells #[.int .i64 7, .int .i64 n, .string t, .bool b, .int .i64 e, .slice a1 l1 c1, .slice a2 l2 c2] 26)).drew) := ⟨_, rfl⟩
    rw [← hw1] at T1 T2 HQ
    rw [← hw1]
    clear hw1
    obtain ⟨g0, g1, g2, g3, g4, g5, g6, _⟩ := T1.out
    obtain ⟨d0, d1, d2, d3, d4, d5, d6, yf⟩ := T2.out
    have y0 := yf 0
    have y1 := yf 1
    have y2 := yf 2
    have y3 := yf 3
    have y4 := yf 4
    have y5 := yf 5
    have y6 := yf 6
    clear yf
    go_wp2_with (first | (go_at_call 94; refine (HB.out _).mono ?_; rintro e9 w9 ⟨rfl, q9⟩; have Q9 := hid q9; clear q9))
    go_ret
    exact ⟨ret_bool HR.out.symm, Q.trans (by repeat (first | with_reducible exact QC.out | with_reducible exact HQ.out | with_reducible refine Q.drewN ?_ _ | with_reducible refine Q.drew ?_ | with_reducible refine Q.alloc ?_ _ | with_reducible refine Q.setCell ?_ (by simp) _)) Q9.out⟩
  ·
    have f7 : ((l2 : Int) == 1) = false := by rw [beq_eq_false_iff_ne]; omega
    have HR : Hid (((decide (l2 = 1)) && bareB n t.data.toList b e l1 0) = false) := by
      show _ = _
      rw [show (decide (l2 = 1)) = false from decide_eq_false h]
      exact Bool.false_and _
    generalize ((decide (l2 = 1)) && bareB n t.data.toList b e l1 0) = rr at HR ⊢
    go_enter Tryz.func73, Tryz.ntmps73
    go_wp2_with fail
    go_region
    obtain ⟨w1, hw1⟩ : ∃ w1, w1 = (((W.alloc (.cells #[.int .i64 7, .int .i64 n, .string t, .bool b, .int .i64 e, .slice a1 l1 c1, .slice a2 l2 c2] 26)).alloc (.cells #[.int .i64 7, .int .i64 n, .string t, .bool b, .int .i64 e, .slice a1 l1 c1, .slice a2 l2 c2] 26)).drew) := ⟨_, rfl⟩
    rw [← hw1] at T1 T2 HQ
    rw [← hw1]
    clear hw1
    obtain ⟨g0, g1, g2, g3, g4, g5, g6, _⟩ := T1.out
    obtain ⟨d0, d1, d2, d3, d4, d5, d6, yf⟩ := T2.out
    have y0 := yf 0
    have y1 := yf 1
    have y2 := yf 2
    have y3 := yf 3
    have y4 := yf 4
    have y5 := yf 5
    have y6 := yf 6
    clear yf
    go_wp2_with fail
    go_ret
    exact ⟨ret_bool HR.out.symm, (by repeat (first | with_reducible exact QC.out | with_reducible exact HQ.out | with_reducible refine Q.drewN ?_ _ | with_reducible refine Q.drew ?_ | with_reducible refine Q.alloc ?_ _ | with_reducible refine Q.setCell ?_ (by simp) _))⟩
set_option maxHeartbeats 4000000 in
theorem mn_8 (n : Int) (t : ByteArray) (b : Bool) (e : Int) (a1 : Option Addr) (l1 c1 : Nat) (a2 : Option Addr) (l2 c2 : Nat) (W : World) : Calls Tryz.prog 73 #[.agg #[.int .i64 8, .int .i64 n, .string t, .bool b, .int .i64 e, .slice a1 l1 c1, .slice a2 l2 c2]] W fun e' W' => e' = .returned (.bool ((decide (1 ≤ lvl t.data.toList) && decide (l2 = 2)) && bareB n [] b e l1 0)) ∧ Q W W' := by
  obtain ⟨rb, hrb⟩ : ∃ rb, bareB n [] b e l1 0 = rb := ⟨_, rfl⟩
  have HB := hid (fun W' => bare_b 8 n ⟨#[]⟩ b e a1 l1 c1 none 0 0 rb hrb W')
  obtain ⟨t1, t2⟩ := two_new W (.int .i64 8) (.int .i64 n) (.string t) (.bool b) (.int .i64 e) (.slice a1 l1 c1) (.slice a2 l2 c2)
  have T1 := hid t1
  have T2 := hid t2
  have HQ : Hid (Q W (((W.alloc (.cells #[.int .i64 8, .int .i64 n, .string t, .bool b, .int .i64 e, .slice a1 l1 c1, .slice a2 l2 c2] 26)).alloc (.cells #[.int .i64 8, .int .i64 n, .string t, .bool b, .int .i64 e, .slice a1 l1 c1, .slice a2 l2 c2] 26)).drew)) := hid (((Q.refl _).alloc _).alloc _).drew
  have HRB := hid hrb
  clear hrb t1 t2
  have HM := hid (fun W' => strength_any t W')
  obtain ⟨lv, hlv⟩ : ∃ lv, lvl t.data.toList = lv := ⟨_, rfl⟩
  rw [hlv] at HM ⊢
  by_cases h : 1 ≤ lv
  · have f8 : (1 : Int) ≤ (lv : Int) := by omega
    by_cases h2 : l2 = 2
    ·
      have f7 : ((l2 : Int) == 2) = true := by rw [h2]; rfl
      have HR : Hid (((decide (1 ≤ lv) && decide (l2 = 2)) && bareB n [] b e l1 0) = rb) := by
        show _ = _
        rw [show (decide (1 ≤ lv) && decide (l2 = 2)) = true from by rw [decide_eq_true h, decide_eq_true h2]; rfl]
        exact (Bool.true_and _).trans HRB.out
      generalize ((decide (1 ≤ lv) && decide (l2 = 2)) && bareB n [] b e l1 0) = rr at HR ⊢
      clear h2
      go_enter Tryz.func73, Tryz.ntmps73
      go_wp2_with fail
      go_region
      obtain ⟨w1, hw1⟩ : ∃ w1, w1 = (((W.alloc (.cells #[.int .i64 8, .int .i64 n, .string t, .bool b, .int .i64 e, .slice a1 l1 c1, .slice a2 l2 c2] 26)).alloc (.cells #[.int .i64 8, .int .i64 n, .string t, .bool b, .int .i64 e, .slice a1 l1 c1, .slice a2 l2 c2] 26)).drew) := ⟨_, rfl⟩
      rw [← hw1] at T1 T2 HQ
      rw [← hw1]
      clear hw1
      obtain ⟨g0, g1, g2, g3, g4, g5, g6, _⟩ := T1.out
      obtain ⟨d0, d1, d2, d3, d4, d5, d6, yf⟩ := T2.out
      have y0 := yf 0
      have y1 := yf 1
      have y2 := yf 2
      have y3 := yf 3
      have y4 := yf 4
      have y5 := yf 5
      have y6 := yf 6
      clear yf
      go_wp2_with (first | (go_at_call 92; refine (HM.out _).mono ?_; rintro e8 w2 ⟨rfl, h2⟩; replace h2 := h2.symm; subst h2) | (go_at_call 94; refine (HB.out _).mono ?_; rintro e9 w9 ⟨rfl, q9⟩; have Q9 := hid q9; clear q9))
      go_ret
      exact ⟨ret_bool HR.out.symm, Q.trans (by repeat (first | with_reducible exact QC.out | with_reducible exact HQ.out | with_reducible refine Q.drewN ?_ _ | with_reducible refine Q.drew ?_ | with_reducible refine Q.alloc ?_ _ | with_reducible refine Q.setCell ?_ (by simp) _)) Q9.out⟩
    ·
      have f7 : ((l2 : Int) == 2) = false := by rw [beq_eq_false_iff_ne]; omega
      have HR : Hid (((decide (1 ≤ lv) && decide (l2 = 2)) && bareB n [] b e l1 0) = false) := by
        show _ = _
        rw [show (decide (1 ≤ lv) && decide (l2 = 2)) = false from by rw [decide_eq_false h2, Bool.and_false]]
        exact Bool.false_and _
      generalize ((decide (1 ≤ lv) && decide (l2 = 2)) && bareB n [] b e l1 0) = rr at HR ⊢
      go_enter Tryz.func73, Tryz.ntmps73
      go_wp2_with fail
      go_region
      obtain ⟨w1, hw1⟩ : ∃ w1, w1 = (((W.alloc (.cells #[.int .i64 8, .int .i64 n, .string t, .bool b, .int .i64 e, .slice a1 l1 c1, .slice a2 l2 c2] 26)).alloc (.cells #[.int .i64 8, .int .i64 n, .string t, .bool b, .int .i64 e, .slice a1 l1 c1, .slice a2 l2 c2] 26)).drew) := ⟨_, rfl⟩
      rw [← hw1] at T1 T2 HQ
      rw [← hw1]
      clear hw1
      obtain ⟨g0, g1, g2, g3, g4, g5, g6, _⟩ := T1.out
      obtain ⟨d0, d1, d2, d3, d4, d5, d6, yf⟩ := T2.out
      have y0 := yf 0
      have y1 := yf 1
      have y2 := yf 2
      have y3 := yf 3
      have y4 := yf 4
      have y5 := yf 5
      have y6 := yf 6
      clear yf
      go_wp2_with (first | (go_at_call 92; refine (HM.out _).mono ?_; rintro e8 w2 ⟨rfl, h2⟩; replace h2 := h2.symm; subst h2))
      go_ret
      exact ⟨ret_bool HR.out.symm, (by repeat (first | with_reducible exact QC.out | with_reducible exact HQ.out | with_reducible refine Q.drewN ?_ _ | with_reducible refine Q.drew ?_ | with_reducible refine Q.alloc ?_ _ | with_reducible refine Q.setCell ?_ (by simp) _))⟩
  · have f8 : ¬ (1 : Int) ≤ (lv : Int) := by omega
    have HR : Hid (((decide (1 ≤ lv) && decide (l2 = 2)) && bareB n [] b e l1 0) = false) := by
      show _ = _
      rw [show (decide (1 ≤ lv) && decide (l2 = 2)) = false from by rw [decide_eq_false h, Bool.false_and]]
      exact Bool.false_and _
    generalize ((decide (1 ≤ lv) && decide (l2 = 2)) && bareB n [] b e l1 0) = rr at HR ⊢
    go_enter Tryz.func73, Tryz.ntmps73
    go_wp2_with fail
    go_region
    obtain ⟨w1, hw1⟩ : ∃ w1, w1 = (((W.alloc (.cells #[.int .i64 8, .int .i64 n, .string t, .bool b, .int .i64 e, .slice a1 l1 c1, .slice a2 l2 c2] 26)).alloc (.cells #[.int .i64 8, .int .i64 n, .string t, .bool b, .int .i64 e, .slice a1 l1 c1, .slice a2 l2 c2] 26)).drew) := ⟨_, rfl⟩
    rw [← hw1] at T1 T2 HQ
    rw [← hw1]
    clear hw1
    obtain ⟨g0, g1, g2, g3, g4, g5, g6, _⟩ := T1.out
    obtain ⟨d0, d1, d2, d3, d4, d5, d6, yf⟩ := T2.out
    have y0 := yf 0
    have y1 := yf 1
    have y2 := yf 2
    have y3 := yf 3
    have y4 := yf 4
    have y5 := yf 5
    have y6 := yf 6
    clear yf
    go_wp2_with (first | (go_at_call 92; refine (HM.out _).mono ?_; rintro e8 w2 ⟨rfl, h2⟩; replace h2 := h2.symm; subst h2))
    go_ret
    exact ⟨ret_bool HR.out.symm, (by repeat (first | with_reducible exact QC.out | with_reducible exact HQ.out | with_reducible refine Q.drewN ?_ _ | with_reducible refine Q.drew ?_ | with_reducible refine Q.alloc ?_ _ | with_reducible refine Q.setCell ?_ (by simp) _))⟩
set_option maxHeartbeats 4000000 in
theorem mn_9 (n : Int) (t : ByteArray) (b : Bool) (e : Int) (a1 : Option Addr) (l1 c1 : Nat) (a2 : Option Addr) (l2 c2 : Nat) (W : World) (hs : t.size ≤ 4000000000) : Calls Tryz.prog 73 #[.agg #[.int .i64 9, .int .i64 n, .string t, .bool b, .int .i64 e, .slice a1 l1 c1, .slice a2 l2 c2]] W fun e' W' => e' = .returned (.bool ((namF t.data.toList && decide (l2 ≤ 30)) && bareB n [] b e l1 0)) ∧ Q W W' := by
  obtain ⟨rb, hrb⟩ : ∃ rb, bareB n [] b e l1 0 = rb := ⟨_, rfl⟩
  have HB := hid (fun W' => bare_b 9 n ⟨#[]⟩ b e a1 l1 c1 none 0 0 rb hrb W')
  obtain ⟨t1, t2⟩ := two_new W (.int .i64 9) (.int .i64 n) (.string t) (.bool b) (.int .i64 e) (.slice a1 l1 c1) (.slice a2 l2 c2)
  have T1 := hid t1
  have T2 := hid t2
  have HQ : Hid (Q W (((W.alloc (.cells #[.int .i64 9, .int .i64 n, .string t, .bool b, .int .i64 e, .slice a1 l1 c1, .slice a2 l2 c2] 26)).alloc (.cells #[.int .i64 9, .int .i64 n, .string t, .bool b, .int .i64 e, .slice a1 l1 c1, .slice a2 l2 c2] 26)).drew)) := hid (((Q.refl _).alloc _).alloc _).drew
  have HRB := hid hrb
  clear hrb t1 t2
  have HM := hid (fun W' => mayname_any t W' hs)
  cases h : namF t.data.toList
  ·
    rw [h] at HM
    have HR : Hid (((false && decide (l2 ≤ 30)) && bareB n [] b e l1 0) = false) := by
      show _ = _
      rw [show (false && decide (l2 ≤ 30)) = false from Bool.false_and _]
      exact Bool.false_and _
    generalize ((false && decide (l2 ≤ 30)) && bareB n [] b e l1 0) = rr at HR ⊢
    go_enter Tryz.func73, Tryz.ntmps73
    go_wp2_with fail
    go_region
    obtain ⟨w1, hw1⟩ : ∃ w1, w1 = (((W.alloc (.cells #[.int .i64 9, .int .i64 n, .string t, .bool b, .int .i64 e, .slice a1 l1 c1, .slice a2 l2 c2] 26)).alloc (.cells #[.int .i64 9, .int .i64 n, .string t, .bool b, .int .i64 e, .slice a1 l1 c1, .slice a2 l2 c2] 26)).drew) := ⟨_, rfl⟩
    rw [← hw1] at T1 T2 HQ
    rw [← hw1]
    clear hw1
    obtain ⟨g0, g1, g2, g3, g4, g5, g6, _⟩ := T1.out
    obtain ⟨d0, d1, d2, d3, d4, d5, d6, yf⟩ := T2.out
    have y0 := yf 0
    have y1 := yf 1
    have y2 := yf 2
    have y3 := yf 3
    have y4 := yf 4
    have y5 := yf 5
    have y6 := yf 6
    clear yf
    go_wp2_with (first | (go_at_call 93; refine (HM.out _).mono ?_; rintro e8 w2 ⟨rfl, h2⟩; replace h2 := h2.symm; subst h2))
    go_ret
    exact ⟨ret_bool HR.out.symm, (by repeat (first | with_reducible exact QC.out | with_reducible exact HQ.out | with_reducible refine Q.drewN ?_ _ | with_reducible refine Q.drew ?_ | with_reducible refine Q.alloc ?_ _ | with_reducible refine Q.setCell ?_ (by simp) _))⟩
  · rw [h] at HM
    by_cases h2 : l2 ≤ 30
    ·
      have f7 : (l2 : Int) ≤ 30 := by omega
      have HR : Hid (((true && decide (l2 ≤ 30)) && bareB n [] b e l1 0) = rb) := by
        show _ = _
        rw [show (true && decide (l2 ≤ 30)) = true from by rw [decide_eq_true h2]; rfl]
        exact (Bool.true_and _).trans HRB.out
      generalize ((true && decide (l2 ≤ 30)) && bareB n [] b e l1 0) = rr at HR ⊢
      go_enter Tryz.func73, Tryz.ntmps73
      go_wp2_with fail
      go_region
      obtain ⟨w1, hw1⟩ : ∃ w1, w1 = (((W.alloc (.cells #[.int .i64 9, .int .i64 n, .string t, .bool b, .int .i64 e, .slice a1 l1 c1, .slice a2 l2 c2] 26)).alloc (.cells #[.int .i64 9, .int .i64 n, .string t, .bool b, .int .i64 e, .slice a1 l1 c1, .slice a2 l2 c2] 26)).drew) := ⟨_, rfl⟩
      rw [← hw1] at T1 T2 HQ
      rw [← hw1]
      clear hw1
      obtain ⟨g0, g1, g2, g3, g4, g5, g6, _⟩ := T1.out
      obtain ⟨d0, d1, d2, d3, d4, d5, d6, yf⟩ := T2.out
      have y0 := yf 0
      have y1 := yf 1
      have y2 := yf 2
      have y3 := yf 3
      have y4 := yf 4
      have y5 := yf 5
      have y6 := yf 6
      clear yf
      go_wp2_with (first | (go_at_call 93; refine (HM.out _).mono ?_; rintro e8 w2 ⟨rfl, h2⟩; replace h2 := h2.symm; subst h2) | (go_at_call 94; refine (HB.out _).mono ?_; rintro e9 w9 ⟨rfl, q9⟩; have Q9 := hid q9; clear q9))
      go_ret
      exact ⟨ret_bool HR.out.symm, Q.trans (by repeat (first | with_reducible exact QC.out | with_reducible exact HQ.out | with_reducible refine Q.drewN ?_ _ | with_reducible refine Q.drew ?_ | with_reducible refine Q.alloc ?_ _ | with_reducible refine Q.setCell ?_ (by simp) _)) Q9.out⟩
    ·
      have f7 : ¬ (l2 : Int) ≤ 30 := by omega
      have HR : Hid (((true && decide (l2 ≤ 30)) && bareB n [] b e l1 0) = false) := by
        show _ = _
        rw [show (true && decide (l2 ≤ 30)) = false from by rw [decide_eq_false h2]; rfl]
        exact Bool.false_and _
      generalize ((true && decide (l2 ≤ 30)) && bareB n [] b e l1 0) = rr at HR ⊢
      go_enter Tryz.func73, Tryz.ntmps73
      go_wp2_with fail
      go_region
      obtain ⟨w1, hw1⟩ : ∃ w1, w1 = (((W.alloc (.cells #[.int .i64 9, .int .i64 n, .string t, .bool b, .int .i64 e, .slice a1 l1 c1, .slice a2 l2 c2] 26)).alloc (.cells #[.int .i64 9, .int .i64 n, .string t, .bool b, .int .i64 e, .slice a1 l1 c1, .slice a2 l2 c2] 26)).drew) := ⟨_, rfl⟩
      rw [← hw1] at T1 T2 HQ
      rw [← hw1]
      clear hw1
      obtain ⟨g0, g1, g2, g3, g4, g5, g6, _⟩ := T1.out
      obtain ⟨d0, d1, d2, d3, d4, d5, d6, yf⟩ := T2.out
      have y0 := yf 0
      have y1 := yf 1
      have y2 := yf 2
      have y3 := yf 3
      have y4 := yf 4
      have y5 := yf 5
      have y6 := yf 6
      clear yf
      go_wp2_with (first | (go_at_call 93; refine (HM.out _).mono ?_; rintro e8 w2 ⟨rfl, h2⟩; replace h2 := h2.symm; subst h2))
      go_ret
      exact ⟨ret_bool HR.out.symm, (by repeat (first | with_reducible exact QC.out | with_reducible exact HQ.out | with_reducible refine Q.drewN ?_ _ | with_reducible refine Q.drew ?_ | with_reducible refine Q.alloc ?_ _ | with_reducible refine Q.setCell ?_ (by simp) _))⟩
set_option maxHeartbeats 4000000 in
theorem mn_k (k : Int) (n : Int) (t : ByteArray) (b : Bool) (e : Int) (a1 : Option Addr) (l1 c1 : Nat) (a2 : Option Addr) (l2 c2 : Nat) (W : World) (hk : k < 1 ∨ 9 < k) : Calls Tryz.prog 73 #[.agg #[.int .i64 k, .int .i64 n, .string t, .bool b, .int .i64 e, .slice a1 l1 c1, .slice a2 l2 c2]] W fun e' W' => e' = .returned (.bool false) ∧ Q W W' := by
  have k1 : (k == 1) = false := by rw [beq_eq_false_iff_ne]; omega
  have k2 : (k == 2) = false := by rw [beq_eq_false_iff_ne]; omega
  have k3 : (k == 3) = false := by rw [beq_eq_false_iff_ne]; omega
  have k4 : (k == 4) = false := by rw [beq_eq_false_iff_ne]; omega
  have k5 : (k == 5) = false := by rw [beq_eq_false_iff_ne]; omega
  have k6 : (k == 6) = false := by rw [beq_eq_false_iff_ne]; omega
  have k7 : (k == 7) = false := by rw [beq_eq_false_iff_ne]; omega
  have k8 : (k == 8) = false := by rw [beq_eq_false_iff_ne]; omega
  have k9 : (k == 9) = false := by rw [beq_eq_false_iff_ne]; omega
  clear hk
  go_enter Tryz.func73, Tryz.ntmps73
  go_wp2_with fail
  go_region
  go_wp2_with fail
  go_ret
  exact ⟨rfl, (((Q.refl _).alloc _).alloc _).drew⟩
def MRf (W : World) (x : Rf) : Prop := ∀ W', Q W W' → Calls Tryz.prog 90 #[.agg #[.string ⟨x.1.toArray⟩, .int .i64 x.2.1, .int .i64 x.2.2.1, .bool x.2.2.2.1, .bool x.2.2.2.2]] W' fun e w' => e = .returned (.bool (mayR x.1 x.2.1 x.2.2.1)) ∧ Q W' w'
def rngB : List Rf → Bool
  | [x, y] => mayR x.1 x.2.1 x.2.2.1 && (mayR y.1 y.2.1 y.2.2.1 && decide (y.1 = []))
  | _ => false
theorem rng_no {rs : List Rf} (h : rs.length ≠ 2) : rngB rs = false := by
  match rs with
  | [] => rfl
  | [_] => rfl
  | [_, _] => exact absurd rfl h
  | _ :: _ :: _ :: _ => rfl
set_option maxHeartbeats 4000000 in
theorem mrange_any (rs : List Rf) (v : Value) (W : World) (h : Sl rf 5 W v rs) (HM : Hid (∀ x ∈ rs, MRf W x)) : Calls Tryz.prog 91 #[v] W fun e W' => e = .returned (.bool (rngB rs)) ∧ Q W W' := by
  by_cases hl : rs.length = 2
  · obtain ⟨b, off, cap, hv, _, _, hc⟩ := h.rc (by omega)
    match rs, hl with
    | [x, y], _ =>
      obtain ⟨xs, xr, xc, xa, xb⟩ := x
      obtain ⟨ys, yr, yc, ya, yb⟩ := y
      have HX := hid (HM.out _ (by simp : (xs, xr, xc, xa, xb) ∈ [(xs, xr, xc, xa, xb), (ys, yr, yc, ya, yb)]))
      have HY := hid (HM.out _ (by simp : (ys, yr, yc, ya, yb) ∈ [(xs, xr, xc, xa, xb), (ys, yr, yc, ya, yb)]))
      have H0 := hc 0 (by simp)
      have H1 := hc 1 (by simp)
      simp only [List.getElem_cons_zero, List.getElem_cons_succ, Nat.zero_mul, Nat.add_zero, Nat.one_mul] at H0 H1
      simp only [List.length_cons, List.length_nil, Nat.zero_add] at hv
      subst hv
      obtain ⟨x0, x1, x2, x3, x4⟩ := H0
      obtain ⟨y0, y1, y2, y3, y4⟩ := H1
      unfold MRf at HX HY
      simp only at HX HY
      obtain ⟨SX, hSX⟩ : ∃ S : ByteArray, S = ⟨xs.toArray⟩ := ⟨_, rfl⟩
      obtain ⟨SY, hSY, lSY⟩ : ∃ S : ByteArray, S = ⟨ys.toArray⟩ ∧ S.data.toList = ys := ⟨_, rfl, rfl⟩
      rw [← hSX] at HX x0
      rw [← hSY] at HY y0
      have LS := hid lSY
      have HD := hid (show rngB [(xs, xr, xc, xa, xb), (ys, yr, yc, ya, yb)] = (mayR xs xr xc && (mayR ys yr yc && decide (ys = []))) from rfl)
      generalize rngB [(xs, xr, xc, xa, xb), (ys, yr, yc, ya, yb)] = rr at HD ⊢
      have HYc := hid (fun (W1 : World) (q : Q W W1) => (q.cell (World.block_lt_of_cell? W ⟨b, off + 5, none⟩ y0)).trans y0)
      have HYd := hid (fun (W1 : World) (q : Q W W1) => (q.cell (World.block_lt_of_cell? W ⟨b, off + 5 + 1, none⟩ y1)).trans y1)
      have HYe := hid (fun (W1 : World) (q : Q W W1) => (q.cell (World.block_lt_of_cell? W ⟨b, off + 5 + 2, none⟩ y2)).trans y2)
      have HYf := hid (fun (W1 : World) (q : Q W W1) => (q.cell (World.block_lt_of_cell? W ⟨b, off + 5 + 3, none⟩ y3)).trans y3)
      have HYg := hid (fun (W1 : World) (q : Q W W1) => (q.cell (World.block_lt_of_cell? W ⟨b, off + 5 + 4, none⟩ y4)).trans y4)
      clear HM hc hSX hSY lSY h
      cases hx : mayR xs xr xc
      · have HR : Hid (rr = false) := by show _ = _; rw [HD.out, hx]; rfl
        rw [hx] at HX
        go_enter Tryz.func91, Tryz.ntmps91
        go_wp2_with (go_at_call 90; refine (HX.out _ (Q.refl _)).mono ?_; rintro e w1 ⟨rfl, q1⟩; have Q1 := hid q1; clear q1)
        go_ret
        exact ⟨ret_bool HR.out.symm, Q1.out⟩
      · rw [hx] at HX
        cases hy : mayR ys yr yc
        · have HR : Hid (rr = false) := by show _ = _; rw [HD.out, hx, hy]; rfl
          rw [hy] at HY
          go_enter Tryz.func91, Tryz.ntmps91
          go_wp2_with (first | (go_at_call_of 90 SX; refine (HX.out _ (Q.refl _)).mono ?_; rintro e w1 ⟨rfl, q1⟩; have Q1 := hid q1; clear q1; have n0 := HYc.out w1 Q1.out; have n1 := HYd.out w1 Q1.out; have n2 := HYe.out w1 Q1.out; have n3 := HYf.out w1 Q1.out; have n4 := HYg.out w1 Q1.out) | (go_at_call_of 90 SY; refine (HY.out _ Q1.out).mono ?_; rintro e w2 ⟨rfl, q2⟩; have Q2 := hid (Q1.out.trans q2); clear q2; have m0 := HYc.out w2 Q2.out))
          go_ret
          exact ⟨ret_bool HR.out.symm, Q2.out⟩
        · rw [hy] at HY
          by_cases hz : ys = []
          · have HR : Hid (rr = true) := by show _ = _; rw [HD.out, hx, hy, decide_eq_true hz]; rfl
            have fz : (SY.toList == []) = true := by rw [toL, LS.out, hz]; rfl
            clear hz
            go_enter Tryz.func91, Tryz.ntmps91
            go_wp2_with (first | (go_at_call_of 90 SX; refine (HX.out _ (Q.refl _)).mono ?_; rintro e w1 ⟨rfl, q1⟩; have Q1 := hid q1; clear q1; have n0 := HYc.out w1 Q1.out; have n1 := HYd.out w1 Q1.out; have n2 := HYe.out w1 Q1.out; have n3 := HYf.out w1 Q1.out; have n4 := HYg.out w1 Q1.out) | (go_at_call_of 90 SY; refine (HY.out _ Q1.out).mono ?_; rintro e w2 ⟨rfl, q2⟩; have Q2 := hid (Q1.out.trans q2); clear q2; have m0 := HYc.out w2 Q2.out))
            go_ret
            exact ⟨ret_bool HR.out.symm, Q2.out⟩
          · have HR : Hid (rr = false) := by show _ = _; rw [HD.out, hx, hy, decide_eq_false hz]; rfl
            have fz : (SY.toList == []) = false := by rw [toL, LS.out, beq_eq_false_iff_ne]; exact hz
            clear hz
            go_enter Tryz.func91, Tryz.ntmps91
            go_wp2_with (first | (go_at_call_of 90 SX; refine (HX.out _ (Q.refl _)).mono ?_; rintro e w1 ⟨rfl, q1⟩; have Q1 := hid q1; clear q1; have n0 := HYc.out w1 Q1.out; have n1 := HYd.out w1 Q1.out; have n2 := HYe.out w1 Q1.out; have n3 := HYf.out w1 Q1.out; have n4 := HYg.out w1 Q1.out) | (go_at_call_of 90 SY; refine (HY.out _ Q1.out).mono ?_; rintro e w2 ⟨rfl, q2⟩; have Q2 := hid (Q1.out.trans q2); clear q2; have m0 := HYc.out w2 Q2.out))
            go_ret
            exact ⟨ret_bool HR.out.symm, Q2.out⟩
  · rw [rng_no hl]
    obtain ⟨ao, cap, rfl, _⟩ := h.len
    have f2 : ((rs.length : Int) == 2) = false := by rw [beq_eq_false_iff_ne]; omega
    clear h hl HM
    go_enter Tryz.func91, Tryz.ntmps91
    go_wp2_with fail
    go_ret
    exact ⟨rfl, Q.refl _⟩
def oneB : List Rf → Bool
  | [x] => mayR x.1 x.2.1 x.2.2.1
  | _ => false
theorem one_no {rs : List Rf} (h : rs.length ≠ 1) : oneB rs = false := by
  match rs with
  | [] => rfl
  | [_] => exact absurd rfl h
  | _ :: _ :: _ => rfl
set_option maxHeartbeats 4000000 in
theorem mn_5 (n : Int) (t : ByteArray) (b : Bool) (e : Int) (a1 : Option Addr) (l1 c1 : Nat) (a2 : Option Addr) (l2 c2 : Nat) (W : World) (rs : List Rf) (hr : Sl rf 5 W (.slice a1 l1 c1) rs) (HM : Hid (∀ x ∈ rs, MRf W x)) : Calls Tryz.prog 73 #[.agg #[.int .i64 5, .int .i64 n, .string t, .bool b, .int .i64 e, .slice a1 l1 c1, .slice a2 l2 c2]] W fun e' W' => e' = .returned (.bool ((oneB rs) && bareB n t.data.toList b e 0 l2)) ∧ Q W W' := by
  obtain ⟨rb, hrb⟩ : ∃ rb, bareB n t.data.toList b e 0 l2 = rb := ⟨_, rfl⟩
  have HB := hid (fun W' => bare_b 5 n t b e none 0 0 a2 l2 c2 rb hrb W')
  obtain ⟨t1, t2⟩ := two_new W (.int .i64 5) (.int .i64 n) (.string t) (.bool b) (.int .i64 e) (.slice a1 l1 c1) (.slice a2 l2 c2)
  have T1 := hid t1
  have T2 := hid t2
  have HQ : Hid (Q W (((W.alloc (.cells #[.int .i64 5, .int .i64 n, .string t, .bool b, .int .i64 e, .slice a1 l1 c1, .slice a2 l2 c2] 26)).alloc (.cells #[.int .i64 5, .int .i64 n, .string t, .bool b, .int .i64 e, .slice a1 l1 c1, .slice a2 l2 c2] 26)).drew)) := hid (((Q.refl _).alloc _).alloc _).drew
  have HRB := hid hrb
  clear hrb t1 t2
  have hll : rs.length = l1 := by
    obtain ⟨_, _, hv, _⟩ := hr
    simp only [Value.slice.injEq] at hv
    exact hv.2.1.symm
  by_cases h : l1 = 1
  · obtain ⟨bb, off, cap, hv, _, _, hc⟩ := hr.rc (by omega)
    rw [h] at hll
    match rs, hll with
    | [x], _ =>
      obtain ⟨xs, xr, xc, xa, xb⟩ := x
      have HX := hid (HM.out _ (by simp : (xs, xr, xc, xa, xb) ∈ [(xs, xr, xc, xa, xb)]))
      have H0 := hc 0 (by simp)
      simp only [List.getElem_cons_zero, Nat.zero_mul, Nat.add_zero] at H0
      simp only [List.length_cons, List.length_nil, Nat.zero_add, Value.slice.injEq] at hv
      obtain ⟨rfl, rfl, rfl⟩ := hv
      unfold MRf at HX
      simp only at HX
      have H0' := hid (H0.on HQ.out)
      obtain ⟨SX, hSX⟩ : ∃ S : ByteArray, S = ⟨xs.toArray⟩ := ⟨_, rfl⟩
      rw [← hSX] at HX H0'
      clear HM hc hSX H0 hr
      have hone : oneB [(xs, xr, xc, xa, xb)] = mayR xs xr xc := rfl
      rw [hone]
      clear hone h
      cases hx : mayR xs xr xc
      · rw [hx] at HX
        have HR : Hid (((false) && bareB n t.data.toList b e 0 l2) = false) := by
          show _ = _
          rw [show (false) = false from rfl]
          exact Bool.false_and _
        generalize ((false) && bareB n t.data.toList b e 0 l2) = rr at HR ⊢
        go_enter Tryz.func73, Tryz.ntmps73
        go_wp2_with fail
        go_region
        obtain ⟨w1, hw1⟩ : ∃ w1, w1 = (((W.alloc (.cells #[.int .i64 5, .int .i64 n, .string t, .bool b, .int .i64 e, .slice (some ⟨bb, off, none⟩) 1 c1, .slice a2 l2 c2] 26)).alloc (.cells #[.int .i64 5, .int .i64 n, .string t, .bool b, .int .i64 e, .slice (some ⟨bb, off, none⟩) 1 c1, .slice a2 l2 c2] 26)).drew) := ⟨_, rfl⟩
        rw [← hw1] at T1 T2 HQ H0'
        obtain ⟨r0, r1, r2, r3, r4⟩ := H0'.out
        rw [← hw1]
        clear hw1
        obtain ⟨g0, g1, g2, g3, g4, g5, g6, _⟩ := T1.out
        obtain ⟨d0, d1, d2, d3, d4, d5, d6, yf⟩ := T2.out
        have y0 := yf 0
        have y1 := yf 1
        have y2 := yf 2
        have y3 := yf 3
        have y4 := yf 4
        have y5 := yf 5
        have y6 := yf 6
        clear yf
        go_wp2_with (first | (go_at_call 90; refine (HX.out _ HQ.out).mono ?_; rintro e8 w2 ⟨rfl, q2⟩; have QC := hid (HQ.out.trans q2); have T3 := hid (T2.out.on (Qx.of (p := W.heap.size + 5) q2) (by omega)); clear q2; have v0 := T3.out.g0; have v1 := T3.out.g1; have v2 := T3.out.g2; have v3 := T3.out.g3; have v4 := T3.out.g4; have v5 := T3.out.g5; have v6 := T3.out.g6; have x0 := T3.out.f 0; have x1 := T3.out.f 1; have x2 := T3.out.f 2; have x3 := T3.out.f 3; have x4 := T3.out.f 4; have x5 := T3.out.f 5; have x6 := T3.out.f 6))
        go_ret
        exact ⟨ret_bool HR.out.symm, (by repeat (first | with_reducible exact QC.out | with_reducible exact HQ.out | with_reducible refine Q.drewN ?_ _ | with_reducible refine Q.drew ?_ | with_reducible refine Q.alloc ?_ _ | with_reducible refine Q.setCell ?_ (by simp) _))⟩
      · rw [hx] at HX
        have HR : Hid (((true) && bareB n t.data.toList b e 0 l2) = rb) := by
          show _ = _
          rw [show (true) = true from rfl]
          exact (Bool.true_and _).trans HRB.out
        generalize ((true) && bareB n t.data.toList b e 0 l2) = rr at HR ⊢
        go_enter Tryz.func73, Tryz.ntmps73
        go_wp2_with fail
        go_region
        obtain ⟨w1, hw1⟩ : ∃ w1, w1 = (((W.alloc (.cells #[.int .i64 5, .int .i64 n, .string t, .bool b, .int .i64 e, .slice (some ⟨bb, off, none⟩) 1 c1, .slice a2 l2 c2] 26)).alloc (.cells #[.int .i64 5, .int .i64 n, .string t, .bool b, .int .i64 e, .slice (some ⟨bb, off, none⟩) 1 c1, .slice a2 l2 c2] 26)).drew) := ⟨_, rfl⟩
        rw [← hw1] at T1 T2 HQ H0'
        obtain ⟨r0, r1, r2, r3, r4⟩ := H0'.out
        rw [← hw1]
        clear hw1
        obtain ⟨g0, g1, g2, g3, g4, g5, g6, _⟩ := T1.out
        obtain ⟨d0, d1, d2, d3, d4, d5, d6, yf⟩ := T2.out
        have y0 := yf 0
        have y1 := yf 1
        have y2 := yf 2
        have y3 := yf 3
        have y4 := yf 4
        have y5 := yf 5
        have y6 := yf 6
        clear yf
        go_wp2_with (first | (go_at_call 90; refine (HX.out _ HQ.out).mono ?_; rintro e8 w2 ⟨rfl, q2⟩; have QC := hid (HQ.out.trans q2); have T3 := hid (T2.out.on (Qx.of (p := W.heap.size + 5) q2) (by omega)); clear q2; have v0 := T3.out.g0; have v1 := T3.out.g1; have v2 := T3.out.g2; have v3 := T3.out.g3; have v4 := T3.out.g4; have v5 := T3.out.g5; have v6 := T3.out.g6; have x0 := T3.out.f 0; have x1 := T3.out.f 1; have x2 := T3.out.f 2; have x3 := T3.out.f 3; have x4 := T3.out.f 4; have x5 := T3.out.f 5; have x6 := T3.out.f 6) | (go_at_call 94; refine (HB.out _).mono ?_; rintro e9 w9 ⟨rfl, q9⟩; have Q9 := hid q9; clear q9))
        go_ret
        exact ⟨ret_bool HR.out.symm, Q.trans (by repeat (first | with_reducible exact QC.out | with_reducible exact HQ.out | with_reducible refine Q.drewN ?_ _ | with_reducible refine Q.drew ?_ | with_reducible refine Q.alloc ?_ _ | with_reducible refine Q.setCell ?_ (by simp) _)) Q9.out⟩
  · rw [one_no (by omega)]
    clear HM hr
    have f5 : ((l1 : Int) == 1) = false := by rw [beq_eq_false_iff_ne]; omega
    have HR : Hid (((false) && bareB n t.data.toList b e 0 l2) = false) := by
      show _ = _
      rw [show (false) = false from rfl]
      exact Bool.false_and _
    generalize ((false) && bareB n t.data.toList b e 0 l2) = rr at HR ⊢
    go_enter Tryz.func73, Tryz.ntmps73
    go_wp2_with fail
    go_region
    obtain ⟨w1, hw1⟩ : ∃ w1, w1 = (((W.alloc (.cells #[.int .i64 5, .int .i64 n, .string t, .bool b, .int .i64 e, .slice a1 l1 c1, .slice a2 l2 c2] 26)).alloc (.cells #[.int .i64 5, .int .i64 n, .string t, .bool b, .int .i64 e, .slice a1 l1 c1, .slice a2 l2 c2] 26)).drew) := ⟨_, rfl⟩
    rw [← hw1] at T1 T2 HQ
    rw [← hw1]
    clear hw1
    obtain ⟨g0, g1, g2, g3, g4, g5, g6, _⟩ := T1.out
    obtain ⟨d0, d1, d2, d3, d4, d5, d6, yf⟩ := T2.out
    have y0 := yf 0
    have y1 := yf 1
    have y2 := yf 2
    have y3 := yf 3
    have y4 := yf 4
    have y5 := yf 5
    have y6 := yf 6
    clear yf
    go_wp2_with fail
    go_ret
    exact ⟨ret_bool HR.out.symm, (by repeat (first | with_reducible exact QC.out | with_reducible exact HQ.out | with_reducible refine Q.drewN ?_ _ | with_reducible refine Q.drew ?_ | with_reducible refine Q.alloc ?_ _ | with_reducible refine Q.setCell ?_ (by simp) _))⟩
set_option maxHeartbeats 4000000 in
theorem mn_6 (n : Int) (t : ByteArray) (b : Bool) (e : Int) (a1 : Option Addr) (l1 c1 : Nat) (a2 : Option Addr) (l2 c2 : Nat) (W : World) (rs : List Rf) (hr : Sl rf 5 W (.slice a1 l1 c1) rs) (HM : Hid (∀ x ∈ rs, MRf W x)) : Calls Tryz.prog 73 #[.agg #[.int .i64 6, .int .i64 n, .string t, .bool b, .int .i64 e, .slice a1 l1 c1, .slice a2 l2 c2]] W fun e' W' => e' = .returned (.bool ((rngB rs) && bareB n t.data.toList b e 0 l2)) ∧ Q W W' := by
  obtain ⟨rb, hrb⟩ : ∃ rb, bareB n t.data.toList b e 0 l2 = rb := ⟨_, rfl⟩
  have HB := hid (fun W' => bare_b 6 n t b e none 0 0 a2 l2 c2 rb hrb W')
  obtain ⟨t1, t2⟩ := two_new W (.int .i64 6) (.int .i64 n) (.string t) (.bool b) (.int .i64 e) (.slice a1 l1 c1) (.slice a2 l2 c2)
  have T1 := hid t1
  have T2 := hid t2
  have HQ : Hid (Q W (((W.alloc (.cells #[.int .i64 6, .int .i64 n, .string t, .bool b, .int .i64 e, .slice a1 l1 c1, .slice a2 l2 c2] 26)).alloc (.cells #[.int .i64 6, .int .i64 n, .string t, .bool b, .int .i64 e, .slice a1 l1 c1, .slice a2 l2 c2] 26)).drew)) := hid (((Q.refl _).alloc _).alloc _).drew
  have HRB := hid hrb
  clear hrb t1 t2
  have HN := hid (fun W' (q : Q W W') => mrange_any rs (.slice a1 l1 c1) W' (hr.on q) (hid (fun x hx W2 q2 => HM.out x hx W2 (q.trans q2))))
  clear hr HM
  cases h : rngB rs
  · rw [h] at HN
    have HR : Hid (((false) && bareB n t.data.toList b e 0 l2) = false) := by
      show _ = _
      rw [show (false) = false from rfl]
      exact Bool.false_and _
    generalize ((false) && bareB n t.data.toList b e 0 l2) = rr at HR ⊢
    go_enter Tryz.func73, Tryz.ntmps73
    go_wp2_with fail
    go_region
    obtain ⟨w1, hw1⟩ : ∃ w1, w1 = (((W.alloc (.cells #[.int .i64 6, .int .i64 n, .string t, .bool b, .int .i64 e, .slice a1 l1 c1, .slice a2 l2 c2] 26)).alloc (.cells #[.int .i64 6, .int .i64 n, .string t, .bool b, .int .i64 e, .slice a1 l1 c1, .slice a2 l2 c2] 26)).drew) := ⟨_, rfl⟩
    rw [← hw1] at T1 T2 HQ
    rw [← hw1]
    clear hw1
    obtain ⟨g0, g1, g2, g3, g4, g5, g6, _⟩ := T1.out
    obtain ⟨d0, d1, d2, d3, d4, d5, d6, yf⟩ := T2.out
    have y0 := yf 0
    have y1 := yf 1
    have y2 := yf 2
    have y3 := yf 3
    have y4 := yf 4
    have y5 := yf 5
    have y6 := yf 6
    clear yf
    go_wp2_with (first | (go_at_call 91; refine (HN.out _ HQ.out).mono ?_; rintro e8 w2 ⟨rfl, q2⟩; have QC := hid (HQ.out.trans q2); have T3 := hid (T2.out.on (Qx.of (p := W.heap.size + 5) q2) (by omega)); clear q2; have v0 := T3.out.g0; have v1 := T3.out.g1; have v2 := T3.out.g2; have v3 := T3.out.g3; have v4 := T3.out.g4; have v5 := T3.out.g5; have v6 := T3.out.g6; have x0 := T3.out.f 0; have x1 := T3.out.f 1; have x2 := T3.out.f 2; have x3 := T3.out.f 3; have x4 := T3.out.f 4; have x5 := T3.out.f 5; have x6 := T3.out.f 6))
    go_ret
    exact ⟨ret_bool HR.out.symm, (by repeat (first | with_reducible exact QC.out | with_reducible exact HQ.out | with_reducible refine Q.drewN ?_ _ | with_reducible refine Q.drew ?_ | with_reducible refine Q.alloc ?_ _ | with_reducible refine Q.setCell ?_ (by simp) _))⟩
  · rw [h] at HN
    have HR : Hid (((true) && bareB n t.data.toList b e 0 l2) = rb) := by
      show _ = _
      rw [show (true) = true from rfl]
      exact (Bool.true_and _).trans HRB.out
    generalize ((true) && bareB n t.data.toList b e 0 l2) = rr at HR ⊢
    go_enter Tryz.func73, Tryz.ntmps73
    go_wp2_with fail
    go_region
    obtain ⟨w1, hw1⟩ : ∃ w1, w1 = (((W.alloc (.cells #[.int .i64 6, .int .i64 n, .string t, .bool b, .int .i64 e, .slice a1 l1 c1, .slice a2 l2 c2] 26)).alloc (.cells #[.int .i64 6, .int .i64 n, .string t, .bool b, .int .i64 e, .slice a1 l1 c1, .slice a2 l2 c2] 26)).drew) := ⟨_, rfl⟩
    rw [← hw1] at T1 T2 HQ
    rw [← hw1]
    clear hw1
    obtain ⟨g0, g1, g2, g3, g4, g5, g6, _⟩ := T1.out
    obtain ⟨d0, d1, d2, d3, d4, d5, d6, yf⟩ := T2.out
    have y0 := yf 0
    have y1 := yf 1
    have y2 := yf 2
    have y3 := yf 3
    have y4 := yf 4
    have y5 := yf 5
    have y6 := yf 6
    clear yf
    go_wp2_with (first | (go_at_call 91; refine (HN.out _ HQ.out).mono ?_; rintro e8 w2 ⟨rfl, q2⟩; have QC := hid (HQ.out.trans q2); have T3 := hid (T2.out.on (Qx.of (p := W.heap.size + 5) q2) (by omega)); clear q2; have v0 := T3.out.g0; have v1 := T3.out.g1; have v2 := T3.out.g2; have v3 := T3.out.g3; have v4 := T3.out.g4; have v5 := T3.out.g5; have v6 := T3.out.g6; have x0 := T3.out.f 0; have x1 := T3.out.f 1; have x2 := T3.out.f 2; have x3 := T3.out.f 3; have x4 := T3.out.f 4; have x5 := T3.out.f 5; have x6 := T3.out.f 6) | (go_at_call 94; refine (HB.out _).mono ?_; rintro e9 w9 ⟨rfl, q9⟩; have Q9 := hid q9; clear q9))
    go_ret
    exact ⟨ret_bool HR.out.symm, Q.trans (by repeat (first | with_reducible exact QC.out | with_reducible exact HQ.out | with_reducible refine Q.drewN ?_ _ | with_reducible refine Q.drew ?_ | with_reducible refine Q.alloc ?_ _ | with_reducible refine Q.setCell ?_ (by simp) _)) Q9.out⟩
theorem fin7g {p : Nat} {L : List Wd} {b off cap : Nat} {W w3 : World} {x : Ex} {s' : St} (RB : Nat) (k m : Int) (t : ByteArray) (bb : Bool) (er : Int) (a1 : Option Addr) (l1 c1 : Nat) (a2 : Option Addr) (l2 c2 : Nat) (hRB : W.heap.size ≤ RB) (hp : p < W.heap.size) (hb : b < W.heap.size) (hq : Qx p W w3) (hr : Rdg (fun b => W.heap.size ≤ b ∧ b ≠ RB) w3 x (.agg #[.int .i64 k, .int .i64 m, .string t, .bool bb, .int .i64 er, .slice a1 l1 c1, .slice a2 l2 c2])) (h : PS w3 p L b off cap s'.i s'.bd s'.n) :
    Rep p L b off cap W (x, s') (.returned (.agg #[.int .i64 k, .int .i64 m, .string t, .bool bb, .int .i64 er, .slice a1 l1 c1, .slice a2 l2 c2])) (((((((w3.setCell ⟨RB, 0, none⟩ (.int .i64 k)).setCell ⟨RB, 1, none⟩ (.int .i64 m)).setCell ⟨RB, 2, none⟩ (.string t)).setCell ⟨RB, 3, none⟩ (.bool bb)).setCell ⟨RB, 4, none⟩ (.int .i64 er)).setCell ⟨RB, 5, none⟩ (.slice a1 l1 c1)).setCell ⟨RB, 6, none⟩ (.slice a2 l2 c2)) := by
  have QF : Qx RB w3 (((((((w3.setCell ⟨RB, 0, none⟩ (.int .i64 k)).setCell ⟨RB, 1, none⟩ (.int .i64 m)).setCell ⟨RB, 2, none⟩ (.string t)).setCell ⟨RB, 3, none⟩ (.bool bb)).setCell ⟨RB, 4, none⟩ (.int .i64 er)).setCell ⟨RB, 5, none⟩ (.slice a1 l1 c1)).setCell ⟨RB, 6, none⟩ (.slice a2 l2 c2)) := (((((((Qx.refl _ _).own _ _).own _ _).own _ _).own _ _).own _ _).own _ _).own _ _
  refine ⟨_, rfl, Rdg.mono (fun b hb => hb.1) _ _ (Rdg.on QF (fun b hb => hb.2) _ _ hr), ?_, h.onx QF (by omega) (by omega)⟩
  exact ((((((hq.new hRB _ _).new hRB _ _).new hRB _ _).new hRB _ _).new hRB _ _).new hRB _ _).new hRB _ _
set_option maxHeartbeats 8000000 in
theorem call_true (L : List Wd) (p b off cap : Nat) (s : St) (W : World) (T : ByteArray) (q : Int) (t : List UInt8) (hT : T.data.toList = t) (h : PS W p L b off cap s.i s.bd s.n) (hi : s.i < L.length) (hr : L.length ≤ 50000) (hn : s.n ≤ s.i) (ht : t = truW) :
    Calls Tryz.prog 103 #[.pointer (some ⟨p, 0, none⟩), .agg #[.int .i64 4, .string T, .int .i64 q]] W fun e W' => Rep p L b off cap W (boolE (decide (t = truW)), s.node) e W' := by
  have hlt := h.lt
  have hbW := h.blk hi
  have HTT := hid hT
  have et := hid (toL T)
  have HP := hid h
  have HB := hid ((wb_new W (.int .i64 4) (.string T) (.int .i64 q) 78).on ((Qx.refl p _).alloc (.cells #[.int .i64 0, .int .i64 0, .string ⟨#[]⟩, .bool false, .int .i64 0, .slice none 0 0, .slice none 0 0] 26)) (by omega))
  have HZ := hid (tb_new (W.alloc (.cells #[.int .i64 4, .string T, .int .i64 q] 78)) (.int .i64 0) (.int .i64 0) (.string ⟨#[]⟩) (.bool false) (.int .i64 0) (.slice none 0 0) (.slice none 0 0) 26)
  rw [show (W.alloc (.cells #[.int .i64 4, .string T, .int .i64 q] 78)).heap.size = W.heap.size + 1 by simp] at HZ
  have f1 : (T.toList == [84, 82, 85, 69]) = true := by rw [et.out, hT, ht]; rfl
  have HD : Hid (decide (t = truW) = true) := by show _ = _; rw [ht]; decide
  clear hT ht et
  clear h
  go_enter Tryz.func103, Tryz.ntmps103
  go_wp2_with (go_at_call 66; refine (node_any _ p L b off cap _ _ _ (HP.out.on (by repeat (first | with_reducible exact Q.refl _ | with_reducible refine Q.drewN ?_ _ | with_reducible refine Q.drew ?_ | with_reducible refine Q.alloc ?_ _ | with_reducible refine Q.setCell ?_ (by simp) _))) (by omega) 3 0 ⟨#[]⟩ true 0 none 0 0 none 0 0).mono ?_; rintro e w3 ⟨rfl, q3, p3⟩; have Q3 : Hid (Qx p W w3) := hid (Qx.trans (by repeat (first | with_reducible exact Qx.refl _ _ | with_reducible refine Qx.drewN ?_ _ | with_reducible refine Qx.drew ?_ | with_reducible refine Qx.alloc ?_ _ | with_reducible refine Qx.own ?_ _ _ | with_reducible refine Qx.new ?_ (by simp) _ _)) q3); have P3 := hid p3; have Z3 := hid (HZ.out.on (Qx.trans (by repeat (first | with_reducible exact Qx.refl _ _ | with_reducible refine Qx.drewN ?_ _ | with_reducible refine Qx.drew ?_ | with_reducible refine Qx.alloc ?_ _ | with_reducible refine Qx.own ?_ _ _ | with_reducible refine Qx.new ?_ (by simp) _ _)) q3) (by omega)); clear q3 p3; have d0 := Z3.out.g0; have d1 := Z3.out.g1; have d2 := Z3.out.g2; have d3 := Z3.out.g3; have d4 := Z3.out.g4; have d5 := Z3.out.g5; have d6 := Z3.out.g6; have y0 := Z3.out.f 0; have y1 := Z3.out.f 1; have y2 := Z3.out.f 2; have y3 := Z3.out.f 3; have y4 := Z3.out.f 4; have y5 := Z3.out.f 5; have y6 := Z3.out.f 6)
  refine bodyPost_ret (v := .agg #[.int .i64 3, .int .i64 0, .string ⟨#[]⟩, .bool true, .int .i64 0, .slice none 0 0, .slice none 0 0]) (by simp [results, Tryz.results103, go_sem, d0, d1, d2, d3, d4, d5, d6]) rfl ?_
  rw [HD.out]
  exact fin7g (s' := s.node) (W.heap.size + 1) 3 0 ⟨#[]⟩ true 0 none 0 0 none 0 0 (by omega) hlt hbW Q3.out (rdg_leaf 3 0 [] ⟨#[]⟩ rfl true 0) P3.out
set_option maxHeartbeats 8000000 in
theorem call_false (L : List Wd) (p b off cap : Nat) (s : St) (W : World) (T : ByteArray) (q : Int) (t : List UInt8) (hT : T.data.toList = t) (h : PS W p L b off cap s.i s.bd s.n) (hi : s.i < L.length) (hr : L.length ≤ 50000) (hn : s.n ≤ s.i) (ht : t = flsW) :
    Calls Tryz.prog 103 #[.pointer (some ⟨p, 0, none⟩), .agg #[.int .i64 4, .string T, .int .i64 q]] W fun e W' => Rep p L b off cap W (boolE (decide (t = truW)), s.node) e W' := by
  have hlt := h.lt
  have hbW := h.blk hi
  have HTT := hid hT
  have et := hid (toL T)
  have HP := hid h
  have HB := hid ((wb_new W (.int .i64 4) (.string T) (.int .i64 q) 78).on ((Qx.refl p _).alloc (.cells #[.int .i64 0, .int .i64 0, .string ⟨#[]⟩, .bool false, .int .i64 0, .slice none 0 0, .slice none 0 0] 26)) (by omega))
  have HZ := hid (tb_new (W.alloc (.cells #[.int .i64 4, .string T, .int .i64 q] 78)) (.int .i64 0) (.int .i64 0) (.string ⟨#[]⟩) (.bool false) (.int .i64 0) (.slice none 0 0) (.slice none 0 0) 26)
  rw [show (W.alloc (.cells #[.int .i64 4, .string T, .int .i64 q] 78)).heap.size = W.heap.size + 1 by simp] at HZ
  have f1 : (T.toList == [84, 82, 85, 69]) = false := by rw [et.out, hT, ht]; rfl
  have f2 : (T.toList == [70, 65, 76, 83, 69]) = true := by rw [et.out, hT, ht]; rfl
  have HD : Hid (decide (t = truW) = false) := by show _ = _; rw [ht]; decide
  clear hT ht et
  clear h
  go_enter Tryz.func103, Tryz.ntmps103
  go_wp2_with (go_at_call 66; refine (node_any _ p L b off cap _ _ _ (HP.out.on (by repeat (first | with_reducible exact Q.refl _ | with_reducible refine Q.drewN ?_ _ | with_reducible refine Q.drew ?_ | with_reducible refine Q.alloc ?_ _ | with_reducible refine Q.setCell ?_ (by simp) _))) (by omega) 3 0 ⟨#[]⟩ false 0 none 0 0 none 0 0).mono ?_; rintro e w3 ⟨rfl, q3, p3⟩; have Q3 : Hid (Qx p W w3) := hid (Qx.trans (by repeat (first | with_reducible exact Qx.refl _ _ | with_reducible refine Qx.drewN ?_ _ | with_reducible refine Qx.drew ?_ | with_reducible refine Qx.alloc ?_ _ | with_reducible refine Qx.own ?_ _ _ | with_reducible refine Qx.new ?_ (by simp) _ _)) q3); have P3 := hid p3; have Z3 := hid (HZ.out.on (Qx.trans (by repeat (first | with_reducible exact Qx.refl _ _ | with_reducible refine Qx.drewN ?_ _ | with_reducible refine Qx.drew ?_ | with_reducible refine Qx.alloc ?_ _ | with_reducible refine Qx.own ?_ _ _ | with_reducible refine Qx.new ?_ (by simp) _ _)) q3) (by omega)); clear q3 p3; have d0 := Z3.out.g0; have d1 := Z3.out.g1; have d2 := Z3.out.g2; have d3 := Z3.out.g3; have d4 := Z3.out.g4; have d5 := Z3.out.g5; have d6 := Z3.out.g6; have y0 := Z3.out.f 0; have y1 := Z3.out.f 1; have y2 := Z3.out.f 2; have y3 := Z3.out.f 3; have y4 := Z3.out.f 4; have y5 := Z3.out.f 5; have y6 := Z3.out.f 6)
  refine bodyPost_ret (v := .agg #[.int .i64 3, .int .i64 0, .string ⟨#[]⟩, .bool false, .int .i64 0, .slice none 0 0, .slice none 0 0]) (by simp [results, Tryz.results103, go_sem, d0, d1, d2, d3, d4, d5, d6]) rfl ?_
  rw [HD.out]
  exact fin7g (s' := s.node) (W.heap.size + 1) 3 0 ⟨#[]⟩ false 0 none 0 0 none 0 0 (by omega) hlt hbW Q3.out (rdg_leaf 3 0 [] ⟨#[]⟩ rfl false 0) P3.out
set_option maxHeartbeats 8000000 in
theorem call_none (L : List Wd) (p b off cap : Nat) (s : St) (W : World) (T : ByteArray) (q : Int) (t : List UInt8) (hT : T.data.toList = t) (h : PS W p L b off cap s.i s.bd s.n) (hi : s.i < L.length) (hr : L.length ≤ 50000) (hn : s.n ≤ s.i) (ht : ¬ (t = truW ∨ t = flsW)) (hw : isW L s.i [40] = false) :
    Calls Tryz.prog 103 #[.pointer (some ⟨p, 0, none⟩), .agg #[.int .i64 4, .string T, .int .i64 q]] W fun e W' => Rep p L b off cap W (callE t [], s.bad) e W' := by
  have hlt := h.lt
  have hbW := h.blk hi
  have HTT := hid hT
  have et := hid (toL T)
  have HP := hid h
  have HB := hid ((wb_new W (.int .i64 4) (.string T) (.int .i64 q) 78).on ((Qx.refl p _).alloc (.cells #[.int .i64 0, .int .i64 0, .string ⟨#[]⟩, .bool false, .int .i64 0, .slice none 0 0, .slice none 0 0] 26)) (by omega))
  have HZ := hid (tb_new (W.alloc (.cells #[.int .i64 4, .string T, .int .i64 q] 78)) (.int .i64 0) (.int .i64 0) (.string ⟨#[]⟩) (.bool false) (.int .i64 0) (.slice none 0 0) (.slice none 0 0) 26)
  rw [show (W.alloc (.cells #[.int .i64 4, .string T, .int .i64 q] 78)).heap.size = W.heap.size + 1 by simp] at HZ
  have f1 : (T.toList == [84, 82, 85, 69]) = false := by rw [et.out, hT, beq_eq_false_iff_ne]; exact fun e => ht (.inl e)
  have f2 : (T.toList == [70, 65, 76, 83, 69]) = false := by rw [et.out, hT, beq_eq_false_iff_ne]; exact fun e => ht (.inr e)
  have hc := hid (fun W1 (g : PS W1 p L b off cap s.i s.bd s.n) => take_any W1 p L b off cap s.i s.bd s.n ⟨#[40]⟩ g hi)
  rw [show (⟨#[40]⟩ : ByteArray).data.toList = [40] from rfl, hw] at hc
  have X0 := hid (tb_new ((W.alloc (.cells #[.int .i64 4, .string T, .int .i64 q] 78)).alloc (.cells #[.int .i64 0, .int .i64 0, .string ⟨#[]⟩, .bool false, .int .i64 0, .slice none 0 0, .slice none 0 0] 26)) (.int .i64 9) (.int .i64 0) (.string T) (.bool false) (.int .i64 0) (.slice none 0 0) (.slice none 0 0) 26)
  rw [show ((W.alloc (.cells #[.int .i64 4, .string T, .int .i64 q] 78)).alloc (.cells #[.int .i64 0, .int .i64 0, .string ⟨#[]⟩, .bool false, .int .i64 0, .slice none 0 0, .slice none 0 0] 26)).heap.size = W.heap.size + 2 by simp] at X0
  have hp0 : p ≠ W.heap.size + 1 := by omega
  have hp1 : p ≠ W.heap.size + 2 := by omega
  clear hT ht et
  clear h
  go_enter Tryz.func103, Tryz.ntmps103
  go_wp2_with (go_at_call 85; refine (hc.out _ (HP.out.on (by repeat (first | with_reducible exact Q.refl _ | with_reducible refine Q.drewN ?_ _ | with_reducible refine Q.drew ?_ | with_reducible refine Q.alloc ?_ _ | with_reducible refine Q.setCell ?_ (by simp) _)))).mono ?_; rintro e w1 ⟨rfl, q1, p1⟩; have Q1 : Hid (Qx p W w1) := hid (Qx.trans (by repeat (first | with_reducible exact Qx.refl _ _ | with_reducible refine Qx.drewN ?_ _ | with_reducible refine Qx.drew ?_ | with_reducible refine Qx.alloc ?_ _ | with_reducible refine Qx.own ?_ _ _ | with_reducible refine Qx.new ?_ (by simp) _ _)) q1); have P1 := hid p1; have Z1 := hid (HZ.out.on (Qx.trans (by repeat (first | with_reducible exact Qx.refl _ _ | with_reducible refine Qx.drewN ?_ _ | with_reducible refine Qx.drew ?_ | with_reducible refine Qx.alloc ?_ _ | with_reducible refine Qx.own ?_ _ _ | with_reducible refine Qx.new ?_ (by simp) _ _)) q1) (by omega)); have X1 := hid (X0.out.on q1 (by omega)); have B1 := hid (HB.out.on (Qx.trans (by repeat (first | with_reducible exact Qx.refl _ _ | with_reducible refine Qx.drewN ?_ _ | with_reducible refine Qx.drew ?_ | with_reducible refine Qx.alloc ?_ _ | with_reducible refine Qx.own ?_ _ _ | with_reducible refine Qx.new ?_ (by simp) _ _)) q1) (by omega)); clear q1 p1; have x2 := P1.out.c2; have z2 := P1.out.f2; have bw := B1.out.g1; have d0 := Z1.out.g0; have d1 := Z1.out.g1; have d2 := Z1.out.g2; have d3 := Z1.out.g3; have d4 := Z1.out.g4; have d5 := Z1.out.g5; have d6 := Z1.out.g6; have y0 := Z1.out.f 0; have y1 := Z1.out.f 1; have y2 := Z1.out.f 2; have y3 := Z1.out.f 3; have y4 := Z1.out.f 4; have y5 := Z1.out.f 5; have y6 := Z1.out.f 6; have n0 := X1.out.g0; have n1 := X1.out.g1; have n2 := X1.out.g2; have n3 := X1.out.g3; have n4 := X1.out.g4; have n5 := X1.out.g5; have n6 := X1.out.g6)
  refine bodyPost_ret (v := .agg #[.int .i64 9, .int .i64 0, .string T, .bool false, .int .i64 0, .slice none 0 0, .slice none 0 0]) (by simp [results, Tryz.results103, go_sem, d0, d1, d2, d3, d4, d5, d6, n0, n1, n2, n3, n4, n5, n6, hp0]) rfl ?_
  exact fin7g (s' := s.bad) (W.heap.size + 1) 9 0 T false 0 none 0 0 none 0 0 (by omega) hlt hbW (Q1.out.own 2 (.bool true)) (rdg_leaf 9 0 t T HTT.out false 0) (P1.out.set2 true)
set_option maxHeartbeats 8000000 in
theorem call_long (L : List Wd) (p b off cap : Nat) (s : St) (W : World) (T : ByteArray) (q : Int) (t : List UInt8) (hT : T.data.toList = t) (h : PS W p L b off cap s.i s.bd s.n) (hi : s.i < L.length) (hr : L.length ≤ 50000) (hn : s.n ≤ s.i) (ht : ¬ (t = truW ∨ t = flsW)) (hw : isW L s.i [40] = true) (hl : 20 < t.length) :
    Calls Tryz.prog 103 #[.pointer (some ⟨p, 0, none⟩), .agg #[.int .i64 4, .string T, .int .i64 q]] W fun e W' => Rep p L b off cap W (callE t [], s.on.bad) e W' := by
  have hlt := h.lt
  have hbW := h.blk hi
  have HTT := hid hT
  have et := hid (toL T)
  have HP := hid h
  have HB := hid ((wb_new W (.int .i64 4) (.string T) (.int .i64 q) 78).on ((Qx.refl p _).alloc (.cells #[.int .i64 0, .int .i64 0, .string ⟨#[]⟩, .bool false, .int .i64 0, .slice none 0 0, .slice none 0 0] 26)) (by omega))
  have HZ := hid (tb_new (W.alloc (.cells #[.int .i64 4, .string T, .int .i64 q] 78)) (.int .i64 0) (.int .i64 0) (.string ⟨#[]⟩) (.bool false) (.int .i64 0) (.slice none 0 0) (.slice none 0 0) 26)
  rw [show (W.alloc (.cells #[.int .i64 4, .string T, .int .i64 q] 78)).heap.size = W.heap.size + 1 by simp] at HZ
  have f1 : (T.toList == [84, 82, 85, 69]) = false := by rw [et.out, hT, beq_eq_false_iff_ne]; exact fun e => ht (.inl e)
  have f2 : (T.toList == [70, 65, 76, 83, 69]) = false := by rw [et.out, hT, beq_eq_false_iff_ne]; exact fun e => ht (.inr e)
  have hc := hid (fun W1 (g : PS W1 p L b off cap s.i s.bd s.n) => take_any W1 p L b off cap s.i s.bd s.n ⟨#[40]⟩ g hi)
  rw [show (⟨#[40]⟩ : ByteArray).data.toList = [40] from rfl, hw] at hc
  have X0 := hid (tb_new ((W.alloc (.cells #[.int .i64 4, .string T, .int .i64 q] 78)).alloc (.cells #[.int .i64 0, .int .i64 0, .string ⟨#[]⟩, .bool false, .int .i64 0, .slice none 0 0, .slice none 0 0] 26)) (.int .i64 9) (.int .i64 0) (.string T) (.bool false) (.int .i64 0) (.slice none 0 0) (.slice none 0 0) 26)
  rw [show ((W.alloc (.cells #[.int .i64 4, .string T, .int .i64 q] 78)).alloc (.cells #[.int .i64 0, .int .i64 0, .string ⟨#[]⟩, .bool false, .int .i64 0, .slice none 0 0, .slice none 0 0] 26)).heap.size = W.heap.size + 2 by simp] at X0
  have hp0 : p ≠ W.heap.size + 1 := by omega
  have hp1 : p ≠ W.heap.size + 2 := by omega
  have hsz : (20 : Int) < (T.size : Int) := by rw [← hT] at hl; simp at hl; omega
  clear hl
  clear hT ht et
  clear h
  go_enter Tryz.func103, Tryz.ntmps103
  go_wp2_with (go_at_call 85; refine (hc.out _ (HP.out.on (by repeat (first | with_reducible exact Q.refl _ | with_reducible refine Q.drewN ?_ _ | with_reducible refine Q.drew ?_ | with_reducible refine Q.alloc ?_ _ | with_reducible refine Q.setCell ?_ (by simp) _)))).mono ?_; rintro e w1 ⟨rfl, q1, p1⟩; have Q1 : Hid (Qx p W w1) := hid (Qx.trans (by repeat (first | with_reducible exact Qx.refl _ _ | with_reducible refine Qx.drewN ?_ _ | with_reducible refine Qx.drew ?_ | with_reducible refine Qx.alloc ?_ _ | with_reducible refine Qx.own ?_ _ _ | with_reducible refine Qx.new ?_ (by simp) _ _)) q1); have P1 := hid p1; have Z1 := hid (HZ.out.on (Qx.trans (by repeat (first | with_reducible exact Qx.refl _ _ | with_reducible refine Qx.drewN ?_ _ | with_reducible refine Qx.drew ?_ | with_reducible refine Qx.alloc ?_ _ | with_reducible refine Qx.own ?_ _ _ | with_reducible refine Qx.new ?_ (by simp) _ _)) q1) (by omega)); have X1 := hid (X0.out.on q1 (by omega)); have B1 := hid (HB.out.on (Qx.trans (by repeat (first | with_reducible exact Qx.refl _ _ | with_reducible refine Qx.drewN ?_ _ | with_reducible refine Qx.drew ?_ | with_reducible refine Qx.alloc ?_ _ | with_reducible refine Qx.own ?_ _ _ | with_reducible refine Qx.new ?_ (by simp) _ _)) q1) (by omega)); clear q1 p1; have x2 := P1.out.c2; have z2 := P1.out.f2; have bw := B1.out.g1; have d0 := Z1.out.g0; have d1 := Z1.out.g1; have d2 := Z1.out.g2; have d3 := Z1.out.g3; have d4 := Z1.out.g4; have d5 := Z1.out.g5; have d6 := Z1.out.g6; have y0 := Z1.out.f 0; have y1 := Z1.out.f 1; have y2 := Z1.out.f 2; have y3 := Z1.out.f 3; have y4 := Z1.out.f 4; have y5 := Z1.out.f 5; have y6 := Z1.out.f 6; have n0 := X1.out.g0; have n1 := X1.out.g1; have n2 := X1.out.g2; have n3 := X1.out.g3; have n4 := X1.out.g4; have n5 := X1.out.g5; have n6 := X1.out.g6)
  refine bodyPost_ret (v := .agg #[.int .i64 9, .int .i64 0, .string T, .bool false, .int .i64 0, .slice none 0 0, .slice none 0 0]) (by simp [results, Tryz.results103, go_sem, d0, d1, d2, d3, d4, d5, d6, n0, n1, n2, n3, n4, n5, n6, hp0]) rfl ?_
  exact fin7g (s' := s.on.bad) (W.heap.size + 1) 9 0 T false 0 none 0 0 none 0 0 (by omega) hlt hbW (Q1.out.own 2 (.bool true)) (rdg_leaf 9 0 t T HTT.out false 0) (P1.out.set2 true)
structure V7 where
  c0 : Value
  c1 : Value
  c2 : Value
  c3 : Value
  c4 : Value
  c5 : Value
  c6 : Value
def enc7 (x : V7) : List Value := [x.c0, x.c1, x.c2, x.c3, x.c4, x.c5, x.c6]
def agg7 (x : V7) : Value := .agg #[x.c0, x.c1, x.c2, x.c3, x.c4, x.c5, x.c6]
theorem enc7_len (x : V7) : (enc7 x).length = 7 := rfl
theorem info28 : (Tryz.prog.info? 26).map (fun i => (i.zero, i.size, i.bytes)) = some (some (.agg #[.int .i64 0, .int .i64 0, .string ⟨#[]⟩, .bool false, .int .i64 0, .slice none 0 0, .slice none 0 0]), 7, 96) := by kernel_rfl
theorem Tb.put6 {W : World} {q : Nat} {c0 c1 c2 c3 c4 c5 c6 : Value} (h : Tb W q c0 c1 c2 c3 c4 c5 c6) (d : Value) : Tb (W.setCell ⟨q, 6, none⟩ d) q c0 c1 c2 c3 c4 c5 d := by
  obtain ⟨h0, h1, h2, h3, h4, h5, h6, hf⟩ := h
  refine ⟨?_, ?_, ?_, ?_, ?_, ?_, World.cell?_setCell_same _ _ _ h6, fun j => by rw [World.frozen?_setCell]; exact hf j⟩
  all_goals (rw [World.cell?_setCell_other _ _ _ _ (by simp)]; assumption)
theorem grown_qx {w w' : World} {v : Value} {n : Nat} (g : w.grownBy w' v.ownBlock) (hn : n ≤ w.heap.size) (ho : ∀ j, v.ownBlock = some j → n ≤ j) : ∃ r, Qx r w w' ∧ n ≤ r ∧ (v.ownBlock = some r ∨ r = w.heap.size) := by
  cases hv : v.ownBlock with
  | none =>
    rw [hv] at g
    exact ⟨w.heap.size, ⟨g.os, g.tape, g.output, g.size, fun i hi _ => g.block i hi (fun e => by cases e)⟩, hn, .inr rfl⟩
  | some j =>
    rw [hv] at g
    exact ⟨j, g, ho j hv, .inl rfl⟩
theorem rdl_row {g : Nat → Prop} {W : World} {B q : Nat} : ∀ (ks : List Ex) (Ls : List V7) (o : Nat), ks.length = Ls.length → (∀ i (h : i < Ls.length), Ats enc7 W q (o + i * 7) Ls[i]) → (∀ i (h : i < ks.length) (h' : i < Ls.length), Rdg g W ks[i] (agg7 Ls[i])) → Rdg.RdLg g W ks q o := by
  intro ks
  induction ks with
  | nil => intro Ls o _ _ _; unfold Rdg.RdLg; trivial
  | cons x xs ih =>
    intro Ls o hl ha hr
    cases Ls with
    | nil => simp at hl
    | cons y ys =>
      unfold Rdg.RdLg
      have h0 := ha 0 (by simp)
      simp only [List.getElem_cons_zero, Nat.zero_mul, Nat.add_zero] at h0
      refine ⟨⟨y.c0, y.c1, y.c2, y.c3, y.c4, y.c5, y.c6, h0 0 _ rfl, h0 1 _ rfl, h0 2 _ rfl, h0 3 _ rfl, h0 4 _ rfl, h0 5 _ rfl, h0 6 _ rfl, hr 0 (by simp) (by simp)⟩, ?_⟩
      refine ih ys (o + 7) (by simpa using hl) (fun i h => ?_) (fun i h h' => ?_)
      · have := ha (i + 1) (by simpa using h)
        simp only [List.getElem_cons_succ] at this
        rw [show o + 7 + i * 7 = o + (i + 1) * 7 by omega]
        exact this
      · exact hr (i + 1) (by simpa using h) (by simpa using h')
theorem rdg_call {g : Nat → Prop} {W : World} {B : Nat} {t : List UInt8} {T : ByteArray} (hT : T.data.toList = t) {ks : List Ex} {Ls : List V7} {kv : Value} (ow : Own enc7 26 7 B W kv Ls) (hl : ks.length = Ls.length) (hb : ∀ j, kv.ownBlock = some j → g j) (hr : ∀ i (h : i < ks.length) (h' : i < Ls.length), Rdg g W ks[i] (agg7 Ls[i])) :
    Rdg g W (callE t ks) (.agg #[.int .i64 9, .int .i64 0, .string T, .bool false, .int .i64 0, .slice none 0 0, kv]) := by
  have e : T = ⟨t.toArray⟩ := bytes_eq hT
  subst e
  unfold callE Rdg
  refine ⟨_, _, rfl, ⟨none, 0, rfl, Nat.le_refl _, Nat.zero_le _, fun h => absurd h (by simp)⟩, ?_⟩
  obtain ⟨ao, cap, hv, h1, h2⟩ := (ow.sl enc7_len (by omega)).len
  refine ⟨ao, cap, by rw [hl]; exact hv, by omega, h2, fun hn => ?_⟩
  have hpos : 0 < Ls.length := by rw [← hl]; exact List.length_pos_iff.2 hn
  obtain ⟨g', cap', hv', _, _, _, _⟩ := ow.shape hpos
  refine ⟨g', 0, ?_, hb g' (by rw [hv']; rfl), ?_, ?_⟩
  · rw [hv] at hv'
    simp only [Value.slice.injEq] at hv'
    exact hv'.1
  · obtain ⟨_, ho⟩ := ow
    rcases ho with ⟨hv0, _⟩ | ⟨g0, cap0, cur0, hv0, _, hg0, _⟩
    · rw [hv0] at hv'; cases hv'
    · rw [hv0] at hv'
      simp only [Value.slice.injEq, Option.some.injEq, Addr.mk.injEq] at hv'
      exact ⟨_, _, by rw [← hv'.1.1]; exact hg0⟩
  · rw [hv'] at ow
    exact rdl_row (B := B) ks Ls 0 hl (fun i h => by rw [Nat.zero_add]; exact ow.cell enc7_len h) hr
structure AI (L : List Wd) (p b off cap : Nat) (W : World) (T : ByteArray) (t : List UInt8) (R : Ex × St) (W' : World) (f' : Nat) (ks : List Ex) (s1 : St) (Ls : List V7) (ao : Option Addr) (cp : Nat) : Prop where
  st : PS W' p L b off cap s1.i s1.bd s1.n
  lt : s1.i < L.length
  nb : s1.n + 1 ≤ s1.i
  fe : treeF.argsF EE L f' t ks s1 = some R
  xb : Tb W' (W.heap.size + 2) (.int .i64 9) (.int .i64 0) (.string T) (.bool false) (.int .i64 0) (.slice none 0 0) (.slice ao Ls.length cp)
  zb : Tb W' (W.heap.size + 1) (.int .i64 0) (.int .i64 0) (.string ⟨#[]⟩) (.bool false) (.int .i64 0) (.slice none 0 0) (.slice none 0 0)
  ow : Own enc7 26 7 W.heap.size W' (.slice ao Ls.length cp) Ls
  ln : ks.length = Ls.length
  ob : ∀ j, (Value.slice ao Ls.length cp).ownBlock = some j → W.heap.size + 3 ≤ j
  rd : ∀ i (h : i < ks.length) (h' : i < Ls.length), Rdg (fun b => W.heap.size + 3 ≤ b ∧ (Value.slice ao Ls.length cp).ownBlock ≠ some b) W' ks[i] (agg7 Ls[i])
  qx : Qx p W W'
  kl : ks.length ≤ 31
  kb : s1.bd = false → ks.length ≤ 30
  sz : W.heap.size + 3 ≤ W'.heap.size
def mzA (n p : Nat) (W : World) : Nat := 2 * (n - far p W) + (match W.cell? ⟨p, 2, none⟩ with
  | some (.bool true) => 0
  | _ => 1)
theorem mzA_of {W : World} {p : Nat} {L : List Wd} {b off cap i : Nat} {bd : Bool} {n : Nat} (h : PS W p L b off cap i bd n) (m : Nat) : mzA m p W = 2 * (m - i) + (if bd then 0 else 1) := by
  unfold mzA
  rw [far_of h, h.c2]
  cases bd <;> rfl
theorem args_done {L : List Wd} {f : Nat} {t : List UInt8} {ks : List Ex} {s : St} {R : Ex × St} (h : s.bd = true) (e : treeF.argsF EE L f t ks s = some R) : R = (callE t ks, s.node) := by
  cases f with
  | zero => unfold treeF.argsF at e; cases e
  | succ f => rw [treeF.argsF, if_pos h] at e; exact (Option.some.inj e).symm
theorem args_end {L : List Wd} {f : Nat} {t : List UInt8} {ks : List Ex} {s : St} {R : Ex × St} (h : s.bd = false) (hw : isW L s.i [41] = true) (e : treeF.argsF EE L f t ks s = some R) : R = (callE t ks, s.on.node) := by
  cases f with
  | zero => unfold treeF.argsF at e; cases e
  | succ f => rw [treeF.argsF, if_neg (by rw [h]; simp), if_pos hw] at e; exact (Option.some.inj e).symm
theorem args_bad {L : List Wd} {f : Nat} {t : List UInt8} {ks : List Ex} {s : St} {R : Ex × St} (h : s.bd = false) (hw : isW L s.i [41] = false) (hn : ks ≠ [] ∧ isW L s.i [44] = false) (e : treeF.argsF EE L f t ks s = some R) : R = (callE t ks, s.bad) := by
  cases f with
  | zero => unfold treeF.argsF at e; cases e
  | succ f => rw [treeF.argsF, if_neg (by rw [h]; simp), if_neg (by rw [hw]; simp), if_pos hn] at e; exact (Option.some.inj e).symm
theorem args_more {L : List Wd} {f : Nat} {t : List UInt8} {ks : List Ex} {s : St} {R : Ex × St} (h : s.bd = false) (hw : isW L s.i [41] = false) (hn : ¬ (ks ≠ [] ∧ isW L s.i [44] = false)) (e : treeF.argsF EE L f t ks s = some R) : ∃ g r, f = g + 1 ∧ treeF EE L g 1 (if ks = [] then s else s.on) = some r ∧ treeF.argsF EE L g t (ks ++ [r.1]) (argS ks r.2) = some R := by
  cases f with
  | zero => unfold treeF.argsF at e; cases e
  | succ f =>
    rw [treeF.argsF, if_neg (by rw [h]; simp), if_neg (by rw [hw]; simp), if_neg hn] at e
    obtain ⟨r, h1, h2⟩ := Option.bind_eq_some_iff.1 e
    exact ⟨f, r, rfl, h1, h2⟩
set_option maxHeartbeats 8000000 in
theorem first_paren_bad (L : List Wd) (p b off cap : Nat) (s : St) (W : World) (h : PS W p L b off cap s.i s.bd s.n) (hi : s.i < L.length) (hr : L.length ≤ 50000) (hn : s.n ≤ s.i) (hw : isW L s.i [40] = true) (r : Ex × St) (hbd : r.2.bd = true) (HT : Hid (∀ W1, PS W1 p L b off cap s.on.i s.on.bd s.on.n → Calls Tryz.prog 41 #[.pointer (some ⟨p, 0, none⟩), .int .i64 1] W1 fun e W' => Rep p L b off cap W1 r e W')) :
    Calls Tryz.prog 86 #[.pointer (some ⟨p, 0, none⟩)] W fun e W' => Rep p L b off cap W (r.1, r.2) e W' := by
  have hlt := h.lt
  have hbW := h.blk hi
  obtain ⟨T, q, hT, kw⟩ := h.kw hi
  have HTT := hid hT
  have HK := hid kw
  generalize hkk : (kAt L s.i : Int) = kk at HK
  have hpW : p ≠ W.heap.size := by omega
  have HBD := hid hbd
  clear hbd
  have HP := hid h
  have hroom : (s.i : Int) + 1 ≤ 9223372036854775807 := by omega
  have HZ := hid ((tb_new W (.int .i64 0) (.int .i64 0) (.string ⟨#[]⟩) (.bool false) (.int .i64 0) (.slice none 0 0) (.slice none 0 0) 26).on (((Qx.refl p _).alloc (.cells #[.int .i64 kk, .string T, .int .i64 q] 78)).drew) (by omega))
  have HB := hid ((wb_new (W.alloc (.cells #[.int .i64 0, .int .i64 0, .string ⟨#[]⟩, .bool false, .int .i64 0, .slice none 0 0, .slice none 0 0] 26)) (.int .i64 kk) (.string T) (.int .i64 q) 78).on ((Qx.refl p _).drew) (by simp; omega))
  rw [show (W.alloc (.cells #[.int .i64 0, .int .i64 0, .string ⟨#[]⟩, .bool false, .int .i64 0, .slice none 0 0, .slice none 0 0] 26)).heap.size = W.heap.size + 1 by simp] at HB
  have hc := hid (fun W1 (g : PS W1 p L b off cap s.i s.bd s.n) => take_any W1 p L b off cap s.i s.bd s.n ⟨#[40]⟩ g hi)
  rw [show (⟨#[40]⟩ : ByteArray).data.toList = [40] from rfl, hw] at hc
  clear h kw hT
  go_enter Tryz.func86, Tryz.ntmps86
  go_wp2_with fail
  go_region_held3 (fun V => V.cell? ⟨p, 0, none⟩ = some (.slice (some ⟨b, off, none⟩) L.length cap) ∧ V.cell? ⟨p, 1, none⟩ = some (.int .i64 (s.i : Int)) ∧ V.cell? ⟨b, off + s.i * 3, none⟩ = some (.int .i64 kk) ∧ V.cell? ⟨b, off + s.i * 3 + 1, none⟩ = some (.string T) ∧ V.cell? ⟨b, off + s.i * 3 + 2, none⟩ = some (.int .i64 q)) (exact HK.out.on (by repeat (first | exact Q.refl _ | refine Q.drewN ?_ _ | refine Q.drew ?_ | refine Q.alloc ?_ _ | refine Q.setCell ?_ (by simp) _))) (fail)
  go_wp2_with (first | (go_at_call 41; refine (HT.out _ P1.out).mono ?_; rintro e w2 ⟨v, rfl, hr2, q2, p2⟩; obtain ⟨k, m, t, bb, er, a1, l1, c1, a2, l2, c2, rfl⟩ := hr2.shape; have R2 := hid hr2; have Q2 := hid q2; have P2 := hid p2; have Z2 := hid (Z1.out.on q2 (by omega)); have hsz : w1.heap.size ≤ w2.heap.size := q2.size; clear hr2 q2 p2; have hp2 : p ≠ w2.heap.size := (by omega); have hW2 : W.heap.size ≠ w2.heap.size := (by omega); have PX := hid (P2.out.on ((Q.refl _).alloc (.cells #[.int .i64 k, .int .i64 m, .string t, .bool bb, .int .i64 er, .slice a1 l1 c1, .slice a2 l2 c2] 26))); have u2 := PX.out.c2; rw [HBD.out] at u2; have v2 := PX.out.f2; have Z5 := hid ((Z2.out.on ((Qx.refl p _).alloc (.cells #[.int .i64 k, .int .i64 m, .string t, .bool bb, .int .i64 er, .slice a1 l1 c1, .slice a2 l2 c2] 26)) (by omega)).on ((Qx.refl p _).own 2 (.bool true)) (by omega)); have X5 := hid ((tb_new w2 (.int .i64 k) (.int .i64 m) (.string t) (.bool bb) (.int .i64 er) (.slice a1 l1 c1) (.slice a2 l2 c2) 26).on ((Qx.refl p _).own 2 (.bool true)) (by omega)); clear hp2 hW2; have d0 := Z5.out.g0; have d1 := Z5.out.g1; have d2 := Z5.out.g2; have d3 := Z5.out.g3; have d4 := Z5.out.g4; have d5 := Z5.out.g5; have d6 := Z5.out.g6; have y0 := Z5.out.f 0; have y1 := Z5.out.f 1; have y2 := Z5.out.f 2; have y3 := Z5.out.f 3; have y4 := Z5.out.f 4; have y5 := Z5.out.f 5; have y6 := Z5.out.f 6; have n0 := X5.out.g0; have n1 := X5.out.g1; have n2 := X5.out.g2; have n3 := X5.out.g3; have n4 := X5.out.g4; have n5 := X5.out.g5; have n6 := X5.out.g6) | (go_at_call 85; refine (hc.out _ (HP.out.on (by repeat (first | exact Q.refl _ | refine Q.drewN ?_ _ | refine Q.drew ?_ | refine Q.alloc ?_ _ | refine Q.setCell ?_ (by simp) _)))).mono ?_; rintro e w1 ⟨rfl, q1, p1⟩; have Q1 : Hid (Qx p W w1) := hid (Qx.trans (by repeat (first | with_reducible exact Qx.refl _ _ | with_reducible refine Qx.drewN ?_ _ | with_reducible refine Qx.drew ?_ | with_reducible refine Qx.alloc ?_ _ | with_reducible refine Qx.own ?_ _ _ | with_reducible refine Qx.new ?_ (by simp) _ _)) q1); have P1 := hid p1; have Z1 := hid (HZ.out.on q1 (by omega)); have B1 := hid (HB.out.on q1 (by omega)); have hsw : W.heap.size + 1 < w1.heap.size := World.block_lt_of_cell? w1 ⟨W.heap.size + 1, 0, none⟩ B1.out.g0; clear q1 p1; have x1 := P1.out.c1; have z1 := P1.out.f1; have b0 := B1.out.g0; have b1 := B1.out.g1; have b2 := B1.out.g2))
  refine bodyPost_ret (v := .agg #[.int .i64 k, .int .i64 m, .string t, .bool bb, .int .i64 er, .slice a1 l1 c1, .slice a2 l2 c2]) (by simp [results, Tryz.results86, go_sem, d0, d1, d2, d3, d4, d5, d6, n0, n1, n2, n3, n4, n5, n6]) rfl ?_
  have hp2 : p ≠ w2.heap.size := by omega
  have hq : Qx p W _ := (((Q1.out.trans Q2.out).alloc (.cells #[.int .i64 k, .int .i64 m, .string t, .bool bb, .int .i64 er, .slice a1 l1 c1, .slice a2 l2 c2] 26)).own 2 (.bool true))
  have PY := PX.out.set2 true
  rw [← HBD.out] at PY
  exact fin7 (s' := r.2) k m t bb er a1 l1 c1 a2 l2 c2 hlt hbW hq (Rdg.on (((Qx.refl p _).alloc _).own _ _) (fun b hb => by omega) _ _ (Rdg.mono (fun b hb => by omega) _ _ R2.out)) (by rw [← HBD.out]; exact PY)
set_option maxHeartbeats 8000000 in
theorem first_paren_yes (L : List Wd) (p b off cap : Nat) (s : St) (W : World) (h : PS W p L b off cap s.i s.bd s.n) (hi : s.i < L.length) (hr : L.length ≤ 50000) (hn : s.n ≤ s.i) (hw : isW L s.i [40] = true) (r : Ex × St) (hbd : r.2.bd = false) (hri : r.2.i < L.length) (hw2 : isW L r.2.i [41] = true) (HT : Hid (∀ W1, PS W1 p L b off cap s.on.i s.on.bd s.on.n → Calls Tryz.prog 41 #[.pointer (some ⟨p, 0, none⟩), .int .i64 1] W1 fun e W' => Rep p L b off cap W1 r e W')) :
    Calls Tryz.prog 86 #[.pointer (some ⟨p, 0, none⟩)] W fun e W' => Rep p L b off cap W (r.1, r.2.on) e W' := by
  have hlt := h.lt
  have hbW := h.blk hi
  obtain ⟨T, q, hT, kw⟩ := h.kw hi
  have HTT := hid hT
  have HK := hid kw
  generalize hkk : (kAt L s.i : Int) = kk at HK
  have hpW : p ≠ W.heap.size := by omega
  have HBD := hid hbd
  clear hbd
  have hc2 := hid (fun W1 (g : PS W1 p L b off cap r.2.i r.2.bd r.2.n) => take_any W1 p L b off cap r.2.i r.2.bd r.2.n ⟨#[41]⟩ g hri)
  rw [show (⟨#[41]⟩ : ByteArray).data.toList = [41] from rfl, hw2] at hc2
  have HP := hid h
  have hroom : (s.i : Int) + 1 ≤ 9223372036854775807 := by omega
  have HZ := hid ((tb_new W (.int .i64 0) (.int .i64 0) (.string ⟨#[]⟩) (.bool false) (.int .i64 0) (.slice none 0 0) (.slice none 0 0) 26).on (((Qx.refl p _).alloc (.cells #[.int .i64 kk, .string T, .int .i64 q] 78)).drew) (by omega))
  have HB := hid ((wb_new (W.alloc (.cells #[.int .i64 0, .int .i64 0, .string ⟨#[]⟩, .bool false, .int .i64 0, .slice none 0 0, .slice none 0 0] 26)) (.int .i64 kk) (.string T) (.int .i64 q) 78).on ((Qx.refl p _).drew) (by simp; omega))
  rw [show (W.alloc (.cells #[.int .i64 0, .int .i64 0, .string ⟨#[]⟩, .bool false, .int .i64 0, .slice none 0 0, .slice none 0 0] 26)).heap.size = W.heap.size + 1 by simp] at HB
  have hc := hid (fun W1 (g : PS W1 p L b off cap s.i s.bd s.n) => take_any W1 p L b off cap s.i s.bd s.n ⟨#[40]⟩ g hi)
  rw [show (⟨#[40]⟩ : ByteArray).data.toList = [40] from rfl, hw] at hc
  clear h kw hT
  go_enter Tryz.func86, Tryz.ntmps86
  go_wp2_with fail
  go_region_held3 (fun V => V.cell? ⟨p, 0, none⟩ = some (.slice (some ⟨b, off, none⟩) L.length cap) ∧ V.cell? ⟨p, 1, none⟩ = some (.int .i64 (s.i : Int)) ∧ V.cell? ⟨b, off + s.i * 3, none⟩ = some (.int .i64 kk) ∧ V.cell? ⟨b, off + s.i * 3 + 1, none⟩ = some (.string T) ∧ V.cell? ⟨b, off + s.i * 3 + 2, none⟩ = some (.int .i64 q)) (exact HK.out.on (by repeat (first | exact Q.refl _ | refine Q.drewN ?_ _ | refine Q.drew ?_ | refine Q.alloc ?_ _ | refine Q.setCell ?_ (by simp) _))) (fail)
  go_wp2_with (first | (go_at_call 85; refine (hc2.out _ PX.out).mono ?_; rintro e w4 ⟨rfl, q4, p4⟩; have Q4 := hid q4; have P4 := hid p4; have X4 := hid ((tb_new w2 (.int .i64 k) (.int .i64 m) (.string t) (.bool bb) (.int .i64 er) (.slice a1 l1 c1) (.slice a2 l2 c2) 26).on q4 (by omega)); have Z4 := hid ((Z2.out.on ((Qx.refl p _).alloc _) (by omega)).on q4 (by omega)); clear q4 p4; have t2 := P4.out.c2; have s2 := P4.out.f2; have e0 := Z4.out.g0; have e1 := Z4.out.g1; have e2 := Z4.out.g2; have e3 := Z4.out.g3; have e4 := Z4.out.g4; have e5 := Z4.out.g5; have e6 := Z4.out.g6; have r0 := Z4.out.f 0; have r1 := Z4.out.f 1; have r2 := Z4.out.f 2; have r3 := Z4.out.f 3; have r4 := Z4.out.f 4; have r5 := Z4.out.f 5; have r6 := Z4.out.f 6; have n0 := X4.out.g0; have n1 := X4.out.g1; have n2 := X4.out.g2; have n3 := X4.out.g3; have n4 := X4.out.g4; have n5 := X4.out.g5; have n6 := X4.out.g6) | (go_at_call 41; refine (HT.out _ P1.out).mono ?_; rintro e w2 ⟨v, rfl, hr2, q2, p2⟩; obtain ⟨k, m, t, bb, er, a1, l1, c1, a2, l2, c2, rfl⟩ := hr2.shape; have R2 := hid hr2; have Q2 := hid q2; have P2 := hid p2; have Z2 := hid (Z1.out.on q2 (by omega)); have hsz : w1.heap.size ≤ w2.heap.size := q2.size; clear hr2 q2 p2; have hp2 : p ≠ w2.heap.size := (by omega); have hW2 : W.heap.size ≠ w2.heap.size := (by omega); have PX := hid (P2.out.on ((Q.refl _).alloc (.cells #[.int .i64 k, .int .i64 m, .string t, .bool bb, .int .i64 er, .slice a1 l1 c1, .slice a2 l2 c2] 26))); have u2 := PX.out.c2; rw [HBD.out] at u2; have v2 := PX.out.f2; have d0 := Z2.out.g0; have d1 := Z2.out.g1; have d2 := Z2.out.g2; have d3 := Z2.out.g3; have d4 := Z2.out.g4; have d5 := Z2.out.g5; have d6 := Z2.out.g6; have y0 := Z2.out.f 0; have y1 := Z2.out.f 1; have y2 := Z2.out.f 2; have y3 := Z2.out.f 3; have y4 := Z2.out.f 4; have y5 := Z2.out.f 5; have y6 := Z2.out.f 6) | (go_at_call 85; refine (hc.out _ (HP.out.on (by repeat (first | exact Q.refl _ | refine Q.drewN ?_ _ | refine Q.drew ?_ | refine Q.alloc ?_ _ | refine Q.setCell ?_ (by simp) _)))).mono ?_; rintro e w1 ⟨rfl, q1, p1⟩; have Q1 : Hid (Qx p W w1) := hid (Qx.trans (by repeat (first | with_reducible exact Qx.refl _ _ | with_reducible refine Qx.drewN ?_ _ | with_reducible refine Qx.drew ?_ | with_reducible refine Qx.alloc ?_ _ | with_reducible refine Qx.own ?_ _ _ | with_reducible refine Qx.new ?_ (by simp) _ _)) q1); have P1 := hid p1; have Z1 := hid (HZ.out.on q1 (by omega)); have B1 := hid (HB.out.on q1 (by omega)); have hsw : W.heap.size + 1 < w1.heap.size := World.block_lt_of_cell? w1 ⟨W.heap.size + 1, 0, none⟩ B1.out.g0; clear q1 p1; have x1 := P1.out.c1; have z1 := P1.out.f1; have b0 := B1.out.g0; have b1 := B1.out.g1; have b2 := B1.out.g2))
  refine bodyPost_ret (v := .agg #[.int .i64 k, .int .i64 m, .string t, .bool bb, .int .i64 er, .slice a1 l1 c1, .slice a2 l2 c2]) (by simp [results, Tryz.results86, go_sem, e0, e1, e2, e3, e4, e5, e6, n0, n1, n2, n3, n4, n5, n6]) rfl ?_
  have hq : Qx p W _ := (((Q1.out.trans Q2.out).alloc (.cells #[.int .i64 k, .int .i64 m, .string t, .bool bb, .int .i64 er, .slice a1 l1 c1, .slice a2 l2 c2] 26)).trans Q4.out).own 2 (.bool false)
  have PY := P4.out.set2 false
  exact fin7 (s' := r.2.on) k m t bb er a1 l1 c1 a2 l2 c2 hlt hbW hq (Rdg.on ((((Qx.refl p _).alloc _).trans Q4.out).own _ _) (fun b hb => by omega) _ _ (Rdg.mono (fun b hb => by omega) _ _ R2.out)) (by rw [on_bd, HBD.out]; exact PY)
set_option maxHeartbeats 8000000 in
theorem first_paren_no (L : List Wd) (p b off cap : Nat) (s : St) (W : World) (h : PS W p L b off cap s.i s.bd s.n) (hi : s.i < L.length) (hr : L.length ≤ 50000) (hn : s.n ≤ s.i) (hw : isW L s.i [40] = true) (r : Ex × St) (hbd : r.2.bd = false) (hri : r.2.i < L.length) (hw2 : isW L r.2.i [41] = false) (HT : Hid (∀ W1, PS W1 p L b off cap s.on.i s.on.bd s.on.n → Calls Tryz.prog 41 #[.pointer (some ⟨p, 0, none⟩), .int .i64 1] W1 fun e W' => Rep p L b off cap W1 r e W')) :
    Calls Tryz.prog 86 #[.pointer (some ⟨p, 0, none⟩)] W fun e W' => Rep p L b off cap W (r.1, r.2.bad) e W' := by
  have hlt := h.lt
  have hbW := h.blk hi
  obtain ⟨T, q, hT, kw⟩ := h.kw hi
  have HTT := hid hT
  have HK := hid kw
  generalize hkk : (kAt L s.i : Int) = kk at HK
  have hpW : p ≠ W.heap.size := by omega
  have HBD := hid hbd
  clear hbd
  have hc2 := hid (fun W1 (g : PS W1 p L b off cap r.2.i r.2.bd r.2.n) => take_any W1 p L b off cap r.2.i r.2.bd r.2.n ⟨#[41]⟩ g hri)
  rw [show (⟨#[41]⟩ : ByteArray).data.toList = [41] from rfl, hw2] at hc2
  have HP := hid h
  have hroom : (s.i : Int) + 1 ≤ 9223372036854775807 := by omega
  have HZ := hid ((tb_new W (.int .i64 0) (.int .i64 0) (.string ⟨#[]⟩) (.bool false) (.int .i64 0) (.slice none 0 0) (.slice none 0 0) 26).on (((Qx.refl p _).alloc (.cells #[.int .i64 kk, .string T, .int .i64 q] 78)).drew) (by omega))
  have HB := hid ((wb_new (W.alloc (.cells #[.int .i64 0, .int .i64 0, .string ⟨#[]⟩, .bool false, .int .i64 0, .slice none 0 0, .slice none 0 0] 26)) (.int .i64 kk) (.string T) (.int .i64 q) 78).on ((Qx.refl p _).drew) (by simp; omega))
  rw [show (W.alloc (.cells #[.int .i64 0, .int .i64 0, .string ⟨#[]⟩, .bool false, .int .i64 0, .slice none 0 0, .slice none 0 0] 26)).heap.size = W.heap.size + 1 by simp] at HB
  have hc := hid (fun W1 (g : PS W1 p L b off cap s.i s.bd s.n) => take_any W1 p L b off cap s.i s.bd s.n ⟨#[40]⟩ g hi)
  rw [show (⟨#[40]⟩ : ByteArray).data.toList = [40] from rfl, hw] at hc
  clear h kw hT
  go_enter Tryz.func86, Tryz.ntmps86
  go_wp2_with fail
  go_region_held3 (fun V => V.cell? ⟨p, 0, none⟩ = some (.slice (some ⟨b, off, none⟩) L.length cap) ∧ V.cell? ⟨p, 1, none⟩ = some (.int .i64 (s.i : Int)) ∧ V.cell? ⟨b, off + s.i * 3, none⟩ = some (.int .i64 kk) ∧ V.cell? ⟨b, off + s.i * 3 + 1, none⟩ = some (.string T) ∧ V.cell? ⟨b, off + s.i * 3 + 2, none⟩ = some (.int .i64 q)) (exact HK.out.on (by repeat (first | exact Q.refl _ | refine Q.drewN ?_ _ | refine Q.drew ?_ | refine Q.alloc ?_ _ | refine Q.setCell ?_ (by simp) _))) (fail)
  go_wp2_with (first | (go_at_call 85; refine (hc2.out _ PX.out).mono ?_; rintro e w4 ⟨rfl, q4, p4⟩; have Q4 := hid q4; have P4 := hid p4; have X4 := hid ((tb_new w2 (.int .i64 k) (.int .i64 m) (.string t) (.bool bb) (.int .i64 er) (.slice a1 l1 c1) (.slice a2 l2 c2) 26).on q4 (by omega)); have Z4 := hid ((Z2.out.on ((Qx.refl p _).alloc _) (by omega)).on q4 (by omega)); clear q4 p4; have t2 := P4.out.c2; have s2 := P4.out.f2; have e0 := Z4.out.g0; have e1 := Z4.out.g1; have e2 := Z4.out.g2; have e3 := Z4.out.g3; have e4 := Z4.out.g4; have e5 := Z4.out.g5; have e6 := Z4.out.g6; have r0 := Z4.out.f 0; have r1 := Z4.out.f 1; have r2 := Z4.out.f 2; have r3 := Z4.out.f 3; have r4 := Z4.out.f 4; have r5 := Z4.out.f 5; have r6 := Z4.out.f 6; have n0 := X4.out.g0; have n1 := X4.out.g1; have n2 := X4.out.g2; have n3 := X4.out.g3; have n4 := X4.out.g4; have n5 := X4.out.g5; have n6 := X4.out.g6) | (go_at_call 41; refine (HT.out _ P1.out).mono ?_; rintro e w2 ⟨v, rfl, hr2, q2, p2⟩; obtain ⟨k, m, t, bb, er, a1, l1, c1, a2, l2, c2, rfl⟩ := hr2.shape; have R2 := hid hr2; have Q2 := hid q2; have P2 := hid p2; have Z2 := hid (Z1.out.on q2 (by omega)); have hsz : w1.heap.size ≤ w2.heap.size := q2.size; clear hr2 q2 p2; have hp2 : p ≠ w2.heap.size := (by omega); have hW2 : W.heap.size ≠ w2.heap.size := (by omega); have PX := hid (P2.out.on ((Q.refl _).alloc (.cells #[.int .i64 k, .int .i64 m, .string t, .bool bb, .int .i64 er, .slice a1 l1 c1, .slice a2 l2 c2] 26))); have u2 := PX.out.c2; rw [HBD.out] at u2; have v2 := PX.out.f2; have d0 := Z2.out.g0; have d1 := Z2.out.g1; have d2 := Z2.out.g2; have d3 := Z2.out.g3; have d4 := Z2.out.g4; have d5 := Z2.out.g5; have d6 := Z2.out.g6; have y0 := Z2.out.f 0; have y1 := Z2.out.f 1; have y2 := Z2.out.f 2; have y3 := Z2.out.f 3; have y4 := Z2.out.f 4; have y5 := Z2.out.f 5; have y6 := Z2.out.f 6) | (go_at_call 85; refine (hc.out _ (HP.out.on (by repeat (first | exact Q.refl _ | refine Q.drewN ?_ _ | refine Q.drew ?_ | refine Q.alloc ?_ _ | refine Q.setCell ?_ (by simp) _)))).mono ?_; rintro e w1 ⟨rfl, q1, p1⟩; have Q1 : Hid (Qx p W w1) := hid (Qx.trans (by repeat (first | with_reducible exact Qx.refl _ _ | with_reducible refine Qx.drewN ?_ _ | with_reducible refine Qx.drew ?_ | with_reducible refine Qx.alloc ?_ _ | with_reducible refine Qx.own ?_ _ _ | with_reducible refine Qx.new ?_ (by simp) _ _)) q1); have P1 := hid p1; have Z1 := hid (HZ.out.on q1 (by omega)); have B1 := hid (HB.out.on q1 (by omega)); have hsw : W.heap.size + 1 < w1.heap.size := World.block_lt_of_cell? w1 ⟨W.heap.size + 1, 0, none⟩ B1.out.g0; clear q1 p1; have x1 := P1.out.c1; have z1 := P1.out.f1; have b0 := B1.out.g0; have b1 := B1.out.g1; have b2 := B1.out.g2))
  refine bodyPost_ret (v := .agg #[.int .i64 k, .int .i64 m, .string t, .bool bb, .int .i64 er, .slice a1 l1 c1, .slice a2 l2 c2]) (by simp [results, Tryz.results86, go_sem, e0, e1, e2, e3, e4, e5, e6, n0, n1, n2, n3, n4, n5, n6]) rfl ?_
  have hq : Qx p W _ := (((Q1.out.trans Q2.out).alloc (.cells #[.int .i64 k, .int .i64 m, .string t, .bool bb, .int .i64 er, .slice a1 l1 c1, .slice a2 l2 c2] 26)).trans Q4.out).own 2 (.bool true)
  have PY := P4.out.set2 true
  exact fin7 (s' := r.2.bad) k m t bb er a1 l1 c1 a2 l2 c2 hlt hbW hq (Rdg.on ((((Qx.refl p _).alloc _).trans Q4.out).own _ _) (fun b hb => by omega) _ _ (Rdg.mono (fun b hb => by omega) _ _ R2.out)) PY
end Go.Proofs.YtoikodohcieipaaGreatDoor
