/- The reference's Read, walked. -/
import Derived.Test.YtgheopdadfnilaaGreatDoorKr31
import Derived.Test.YtgheopdadfnilaaGreatDoorKr15
import Derived.Test.YtgheopdadfnilaaGreatDoorKr32
set_option linter.unusedVariables false
set_option linter.unusedSimpArgs false
set_option maxRecDepth 100000
namespace Go.Proofs.YtgheopdadfnilaaGreatDoor
open Go.RowKit
theorem pre_one {s : ByteArray} (c : UInt8) (h : 0 < s.size) : Lib.hasPrefix s.data.toList [c] = decide (s[0] = c) := by
  have e := drop_cons s 0 h
  rw [List.drop_zero] at e
  rw [e]
  simp only [Lib.hasPrefix, List.isPrefixOf]
  by_cases hc : s[0] = c
  · simp [hc]
  · simp [hc, Ne.symm hc, beq_eq_false_iff_ne.2 (Ne.symm hc)]
theorem cut_one (s : ByteArray) : (s.extract 1 s.size).data.toList = s.data.toList.drop 1 := by
  simp
  rw [List.take_of_length_le (by simp)]
theorem mt_long {l : List UInt8} (h : 200 < l.length) : V.mtB l = false := by
  unfold V.mtB
  rw [decide_eq_false (by omega)]
  rfl
theorem mt_yes {l : List UInt8} (h : l.length ≤ 200) (hu : Lib.validD l = true) : V.mtB l = true := by
  unfold V.mtB
  rw [decide_eq_true h, hu]
  rfl
theorem mt_no {l : List UInt8} (hu : Lib.validD l = false) : V.mtB l = false := by
  unfold V.mtB
  rw [hu, Bool.and_false]
theorem may_t (t : List UInt8) : V.mayB 2 0 t false 0 = V.mtB t := by simp [V.mayB]
theorem valT_no {l t : List UInt8} (h : rvT l = (2, 0, t, false, 0)) (hm : V.mtB t = false) : valT l = (zC, 2) := by
  unfold valT
  rw [h]
  simp only
  rw [may_t, hm]
  rfl
theorem valT_yes {l t : List UInt8} (h : rvT l = (2, 0, t, false, 0)) (hm : V.mtB t = true) : valT l = ((false, (2, 0, t, false, 0), zeroE), 0) := by
  unfold valT
  rw [h]
  simp only
  rw [may_t, hm]
  rfl
theorem valT_of {l : List UInt8} {v : Int × Int × List UInt8 × Bool × Int} (h : rvT l = v) (hm : V.mayB v.1 v.2.1 v.2.2.1 v.2.2.2.1 v.2.2.2.2 = true) : valT l = ((false, v, zeroE), 0) := by
  unfold valT
  rw [h, hm]
  rfl
theorem rdc_t (T : ByteArray) (B : Nat) (W : World) : RdC B W (false, (2, 0, T.data.toList, false, 0), zeroE) (.agg #[.bool false, .int .i64 2, .int .i64 0, .string T, .bool false, .int .i64 0, .int .i64 0, .int .i64 0, .string ⟨#[]⟩, .bool false, .int .i64 0, .slice none 0 0, .slice none 0 0]) := by
  have := rdc_val B W (2, 0, T.data.toList, false, 0) false
  simp only at this
  rw [bytes_of] at this
  exact this
set_option maxHeartbeats 4000000 in
theorem rread_quote (s : ByteArray) (w : World) (hs : s.size ≤ 100000) (h0 : 0 < s.size) (h61 : s[0] ≠ 61) (h39 : s[0] = 39) : Calls Tryz.prog 17 #[.string s] w fun e W' => RepC w (valT s.data.toList) e W' := by
  have HZ := hid (cb_new w [.bool false, .int .i64 0, .int .i64 0, .string ⟨#[]⟩, .bool false, .int .i64 0, .int .i64 0, .int .i64 0, .string ⟨#[]⟩, .bool false, .int .i64 0, .slice none 0 0, .slice none 0 0] 39)
  have g0 : (0 : Int) < (s.size : Int) := by omega
  have c61 : ((s[0].toNat : Int) == 61) = false := by rw [beq_eq_false_iff_ne]; intro e; exact h61 (UInt8.toNat.inj (by rw [show (61 : UInt8).toNat = 61 from rfl]; omega))
  have c39 : ((s[0].toNat : Int) == 39) = true := by rw [h39]; rfl
  have hp : Lib.hasPrefix s.data.toList [39] = true := by rw [pre_one 39 h0]; exact decide_eq_true h39
  have hne : s.data.toList ≠ [] := fun e => by rw [e] at hp; cases hp
  obtain ⟨T, hT⟩ : ∃ T, s.extract 1 s.size = T := ⟨_, rfl⟩
  have hTl : T.data.toList = s.data.toList.drop 1 := by rw [← hT]; exact cut_one s
  have hTs : T.size ≤ 100000 := by rw [← len_data, hTl, List.length_drop, len_data]; omega
  have HR : Hid (rvT s.data.toList = (2, 0, T.data.toList, false, 0)) := by
    show _ = _
    unfold rvT
    rw [if_neg hne, if_pos hp, hTl]
  clear hp hne hTl h39
  by_cases hl : 200 < T.size
  · have hl' : (200 : Int) < (T.size : Int) := by omega
    have hv : valT s.data.toList = (zC, 2) := valT_no HR.out (mt_long (by rw [len_data]; omega))
    rw [hv]
    clear hv hl HR HZ
    go_enter Tryz.func17, Tryz.ntmps17
    go_wp2_with fail
    refine bodyPost_ret (v := .tuple #[.agg #[.bool false, .int .i64 0, .int .i64 0, .string ⟨#[]⟩, .bool false, .int .i64 0, .int .i64 0, .int .i64 0, .string ⟨#[]⟩, .bool false, .int .i64 0, .slice none 0 0, .slice none 0 0], .int .i64 2]) (by simp [results, Tryz.results17, go_sem]) rfl ?_
    exact ⟨_, rfl, rdc_val _ _ zV false, by repeat (first | with_reducible exact Q.refl _ | with_reducible refine Q.setCell ?_ (Nat.le_refl _) _ | with_reducible refine Q.alloc ?_ _)⟩
  · have hl' : ¬ (200 : Int) < (T.size : Int) := by omega
    have HU := hid (fun W' => V.utf8_any T W' (by omega))
    by_cases hu : Lib.validD T.data.toList = true
    · rw [hu] at HU
      have hv : valT s.data.toList = ((false, (2, 0, T.data.toList, false, 0), zeroE), 0) := valT_yes HR.out (mt_yes (by rw [len_data]; omega) hu)
      rw [hv]
      have HX := hid (fun W' => rTxt_any T W')
      clear hu hv hl HR
      go_enter Tryz.func17, Tryz.ntmps17
      go_wp2_with (first | (go_at_call 48; refine (HU.out _).mono ?_; rintro e9 w9 ⟨rfl, h9⟩; replace h9 := h9.symm; subst h9) | (go_at_call 24; refine (HX.out _).mono ?_; rintro e9 w5 ⟨rfl, q9⟩; have hw5 : w.heap.size < w5.heap.size := (by have := q9.size; (try simp at this); omega); have Zw5 := hid (HZ.out.on q9); have Qw5 : Hid (Q w w5) := hid (((Q.refl w).alloc _).trans q9); clear q9; have d0 := Zw5.out.c 0 _ rfl; have d1 := Zw5.out.c 1 _ rfl; have d2 := Zw5.out.c 2 _ rfl; have d3 := Zw5.out.c 3 _ rfl; have d4 := Zw5.out.c 4 _ rfl; have d5 := Zw5.out.c 5 _ rfl; have d6 := Zw5.out.c 6 _ rfl; have d7 := Zw5.out.c 7 _ rfl; have d8 := Zw5.out.c 8 _ rfl; have d9 := Zw5.out.c 9 _ rfl; have d10 := Zw5.out.c 10 _ rfl; have d11 := Zw5.out.c 11 _ rfl; have d12 := Zw5.out.c 12 _ rfl; have y0 := Zw5.out.f 0; have y1 := Zw5.out.f 1; have y2 := Zw5.out.f 2; have y3 := Zw5.out.f 3; have y4 := Zw5.out.f 4; have y5 := Zw5.out.f 5; have y6 := Zw5.out.f 6; have y7 := Zw5.out.f 7; have y8 := Zw5.out.f 8; have y9 := Zw5.out.f 9; have y10 := Zw5.out.f 10; have y11 := Zw5.out.f 11; have y12 := Zw5.out.f 12))
      refine bodyPost_ret (v := .tuple #[.agg #[.bool false, .int .i64 2, .int .i64 0, .string T, .bool false, .int .i64 0, .int .i64 0, .int .i64 0, .string ⟨#[]⟩, .bool false, .int .i64 0, .slice none 0 0, .slice none 0 0], .int .i64 0]) (by simp [results, Tryz.results17, go_sem, hw5, d0, d1, d2, d3, d4, d5, d6, d7, d8, d9, d10, d11, d12]) rfl ?_
      exact ⟨_, rfl, rdc_t T _ _, by repeat (first | with_reducible exact Qw5.out | with_reducible refine Q.setCell ?_ (Nat.le_refl _) _ | with_reducible refine Q.alloc ?_ _)⟩
    · have hu' : Lib.validD T.data.toList = false := by simpa using hu
      rw [hu'] at HU
      have hv : valT s.data.toList = (zC, 2) := valT_no HR.out (mt_no hu')
      rw [hv]
      clear hu hu' hv hl HR HZ
      go_enter Tryz.func17, Tryz.ntmps17
      go_wp2_with (go_at_call 48; refine (HU.out _).mono ?_; rintro e9 w9 ⟨rfl, h9⟩; replace h9 := h9.symm; subst h9)
      refine bodyPost_ret (v := .tuple #[.agg #[.bool false, .int .i64 0, .int .i64 0, .string ⟨#[]⟩, .bool false, .int .i64 0, .int .i64 0, .int .i64 0, .string ⟨#[]⟩, .bool false, .int .i64 0, .slice none 0 0, .slice none 0 0], .int .i64 2]) (by simp [results, Tryz.results17, go_sem]) rfl ?_
      exact ⟨_, rfl, rdc_val _ _ zV false, by repeat (first | with_reducible exact Q.refl _ | with_reducible refine Q.setCell ?_ (Nat.le_refl _) _ | with_reducible refine Q.alloc ?_ _)⟩
set_option maxHeartbeats 4000000 in
theorem rread_empty (s : ByteArray) (w : World) (hs : s.size ≤ 100000) (h0 : s.size = 0) : Calls Tryz.prog 17 #[.string s] w fun e W' => RepC w (valT s.data.toList) e W' := by
  have g0 : ¬ (0 : Int) < (s.size : Int) := by omega
  have hl : s.data.toList = [] := List.eq_nil_of_length_eq_zero (by rw [len_data]; exact h0)
  have fe : (s.toList == []) = true := by rw [Lib.toList_data, hl]; rfl
  rw [hl]
  have hv : valT [] = (zC, 0) := by kernel_rfl
  rw [hv]
  clear hl hv
  go_enter Tryz.func17, Tryz.ntmps17
  go_wp2_with fail
  refine bodyPost_ret (v := .tuple #[.agg #[.bool false, .int .i64 0, .int .i64 0, .string ⟨#[]⟩, .bool false, .int .i64 0, .int .i64 0, .int .i64 0, .string ⟨#[]⟩, .bool false, .int .i64 0, .slice none 0 0, .slice none 0 0], .int .i64 0]) (by simp [results, Tryz.results17, go_sem]) rfl ?_
  exact ⟨_, rfl, rdc_val _ _ zV false, by repeat (first | with_reducible exact Q.refl _ | with_reducible refine Q.setCell ?_ (Nat.le_refl _) _ | with_reducible refine Q.alloc ?_ _)⟩
set_option maxHeartbeats 4000000 in
theorem rread_num (s : ByteArray) (w : World) (hs : s.size ≤ 100000) (h0 : 0 < s.size) (h61 : s[0] ≠ 61) (h39 : s[0] ≠ 39) (hn : V.pf (V.parseO s.data.toList) = true) : Calls Tryz.prog 17 #[.string s] w fun e W' => RepC w (valT s.data.toList) e W' := by
  have HZ := hid (cb_new w [.bool false, .int .i64 0, .int .i64 0, .string ⟨#[]⟩, .bool false, .int .i64 0, .int .i64 0, .int .i64 0, .string ⟨#[]⟩, .bool false, .int .i64 0, .slice none 0 0, .slice none 0 0] 39)
  have g0 : (0 : Int) < (s.size : Int) := by omega
  have c61 : ((s[0].toNat : Int) == 61) = false := by rw [beq_eq_false_iff_ne]; intro e; exact h61 (UInt8.toNat.inj (by rw [show (61 : UInt8).toNat = 61 from rfl]; omega))
  have c39 : ((s[0].toNat : Int) == 39) = false := by rw [beq_eq_false_iff_ne]; intro e; exact h39 (UInt8.toNat.inj (by rw [show (39 : UInt8).toNat = 39 from rfl]; omega))
  have hp : Lib.hasPrefix s.data.toList [39] = false := by rw [pre_one 39 h0]; exact decide_eq_false h39
  have hne : s.data.toList ≠ [] := fun e => by rw [← len_data, e] at h0; simp at h0
  have fe : (s.toList == []) = false := by rw [Lib.toList_data, beq_eq_false_iff_ne]; exact hne
  have HN := hid (fun W' => (V.rparse_any s W' (by omega)).mono fun e w' h => (⟨h.1, h.2⟩ : e = .returned (.tuple #[.int .i64 (V.pk (V.parseO s.data.toList)), .bool (V.pf (V.parseO s.data.toList))]) ∧ Q W' w'))
  have hv : valT s.data.toList = ((false, (1, V.pk (V.parseO s.data.toList), [], false, 0), zeroE), 0) := valT_of (by unfold rvT; rw [if_neg hne, if_neg (by rw [hp]; simp), if_pos hn]) (by simp [V.mayB])
  rw [hv]
  rw [hn] at HN
  generalize V.pk (V.parseO s.data.toList) = pn at HN ⊢
  have HX := hid (fun W' => rNum_any pn W')
  clear hv hn hp hne
  go_enter Tryz.func17, Tryz.ntmps17
  go_wp2_with (first | (go_at_call 44; refine (HN.out _).mono ?_; rintro e9 w1 ⟨rfl, q9⟩; have hw1 : w.heap.size < w1.heap.size := (by have := q9.size; (try simp at this); omega); have Zw1 := hid (HZ.out.on q9); have Qw1 : Hid (Q w w1) := hid (((Q.refl w).alloc _).trans q9); clear q9) | (go_at_call 45; refine (HX.out _).mono ?_; rintro e9 w2 ⟨rfl, q9⟩; have hw2 : w.heap.size < w2.heap.size := (by have := q9.size; (try simp at this); omega); have Zw2 := hid (Zw1.out.on q9); have Qw2 : Hid (Q w w2) := hid (Qw1.out.trans q9); clear q9; have d0 := Zw2.out.c 0 _ rfl; have d1 := Zw2.out.c 1 _ rfl; have d2 := Zw2.out.c 2 _ rfl; have d3 := Zw2.out.c 3 _ rfl; have d4 := Zw2.out.c 4 _ rfl; have d5 := Zw2.out.c 5 _ rfl; have d6 := Zw2.out.c 6 _ rfl; have d7 := Zw2.out.c 7 _ rfl; have d8 := Zw2.out.c 8 _ rfl; have d9 := Zw2.out.c 9 _ rfl; have d10 := Zw2.out.c 10 _ rfl; have d11 := Zw2.out.c 11 _ rfl; have d12 := Zw2.out.c 12 _ rfl; have y0 := Zw2.out.f 0; have y1 := Zw2.out.f 1; have y2 := Zw2.out.f 2; have y3 := Zw2.out.f 3; have y4 := Zw2.out.f 4; have y5 := Zw2.out.f 5; have y6 := Zw2.out.f 6; have y7 := Zw2.out.f 7; have y8 := Zw2.out.f 8; have y9 := Zw2.out.f 9; have y10 := Zw2.out.f 10; have y11 := Zw2.out.f 11; have y12 := Zw2.out.f 12))
  refine bodyPost_ret (v := .tuple #[.agg #[.bool false, .int .i64 1, .int .i64 pn, .string ⟨#[]⟩, .bool false, .int .i64 0, .int .i64 0, .int .i64 0, .string ⟨#[]⟩, .bool false, .int .i64 0, .slice none 0 0, .slice none 0 0], .int .i64 0]) (by simp [results, Tryz.results17, go_sem, hw2, d0, d1, d2, d3, d4, d5, d6, d7, d8, d9, d10, d11, d12]) rfl ?_
  exact ⟨_, rfl, rdc_val _ _ (1, pn, [], false, 0) false, by repeat (first | with_reducible exact Qw2.out | with_reducible refine Q.setCell ?_ (Nat.le_refl _) _ | with_reducible refine Q.alloc ?_ _)⟩
set_option maxHeartbeats 4000000 in
theorem rread_true (s : ByteArray) (w : World) (hs : s.size ≤ 100000) (h0 : 0 < s.size) (h61 : s[0] ≠ 61) (h39 : s[0] ≠ 39) (hn : V.pf (V.parseO s.data.toList) = false) (ht : s.data.toList = truW) : Calls Tryz.prog 17 #[.string s] w fun e W' => RepC w (valT s.data.toList) e W' := by
  have HZ := hid (cb_new w [.bool false, .int .i64 0, .int .i64 0, .string ⟨#[]⟩, .bool false, .int .i64 0, .int .i64 0, .int .i64 0, .string ⟨#[]⟩, .bool false, .int .i64 0, .slice none 0 0, .slice none 0 0] 39)
  have g0 : (0 : Int) < (s.size : Int) := by omega
  have c61 : ((s[0].toNat : Int) == 61) = false := by rw [beq_eq_false_iff_ne]; intro e; exact h61 (UInt8.toNat.inj (by rw [show (61 : UInt8).toNat = 61 from rfl]; omega))
  have c39 : ((s[0].toNat : Int) == 39) = false := by rw [beq_eq_false_iff_ne]; intro e; exact h39 (UInt8.toNat.inj (by rw [show (39 : UInt8).toNat = 39 from rfl]; omega))
  have hp : Lib.hasPrefix s.data.toList [39] = false := by rw [pre_one 39 h0]; exact decide_eq_false h39
  have hne : s.data.toList ≠ [] := fun e => by rw [← len_data, e] at h0; simp at h0
  have fe : (s.toList == []) = false := by rw [Lib.toList_data, beq_eq_false_iff_ne]; exact hne
  have HN := hid (fun W' => (V.rparse_any s W' (by omega)).mono fun e w' h => (⟨h.1, h.2⟩ : e = .returned (.tuple #[.int .i64 (V.pk (V.parseO s.data.toList)), .bool (V.pf (V.parseO s.data.toList))]) ∧ Q W' w'))
  have f1 : (s.toList == [84, 82, 85, 69]) = true := by rw [Lib.toList_data, ht]; rfl
  have hv : valT s.data.toList = ((false, (3, 0, [], true, 0), zeroE), 0) := by rw [ht]; kernel_rfl
  rw [hv]
  rw [hn] at HN
  generalize V.pk (V.parseO s.data.toList) = pn at HN
  have HX := hid (fun W' => rBoo_any true W')
  clear hv hn hp hne ht
  go_enter Tryz.func17, Tryz.ntmps17
  go_wp2_with (first | (go_at_call 44; refine (HN.out _).mono ?_; rintro e9 w1 ⟨rfl, q9⟩; have hw1 : w.heap.size < w1.heap.size := (by have := q9.size; (try simp at this); omega); have Zw1 := hid (HZ.out.on q9); have Qw1 : Hid (Q w w1) := hid (((Q.refl w).alloc _).trans q9); clear q9) | (go_at_call 46; refine (HX.out _).mono ?_; rintro e9 w2 ⟨rfl, q9⟩; have hw2 : w.heap.size < w2.heap.size := (by have := q9.size; (try simp at this); omega); have Zw2 := hid (Zw1.out.on q9); have Qw2 : Hid (Q w w2) := hid (Qw1.out.trans q9); clear q9; have d0 := Zw2.out.c 0 _ rfl; have d1 := Zw2.out.c 1 _ rfl; have d2 := Zw2.out.c 2 _ rfl; have d3 := Zw2.out.c 3 _ rfl; have d4 := Zw2.out.c 4 _ rfl; have d5 := Zw2.out.c 5 _ rfl; have d6 := Zw2.out.c 6 _ rfl; have d7 := Zw2.out.c 7 _ rfl; have d8 := Zw2.out.c 8 _ rfl; have d9 := Zw2.out.c 9 _ rfl; have d10 := Zw2.out.c 10 _ rfl; have d11 := Zw2.out.c 11 _ rfl; have d12 := Zw2.out.c 12 _ rfl; have y0 := Zw2.out.f 0; have y1 := Zw2.out.f 1; have y2 := Zw2.out.f 2; have y3 := Zw2.out.f 3; have y4 := Zw2.out.f 4; have y5 := Zw2.out.f 5; have y6 := Zw2.out.f 6; have y7 := Zw2.out.f 7; have y8 := Zw2.out.f 8; have y9 := Zw2.out.f 9; have y10 := Zw2.out.f 10; have y11 := Zw2.out.f 11; have y12 := Zw2.out.f 12))
  refine bodyPost_ret (v := .tuple #[.agg #[.bool false, .int .i64 3, .int .i64 0, .string ⟨#[]⟩, .bool true, .int .i64 0, .int .i64 0, .int .i64 0, .string ⟨#[]⟩, .bool false, .int .i64 0, .slice none 0 0, .slice none 0 0], .int .i64 0]) (by simp [results, Tryz.results17, go_sem, hw2, d0, d1, d2, d3, d4, d5, d6, d7, d8, d9, d10, d11, d12]) rfl ?_
  exact ⟨_, rfl, rdc_val _ _ (3, 0, [], true, 0) false, by repeat (first | with_reducible exact Qw2.out | with_reducible refine Q.setCell ?_ (Nat.le_refl _) _ | with_reducible refine Q.alloc ?_ _)⟩
set_option maxHeartbeats 4000000 in
theorem rread_false (s : ByteArray) (w : World) (hs : s.size ≤ 100000) (h0 : 0 < s.size) (h61 : s[0] ≠ 61) (h39 : s[0] ≠ 39) (hn : V.pf (V.parseO s.data.toList) = false) (ht : s.data.toList = flsW) : Calls Tryz.prog 17 #[.string s] w fun e W' => RepC w (valT s.data.toList) e W' := by
  have HZ := hid (cb_new w [.bool false, .int .i64 0, .int .i64 0, .string ⟨#[]⟩, .bool false, .int .i64 0, .int .i64 0, .int .i64 0, .string ⟨#[]⟩, .bool false, .int .i64 0, .slice none 0 0, .slice none 0 0] 39)
  have g0 : (0 : Int) < (s.size : Int) := by omega
  have c61 : ((s[0].toNat : Int) == 61) = false := by rw [beq_eq_false_iff_ne]; intro e; exact h61 (UInt8.toNat.inj (by rw [show (61 : UInt8).toNat = 61 from rfl]; omega))
  have c39 : ((s[0].toNat : Int) == 39) = false := by rw [beq_eq_false_iff_ne]; intro e; exact h39 (UInt8.toNat.inj (by rw [show (39 : UInt8).toNat = 39 from rfl]; omega))
  have hp : Lib.hasPrefix s.data.toList [39] = false := by rw [pre_one 39 h0]; exact decide_eq_false h39
  have hne : s.data.toList ≠ [] := fun e => by rw [← len_data, e] at h0; simp at h0
  have fe : (s.toList == []) = false := by rw [Lib.toList_data, beq_eq_false_iff_ne]; exact hne
  have HN := hid (fun W' => (V.rparse_any s W' (by omega)).mono fun e w' h => (⟨h.1, h.2⟩ : e = .returned (.tuple #[.int .i64 (V.pk (V.parseO s.data.toList)), .bool (V.pf (V.parseO s.data.toList))]) ∧ Q W' w'))
  have f1 : (s.toList == [84, 82, 85, 69]) = false := by rw [Lib.toList_data, ht]; rfl
  have f2 : (s.toList == [70, 65, 76, 83, 69]) = true := by rw [Lib.toList_data, ht]; rfl
  have hv : valT s.data.toList = ((false, (3, 0, [], false, 0), zeroE), 0) := by rw [ht]; kernel_rfl
  rw [hv]
  rw [hn] at HN
  generalize V.pk (V.parseO s.data.toList) = pn at HN
  have HX := hid (fun W' => rBoo_any false W')
  clear hv hn hp hne ht
  go_enter Tryz.func17, Tryz.ntmps17
  go_wp2_with (first | (go_at_call 44; refine (HN.out _).mono ?_; rintro e9 w1 ⟨rfl, q9⟩; have hw1 : w.heap.size < w1.heap.size := (by have := q9.size; (try simp at this); omega); have Zw1 := hid (HZ.out.on q9); have Qw1 : Hid (Q w w1) := hid (((Q.refl w).alloc _).trans q9); clear q9) | (go_at_call 46; refine (HX.out _).mono ?_; rintro e9 w2 ⟨rfl, q9⟩; have hw2 : w.heap.size < w2.heap.size := (by have := q9.size; (try simp at this); omega); have Zw2 := hid (Zw1.out.on q9); have Qw2 : Hid (Q w w2) := hid (Qw1.out.trans q9); clear q9; have d0 := Zw2.out.c 0 _ rfl; have d1 := Zw2.out.c 1 _ rfl; have d2 := Zw2.out.c 2 _ rfl; have d3 := Zw2.out.c 3 _ rfl; have d4 := Zw2.out.c 4 _ rfl; have d5 := Zw2.out.c 5 _ rfl; have d6 := Zw2.out.c 6 _ rfl; have d7 := Zw2.out.c 7 _ rfl; have d8 := Zw2.out.c 8 _ rfl; have d9 := Zw2.out.c 9 _ rfl; have d10 := Zw2.out.c 10 _ rfl; have d11 := Zw2.out.c 11 _ rfl; have d12 := Zw2.out.c 12 _ rfl; have y0 := Zw2.out.f 0; have y1 := Zw2.out.f 1; have y2 := Zw2.out.f 2; have y3 := Zw2.out.f 3; have y4 := Zw2.out.f 4; have y5 := Zw2.out.f 5; have y6 := Zw2.out.f 6; have y7 := Zw2.out.f 7; have y8 := Zw2.out.f 8; have y9 := Zw2.out.f 9; have y10 := Zw2.out.f 10; have y11 := Zw2.out.f 11; have y12 := Zw2.out.f 12))
  refine bodyPost_ret (v := .tuple #[.agg #[.bool false, .int .i64 3, .int .i64 0, .string ⟨#[]⟩, .bool false, .int .i64 0, .int .i64 0, .int .i64 0, .string ⟨#[]⟩, .bool false, .int .i64 0, .slice none 0 0, .slice none 0 0], .int .i64 0]) (by simp [results, Tryz.results17, go_sem, hw2, d0, d1, d2, d3, d4, d5, d6, d7, d8, d9, d10, d11, d12]) rfl ?_
  exact ⟨_, rfl, rdc_val _ _ (3, 0, [], false, 0) false, by repeat (first | with_reducible exact Qw2.out | with_reducible refine Q.setCell ?_ (Nat.le_refl _) _ | with_reducible refine Q.alloc ?_ _)⟩
end Go.Proofs.YtgheopdadfnilaaGreatDoor
