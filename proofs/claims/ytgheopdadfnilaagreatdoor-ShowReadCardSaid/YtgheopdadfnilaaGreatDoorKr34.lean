/- The reference's Read of formulas, names and texts, walked. -/
import Derived.Test.YtgheopdadfnilaaGreatDoorKr33
set_option linter.unusedVariables false
set_option linter.unusedSimpArgs false
set_option maxRecDepth 100000
namespace Go.Proofs.YtgheopdadfnilaaGreatDoor
open Go.RowKit
set_option maxHeartbeats 4000000 in
theorem rread_eq (s T : ByteArray) (x : Ex × Nat) (w : World) (hs : s.size ≤ 100000) (h0 : 0 < s.size) (h61 : s[0] = 61) (hT : s.extract 1 s.size = T) (HP : Hid (∀ W, Calls Tryz.prog 13 #[.string T] W fun e W' => RepR W x e W')) : Calls Tryz.prog 17 #[.string s] w fun e W' => RepC w (frm x) e W' := by
  obtain ⟨X, en⟩ := x
  have HZ := hid (cb_new w [.bool false, .int .i64 0, .int .i64 0, .string ⟨#[]⟩, .bool false, .int .i64 0, .int .i64 0, .int .i64 0, .string ⟨#[]⟩, .bool false, .int .i64 0, .slice none 0 0, .slice none 0 0] 39)
  have g0 : (0 : Int) < (s.size : Int) := by omega
  have c61 : ((s[0].toNat : Int) == 61) = true := by rw [h61]; rfl
  clear h61
  by_cases hen : en = 0
  · subst hen
    rw [show frm (X, 0) = ((true, zV, X), 0) from rfl]
    go_enter Tryz.func17, Tryz.ntmps17
    go_upto_region 5 with (go_at_call 13; refine (HP.out _).mono ?_; rintro e9 w1 ⟨v9, rfl, hr, q1⟩; obtain ⟨k, m, t, bb, er, a1, l1, c1, a2, l2, c2, rfl⟩ := hr.shape; have R1 := hid hr; have hs1 : w.heap.size < w1.heap.size := (by have := q1.size; simp at this; omega); have Z1 := hid (HZ.out.on q1); have Q1 : Hid (Q w w1) := hid (((Q.refl _).alloc _).trans q1); clear hr q1)
    have Z2 := hid (Z1.out.on ((Q.refl _).alloc (.cells #[.int .i64 k, .int .i64 m, .string t, .bool bb, .int .i64 er, .slice a1 l1 c1, .slice a2 l2 c2] 26)))
    have X2 := hid (cb_new w1 [.int .i64 k, .int .i64 m, .string t, .bool bb, .int .i64 er, .slice a1 l1 c1, .slice a2 l2 c2] 26)
    have Q2 := hid (Q1.out.alloc (.cells #[.int .i64 k, .int .i64 m, .string t, .bool bb, .int .i64 er, .slice a1 l1 c1, .slice a2 l2 c2] 26))
    have R2 := hid (Rdg.on (p := w.heap.size) ((Qx.refl w.heap.size w1).alloc (.cells #[.int .i64 k, .int .i64 m, .string t, .bool bb, .int .i64 er, .slice a1 l1 c1, .slice a2 l2 c2] 26)) (fun b hb => by simp at hb; omega) _ _ R1.out)
    rw [show ([.int .i64 k, .int .i64 m, .string t, .bool bb, .int .i64 er, .slice a1 l1 c1, .slice a2 l2 c2] : List Value).toArray = #[.int .i64 k, .int .i64 m, .string t, .bool bb, .int .i64 er, .slice a1 l1 c1, .slice a2 l2 c2] from rfl] at X2
    generalize w1.alloc (.cells #[.int .i64 k, .int .i64 m, .string t, .bool bb, .int .i64 er, .slice a1 l1 c1, .slice a2 l2 c2] 26) = w2 at Z2 X2 Q2 R2 ⊢
    generalize w1.heap.size = b2 at X2 ⊢
    obtain ⟨b0, hb0', hb0⟩ : ∃ b0, w.heap.size = b0 ∧ w.heap.size ≤ b0 := ⟨_, rfl, Nat.le_refl _⟩
    have R3 := hid (Rdg.mono (g' := fun b => w.heap.size ≤ b ∧ b ≠ b0) (fun b hb => by simp at hb; omega) _ _ R2.out)
    rw [hb0'] at Z2 ⊢
    have d0 := Z2.out.c 0 _ rfl
    have d1 := Z2.out.c 1 _ rfl
    have d2 := Z2.out.c 2 _ rfl
    have d3 := Z2.out.c 3 _ rfl
    have d4 := Z2.out.c 4 _ rfl
    have d5 := Z2.out.c 5 _ rfl
    have d6 := Z2.out.c 6 _ rfl
    have d7 := Z2.out.c 7 _ rfl
    have d8 := Z2.out.c 8 _ rfl
    have d9 := Z2.out.c 9 _ rfl
    have d10 := Z2.out.c 10 _ rfl
    have d11 := Z2.out.c 11 _ rfl
    have d12 := Z2.out.c 12 _ rfl
    have y0 := Z2.out.f 0
    have y1 := Z2.out.f 1
    have y2 := Z2.out.f 2
    have y3 := Z2.out.f 3
    have y4 := Z2.out.f 4
    have y5 := Z2.out.f 5
    have y6 := Z2.out.f 6
    have y7 := Z2.out.f 7
    have y8 := Z2.out.f 8
    have y9 := Z2.out.f 9
    have y10 := Z2.out.f 10
    have y11 := Z2.out.f 11
    have y12 := Z2.out.f 12
    have n0 := X2.out.c 0 _ rfl
    have n1 := X2.out.c 1 _ rfl
    have n2 := X2.out.c 2 _ rfl
    have n3 := X2.out.c 3 _ rfl
    have n4 := X2.out.c 4 _ rfl
    have n5 := X2.out.c 5 _ rfl
    have n6 := X2.out.c 6 _ rfl
    go_wp2_with fail
    refine bodyPost_ret (v := .tuple #[.agg #[.bool true, .int .i64 0, .int .i64 0, .string ⟨#[]⟩, .bool false, .int .i64 0, .int .i64 k, .int .i64 m, .string t, .bool bb, .int .i64 er, .slice a1 l1 c1, .slice a2 l2 c2], .int .i64 0]) (by simp [results, Tryz.results17, go_sem, d0, d1, d2, d3, d4, d5, d6, d7, d8, d9, d10, d11, d12]) rfl ?_
    refine ⟨_, rfl, ⟨k, m, t, bb, er, a1, l1, c1, a2, l2, c2, rfl, ?_⟩, by repeat (first | with_reducible exact Q2.out | with_reducible refine Q.setCell ?_ hb0 _)⟩
    exact Rdg.mono (fun b hb => hb.1) _ _ (Rdg.on (p := b0) (show Qx b0 w2 _ from by repeat (first | with_reducible exact Qx.refl _ _ | with_reducible refine Qx.own ?_ _ _)) (fun b hb => hb.2) _ _ R3.out)
  · have hn : frm (X, en) = (zC, en) := by unfold frm; rw [if_neg hen]
    rw [hn]
    have e1 : ((en : Int) == 0) = false := by rw [beq_eq_false_iff_ne]; omega
    have e2 : ¬ (en : Int) = 0 := by omega
    clear hn hen
    go_enter Tryz.func17, Tryz.ntmps17
    go_upto_region 4 with (go_at_call 13; refine (HP.out _).mono ?_; rintro e9 w1 ⟨v9, rfl, hr, q1⟩; obtain ⟨k, m, t, bb, er, a1, l1, c1, a2, l2, c2, rfl⟩ := hr.shape; have R1 := hid hr; have hs1 : w.heap.size < w1.heap.size := (by have := q1.size; simp at this; omega); have Z1 := hid (HZ.out.on q1); have Q1 : Hid (Q w w1) := hid (((Q.refl _).alloc _).trans q1); clear hr q1)
    have Z2 := hid (Z1.out.on ((Q.refl _).alloc (.cells #[.int .i64 k, .int .i64 m, .string t, .bool bb, .int .i64 er, .slice a1 l1 c1, .slice a2 l2 c2] 26)))
    have Q2 := hid (Q1.out.alloc (.cells #[.int .i64 k, .int .i64 m, .string t, .bool bb, .int .i64 er, .slice a1 l1 c1, .slice a2 l2 c2] 26))
    generalize w1.alloc (.cells #[.int .i64 k, .int .i64 m, .string t, .bool bb, .int .i64 er, .slice a1 l1 c1, .slice a2 l2 c2] 26) = w2 at Z2 Q2 ⊢
    generalize w1.heap.size = b2
    obtain ⟨b0, hb0', hb0⟩ : ∃ b0, w.heap.size = b0 ∧ w.heap.size ≤ b0 := ⟨_, rfl, Nat.le_refl _⟩
    rw [hb0'] at Z2 ⊢
    have d0 := Z2.out.c 0 _ rfl
    have d1 := Z2.out.c 1 _ rfl
    have d2 := Z2.out.c 2 _ rfl
    have d3 := Z2.out.c 3 _ rfl
    have d4 := Z2.out.c 4 _ rfl
    have d5 := Z2.out.c 5 _ rfl
    have d6 := Z2.out.c 6 _ rfl
    have d7 := Z2.out.c 7 _ rfl
    have d8 := Z2.out.c 8 _ rfl
    have d9 := Z2.out.c 9 _ rfl
    have d10 := Z2.out.c 10 _ rfl
    have d11 := Z2.out.c 11 _ rfl
    have d12 := Z2.out.c 12 _ rfl
    have y0 := Z2.out.f 0
    have y1 := Z2.out.f 1
    have y2 := Z2.out.f 2
    have y3 := Z2.out.f 3
    have y4 := Z2.out.f 4
    have y5 := Z2.out.f 5
    have y6 := Z2.out.f 6
    have y7 := Z2.out.f 7
    have y8 := Z2.out.f 8
    have y9 := Z2.out.f 9
    have y10 := Z2.out.f 10
    have y11 := Z2.out.f 11
    have y12 := Z2.out.f 12
    go_wp2_with fail
    refine bodyPost_ret (v := .tuple #[.agg #[.bool false, .int .i64 0, .int .i64 0, .string ⟨#[]⟩, .bool false, .int .i64 0, .int .i64 0, .int .i64 0, .string ⟨#[]⟩, .bool false, .int .i64 0, .slice none 0 0, .slice none 0 0], .int .i64 (en : Int)]) (by simp [results, Tryz.results17, go_sem, d0, d1, d2, d3, d4, d5, d6, d7, d8, d9, d10, d11, d12]) rfl ?_
    exact ⟨_, rfl, rdc_val _ _ zV false, by repeat (first | with_reducible exact Q2.out | with_reducible refine Q.setCell ?_ hb0 _)⟩
set_option maxHeartbeats 4000000 in
theorem rread_name (s : ByteArray) (w : World) (hs : s.size ≤ 100000) (h0 : 0 < s.size) (h61 : s[0] ≠ 61) (h39 : s[0] ≠ 39) (hn : V.pf (V.parseO s.data.toList) = false) (h1 : s.data.toList ≠ truW) (h2 : s.data.toList ≠ flsW) (he : errN s.data.toList ≠ 0) : Calls Tryz.prog 17 #[.string s] w fun e W' => RepC w (valT s.data.toList) e W' := by
  have HZ := hid (cb_new w [.bool false, .int .i64 0, .int .i64 0, .string ⟨#[]⟩, .bool false, .int .i64 0, .int .i64 0, .int .i64 0, .string ⟨#[]⟩, .bool false, .int .i64 0, .slice none 0 0, .slice none 0 0] 39)
  have g0 : (0 : Int) < (s.size : Int) := by omega
  have c61 : ((s[0].toNat : Int) == 61) = false := by rw [beq_eq_false_iff_ne]; intro e; exact h61 (UInt8.toNat.inj (by rw [show (61 : UInt8).toNat = 61 from rfl]; omega))
  have c39 : ((s[0].toNat : Int) == 39) = false := by rw [beq_eq_false_iff_ne]; intro e; exact h39 (UInt8.toNat.inj (by rw [show (39 : UInt8).toNat = 39 from rfl]; omega))
  have hp : Lib.hasPrefix s.data.toList [39] = false := by rw [pre_one 39 h0]; exact decide_eq_false h39
  have hne : s.data.toList ≠ [] := fun e => by rw [← len_data, e] at h0; simp at h0
  have fe : (s.toList == []) = false := by rw [Lib.toList_data, beq_eq_false_iff_ne]; exact hne
  have HN := hid (fun W' => (V.rparse_any s W' (by omega)).mono fun e w' h => (⟨h.1, h.2⟩ : e = .returned (.tuple #[.int .i64 (V.pk (V.parseO s.data.toList)), .bool (V.pf (V.parseO s.data.toList))]) ∧ Q W' w'))
  have f1 : (s.toList == [84, 82, 85, 69]) = false := by rw [Lib.toList_data, beq_eq_false_iff_ne]; exact h1
  have f2 : (s.toList == [70, 65, 76, 83, 69]) = false := by rw [Lib.toList_data, beq_eq_false_iff_ne]; exact h2
  have HM := hid (errN_min he)
  have hm1 := HM.out.1
  have hm7 := HM.out.2.1
  have hv : valT s.data.toList = ((false, (4, 0, [], false, (errN s.data.toList : Int)), zeroE), 0) := valT_of (by unfold rvT; rw [if_neg hne, if_neg (by rw [hp]; simp), if_neg (by rw [hn]; simp), if_pos he]) (by simp [V.mayB]; omega)
  rw [hv]
  rw [hn] at HN
  generalize V.pk (V.parseO s.data.toList) = pn at HN
  generalize hM : errN s.data.toList = M at HM hm1 hm7 ⊢
  have HX := hid (fun W' => rErr_any (M : Int) W')
  clear hv hn hp hne h1 h2 he hM
  go_enter Tryz.func17, Tryz.ntmps17
  go_wp2_with (go_at_call 44; refine (HN.out _).mono ?_; rintro e9 w1 ⟨rfl, q9⟩; have hw1 : w.heap.size < w1.heap.size := (by have := q9.size; (try simp at this); omega); have Zw1 := hid (HZ.out.on q9); have Qw1 : Hid (Q w w1) := hid (((Q.refl w).alloc _).trans q9); clear q9)
  go_loopw [8] (fun y wr => ∃ e : Nat, 1 ≤ e ∧ e ≤ M ∧ y = .int .i64 (e : Int) ∧ Hid (Q w1 wr)) (fun y _ => 9 - (intOf y).toNat)
  case atStart => exact ⟨1, by omega, by omega, rfl, Q.refl _⟩
  case round =>
    obtain ⟨e, he1, heM, rfl, HQ⟩ := hrel
    have H1 := hid (fun W' => V.rname_any (e : Int) W')
    obtain ⟨N, hN, lN⟩ : ∃ N : ByteArray, ⟨(enL (e : Int)).toArray⟩ = N ∧ N.data.toList = enL (e : Int) := ⟨_, rfl, rfl⟩
    rw [hN] at H1
    have h7 : (e : Int) ≤ 7 := by omega
    by_cases hlt2 : e < M
    · have e7 : (N.toList == s.toList) = false := by rw [Lib.toList_data, Lib.toList_data, lN, beq_eq_false_iff_ne]; exact HM.out.2.2.2 e he1 hlt2
      clear hN lN
      go_wp2_with (go_at_call 33; refine (H1.out _).mono ?_; rintro e9 w9 ⟨rfl, q9⟩; have Q9 := hid q9; clear q9)
      go_roundw
      case rel => exact ⟨e + 1, by omega, by omega, by go_num, hid (HQ.out.trans Q9.out)⟩
      case measure => simp [intOf]; omega
    · have eM : e = M := by omega
      have e7 : (N.toList == s.toList) = true := by rw [Lib.toList_data, Lib.toList_data, lN, beq_iff_eq, eM]; exact HM.out.2.2.1
      subst eM
      clear hN lN hlt2
      go_wp2_with (first | (go_at_call 33; refine (H1.out _).mono ?_; rintro e9 w9 ⟨rfl, q9⟩; have Q9 := hid q9; clear q9) | (go_at_call 47; refine (HX.out _).mono ?_; rintro e9 w5 ⟨rfl, q5⟩; have Z5 := hid (Zw1.out.on ((HQ.out.trans Q9.out).trans q5)); have Qw5 : Hid (Q w w5) := hid (Qw1.out.trans ((HQ.out.trans Q9.out).trans q5)); have hw5 : w.heap.size < w5.heap.size := Z5.out.l; clear q5; have d0 := Z5.out.c 0 _ rfl; have d1 := Z5.out.c 1 _ rfl; have d2 := Z5.out.c 2 _ rfl; have d3 := Z5.out.c 3 _ rfl; have d4 := Z5.out.c 4 _ rfl; have d5 := Z5.out.c 5 _ rfl; have d6 := Z5.out.c 6 _ rfl; have d7 := Z5.out.c 7 _ rfl; have d8 := Z5.out.c 8 _ rfl; have d9 := Z5.out.c 9 _ rfl; have d10 := Z5.out.c 10 _ rfl; have d11 := Z5.out.c 11 _ rfl; have d12 := Z5.out.c 12 _ rfl; have y0 := Z5.out.f 0; have y1 := Z5.out.f 1; have y2 := Z5.out.f 2; have y3 := Z5.out.f 3; have y4 := Z5.out.f 4; have y5 := Z5.out.f 5; have y6 := Z5.out.f 6; have y7 := Z5.out.f 7; have y8 := Z5.out.f 8; have y9 := Z5.out.f 9; have y10 := Z5.out.f 10; have y11 := Z5.out.f 11; have y12 := Z5.out.f 12))
      refine bodyPost_ret (v := .tuple #[.agg #[.bool false, .int .i64 4, .int .i64 0, .string ⟨#[]⟩, .bool false, .int .i64 (e : Int), .int .i64 0, .int .i64 0, .string ⟨#[]⟩, .bool false, .int .i64 0, .slice none 0 0, .slice none 0 0], .int .i64 0]) (by simp [results, Tryz.results17, go_sem, hw5, d0, d1, d2, d3, d4, d5, d6, d7, d8, d9, d10, d11, d12]) rfl ?_
      exact ⟨_, rfl, rdc_val _ _ (4, 0, [], false, (e : Int)) false, by repeat (first | with_reducible exact Qw5.out | with_reducible refine Q.setCell ?_ (Nat.le_refl _) _ | with_reducible refine Q.alloc ?_ _)⟩
set_option maxHeartbeats 4000000 in
theorem rread_long (s : ByteArray) (w : World) (hs : s.size ≤ 100000) (h0 : 0 < s.size) (h61 : s[0] ≠ 61) (h39 : s[0] ≠ 39) (hn : V.pf (V.parseO s.data.toList) = false) (h1 : s.data.toList ≠ truW) (h2 : s.data.toList ≠ flsW) (he : errN s.data.toList = 0) (hl : 200 < s.size) : Calls Tryz.prog 17 #[.string s] w fun e W' => RepC w (valT s.data.toList) e W' := by
  have HZ := hid (cb_new w [.bool false, .int .i64 0, .int .i64 0, .string ⟨#[]⟩, .bool false, .int .i64 0, .int .i64 0, .int .i64 0, .string ⟨#[]⟩, .bool false, .int .i64 0, .slice none 0 0, .slice none 0 0] 39)
  have g0 : (0 : Int) < (s.size : Int) := by omega
  have c61 : ((s[0].toNat : Int) == 61) = false := by rw [beq_eq_false_iff_ne]; intro e; exact h61 (UInt8.toNat.inj (by rw [show (61 : UInt8).toNat = 61 from rfl]; omega))
  have c39 : ((s[0].toNat : Int) == 39) = false := by rw [beq_eq_false_iff_ne]; intro e; exact h39 (UInt8.toNat.inj (by rw [show (39 : UInt8).toNat = 39 from rfl]; omega))
  have hp : Lib.hasPrefix s.data.toList [39] = false := by rw [pre_one 39 h0]; exact decide_eq_false h39
  have hne : s.data.toList ≠ [] := fun e => by rw [← len_data, e] at h0; simp at h0
  have fe : (s.toList == []) = false := by rw [Lib.toList_data, beq_eq_false_iff_ne]; exact hne
  have HN := hid (fun W' => (V.rparse_any s W' (by omega)).mono fun e w' h => (⟨h.1, h.2⟩ : e = .returned (.tuple #[.int .i64 (V.pk (V.parseO s.data.toList)), .bool (V.pf (V.parseO s.data.toList))]) ∧ Q W' w'))
  have f1 : (s.toList == [84, 82, 85, 69]) = false := by rw [Lib.toList_data, beq_eq_false_iff_ne]; exact h1
  have f2 : (s.toList == [70, 65, 76, 83, 69]) = false := by rw [Lib.toList_data, beq_eq_false_iff_ne]; exact h2
  have HE := hid (errN_zero he)
  have HR : Hid (rvT s.data.toList = (2, 0, s.data.toList, false, 0)) := by
    show _ = _
    unfold rvT
    rw [if_neg hne, if_neg (by rw [hp]; simp), if_neg (by rw [hn]; simp), if_neg (by rw [he]; simp), if_neg (fun e => e.elim h1 h2)]
  rw [hn] at HN
  generalize V.pk (V.parseO s.data.toList) = pn at HN
  clear hn hp hne h1 h2 he
  have hl' : (200 : Int) < (s.size : Int) := by omega
  have hv : valT s.data.toList = (zC, 2) := valT_no HR.out (mt_long (by rw [len_data]; omega))
  rw [hv]
  clear hv hl HR
  go_enter Tryz.func17, Tryz.ntmps17
  go_wp2_with (go_at_call 44; refine (HN.out _).mono ?_; rintro e9 w1 ⟨rfl, q9⟩; have hw1 : w.heap.size < w1.heap.size := (by have := q9.size; (try simp at this); omega); have Zw1 := hid (HZ.out.on q9); have Qw1 : Hid (Q w w1) := hid (((Q.refl w).alloc _).trans q9); clear q9)
  go_loopw [8] (fun y wr => ∃ e : Nat, 1 ≤ e ∧ e ≤ 8 ∧ y = .int .i64 (e : Int) ∧ Hid (Q w1 wr)) (fun y _ => 9 - (intOf y).toNat)
  case atStart => exact ⟨1, by omega, by omega, rfl, Q.refl _⟩
  case round =>
    obtain ⟨e, he1, heM, rfl, HQ⟩ := hrel
    have H1 := hid (fun W' => V.rname_any (e : Int) W')
    obtain ⟨N, hN, lN⟩ : ∃ N : ByteArray, ⟨(enL (e : Int)).toArray⟩ = N ∧ N.data.toList = enL (e : Int) := ⟨_, rfl, rfl⟩
    rw [hN] at H1
    by_cases h7 : (e : Int) ≤ 7
    · have e7 : (N.toList == s.toList) = false := by rw [Lib.toList_data, Lib.toList_data, lN, beq_eq_false_iff_ne]; exact fun h => HE.out e he1 (by omega) h.symm
      clear hN lN
      go_wp2_with (go_at_call 33; refine (H1.out _).mono ?_; rintro e9 w9 ⟨rfl, q9⟩; have Q9 := hid q9; clear q9)
      go_roundw
      case rel => exact ⟨e + 1, by omega, by omega, by go_num, hid (HQ.out.trans Q9.out)⟩
      case measure => simp [intOf]; omega
    · clear hN lN H1
      have ZR := hid (Zw1.out.on HQ.out)
      have QR := hid (Qw1.out.trans HQ.out)
      have hwr := ZR.out.l
      have d0 := ZR.out.c 0 _ rfl
      have d1 := ZR.out.c 1 _ rfl
      have d2 := ZR.out.c 2 _ rfl
      have d3 := ZR.out.c 3 _ rfl
      have d4 := ZR.out.c 4 _ rfl
      have d5 := ZR.out.c 5 _ rfl
      have d6 := ZR.out.c 6 _ rfl
      have d7 := ZR.out.c 7 _ rfl
      have d8 := ZR.out.c 8 _ rfl
      have d9 := ZR.out.c 9 _ rfl
      have d10 := ZR.out.c 10 _ rfl
      have d11 := ZR.out.c 11 _ rfl
      have d12 := ZR.out.c 12 _ rfl
      have y0 := ZR.out.f 0
      have y1 := ZR.out.f 1
      have y2 := ZR.out.f 2
      have y3 := ZR.out.f 3
      have y4 := ZR.out.f 4
      have y5 := ZR.out.f 5
      have y6 := ZR.out.f 6
      have y7 := ZR.out.f 7
      have y8 := ZR.out.f 8
      have y9 := ZR.out.f 9
      have y10 := ZR.out.f 10
      have y11 := ZR.out.f 11
      have y12 := ZR.out.f 12
      go_wp2_with fail
      refine bodyPost_ret (v := .tuple #[.agg #[.bool false, .int .i64 0, .int .i64 0, .string ⟨#[]⟩, .bool false, .int .i64 0, .int .i64 0, .int .i64 0, .string ⟨#[]⟩, .bool false, .int .i64 0, .slice none 0 0, .slice none 0 0], .int .i64 2]) (by simp [results, Tryz.results17, go_sem, hwr, d0, d1, d2, d3, d4, d5, d6, d7, d8, d9, d10, d11, d12]) rfl ?_
      exact ⟨_, rfl, rdc_val _ _ zV false, by repeat (first | with_reducible exact QR.out | with_reducible refine Q.setCell ?_ (Nat.le_refl _) _ | with_reducible refine Q.alloc ?_ _)⟩
set_option maxHeartbeats 4000000 in
theorem rread_bad (s : ByteArray) (w : World) (hs : s.size ≤ 100000) (h0 : 0 < s.size) (h61 : s[0] ≠ 61) (h39 : s[0] ≠ 39) (hn : V.pf (V.parseO s.data.toList) = false) (h1 : s.data.toList ≠ truW) (h2 : s.data.toList ≠ flsW) (he : errN s.data.toList = 0) (hl : ¬ 200 < s.size) (hu : Lib.validD s.data.toList = false) : Calls Tryz.prog 17 #[.string s] w fun e W' => RepC w (valT s.data.toList) e W' := by
  have HZ := hid (cb_new w [.bool false, .int .i64 0, .int .i64 0, .string ⟨#[]⟩, .bool false, .int .i64 0, .int .i64 0, .int .i64 0, .string ⟨#[]⟩, .bool false, .int .i64 0, .slice none 0 0, .slice none 0 0] 39)
  have g0 : (0 : Int) < (s.size : Int) := by omega
  have c61 : ((s[0].toNat : Int) == 61) = false := by rw [beq_eq_false_iff_ne]; intro e; exact h61 (UInt8.toNat.inj (by rw [show (61 : UInt8).toNat = 61 from rfl]; omega))
  have c39 : ((s[0].toNat : Int) == 39) = false := by rw [beq_eq_false_iff_ne]; intro e; exact h39 (UInt8.toNat.inj (by rw [show (39 : UInt8).toNat = 39 from rfl]; omega))
  have hp : Lib.hasPrefix s.data.toList [39] = false := by rw [pre_one 39 h0]; exact decide_eq_false h39
  have hne : s.data.toList ≠ [] := fun e => by rw [← len_data, e] at h0; simp at h0
  have fe : (s.toList == []) = false := by rw [Lib.toList_data, beq_eq_false_iff_ne]; exact hne
  have HN := hid (fun W' => (V.rparse_any s W' (by omega)).mono fun e w' h => (⟨h.1, h.2⟩ : e = .returned (.tuple #[.int .i64 (V.pk (V.parseO s.data.toList)), .bool (V.pf (V.parseO s.data.toList))]) ∧ Q W' w'))
  have f1 : (s.toList == [84, 82, 85, 69]) = false := by rw [Lib.toList_data, beq_eq_false_iff_ne]; exact h1
  have f2 : (s.toList == [70, 65, 76, 83, 69]) = false := by rw [Lib.toList_data, beq_eq_false_iff_ne]; exact h2
  have HE := hid (errN_zero he)
  have HR : Hid (rvT s.data.toList = (2, 0, s.data.toList, false, 0)) := by
    show _ = _
    unfold rvT
    rw [if_neg hne, if_neg (by rw [hp]; simp), if_neg (by rw [hn]; simp), if_neg (by rw [he]; simp), if_neg (fun e => e.elim h1 h2)]
  rw [hn] at HN
  generalize V.pk (V.parseO s.data.toList) = pn at HN
  clear hn hp hne h1 h2 he
  have hl' : ¬ (200 : Int) < (s.size : Int) := by omega
  have HU := hid (fun W' => V.utf8_any s W' (by omega))
  have hv : valT s.data.toList = (zC, 2) := valT_no HR.out (mt_no hu)
  rw [hv]
  rw [hu] at HU
  clear hv hl HR hu
  go_enter Tryz.func17, Tryz.ntmps17
  go_wp2_with (go_at_call 44; refine (HN.out _).mono ?_; rintro e9 w1 ⟨rfl, q9⟩; have hw1 : w.heap.size < w1.heap.size := (by have := q9.size; (try simp at this); omega); have Zw1 := hid (HZ.out.on q9); have Qw1 : Hid (Q w w1) := hid (((Q.refl w).alloc _).trans q9); clear q9)
  go_loopw [8] (fun y wr => ∃ e : Nat, 1 ≤ e ∧ e ≤ 8 ∧ y = .int .i64 (e : Int) ∧ Hid (Q w1 wr)) (fun y _ => 9 - (intOf y).toNat)
  case atStart => exact ⟨1, by omega, by omega, rfl, Q.refl _⟩
  case round =>
    obtain ⟨e, he1, heM, rfl, HQ⟩ := hrel
    have H1 := hid (fun W' => V.rname_any (e : Int) W')
    obtain ⟨N, hN, lN⟩ : ∃ N : ByteArray, ⟨(enL (e : Int)).toArray⟩ = N ∧ N.data.toList = enL (e : Int) := ⟨_, rfl, rfl⟩
    rw [hN] at H1
    by_cases h7 : (e : Int) ≤ 7
    · have e7 : (N.toList == s.toList) = false := by rw [Lib.toList_data, Lib.toList_data, lN, beq_eq_false_iff_ne]; exact fun h => HE.out e he1 (by omega) h.symm
      clear hN lN
      go_wp2_with (go_at_call 33; refine (H1.out _).mono ?_; rintro e9 w9 ⟨rfl, q9⟩; have Q9 := hid q9; clear q9)
      go_roundw
      case rel => exact ⟨e + 1, by omega, by omega, by go_num, hid (HQ.out.trans Q9.out)⟩
      case measure => simp [intOf]; omega
    · clear hN lN H1
      have ZR := hid (Zw1.out.on HQ.out)
      have QR := hid (Qw1.out.trans HQ.out)
      have hwr := ZR.out.l
      have d0 := ZR.out.c 0 _ rfl
      have d1 := ZR.out.c 1 _ rfl
      have d2 := ZR.out.c 2 _ rfl
      have d3 := ZR.out.c 3 _ rfl
      have d4 := ZR.out.c 4 _ rfl
      have d5 := ZR.out.c 5 _ rfl
      have d6 := ZR.out.c 6 _ rfl
      have d7 := ZR.out.c 7 _ rfl
      have d8 := ZR.out.c 8 _ rfl
      have d9 := ZR.out.c 9 _ rfl
      have d10 := ZR.out.c 10 _ rfl
      have d11 := ZR.out.c 11 _ rfl
      have d12 := ZR.out.c 12 _ rfl
      have y0 := ZR.out.f 0
      have y1 := ZR.out.f 1
      have y2 := ZR.out.f 2
      have y3 := ZR.out.f 3
      have y4 := ZR.out.f 4
      have y5 := ZR.out.f 5
      have y6 := ZR.out.f 6
      have y7 := ZR.out.f 7
      have y8 := ZR.out.f 8
      have y9 := ZR.out.f 9
      have y10 := ZR.out.f 10
      have y11 := ZR.out.f 11
      have y12 := ZR.out.f 12
      go_wp2_with (go_at_call 48; refine (HU.out _).mono ?_; rintro e9 w9 ⟨rfl, h9⟩; replace h9 := h9.symm; subst h9)
      refine bodyPost_ret (v := .tuple #[.agg #[.bool false, .int .i64 0, .int .i64 0, .string ⟨#[]⟩, .bool false, .int .i64 0, .int .i64 0, .int .i64 0, .string ⟨#[]⟩, .bool false, .int .i64 0, .slice none 0 0, .slice none 0 0], .int .i64 2]) (by simp [results, Tryz.results17, go_sem, hwr, d0, d1, d2, d3, d4, d5, d6, d7, d8, d9, d10, d11, d12]) rfl ?_
      exact ⟨_, rfl, rdc_val _ _ zV false, by repeat (first | with_reducible exact QR.out | with_reducible refine Q.setCell ?_ (Nat.le_refl _) _ | with_reducible refine Q.alloc ?_ _)⟩
set_option maxHeartbeats 4000000 in
theorem rread_text (s : ByteArray) (w : World) (hs : s.size ≤ 100000) (h0 : 0 < s.size) (h61 : s[0] ≠ 61) (h39 : s[0] ≠ 39) (hn : V.pf (V.parseO s.data.toList) = false) (h1 : s.data.toList ≠ truW) (h2 : s.data.toList ≠ flsW) (he : errN s.data.toList = 0) (hl : ¬ 200 < s.size) (hu : Lib.validD s.data.toList = true) : Calls Tryz.prog 17 #[.string s] w fun e W' => RepC w (valT s.data.toList) e W' := by
  have HZ := hid (cb_new w [.bool false, .int .i64 0, .int .i64 0, .string ⟨#[]⟩, .bool false, .int .i64 0, .int .i64 0, .int .i64 0, .string ⟨#[]⟩, .bool false, .int .i64 0, .slice none 0 0, .slice none 0 0] 39)
  have g0 : (0 : Int) < (s.size : Int) := by omega
  have c61 : ((s[0].toNat : Int) == 61) = false := by rw [beq_eq_false_iff_ne]; intro e; exact h61 (UInt8.toNat.inj (by rw [show (61 : UInt8).toNat = 61 from rfl]; omega))
  have c39 : ((s[0].toNat : Int) == 39) = false := by rw [beq_eq_false_iff_ne]; intro e; exact h39 (UInt8.toNat.inj (by rw [show (39 : UInt8).toNat = 39 from rfl]; omega))
  have hp : Lib.hasPrefix s.data.toList [39] = false := by rw [pre_one 39 h0]; exact decide_eq_false h39
  have hne : s.data.toList ≠ [] := fun e => by rw [← len_data, e] at h0; simp at h0
  have fe : (s.toList == []) = false := by rw [Lib.toList_data, beq_eq_false_iff_ne]; exact hne
  have HN := hid (fun W' => (V.rparse_any s W' (by omega)).mono fun e w' h => (⟨h.1, h.2⟩ : e = .returned (.tuple #[.int .i64 (V.pk (V.parseO s.data.toList)), .bool (V.pf (V.parseO s.data.toList))]) ∧ Q W' w'))
  have f1 : (s.toList == [84, 82, 85, 69]) = false := by rw [Lib.toList_data, beq_eq_false_iff_ne]; exact h1
  have f2 : (s.toList == [70, 65, 76, 83, 69]) = false := by rw [Lib.toList_data, beq_eq_false_iff_ne]; exact h2
  have HE := hid (errN_zero he)
  have HR : Hid (rvT s.data.toList = (2, 0, s.data.toList, false, 0)) := by
    show _ = _
    unfold rvT
    rw [if_neg hne, if_neg (by rw [hp]; simp), if_neg (by rw [hn]; simp), if_neg (by rw [he]; simp), if_neg (fun e => e.elim h1 h2)]
  rw [hn] at HN
  generalize V.pk (V.parseO s.data.toList) = pn at HN
  clear hn hp hne h1 h2 he
  have hl' : ¬ (200 : Int) < (s.size : Int) := by omega
  have HU := hid (fun W' => V.utf8_any s W' (by omega))
  have hv : valT s.data.toList = ((false, (2, 0, s.data.toList, false, 0), zeroE), 0) := valT_yes HR.out (mt_yes (by rw [len_data]; omega) hu)
  rw [hv]
  rw [hu] at HU
  have HX := hid (fun W' => rTxt_any s W')
  clear hv hl HR hu
  go_enter Tryz.func17, Tryz.ntmps17
  go_wp2_with (go_at_call 44; refine (HN.out _).mono ?_; rintro e9 w1 ⟨rfl, q9⟩; have hw1 : w.heap.size < w1.heap.size := (by have := q9.size; (try simp at this); omega); have Zw1 := hid (HZ.out.on q9); have Qw1 : Hid (Q w w1) := hid (((Q.refl w).alloc _).trans q9); clear q9)
  go_loopw [8] (fun y wr => ∃ e : Nat, 1 ≤ e ∧ e ≤ 8 ∧ y = .int .i64 (e : Int) ∧ Hid (Q w1 wr)) (fun y _ => 9 - (intOf y).toNat)
  case atStart => exact ⟨1, by omega, by omega, rfl, Q.refl _⟩
  case round =>
    obtain ⟨e, he1, heM, rfl, HQ⟩ := hrel
    have H1 := hid (fun W' => V.rname_any (e : Int) W')
    obtain ⟨N, hN, lN⟩ : ∃ N : ByteArray, ⟨(enL (e : Int)).toArray⟩ = N ∧ N.data.toList = enL (e : Int) := ⟨_, rfl, rfl⟩
    rw [hN] at H1
    by_cases h7 : (e : Int) ≤ 7
    · have e7 : (N.toList == s.toList) = false := by rw [Lib.toList_data, Lib.toList_data, lN, beq_eq_false_iff_ne]; exact fun h => HE.out e he1 (by omega) h.symm
      clear hN lN
      go_wp2_with (go_at_call 33; refine (H1.out _).mono ?_; rintro e9 w9 ⟨rfl, q9⟩; have Q9 := hid q9; clear q9)
      go_roundw
      case rel => exact ⟨e + 1, by omega, by omega, by go_num, hid (HQ.out.trans Q9.out)⟩
      case measure => simp [intOf]; omega
    · clear hN lN H1
      have ZR := hid (Zw1.out.on HQ.out)
      have QR := hid (Qw1.out.trans HQ.out)
      have hwr := ZR.out.l
      go_wp2_with (first | (go_at_call 48; refine (HU.out _).mono ?_; rintro e9 w9 ⟨rfl, h9⟩; replace h9 := h9.symm; subst h9) | (go_at_call 24; refine (HX.out _).mono ?_; rintro e9 w5 ⟨rfl, q5⟩; have Z5 := hid (ZR.out.on q5); have Qw5 : Hid (Q w w5) := hid (QR.out.trans q5); have hw5 : w.heap.size < w5.heap.size := Z5.out.l; clear q5; have d0 := Z5.out.c 0 _ rfl; have d1 := Z5.out.c 1 _ rfl; have d2 := Z5.out.c 2 _ rfl; have d3 := Z5.out.c 3 _ rfl; have d4 := Z5.out.c 4 _ rfl; have d5 := Z5.out.c 5 _ rfl; have d6 := Z5.out.c 6 _ rfl; have d7 := Z5.out.c 7 _ rfl; have d8 := Z5.out.c 8 _ rfl; have d9 := Z5.out.c 9 _ rfl; have d10 := Z5.out.c 10 _ rfl; have d11 := Z5.out.c 11 _ rfl; have d12 := Z5.out.c 12 _ rfl; have y0 := Z5.out.f 0; have y1 := Z5.out.f 1; have y2 := Z5.out.f 2; have y3 := Z5.out.f 3; have y4 := Z5.out.f 4; have y5 := Z5.out.f 5; have y6 := Z5.out.f 6; have y7 := Z5.out.f 7; have y8 := Z5.out.f 8; have y9 := Z5.out.f 9; have y10 := Z5.out.f 10; have y11 := Z5.out.f 11; have y12 := Z5.out.f 12))
      refine bodyPost_ret (v := .tuple #[.agg #[.bool false, .int .i64 2, .int .i64 0, .string s, .bool false, .int .i64 0, .int .i64 0, .int .i64 0, .string ⟨#[]⟩, .bool false, .int .i64 0, .slice none 0 0, .slice none 0 0], .int .i64 0]) (by simp [results, Tryz.results17, go_sem, hw5, d0, d1, d2, d3, d4, d5, d6, d7, d8, d9, d10, d11, d12]) rfl ?_
      exact ⟨_, rfl, rdc_t s _ _, by repeat (first | with_reducible exact Qw5.out | with_reducible refine Q.setCell ?_ (Nat.le_refl _) _ | with_reducible refine Q.alloc ?_ _)⟩
end Go.Proofs.YtgheopdadfnilaaGreatDoor
