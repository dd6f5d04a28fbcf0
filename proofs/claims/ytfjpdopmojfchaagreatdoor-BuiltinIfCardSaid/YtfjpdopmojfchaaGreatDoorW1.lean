/- The reference of package value: the order of values. -/
import Derived.Test.YtfjpdopmojfchaaGreatDoorW0
namespace Go.Proofs.YtfjpdopmojfchaaGreatDoor
open Go.RowKit
set_option linter.unusedVariables false
set_option linter.unusedSimpArgs false
set_option maxHeartbeats 2000000 in
theorem rcmp_ff (k k' : Int) (n : Int) (t : ByteArray) (b : Bool) (e : Int) (n' : Int) (t' : ByteArray) (b' : Bool) (e' : Int) (w : World)
    (hs : (t.size : Int) ≤ 9223372036854775000) (hs' : (t'.size : Int) ≤ 9223372036854775000)
    (hA : mayB k n t.toList b e = false) (hB : mayB k' n' t'.toList b' e' = false) :
    Calls Tryz.prog 47 #[vv k n t b e, vv k' n' t' b' e'] w fun x w' => x = .returned (.int .i64 (cmpV k n t.toList b e k' n' t'.toList b' e')) ∧ Q w w' := by
  have H := hid (cmpV_ff hA hB)
  have HM := hid (fun W => rmay_any k n t b e W hs)
  have HM' := hid (fun W => rmay_any k' n' t' b' e' W hs')
  rw [hA] at HM
  rw [hB] at HM'
  clear hA hB hs hs'
  unfold vv at *
  go_enter Tryz.func47, Tryz.ntmps47
  go_wp2_with fail
  go_region
  go_wp2_with (first
    | (go_at_call_of 23 t; refine (HM.out _).mono ?_; rintro x w1 ⟨rfl, q1⟩; have p1 := Q.trans ((Q.refl _).drew) q1; obtain ⟨⟨g0, g1, g2, g3, g4⟩, g5, g6, g7, g8, g9⟩ := boxes p1)
    | (go_at_call_of 23 t'; refine (HM'.out _).mono ?_; rintro x w2 ⟨rfl, r2⟩; have p2 := p1.trans r2; obtain ⟨⟨f0, f1, f2, f3, f4⟩, f5, f6, f7, f8, f9⟩ := boxes p2)
    | (go_at_call 96; refine (sign_any _ _ _).mono ?_; rintro x w3 ⟨rfl, rfl⟩))
  go_ret
  exact ⟨ret_int H.out, q2 p2⟩
set_option maxHeartbeats 2000000 in
theorem rcmp_ft (k k' : Int) (n : Int) (t : ByteArray) (b : Bool) (e : Int) (n' : Int) (t' : ByteArray) (b' : Bool) (e' : Int) (w : World)
    (hs : (t.size : Int) ≤ 9223372036854775000) (hs' : (t'.size : Int) ≤ 9223372036854775000)
    (hA : mayB k n t.toList b e = false) (hB : mayB k' n' t'.toList b' e' = true) :
    Calls Tryz.prog 47 #[vv k n t b e, vv k' n' t' b' e'] w fun x w' => x = .returned (.int .i64 (cmpV k n t.toList b e k' n' t'.toList b' e')) ∧ Q w w' := by
  have H := hid (cmpV_ft hA hB)
  have HM := hid (fun W => rmay_any k n t b e W hs)
  have HM' := hid (fun W => rmay_any k' n' t' b' e' W hs')
  rw [hA] at HM
  rw [hB] at HM'
  have hk' := may_lo hB
  have hne : ((9 : Int) == k') = false := beq_eq_false_iff_ne.2 (by omega)
  have hne2 : ((9 : Int) != k') = true := bne_iff_ne.2 (by omega)
  have hc : cmpI 9 k' = 1 := by unfold cmpI; rw [if_neg (by omega), if_pos (by omega)]
  clear hA hB hs hs'
  unfold vv at *
  go_enter Tryz.func47, Tryz.ntmps47
  go_wp2_with fail
  go_region
  go_wp2_with (first
    | (go_at_call_of 23 t; refine (HM.out _).mono ?_; rintro x w1 ⟨rfl, q1⟩; have p1 := Q.trans ((Q.refl _).drew) q1; obtain ⟨⟨g0, g1, g2, g3, g4⟩, g5, g6, g7, g8, g9⟩ := boxes p1)
    | (go_at_call_of 23 t'; refine (HM'.out _).mono ?_; rintro x w2 ⟨rfl, r2⟩; have p2 := p1.trans r2; obtain ⟨⟨f0, f1, f2, f3, f4⟩, f5, f6, f7, f8, f9⟩ := boxes p2)
    | (go_at_call 96; refine (sign_any _ _ _).mono ?_; rintro x w3 ⟨rfl, rfl⟩))
  go_ret
  exact ⟨ret_int H.out, q2 p2⟩
set_option maxHeartbeats 2000000 in
theorem rcmp_tf (k k' : Int) (n : Int) (t : ByteArray) (b : Bool) (e : Int) (n' : Int) (t' : ByteArray) (b' : Bool) (e' : Int) (w : World)
    (hs : (t.size : Int) ≤ 9223372036854775000) (hs' : (t'.size : Int) ≤ 9223372036854775000)
    (hA : mayB k n t.toList b e = true) (hB : mayB k' n' t'.toList b' e' = false) :
    Calls Tryz.prog 47 #[vv k n t b e, vv k' n' t' b' e'] w fun x w' => x = .returned (.int .i64 (cmpV k n t.toList b e k' n' t'.toList b' e')) ∧ Q w w' := by
  have H := hid (cmpV_tf hA hB)
  have HM := hid (fun W => rmay_any k n t b e W hs)
  have HM' := hid (fun W => rmay_any k' n' t' b' e' W hs')
  rw [hA] at HM
  rw [hB] at HM'
  have hk := may_lo hA
  have hne : (k == (9 : Int)) = false := beq_eq_false_iff_ne.2 (by omega)
  have hne2 : (k != (9 : Int)) = true := bne_iff_ne.2 (by omega)
  have hc : cmpI k 9 = -1 := by unfold cmpI; rw [if_pos (by omega)]
  clear hA hB hs hs'
  unfold vv at *
  go_enter Tryz.func47, Tryz.ntmps47
  go_wp2_with fail
  go_region
  go_wp2_with (first
    | (go_at_call_of 23 t; refine (HM.out _).mono ?_; rintro x w1 ⟨rfl, q1⟩; have p1 := Q.trans ((Q.refl _).drew) q1; obtain ⟨⟨g0, g1, g2, g3, g4⟩, g5, g6, g7, g8, g9⟩ := boxes p1)
    | (go_at_call_of 23 t'; refine (HM'.out _).mono ?_; rintro x w2 ⟨rfl, r2⟩; have p2 := p1.trans r2; obtain ⟨⟨f0, f1, f2, f3, f4⟩, f5, f6, f7, f8, f9⟩ := boxes p2)
    | (go_at_call 96; refine (sign_any _ _ _).mono ?_; rintro x w3 ⟨rfl, rfl⟩))
  go_ret
  exact ⟨ret_int H.out, q2 p2⟩
set_option maxHeartbeats 2000000 in
theorem rcmp_ne (k k' : Int) (n : Int) (t : ByteArray) (b : Bool) (e : Int) (n' : Int) (t' : ByteArray) (b' : Bool) (e' : Int) (w : World)
    (hs : (t.size : Int) ≤ 9223372036854775000) (hs' : (t'.size : Int) ≤ 9223372036854775000)
    (hA : mayB k n t.toList b e = true) (hB : mayB k' n' t'.toList b' e' = true) (hk : k ≠ k') :
    Calls Tryz.prog 47 #[vv k n t b e, vv k' n' t' b' e'] w fun x w' => x = .returned (.int .i64 (cmpV k n t.toList b e k' n' t'.toList b' e')) ∧ Q w w' := by
  have H := hid (cmpV_ne hA hB hk)
  have HM := hid (fun W => rmay_any k n t b e W hs)
  have HM' := hid (fun W => rmay_any k' n' t' b' e' W hs')
  rw [hA] at HM
  rw [hB] at HM'
  have hne : (k == k') = false := beq_eq_false_iff_ne.2 hk
  have hne2 : (k != k') = true := bne_iff_ne.2 hk
  clear hA hB hs hs'
  unfold vv at *
  go_enter Tryz.func47, Tryz.ntmps47
  go_wp2_with fail
  go_region
  go_wp2_with (first
    | (go_at_call_of 23 t; refine (HM.out _).mono ?_; rintro x w1 ⟨rfl, q1⟩; have p1 := Q.trans ((Q.refl _).drew) q1; obtain ⟨⟨g0, g1, g2, g3, g4⟩, g5, g6, g7, g8, g9⟩ := boxes p1)
    | (go_at_call_of 23 t'; refine (HM'.out _).mono ?_; rintro x w2 ⟨rfl, r2⟩; have p2 := p1.trans r2; obtain ⟨⟨f0, f1, f2, f3, f4⟩, f5, f6, f7, f8, f9⟩ := boxes p2)
    | (go_at_call 96; refine (sign_any _ _ _).mono ?_; rintro x w3 ⟨rfl, rfl⟩))
  go_ret
  exact ⟨ret_int H.out, q2 p2⟩
set_option maxHeartbeats 2000000 in
theorem rcmp_0 (n : Int) (t : ByteArray) (b : Bool) (e : Int) (n' : Int) (t' : ByteArray) (b' : Bool) (e' : Int) (w : World)
    (hs : (t.size : Int) ≤ 9223372036854775000) (hs' : (t'.size : Int) ≤ 9223372036854775000)
    (hA : mayB 0 n t.toList b e = true) (hB : mayB 0 n' t'.toList b' e' = true) :
    Calls Tryz.prog 47 #[vv 0 n t b e, vv 0 n' t' b' e'] w fun x w' => x = .returned (.int .i64 (cmpV 0 n t.toList b e 0 n' t'.toList b' e')) ∧ Q w w' := by
  have H := hid (cmpV_0 hA hB)
  have HM := hid (fun W => rmay_any 0 n t b e W hs)
  have HM' := hid (fun W => rmay_any 0 n' t' b' e' W hs')
  rw [hA] at HM
  rw [hB] at HM'
  clear hA hB hs hs'
  unfold vv at *
  go_enter Tryz.func47, Tryz.ntmps47
  go_wp2_with fail
  go_region
  go_wp2_with (first
    | (go_at_call_of 23 t; refine (HM.out _).mono ?_; rintro x w1 ⟨rfl, q1⟩; have p1 := Q.trans ((Q.refl _).drew) q1; obtain ⟨⟨g0, g1, g2, g3, g4⟩, g5, g6, g7, g8, g9⟩ := boxes p1)
    | (go_at_call_of 23 t'; refine (HM'.out _).mono ?_; rintro x w2 ⟨rfl, r2⟩; have p2 := p1.trans r2; obtain ⟨⟨f0, f1, f2, f3, f4⟩, f5, f6, f7, f8, f9⟩ := boxes p2)
    | (go_at_call 96; refine (sign_any _ _ _).mono ?_; rintro x w3 ⟨rfl, rfl⟩))
  go_ret
  exact ⟨ret_int H.out, q2 p2⟩
set_option maxHeartbeats 2000000 in
theorem rcmp_1 (n : Int) (t : ByteArray) (b : Bool) (e : Int) (n' : Int) (t' : ByteArray) (b' : Bool) (e' : Int) (w : World)
    (hs : (t.size : Int) ≤ 9223372036854775000) (hs' : (t'.size : Int) ≤ 9223372036854775000)
    (hA : mayB 1 n t.toList b e = true) (hB : mayB 1 n' t'.toList b' e' = true) :
    Calls Tryz.prog 47 #[vv 1 n t b e, vv 1 n' t' b' e'] w fun x w' => x = .returned (.int .i64 (cmpV 1 n t.toList b e 1 n' t'.toList b' e')) ∧ Q w w' := by
  have H := hid (cmpV_1 hA hB)
  have HM := hid (fun W => rmay_any 1 n t b e W hs)
  have HM' := hid (fun W => rmay_any 1 n' t' b' e' W hs')
  rw [hA] at HM
  rw [hB] at HM'
  clear hA hB hs hs'
  unfold vv at *
  go_enter Tryz.func47, Tryz.ntmps47
  go_wp2_with fail
  go_region
  go_wp2_with (first
    | (go_at_call_of 23 t; refine (HM.out _).mono ?_; rintro x w1 ⟨rfl, q1⟩; have p1 := Q.trans ((Q.refl _).drew) q1; obtain ⟨⟨g0, g1, g2, g3, g4⟩, g5, g6, g7, g8, g9⟩ := boxes p1)
    | (go_at_call_of 23 t'; refine (HM'.out _).mono ?_; rintro x w2 ⟨rfl, r2⟩; have p2 := p1.trans r2; obtain ⟨⟨f0, f1, f2, f3, f4⟩, f5, f6, f7, f8, f9⟩ := boxes p2)
    | (go_at_call 96; refine (sign_any _ _ _).mono ?_; rintro x w3 ⟨rfl, rfl⟩))
  go_ret
  exact ⟨ret_int H.out, q2 p2⟩
set_option maxHeartbeats 2000000 in
theorem rcmp_2a (n : Int) (t : ByteArray) (b : Bool) (e : Int) (n' : Int) (t' : ByteArray) (b' : Bool) (e' : Int) (w : World)
    (hs : (t.size : Int) ≤ 9223372036854775000) (hs' : (t'.size : Int) ≤ 9223372036854775000)
    (hA : mayB 2 n t.toList b e = true) (hB : mayB 2 n' t'.toList b' e' = true) (hl : Op.bytesLess t.toList t'.toList = true) :
    Calls Tryz.prog 47 #[vv 2 n t b e, vv 2 n' t' b' e'] w fun x w' => x = .returned (.int .i64 (cmpV 2 n t.toList b e 2 n' t'.toList b' e')) ∧ Q w w' := by
  have H := hid (cmpV_2 hA hB)
  have HM := hid (fun W => rmay_any 2 n t b e W hs)
  have HM' := hid (fun W => rmay_any 2 n' t' b' e' W hs')
  rw [hA] at HM
  rw [hB] at HM'
  have hc : -1 = cmpT t.toList t'.toList := by unfold cmpT; rw [if_pos hl]
  clear hA hB hs hs'
  unfold vv at *
  go_enter Tryz.func47, Tryz.ntmps47
  go_wp2_with fail
  go_region
  go_wp2_with (first
    | (go_at_call_of 23 t; refine (HM.out _).mono ?_; rintro x w1 ⟨rfl, q1⟩; have p1 := Q.trans ((Q.refl _).drew) q1; obtain ⟨⟨g0, g1, g2, g3, g4⟩, g5, g6, g7, g8, g9⟩ := boxes p1)
    | (go_at_call_of 23 t'; refine (HM'.out _).mono ?_; rintro x w2 ⟨rfl, r2⟩; have p2 := p1.trans r2; obtain ⟨⟨f0, f1, f2, f3, f4⟩, f5, f6, f7, f8, f9⟩ := boxes p2)
    | (go_at_call 96; refine (sign_any _ _ _).mono ?_; rintro x w3 ⟨rfl, rfl⟩))
  go_ret
  exact ⟨ret_int (hc.trans H.out), q2 p2⟩
set_option maxHeartbeats 2000000 in
theorem rcmp_2b (n : Int) (t : ByteArray) (b : Bool) (e : Int) (n' : Int) (t' : ByteArray) (b' : Bool) (e' : Int) (w : World)
    (hs : (t.size : Int) ≤ 9223372036854775000) (hs' : (t'.size : Int) ≤ 9223372036854775000)
    (hA : mayB 2 n t.toList b e = true) (hB : mayB 2 n' t'.toList b' e' = true) (hl : Op.bytesLess t.toList t'.toList = false) (he : t.toList = t'.toList) :
    Calls Tryz.prog 47 #[vv 2 n t b e, vv 2 n' t' b' e'] w fun x w' => x = .returned (.int .i64 (cmpV 2 n t.toList b e 2 n' t'.toList b' e')) ∧ Q w w' := by
  have H := hid (cmpV_2 hA hB)
  have HM := hid (fun W => rmay_any 2 n t b e W hs)
  have HM' := hid (fun W => rmay_any 2 n' t' b' e' W hs')
  rw [hA] at HM
  rw [hB] at HM'
  have hc : 0 = cmpT t.toList t'.toList := by unfold cmpT; rw [hl, if_neg (by simp), if_pos he]
  have heb : (t.toList == t'.toList) = true := by simpa using he
  clear he
  clear hA hB hs hs'
  unfold vv at *
  go_enter Tryz.func47, Tryz.ntmps47
  go_wp2_with fail
  go_region
  go_wp2_with (first
    | (go_at_call_of 23 t; refine (HM.out _).mono ?_; rintro x w1 ⟨rfl, q1⟩; have p1 := Q.trans ((Q.refl _).drew) q1; obtain ⟨⟨g0, g1, g2, g3, g4⟩, g5, g6, g7, g8, g9⟩ := boxes p1)
    | (go_at_call_of 23 t'; refine (HM'.out _).mono ?_; rintro x w2 ⟨rfl, r2⟩; have p2 := p1.trans r2; obtain ⟨⟨f0, f1, f2, f3, f4⟩, f5, f6, f7, f8, f9⟩ := boxes p2)
    | (go_at_call 96; refine (sign_any _ _ _).mono ?_; rintro x w3 ⟨rfl, rfl⟩))
  go_ret
  exact ⟨ret_int (hc.trans H.out), q2 p2⟩
set_option maxHeartbeats 2000000 in
theorem rcmp_2c (n : Int) (t : ByteArray) (b : Bool) (e : Int) (n' : Int) (t' : ByteArray) (b' : Bool) (e' : Int) (w : World)
    (hs : (t.size : Int) ≤ 9223372036854775000) (hs' : (t'.size : Int) ≤ 9223372036854775000)
    (hA : mayB 2 n t.toList b e = true) (hB : mayB 2 n' t'.toList b' e' = true) (hl : Op.bytesLess t.toList t'.toList = false) (he : t.toList ≠ t'.toList) :
    Calls Tryz.prog 47 #[vv 2 n t b e, vv 2 n' t' b' e'] w fun x w' => x = .returned (.int .i64 (cmpV 2 n t.toList b e 2 n' t'.toList b' e')) ∧ Q w w' := by
  have H := hid (cmpV_2 hA hB)
  have HM := hid (fun W => rmay_any 2 n t b e W hs)
  have HM' := hid (fun W => rmay_any 2 n' t' b' e' W hs')
  rw [hA] at HM
  rw [hB] at HM'
  have hc : 1 = cmpT t.toList t'.toList := by unfold cmpT; rw [hl, if_neg (by simp), if_neg he]
  have heb : (t.toList == t'.toList) = false := by simpa using he
  clear he
  clear hA hB hs hs'
  unfold vv at *
  go_enter Tryz.func47, Tryz.ntmps47
  go_wp2_with fail
  go_region
  go_wp2_with (first
    | (go_at_call_of 23 t; refine (HM.out _).mono ?_; rintro x w1 ⟨rfl, q1⟩; have p1 := Q.trans ((Q.refl _).drew) q1; obtain ⟨⟨g0, g1, g2, g3, g4⟩, g5, g6, g7, g8, g9⟩ := boxes p1)
    | (go_at_call_of 23 t'; refine (HM'.out _).mono ?_; rintro x w2 ⟨rfl, r2⟩; have p2 := p1.trans r2; obtain ⟨⟨f0, f1, f2, f3, f4⟩, f5, f6, f7, f8, f9⟩ := boxes p2)
    | (go_at_call 96; refine (sign_any _ _ _).mono ?_; rintro x w3 ⟨rfl, rfl⟩))
  go_ret
  exact ⟨ret_int (hc.trans H.out), q2 p2⟩
set_option maxHeartbeats 2000000 in
theorem rcmp_3 (n : Int) (t : ByteArray) (b : Bool) (e : Int) (n' : Int) (t' : ByteArray) (b' : Bool) (e' : Int) (w : World)
    (hs : (t.size : Int) ≤ 9223372036854775000) (hs' : (t'.size : Int) ≤ 9223372036854775000)
    (hA : mayB 3 n t.toList b e = true) (hB : mayB 3 n' t'.toList b' e' = true) :
    Calls Tryz.prog 47 #[vv 3 n t b e, vv 3 n' t' b' e'] w fun x w' => x = .returned (.int .i64 (cmpV 3 n t.toList b e 3 n' t'.toList b' e')) ∧ Q w w' := by
  have H := hid (cmpV_3 hA hB)
  have HM := hid (fun W => rmay_any 3 n t b e W hs)
  have HM' := hid (fun W => rmay_any 3 n' t' b' e' W hs')
  rw [hA] at HM
  rw [hB] at HM'
  clear hA hB hs hs'
  unfold vv at *
  go_enter Tryz.func47, Tryz.ntmps47
  go_wp2_with fail
  go_region
  go_wp2_with (first
    | (go_at_call_of 23 t; refine (HM.out _).mono ?_; rintro x w1 ⟨rfl, q1⟩; have p1 := Q.trans ((Q.refl _).drew) q1; obtain ⟨⟨g0, g1, g2, g3, g4⟩, g5, g6, g7, g8, g9⟩ := boxes p1)
    | (go_at_call_of 23 t'; refine (HM'.out _).mono ?_; rintro x w2 ⟨rfl, r2⟩; have p2 := p1.trans r2; obtain ⟨⟨f0, f1, f2, f3, f4⟩, f5, f6, f7, f8, f9⟩ := boxes p2)
    | (go_at_call 96; refine (sign_any _ _ _).mono ?_; rintro x w3 ⟨rfl, rfl⟩))
  all_goals go_ret
  all_goals exact ⟨ret_int (Eq.trans (by cases b <;> cases b' <;> simp_all [cmpI, tn]) H.out), q2 p2⟩
set_option maxHeartbeats 2000000 in
theorem rcmp_4 (n : Int) (t : ByteArray) (b : Bool) (e : Int) (n' : Int) (t' : ByteArray) (b' : Bool) (e' : Int) (w : World)
    (hs : (t.size : Int) ≤ 9223372036854775000) (hs' : (t'.size : Int) ≤ 9223372036854775000)
    (hA : mayB 4 n t.toList b e = true) (hB : mayB 4 n' t'.toList b' e' = true) :
    Calls Tryz.prog 47 #[vv 4 n t b e, vv 4 n' t' b' e'] w fun x w' => x = .returned (.int .i64 (cmpV 4 n t.toList b e 4 n' t'.toList b' e')) ∧ Q w w' := by
  have H := hid (cmpV_4 hA hB)
  have HM := hid (fun W => rmay_any 4 n t b e W hs)
  have HM' := hid (fun W => rmay_any 4 n' t' b' e' W hs')
  rw [hA] at HM
  rw [hB] at HM'
  clear hA hB hs hs'
  unfold vv at *
  go_enter Tryz.func47, Tryz.ntmps47
  go_wp2_with fail
  go_region
  go_wp2_with (first
    | (go_at_call_of 23 t; refine (HM.out _).mono ?_; rintro x w1 ⟨rfl, q1⟩; have p1 := Q.trans ((Q.refl _).drew) q1; obtain ⟨⟨g0, g1, g2, g3, g4⟩, g5, g6, g7, g8, g9⟩ := boxes p1)
    | (go_at_call_of 23 t'; refine (HM'.out _).mono ?_; rintro x w2 ⟨rfl, r2⟩; have p2 := p1.trans r2; obtain ⟨⟨f0, f1, f2, f3, f4⟩, f5, f6, f7, f8, f9⟩ := boxes p2)
    | (go_at_call 96; refine (sign_any _ _ _).mono ?_; rintro x w3 ⟨rfl, rfl⟩))
  go_ret
  exact ⟨ret_int H.out, q2 p2⟩
theorem rcompare_any (k n : Int) (t : ByteArray) (b : Bool) (e : Int) (k' n' : Int) (t' : ByteArray) (b' : Bool) (e' : Int) (w : World)
    (hs : (t.size : Int) ≤ 9223372036854775000) (hs' : (t'.size : Int) ≤ 9223372036854775000) :
    Calls Tryz.prog 47 #[vv k n t b e, vv k' n' t' b' e'] w fun x w' => x = .returned (.int .i64 (cmpV k n t.toList b e k' n' t'.toList b' e')) ∧ Q w w' := by
  cases hA : mayB k n t.toList b e with
  | false =>
    cases hB : mayB k' n' t'.toList b' e' with
    | false => exact rcmp_ff k k' n t b e n' t' b' e' w hs hs' hA hB
    | true => exact rcmp_ft k k' n t b e n' t' b' e' w hs hs' hA hB
  | true =>
    cases hB : mayB k' n' t'.toList b' e' with
    | false => exact rcmp_tf k k' n t b e n' t' b' e' w hs hs' hA hB
    | true =>
      by_cases hk : k = k'
      · subst hk
        have hl := may_lo hA
        rcases (by omega : k = 0 ∨ k = 1 ∨ k = 2 ∨ k = 3 ∨ k = 4) with rfl | rfl | rfl | rfl | rfl
        · exact rcmp_0 n t b e n' t' b' e' w hs hs' hA hB
        · exact rcmp_1 n t b e n' t' b' e' w hs hs' hA hB
        · cases hl : Op.bytesLess t.toList t'.toList with
          | true => exact rcmp_2a n t b e n' t' b' e' w hs hs' hA hB hl
          | false =>
            by_cases he : t.toList = t'.toList
            · exact rcmp_2b n t b e n' t' b' e' w hs hs' hA hB hl he
            · exact rcmp_2c n t b e n' t' b' e' w hs hs' hA hB hl he
        · exact rcmp_3 n t b e n' t' b' e' w hs hs' hA hB
        · exact rcmp_4 n t b e n' t' b' e' w hs hs' hA hB
      · exact rcmp_ne k k' n t b e n' t' b' e' w hs hs' hA hB hk
end Go.Proofs.YtfjpdopmojfchaaGreatDoor
