/- The order of values, plainly: it goes both ways and through; The reference of package value: the order of values; Package value and its reference: the worst error of many; Boxes: a value in five cells of its own; Package builtin: the small functions; Package builtin: arguments; which function a name is; counterpaneref1.Mul and Div: the products and quotients of the reference are those of the document. -/
import Derived.Test.YtfjpdopmojfchaaGreatDoorKr09
import Derived.Test.YtfjpdopmojfchaaGreatDoorKr01
import Derived.Test.YtfjpdopmojfchaaGreatDoorKr03
import Derived.Test.YtfjpdopmojfchaaGreatDoorKr02
import Derived.OwnWalk
import Derived.Laws.EntriesVeiled
import Derived.Test.YtfjpdopmojfchaaGreatDoorKr10
import Derived.Test.YtfjpdopmojfchaaGreatDoorKr05
set_option linter.unusedVariables false
set_option linter.unusedSimpArgs false
namespace Go.Proofs.YtfjpdopmojfchaaGreatDoor
open Go
theorem bl_cons (a b : UInt8) (x y : List UInt8) : Op.bytesLess (a :: x) (b :: y) = true ↔ a.toNat < b.toNat ∨ (a = b ∧ Op.bytesLess x y = true) := by
  have e : Op.bytesLess (a :: x) (b :: y) = (decide (a < b) || (a == b && Op.bytesLess x y)) := rfl
  rw [e]
  simp [UInt8.lt_iff_toNat_lt]
theorem bl_irrefl : ∀ s : List UInt8, Op.bytesLess s s = false
  | [] => rfl
  | a :: s => by
    cases h : Op.bytesLess (a :: s) (a :: s) with
    | false => rfl
    | true =>
      rcases (bl_cons _ _ _ _).1 h with h | ⟨_, h⟩
      · omega
      · rw [bl_irrefl s] at h; cases h
theorem bl_nil (s : List UInt8) : Op.bytesLess s [] = false := by cases s <;> rfl
theorem bl_trans : ∀ {s t u : List UInt8}, Op.bytesLess s t = true → Op.bytesLess t u = true → Op.bytesLess s u = true
  | _, [], _, h, _ => by rw [bl_nil] at h; cases h
  | _, _ :: _, [], _, h => by rw [bl_nil] at h; cases h
  | [], _ :: _, _ :: _, _, _ => rfl
  | a :: s, b :: t, c :: u, h, g => by
    rw [bl_cons] at *
    rcases h with h | ⟨rfl, h⟩
    · rcases g with g | ⟨rfl, g⟩
      · exact .inl (by omega)
      · exact .inl h
    · rcases g with g | ⟨rfl, g⟩
      · exact .inl g
      · exact .inr ⟨rfl, bl_trans h g⟩
theorem bl_tri : ∀ {s t : List UInt8}, Op.bytesLess s t = false → s ≠ t → Op.bytesLess t s = true
  | [], [], _, h => absurd rfl h
  | [], _ :: _, h, _ => by cases h
  | _ :: _, [], _, _ => rfl
  | a :: s, b :: t, h, g => by
    rw [bl_cons]
    have h' : ¬ (a.toNat < b.toNat ∨ (a = b ∧ Op.bytesLess s t = true)) := fun x => by rw [(bl_cons _ _ _ _).2 x] at h; cases h
    by_cases e : a = b
    · subst e
      refine .inr ⟨rfl, bl_tri ?_ ?_⟩
      · cases hh : Op.bytesLess s t with
        | false => rfl
        | true => exact absurd (.inr ⟨rfl, hh⟩) h'
      · intro e; exact g (by rw [e])
    · left
      have : a.toNat ≠ b.toNat := fun x => e (UInt8.toNat_inj.1 x)
      have : ¬ a.toNat < b.toNat := fun x => h' (.inl x)
      omega
theorem bl_asymm {s t : List UInt8} (h : Op.bytesLess s t = true) : Op.bytesLess t s = false := by
  cases g : Op.bytesLess t s with
  | false => rfl
  | true => have := bl_trans h g; rw [bl_irrefl] at this; cases this
/-- -1, 0 or 1, as an order has it -/
structure Cmp {α : Type} (c : α → α → Int) : Prop where
  refl : ∀ a, c a a = 0
  eq : ∀ {a b}, c a b = 0 → a = b
  anti : ∀ a b, c b a = - c a b
  trans : ∀ {a b d}, c a b ≤ 0 → c b d ≤ 0 → c a d ≤ 0
theorem cmpI_c : Cmp cmpI := by
  constructor
  · intro a; unfold cmpI; rw [if_neg (by omega), if_neg (by omega)]
  · intro a b h; unfold cmpI at h; split at h; cases h; split at h; cases h; omega
  · intro a b; unfold cmpI; repeat' split
    all_goals omega
  · intro a b d h g; unfold cmpI at *
    repeat' split at h
    all_goals repeat' split at g
    all_goals repeat' split
    all_goals omega
theorem cmpT_c : Cmp cmpT := by
  constructor
  · intro a; unfold cmpT; rw [bl_irrefl]; simp
  · intro a b h
    unfold cmpT at h
    split at h
    · cases h
    · split at h
      · assumption
      · cases h
  · intro a b
    unfold cmpT
    by_cases e : a = b
    · subst e; rw [bl_irrefl]; simp
    · cases h : Op.bytesLess a b with
      | true => rw [bl_asymm h]; simp [Ne.symm e]
      | false => rw [bl_tri h e]; simp [e]
  · intro a b d h g
    unfold cmpT at *
    by_cases e : a = b
    · subst e; exact g
    · by_cases e' : b = d
      · subst e'; exact h
      · rw [if_neg e] at h
        rw [if_neg e'] at g
        cases ha : Op.bytesLess a b with
        | false => rw [ha] at h; simp at h
        | true =>
          cases hb : Op.bytesLess b d with
          | false => rw [hb] at g; simp at g
          | true => rw [bl_trans ha hb]; simp
theorem cmpV_ff {k n : Int} {t : List UInt8} {b : Bool} {e k' n' : Int} {t' : List UInt8} {b' : Bool} {e' : Int} (h : mayB k n t b e = false) (h' : mayB k' n' t' b' e' = false) : 0 = cmpV k n t b e k' n' t' b' e' := by
  unfold cmpV; rw [h, h']; rfl
theorem cmpV_ft {k n : Int} {t : List UInt8} {b : Bool} {e k' n' : Int} {t' : List UInt8} {b' : Bool} {e' : Int} (h : mayB k n t b e = false) (h' : mayB k' n' t' b' e' = true) : 1 = cmpV k n t b e k' n' t' b' e' := by
  unfold cmpV; rw [h, h']; rfl
theorem cmpV_tf {k n : Int} {t : List UInt8} {b : Bool} {e k' n' : Int} {t' : List UInt8} {b' : Bool} {e' : Int} (h : mayB k n t b e = true) (h' : mayB k' n' t' b' e' = false) : -1 = cmpV k n t b e k' n' t' b' e' := by
  unfold cmpV; rw [h, h']; rfl
theorem cmpV_ne {k n : Int} {t : List UInt8} {b : Bool} {e k' n' : Int} {t' : List UInt8} {b' : Bool} {e' : Int} (h : mayB k n t b e = true) (h' : mayB k' n' t' b' e' = true) (hk : k ≠ k') : cmpI k k' = cmpV k n t b e k' n' t' b' e' := by
  unfold cmpV; rw [h, h']
  have : cmpI k k' ≠ 0 := fun z => hk (cmpI_c.eq z)
  simp [orI, this]
theorem may_lo {k n : Int} {t : ByteArray} {b : Bool} {e : Int} (h : mayB k n t.toList b e = true) : 0 ≤ k ∧ k ≤ 4 := by
  rcases vk_of h with ⟨rfl, _⟩ | ⟨rfl, _⟩ | ⟨rfl, _⟩ | ⟨rfl, _⟩ | ⟨rfl, _⟩ <;> omega
theorem orI_last (a : Int) : orI (a :: 0 :: 0 :: []) = a := by simp only [orI]; by_cases h : a = 0 <;> simp [h]
theorem orI_1 (a : Int) : orI [a] = a := by simp only [orI]; by_cases h : a = 0 <;> simp [h]
theorem orI_2 (a : Int) : orI [a, 0] = a := by simp only [orI]; by_cases h : a = 0 <;> simp [h]
theorem orI_4 (a : Int) : orI [a, 0, 0, 0] = a := by simp only [orI]; by_cases h : a = 0 <;> simp [h]
theorem cI (a : Int) : cmpI a a = 0 := cmpI_c.refl a
theorem cT (a : List UInt8) : cmpT a a = 0 := cmpT_c.refl a
theorem cmpV_0 {n : Int} {t : ByteArray} {b : Bool} {e n' : Int} {t' : ByteArray} {b' : Bool} {e' : Int} (h : mayB 0 n t.toList b e = true) (h' : mayB 0 n' t'.toList b' e' = true) : 0 = cmpV 0 n t.toList b e 0 n' t'.toList b' e' := by
  unfold cmpV; rw [h, h']
  obtain ⟨rfl, rfl, rfl, rfl⟩ := vk0 (vk_of h)
  obtain ⟨rfl, rfl, rfl, rfl⟩ := vk0 (vk_of h')
  rw [cI, cT, cI, cI]; rfl
theorem cmpV_1 {n : Int} {t : ByteArray} {b : Bool} {e n' : Int} {t' : ByteArray} {b' : Bool} {e' : Int} (h : mayB 1 n t.toList b e = true) (h' : mayB 1 n' t'.toList b' e' = true) : cmpI n n' = cmpV 1 n t.toList b e 1 n' t'.toList b' e' := by
  unfold cmpV; rw [h, h']
  obtain ⟨rfl, rfl, rfl⟩ := vk1 (vk_of h)
  obtain ⟨rfl, rfl, rfl⟩ := vk1 (vk_of h')
  rw [cI 1, cT, cI (tn false), cI 0]; exact (orI_4 _).symm
theorem cmpV_2 {n : Int} {t : ByteArray} {b : Bool} {e n' : Int} {t' : ByteArray} {b' : Bool} {e' : Int} (h : mayB 2 n t.toList b e = true) (h' : mayB 2 n' t'.toList b' e' = true) : cmpT t.toList t'.toList = cmpV 2 n t.toList b e 2 n' t'.toList b' e' := by
  unfold cmpV; rw [h, h']
  obtain ⟨rfl, rfl, rfl, _⟩ := vk2 (vk_of h)
  obtain ⟨rfl, rfl, rfl, _⟩ := vk2 (vk_of h')
  rw [cI 2, cI 0, cI (tn false)]; exact (orI_last _).symm
theorem cmpV_3 {n : Int} {t : ByteArray} {b : Bool} {e n' : Int} {t' : ByteArray} {b' : Bool} {e' : Int} (h : mayB 3 n t.toList b e = true) (h' : mayB 3 n' t'.toList b' e' = true) : cmpI (tn b) (tn b') = cmpV 3 n t.toList b e 3 n' t'.toList b' e' := by
  unfold cmpV; rw [h, h']
  obtain ⟨rfl, rfl, rfl⟩ := vk3 (vk_of h)
  obtain ⟨rfl, rfl, rfl⟩ := vk3 (vk_of h')
  rw [cI 3, cI 0, cT]; exact (orI_2 _).symm
theorem cmpV_4 {n : Int} {t : ByteArray} {b : Bool} {e n' : Int} {t' : ByteArray} {b' : Bool} {e' : Int} (h : mayB 4 n t.toList b e = true) (h' : mayB 4 n' t'.toList b' e' = true) : cmpI e e' = cmpV 4 n t.toList b e 4 n' t'.toList b' e' := by
  unfold cmpV; rw [h, h']
  obtain ⟨rfl, rfl, rfl⟩ := vk4 (vk_of h)
  obtain ⟨rfl, rfl, rfl⟩ := vk4 (vk_of h')
  rw [cI 4, cI 0, cT, cI (tn false)]; exact (orI_1 _).symm
end Go.Proofs.YtfjpdopmojfchaaGreatDoor
namespace Go.Proofs.YtfjpdopmojfchaaGreatDoor
open Go.RowKit
set_option maxHeartbeats 2000000 in
theorem rcmp_ff (k k' : Int) (n : Int) (t : ByteArray) (b : Bool) (e : Int) (n' : Int) (t' : ByteArray) (b' : Bool) (e' : Int) (w : World)
    (hs : (t.size : Int) ≤ 9223372036854775000) (hs' : (t'.size : Int) ≤ 9223372036854775000)
    (hA : mayB k n t.toList b e = false) (hB : mayB k' n' t'.toList b' e' = false) :
    Calls Tryz.prog 47 #[vv k n t b e, vv k' n' t' b' e'] w fun x w' => x = .returned (.int .i64 (cmpV k n t.toList b e k' n' t'.toList b' e')) ∧ Q w w' := by
  have H := hid (cmpV_ff hA hB)
  have HM := hid (fun W => rmay_any k n t b e W hs)
  have HM' := hid (fun W => rmay_any k' n' t' b' e' W hs')
  rw [hA] at HM
  rw [hB] at HM'
  clear hA hB hs hs'
  unfold vv at *
  go_enter Tryz.func47, Tryz.ntmps47
  go_wp2_with fail
  go_region
  go_wp2_with (first
    | (go_at_call_of 23 t; refine (HM.out _).mono ?_; rintro x w1 ⟨rfl, q1⟩; have p1 := Q.trans ((Q.refl _).drew) q1; obtain ⟨⟨g0, g1, g2, g3, g4⟩, g5, g6, g7, g8, g9⟩ := boxes p1)
    | (go_at_call_of 23 t'; refine (HM'.out _).mono ?_; rintro x w2 ⟨rfl, r2⟩; have p2 := p1.trans r2; obtain ⟨⟨f0, f1, f2, f3, f4⟩, f5, f6, f7, f8, f9⟩ := boxes p2)
    | (go_at_call 96; refine (sign_any _ _ _).mono ?_; rintro x w3 ⟨rfl, rfl⟩))
  go_ret
  exact ⟨ret_int H.out, q2 p2⟩
set_option maxHeartbeats 2000000 in
theorem rcmp_ft (k k' : Int) (n : Int) (t : ByteArray) (b : Bool) (e : Int) (n' : Int) (t' : ByteArray) (b' : Bool) (e' : Int) (w : World)
    (hs : (t.size : Int) ≤ 9223372036854775000) (hs' : (t'.size : Int) ≤ 9223372036854775000)
    (hA : mayB k n t.toList b e = false) (hB : mayB k' n' t'.toList b' e' = true) :
    Calls Tryz.prog 47 #[vv k n t b e, vv k' n' t' b' e'] w fun x w' => x = .returned (.int .i64 (cmpV k n t.toList b e k' n' t'.toList b' e')) ∧ Q w w' := by
  have H := hid (cmpV_ft hA hB)
  have HM := hid (fun W => rmay_any k n t b e W hs)
  have HM' := hid (fun W => rmay_any k' n' t' b' e' W hs')
  rw [hA] at HM
  rw [hB] at HM'
  have hk' := may_lo hB
  have hne : ((9 : Int) == k') = false := beq_eq_false_iff_ne.2 (by omega)
  have hne2 : ((9 : Int) != k') = true := bne_iff_ne.2 (by omega)
  have hc : cmpI 9 k' = 1 := by unfold cmpI; rw [if_neg (by omega), if_pos (by omega)]
  clear hA hB hs hs'
  unfold vv at *
  go_enter Tryz.func47, Tryz.ntmps47
  go_wp2_with fail
  go_region
  go_wp2_with (first
    | (go_at_call_of 23 t; refine (HM.out _).mono ?_; rintro x w1 ⟨rfl, q1⟩; have p1 := Q.trans ((Q.refl _).drew) q1; obtain ⟨⟨g0, g1, g2, g3, g4⟩, g5, g6, g7, g8, g9⟩ := boxes p1)
    | (go_at_call_of 23 t'; refine (HM'.out _).mono ?_; rintro x w2 ⟨rfl, r2⟩; have p2 := p1.trans r2; obtain ⟨⟨f0, f1, f2, f3, f4⟩, f5, f6, f7, f8, f9⟩ := boxes p2)
    | (go_at_call 96; refine (sign_any _ _ _).mono ?_; rintro x w3 ⟨rfl, rfl⟩))
  go_ret
  exact ⟨ret_int H.out, q2 p2⟩
set_option maxHeartbeats 2000000 in
theorem rcmp_tf (k k' : Int) (n : Int) (t : ByteArray) (b : Bool) (e : Int) (n' : Int) (t' : ByteArray) (b' : Bool) (e' : Int) (w : World)
    (hs : (t.size : Int) ≤ 9223372036854775000) (hs' : (t'.size : Int) ≤ 9223372036854775000)
    (hA : mayB k n t.toList b e = true) (hB : mayB k' n' t'.toList b' e' = false) :
    Calls Tryz.prog 47 #[vv k n t b e, vv k' n' t' b' e'] w fun x w' => x = .returned (.int .i64 (cmpV k n t.toList b e k' n' t'.toList b' e')) ∧ Q w w' := by
  have H := hid (cmpV_tf hA hB)
  have HM := hid (fun W => rmay_any k n t b e W hs)
  have HM' := hid (fun W => rmay_any k' n' t' b' e' W hs')
  rw [hA] at HM
  rw [hB] at HM'
  have hk := may_lo hA
  have hne : (k == (9 : Int)) = false := beq_eq_false_iff_ne.2 (by omega)
  have hne2 : (k != (9 : Int)) = true := bne_iff_ne.2 (by omega)
  have hc : cmpI k 9 = -1 := by unfold cmpI; rw [if_pos (by omega)]
  clear hA hB hs hs'
  unfold vv at *
  go_enter Tryz.func47, Tryz.ntmps47
  go_wp2_with fail
  go_region
  go_wp2_with (first
    | (go_at_call_of 23 t; refine (HM.out _).mono ?_; rintro x w1 ⟨rfl, q1⟩; have p1 := Q.trans ((Q.refl _).drew) q1; obtain ⟨⟨g0, g1, g2, g3, g4⟩, g5, g6, g7, g8, g9⟩ := boxes p1)
    | (go_at_call_of 23 t'; refine (HM'.out _).mono ?_; rintro x w2 ⟨rfl, r2⟩; have p2 := p1.trans r2; obtain ⟨⟨f0, f1, f2, f3, f4⟩, f5, f6, f7, f8, f9⟩ := boxes p2)
    | (go_at_call 96; refine (sign_any _ _ _).mono ?_; rintro x w3 ⟨rfl, rfl⟩))
  go_ret
  exact ⟨ret_int H.out, q2 p2⟩
set_option maxHeartbeats 2000000 in
theorem rcmp_ne (k k' : Int) (n : Int) (t : ByteArray) (b : Bool) (e : Int) (n' : Int) (t' : ByteArray) (b' : Bool) (e' : Int) (w : World)
    (hs : (t.size : Int) ≤ 9223372036854775000) (hs' : (t'.size : Int) ≤ 9223372036854775000)
    (hA : mayB k n t.toList b e = true) (hB : mayB k' n' t'.toList b' e' = true) (hk : k ≠ k') :
    Calls Tryz.prog 47 #[vv k n t b e, vv k' n' t' b' e'] w fun x w' => x = .returned (.int .i64 (cmpV k n t.toList b e k' n' t'.toList b' e')) ∧ Q w w' := by
  have H := hid (cmpV_ne hA hB hk)
  have HM := hid (fun W => rmay_any k n t b e W hs)
  have HM' := hid (fun W => rmay_any k' n' t' b' e' W hs')
  rw [hA] at HM
  rw [hB] at HM'
  have hne : (k == k') = false := beq_eq_false_iff_ne.2 hk
  have hne2 : (k != k') = true := bne_iff_ne.2 hk
  clear hA hB hs hs'
  unfold vv at *
  go_enter Tryz.func47, Tryz.ntmps47
  go_wp2_with fail
  go_region
  go_wp2_with (first
    | (go_at_call_of 23 t; refine (HM.out _).mono ?_; rintro x w1 ⟨rfl, q1⟩; have p1 := Q.trans ((Q.refl _).drew) q1; obtain ⟨⟨g0, g1, g2, g3, g4⟩, g5, g6, g7, g8, g9⟩ := boxes p1)
    | (go_at_call_of 23 t'; refine (HM'.out _).mono ?_; rintro x w2 ⟨rfl, r2⟩; have p2 := p1.trans r2; obtain ⟨⟨f0, f1, f2, f3, f4⟩, f5, f6, f7, f8, f9⟩ := boxes p2)
    | (go_at_call 96; refine (sign_any _ _ _).mono ?_; rintro x w3 ⟨rfl, rfl⟩))
  go_ret
  exact ⟨ret_int H.out, q2 p2⟩
set_option maxHeartbeats 2000000 in
theorem rcmp_0 (n : Int) (t : ByteArray) (b : Bool) (e : Int) (n' : Int) (t' : ByteArray) (b' : Bool) (e' : Int) (w : World)
    (hs : (t.size : Int) ≤ 9223372036854775000) (hs' : (t'.size : Int) ≤ 9223372036854775000)
    (hA : mayB 0 n t.toList b e = true) (hB : mayB 0 n' t'.toList b' e' = true) :
    Calls Tryz.prog 47 #[vv 0 n t b e, vv 0 n' t' b' e'] w fun x w' => x = .returned (.int .i64 (cmpV 0 n t.toList b e 0 n' t'.toList b' e')) ∧ Q w w' := by
  have H := hid (cmpV_0 hA hB)
  have HM := hid (fun W => rmay_any 0 n t b e W hs)
  have HM' := hid (fun W => rmay_any 0 n' t' b' e' W hs')
  rw [hA] at HM
  rw [hB] at HM'
  clear hA hB hs hs'
  unfold vv at *
  go_enter Tryz.func47, Tryz.ntmps47
  go_wp2_with fail
  go_region
  go_wp2_with (first
    | (go_at_call_of 23 t; refine (HM.out _).mono ?_; rintro x w1 ⟨rfl, q1⟩; have p1 := Q.trans ((Q.refl _).drew) q1; obtain ⟨⟨g0, g1, g2, g3, g4⟩, g5, g6, g7, g8, g9⟩ := boxes p1)
    | (go_at_call_of 23 t'; refine (HM'.out _).mono ?_; rintro x w2 ⟨rfl, r2⟩; have p2 := p1.trans r2; obtain ⟨⟨f0, f1, f2, f3, f4⟩, f5, f6, f7, f8, f9⟩ := boxes p2)
    | (go_at_call 96; refine (sign_any _ _ _).mono ?_; rintro x w3 ⟨rfl, rfl⟩))
  go_ret
  exact ⟨ret_int H.out, q2 p2⟩
set_option maxHeartbeats 2000000 in
theorem rcmp_1 (n : Int) (t : ByteArray) (b : Bool) (e : Int) (n' : Int) (t' : ByteArray) (b' : Bool) (e' : Int) (w : World)
    (hs : (t.size : Int) ≤ 9223372036854775000) (hs' : (t'.size : Int) ≤ 9223372036854775000)
    (hA : mayB 1 n t.toList b e = true) (hB : mayB 1 n' t'.toList b' e' = true) :
    Calls Tryz.prog 47 #[vv 1 n t b e, vv 1 n' t' b' e'] w fun x w' => x = .returned (.int .i64 (cmpV 1 n t.toList b e 1 n' t'.toList b' e')) ∧ Q w w' := by
  have H := hid (cmpV_1 hA hB)
  have HM := hid (fun W => rmay_any 1 n t b e W hs)
  have HM' := hid (fun W => rmay_any 1 n' t' b' e' W hs')
  rw [hA] at HM
  rw [hB] at HM'
  clear hA hB hs hs'
  unfold vv at *
  go_enter Tryz.func47, Tryz.ntmps47
  go_wp2_with fail
  go_region
  go_wp2_with (first
    | (go_at_call_of 23 t; refine (HM.out _).mono ?_; rintro x w1 ⟨rfl, q1⟩; have p1 := Q.trans ((Q.refl _).drew) q1; obtain ⟨⟨g0, g1, g2, g3, g4⟩, g5, g6, g7, g8, g9⟩ := boxes p1)
    | (go_at_call_of 23 t'; refine (HM'.out _).mono ?_; rintro x w2 ⟨rfl, r2⟩; have p2 := p1.trans r2; obtain ⟨⟨f0, f1, f2, f3, f4⟩, f5, f6, f7, f8, f9⟩ := boxes p2)
    | (go_at_call 96; refine (sign_any _ _ _).mono ?_; rintro x w3 ⟨rfl, rfl⟩))
  go_ret
  exact ⟨ret_int H.out, q2 p2⟩
set_option maxHeartbeats 2000000 in
theorem rcmp_2a (n : Int) (t : ByteArray) (b : Bool) (e : Int) (n' : Int) (t' : ByteArray) (b' : Bool) (e' : Int) (w : World)
    (hs : (t.size : Int) ≤ 9223372036854775000) (hs' : (t'.size : Int) ≤ 9223372036854775000)
    (hA : mayB 2 n t.toList b e = true) (hB : mayB 2 n' t'.toList b' e' = true) (hl : Op.bytesLess t.toList t'.toList = true) :
    Calls Tryz.prog 47 #[vv 2 n t b e, vv 2 n' t' b' e'] w fun x w' => x = .returned (.int .i64 (cmpV 2 n t.toList b e 2 n' t'.toList b' e')) ∧ Q w w' := by
  have H := hid (cmpV_2 hA hB)
  have HM := hid (fun W => rmay_any 2 n t b e W hs)
  have HM' := hid (fun W => rmay_any 2 n' t' b' e' W hs')
  rw [hA] at HM
  rw [hB] at HM'
  have hc : -1 = cmpT t.toList t'.toList := by unfold cmpT; rw [if_pos hl]
  clear hA hB hs hs'
  unfold vv at *
  go_enter Tryz.func47, Tryz.ntmps47
  go_wp2_with fail
  go_region
  go_wp2_with (first
    | (go_at_call_of 23 t; refine (HM.out _).mono ?_; rintro x w1 ⟨rfl, q1⟩; have p1 := Q.trans ((Q.refl _).drew) q1; obtain ⟨⟨g0, g1, g2, g3, g4⟩, g5, g6, g7, g8, g9⟩ := boxes p1)
    | (go_at_call_of 23 t'; refine (HM'.out _).mono ?_; rintro x w2 ⟨rfl, r2⟩; have p2 := p1.trans r2; obtain ⟨⟨f0, f1, f2, f3, f4⟩, f5, f6, f7, f8, f9⟩ := boxes p2)
    | (go_at_call 96; refine (sign_any _ _ _).mono ?_; rintro x w3 ⟨rfl, rfl⟩))
  go_ret
  exact ⟨ret_int (hc.trans H.out), q2 p2⟩
set_option maxHeartbeats 2000000 in
theorem rcmp_2b (n : Int) (t : ByteArray) (b : Bool) (e : Int) (n' : Int) (t' : ByteArray) (b' : Bool) (e' : Int) (w : World)
    (hs : (t.size : Int) ≤ 9223372036854775000) (hs' : (t'.size : Int) ≤ 9223372036854775000)
    (hA : mayB 2 n t.toList b e = true) (hB : mayB 2 n' t'.toList b' e' = true) (hl : Op.bytesLess t.toList t'.toList = false) (he : t.toList = t'.toList) :
    Calls Tryz.prog 47 #[vv 2 n t b e, vv 2 n' t' b' e'] w fun x w' => x = .returned (.int .i64 (cmpV 2 n t.toList b e 2 n' t'.toList b' e')) ∧ Q w w' := by
  have H := hid (cmpV_2 hA hB)
  have HM := hid (fun W => rmay_any 2 n t b e W hs)
  have HM' := hid (fun W => rmay_any 2 n' t' b' e' W hs')
  rw [hA] at HM
  rw [hB] at HM'
  have hc : 0 = cmpT t.toList t'.toList := by unfold cmpT; rw [hl, if_neg (by simp), if_pos he]
  have heb : (t.toList == t'.toList) = true := by simpa using he
  clear he
  clear hA hB hs hs'
  unfold vv at *
  go_enter Tryz.func47, Tryz.ntmps47
  go_wp2_with fail
  go_region
  go_wp2_with (first
    | (go_at_call_of 23 t; refine (HM.out _).mono ?_; rintro x w1 ⟨rfl, q1⟩; have p1 := Q.trans ((Q.refl _).drew) q1; obtain ⟨⟨g0, g1, g2, g3, g4⟩, g5, g6, g7, g8, g9⟩ := boxes p1)
    | (go_at_call_of 23 t'; refine (HM'.out _).mono ?_; rintro x w2 ⟨rfl, r2⟩; have p2 := p1.trans r2; obtain ⟨⟨f0, f1, f2, f3, f4⟩, f5, f6, f7, f8, f9⟩ := boxes p2)
    | (go_at_call 96; refine (sign_any _ _ _).mono ?_; rintro x w3 ⟨rfl, rfl⟩))
  go_ret
  exact ⟨ret_int (hc.trans H.out), q2 p2⟩
set_option maxHeartbeats 2000000 in
theorem rcmp_2c (n : Int) (t : ByteArray) (b : Bool) (e : Int) (n' : Int) (t' : ByteArray) (b' : Bool) (e' : Int) (w : World)
    (hs : (t.size : Int) ≤ 9223372036854775000) (hs' : (t'.size : Int) ≤ 9223372036854775000)
    (hA : mayB 2 n t.toList b e = true) (hB : mayB 2 n' t'.toList b' e' = true) (hl : Op.bytesLess t.toList t'.toList = false) (he : t.toList ≠ t'.toList) :
    Calls Tryz.prog 47 #[vv 2 n t b e, vv 2 n' t' b' e'] w fun x w' => x = .returned (.int .i64 (cmpV 2 n t.toList b e 2 n' t'.toList b' e')) ∧ Q w w' := by
  have H := hid (cmpV_2 hA hB)
  have HM := hid (fun W => rmay_any 2 n t b e W hs)
  have HM' := hid (fun W => rmay_any 2 n' t' b' e' W hs')
  rw [hA] at HM
  rw [hB] at HM'
  have hc : 1 = cmpT t.toList t'.toList := by unfold cmpT; rw [hl, if_neg (by simp), if_neg he]
  have heb : (t.toList == t'.toList) = false := by simpa using he
  clear he
  clear hA hB hs hs'
  unfold vv at *
  go_enter Tryz.func47, Tryz.ntmps47
  go_wp2_with fail
  go_region
  go_wp2_with (first
    | (go_at_call_of 23 t; refine (HM.out _).mono ?_; rintro x w1 ⟨rfl, q1⟩; have p1 := Q.trans ((Q.refl _).drew) q1; obtain ⟨⟨g0, g1, g2, g3, g4⟩, g5, g6, g7, g8, g9⟩ := boxes p1)
    | (go_at_call_of 23 t'; refine (HM'.out _).mono ?_; rintro x w2 ⟨rfl, r2⟩; have p2 := p1.trans r2; obtain ⟨⟨f0, f1, f2, f3, f4⟩, f5, f6, f7, f8, f9⟩ := boxes p2)
    | (go_at_call 96; refine (sign_any _ _ _).mono ?_; rintro x w3 ⟨rfl, rfl⟩))
  go_ret
  exact ⟨ret_int (hc.trans H.out), q2 p2⟩
set_option maxHeartbeats 2000000 in
theorem rcmp_3 (n : Int) (t : ByteArray) (b : Bool) (e : Int) (n' : Int) (t' : ByteArray) (b' : Bool) (e' : Int) (w : World)
    (hs : (t.size : Int) ≤ 9223372036854775000) (hs' : (t'.size : Int) ≤ 9223372036854775000)
    (hA : mayB 3 n t.toList b e = true) (hB : mayB 3 n' t'.toList b' e' = true) :
    Calls Tryz.prog 47 #[vv 3 n t b e, vv 3 n' t' b' e'] w fun x w' => x = .returned (.int .i64 (cmpV 3 n t.toList b e 3 n' t'.toList b' e')) ∧ Q w w' := by
  have H := hid (cmpV_3 hA hB)
  have HM := hid (fun W => rmay_any 3 n t b e W hs)
  have HM' := hid (fun W => rmay_any 3 n' t' b' e' W hs')
  rw [hA] at HM
  rw [hB] at HM'
  clear hA hB hs hs'
  unfold vv at *
  go_enter Tryz.func47, Tryz.ntmps47
  go_wp2_with fail
  go_region
  go_wp2_with (first
    | (go_at_call_of 23 t; refine (HM.out _).mono ?_; rintro x w1 ⟨rfl, q1⟩; have p1 := Q.trans ((Q.refl _).drew) q1; obtain ⟨⟨g0, g1, g2, g3, g4⟩, g5, g6, g7, g8, g9⟩ := boxes p1)
    | (go_at_call_of 23 t'; refine (HM'.out _).mono ?_; rintro x w2 ⟨rfl, r2⟩; have p2 := p1.trans r2; obtain ⟨⟨f0, f1, f2, f3, f4⟩, f5, f6, f7, f8, f9⟩ := boxes p2)
    | (go_at_call 96; refine (sign_any _ _ _).mono ?_; rintro x w3 ⟨rfl, rfl⟩))
  all_goals go_ret
  all_goals exact ⟨ret_int (Eq.trans (by cases b <;> cases b' <;> simp_all [cmpI, tn]) H.out), q2 p2⟩
set_option maxHeartbeats 2000000 in
theorem rcmp_4 (n : Int) (t : ByteArray) (b : Bool) (e : Int) (n' : Int) (t' : ByteArray) (b' : Bool) (e' : Int) (w : World)
    (hs : (t.size : Int) ≤ 9223372036854775000) (hs' : (t'.size : Int) ≤ 9223372036854775000)
    (hA : mayB 4 n t.toList b e = true) (hB : mayB 4 n' t'.toList b' e' = true) :
    Calls Tryz.prog 47 #[vv 4 n t b e, vv 4 n' t' b' e'] w fun x w' => x = .returned (.int .i64 (cmpV 4 n t.toList b e 4 n' t'.toList b' e')) ∧ Q w w' := by
  have H := hid (cmpV_4 hA hB)
  have HM := hid (fun W => rmay_any 4 n t b e W hs)
  have HM' := hid (fun W => rmay_any 4 n' t' b' e' W hs')
  rw [hA] at HM
  rw [hB] at HM'
  clear hA hB hs hs'
  unfold vv at *
  go_enter Tryz.func47, Tryz.ntmps47
  go_wp2_with fail
  go_region
  go_wp2_with (first
    | (go_at_call_of 23 t; refine (HM.out _).mono ?_; rintro x w1 ⟨rfl, q1⟩; have p1 := Q.trans ((Q.refl _).drew) q1; obtain ⟨⟨g0, g1, g2, g3, g4⟩, g5, g6, g7, g8, g9⟩ := boxes p1)
    | (go_at_call_of 23 t'; refine (HM'.out _).mono ?_; rintro x w2 ⟨rfl, r2⟩; have p2 := p1.trans r2; obtain ⟨⟨f0, f1, f2, f3, f4⟩, f5, f6, f7, f8, f9⟩ := boxes p2)
    | (go_at_call 96; refine (sign_any _ _ _).mono ?_; rintro x w3 ⟨rfl, rfl⟩))
  go_ret
  exact ⟨ret_int H.out, q2 p2⟩
theorem rcompare_any (k n : Int) (t : ByteArray) (b : Bool) (e : Int) (k' n' : Int) (t' : ByteArray) (b' : Bool) (e' : Int) (w : World)
    (hs : (t.size : Int) ≤ 9223372036854775000) (hs' : (t'.size : Int) ≤ 9223372036854775000) :
    Calls Tryz.prog 47 #[vv k n t b e, vv k' n' t' b' e'] w fun x w' => x = .returned (.int .i64 (cmpV k n t.toList b e k' n' t'.toList b' e')) ∧ Q w w' := by
  cases hA : mayB k n t.toList b e with
  | false =>
    cases hB : mayB k' n' t'.toList b' e' with
    | false => exact rcmp_ff k k' n t b e n' t' b' e' w hs hs' hA hB
    | true => exact rcmp_ft k k' n t b e n' t' b' e' w hs hs' hA hB
  | true =>
    cases hB : mayB k' n' t'.toList b' e' with
    | false => exact rcmp_tf k k' n t b e n' t' b' e' w hs hs' hA hB
    | true =>
      by_cases hk : k = k'
      · subst hk
        have hl := may_lo hA
        rcases (by omega : k = 0 ∨ k = 1 ∨ k = 2 ∨ k = 3 ∨ k = 4) with rfl | rfl | rfl | rfl | rfl
        · exact rcmp_0 n t b e n' t' b' e' w hs hs' hA hB
        · exact rcmp_1 n t b e n' t' b' e' w hs hs' hA hB
        · cases hl : Op.bytesLess t.toList t'.toList with
          | true => exact rcmp_2a n t b e n' t' b' e' w hs hs' hA hB hl
          | false =>
            by_cases he : t.toList = t'.toList
            · exact rcmp_2b n t b e n' t' b' e' w hs hs' hA hB hl he
            · exact rcmp_2c n t b e n' t' b' e' w hs hs' hA hB hl he
        · exact rcmp_3 n t b e n' t' b' e' w hs hs' hA hB
        · exact rcmp_4 n t b e n' t' b' e' w hs hs' hA hB
      · exact rcmp_ne k k' n t b e n' t' b' e' w hs hs' hA hB hk
/-- a value of a cell, its fields -/
structure Cv where
  k : Int
  n : Int
  t : ByteArray
  b : Bool
  e : Int
def Cv.may (x : Cv) : Bool := mayB x.k x.n x.t.toList x.b x.e
def cv0 : Cv := ⟨0, 0, ⟨#[]⟩, false, 0⟩
/-- the worst so far, and one more value -/
def wstep (a : Int) (x : Cv) : Int := if x.k = 4 ∧ x.may = true ∧ (a = 0 ∨ x.e < a) then x.e else a
def worst (l : List Cv) : Int := l.foldl wstep 0
/-- where a value's five cells lie -/
structure At5 (w : World) (b o : Nat) (x : Cv) : Prop where
  c0 : w.cell? ⟨b, o, none⟩ = some (.int .i64 x.k)
  c1 : w.cell? ⟨b, o + 1, none⟩ = some (.int .i64 x.n)
  c2 : w.cell? ⟨b, o + 2, none⟩ = some (.string x.t)
  c3 : w.cell? ⟨b, o + 3, none⟩ = some (.bool x.b)
  c4 : w.cell? ⟨b, o + 4, none⟩ = some (.int .i64 x.e)
theorem At5.lt {w : World} {b o : Nat} {x : Cv} (h : At5 w b o x) : b < w.heap.size := World.block_lt_of_cell? w ⟨b, o, none⟩ h.c0
theorem At5.on {w w' : World} {b o : Nat} {x : Cv} (h : At5 w b o x) (q : Q w w') : At5 w' b o x := by
  have hl := h.lt
  constructor
  · rw [q.cell hl]; exact h.c0
  · rw [q.cell hl]; exact h.c1
  · rw [q.cell hl]; exact h.c2
  · rw [q.cell hl]; exact h.c3
  · rw [q.cell hl]; exact h.c4
set_option maxHeartbeats 2000000 in
theorem worst_row (b off len cap : Nat) (l : List Cv) (w : World) (hw : Std2 w) (hl : l.length = len) (hm : (len : Int) ≤ 1000)
    (hs : ∀ i, i < len → ((l.getD i cv0).t.size : Int) ≤ 9223372036854775000)
    (hc : ∀ i, i < len → At5 w b (off + i * 5) (l.getD i cv0)) :
    Calls Tryz.prog 38 #[.slice (some ⟨b, off, none⟩) len cap] w fun e w' => e = .returned (.int .i64 (worst l)) ∧ Q w w' := by
  have HC := hid hc
  have HL := hid hl
  have HW := hid hw
  have HS := hid hs
  clear hc hl hw hs
  go_enter Tryz.func38, Tryz.ntmps38
  go_wp2
  go_loopw [3, 8] (fun a i W => ∃ (k : Nat) (z : Int), k ≤ len ∧ i = .int .i64 k ∧ a = .int .i64 z ∧ Q w W ∧ Hid (z = (l.take k).foldl wstep 0)) (fun _ i _ => len - (intOf i).toNat)
  case atStart => exact ⟨0, 0, Nat.zero_le _, rfl, rfl, Q.refl _, rfl⟩
  case round =>
    obtain ⟨k, z, hk, rfl, rfl, hq, hz⟩ := hrel
    by_cases hlt : k < len
    · have a5 := (HC.out k hlt).on hq
      have hsz := HS.out k hlt
      have hst : Hid ((l.take (k + 1)).foldl wstep 0 = wstep z (l.getD k cv0)) := by
        show _ = _
        have hl := HL.out
        rw [List.take_succ_eq_append_getElem (by omega), List.foldl_append, ← hz.out]
        simp [List.getD_eq_getElem?_getD, List.getElem?_eq_getElem (show k < l.length by omega)]
      generalize l.getD k cv0 = x at *
      obtain ⟨xk, xn, xt, xb, xe⟩ := x
      obtain ⟨c0, c1, c2, c3, c4⟩ := a5
      simp only at c0 c1 c2 c3 c4 hsz
      by_cases h4 : xk = 4
      · subst h4
        have HM := hid (fun W (q : Q w W) => may_any 4 xn xt xb xe W (HW.out.on q) hsz)
        cases hA : mayB 4 xn xt.toList xb xe with
        | false =>
          rw [hA] at HM
          have HZ : Hid (z = (l.take (k + 1)).foldl wstep 0) := by show _ = _; rw [hst.out]; unfold wstep Cv.may; simp only [hA]; simp
          clear hA hsz
          go_wp2_with (go_at_call 80; refine (HM.out _ (hq.alloc _)).mono ?_; rintro x w1 ⟨rfl, q1⟩)
          go_roundw
          case rel => exact ⟨k + 1, z, by omega, by go_num, rfl, hq.trans (q1a q1), HZ⟩
          case measure => simp [intOf]; omega
        | true =>
          rw [hA] at HM
          by_cases h0 : z = 0
          · have HZ : Hid (xe = (l.take (k + 1)).foldl wstep 0) := by show _ = _; rw [hst.out]; unfold wstep Cv.may; simp only [hA]; simp [h0]
            subst h0
            clear hA hsz
            go_wp2_with (go_at_call 80; refine (HM.out _ (hq.alloc _)).mono ?_; rintro x w1 ⟨rfl, q1⟩; obtain ⟨g0, g1, g2, g3, g4⟩ := box0 q1)
            go_roundw
            case rel => exact ⟨k + 1, xe, by omega, by go_num, rfl, hq.trans (q1a q1), HZ⟩
            case measure => simp [intOf]; omega
          · have h0b : (z == 0) = false := beq_eq_false_iff_ne.2 h0
            by_cases hlz : xe < z
            · have HZ : Hid (xe = (l.take (k + 1)).foldl wstep 0) := by show _ = _; rw [hst.out]; unfold wstep Cv.may; simp only [hA]; simp [hlz]
              clear hA hsz h0
              go_wp2_with (go_at_call 80; refine (HM.out _ (hq.alloc _)).mono ?_; rintro x w1 ⟨rfl, q1⟩; obtain ⟨g0, g1, g2, g3, g4⟩ := box0 q1)
              go_roundw
              case rel => exact ⟨k + 1, xe, by omega, by go_num, rfl, hq.trans (q1a q1), HZ⟩
              case measure => simp [intOf]; omega
            · have HZ : Hid (z = (l.take (k + 1)).foldl wstep 0) := by show _ = _; rw [hst.out]; unfold wstep Cv.may; simp only [hA]; simp [hlz, h0]
              clear hA hsz h0
              go_wp2_with (go_at_call 80; refine (HM.out _ (hq.alloc _)).mono ?_; rintro x w1 ⟨rfl, q1⟩; obtain ⟨g0, g1, g2, g3, g4⟩ := box0 q1)
              go_roundw
              case rel => exact ⟨k + 1, z, by omega, by go_num, rfl, hq.trans (q1a q1), HZ⟩
              case measure => simp [intOf]; omega
      · have HZ : Hid (z = (l.take (k + 1)).foldl wstep 0) := by show _ = _; rw [hst.out]; unfold wstep; simp [h4]
        have h4b : (xk != 4) = true := bne_iff_ne.2 h4
        clear hsz
        go_wp2_with fail
        go_roundw
        case rel => exact ⟨k + 1, z, by omega, by go_num, rfl, hq.alloc _, HZ⟩
        case measure => simp [intOf]; omega
    · have HN : Hid (z = worst l) := by show _ = _; have h1 := hz.out; have h2 := HL.out; rw [List.take_of_length_le (by omega)] at h1; exact h1
      go_wp2
      go_ret
      exact ⟨ret_int HN.out, hq⟩
set_option maxHeartbeats 2000000 in
theorem rworst_row (b off len cap : Nat) (l : List Cv) (w : World) (hl : l.length = len) (hm : (len : Int) ≤ 1000)
    (hs : ∀ i, i < len → ((l.getD i cv0).t.size : Int) ≤ 9223372036854775000)
    (hc : ∀ i, i < len → At5 w b (off + i * 5) (l.getD i cv0)) :
    Calls Tryz.prog 22 #[.slice (some ⟨b, off, none⟩) len cap] w fun e w' => e = .returned (.int .i64 (worst l)) ∧ Q w w' := by
  have HC := hid hc
  have HL := hid hl
  have HS := hid hs
  clear hc hl hs
  go_enter Tryz.func22, Tryz.ntmps22
  go_wp2
  go_loopw [3, 4] (fun a i W => ∃ (k : Nat) (z : Int), k ≤ len ∧ i = .int .i64 k ∧ a = .int .i64 z ∧ Q w W ∧ Hid (z = (l.take k).foldl wstep 0)) (fun _ i _ => len - (intOf i).toNat)
  case atStart => exact ⟨0, 0, Nat.zero_le _, rfl, rfl, Q.refl _, rfl⟩
  case round =>
    obtain ⟨k, z, hk, rfl, rfl, hq, hz⟩ := hrel
    by_cases hlt : k < len
    · have a5 := (HC.out k hlt).on hq
      have hsz := HS.out k hlt
      have hst : Hid ((l.take (k + 1)).foldl wstep 0 = wstep z (l.getD k cv0)) := by
        show _ = _
        have hl := HL.out
        rw [List.take_succ_eq_append_getElem (by omega), List.foldl_append, ← hz.out]
        simp [List.getD_eq_getElem?_getD, List.getElem?_eq_getElem (show k < l.length by omega)]
      generalize l.getD k cv0 = x at *
      obtain ⟨xk, xn, xt, xb, xe⟩ := x
      have A5 := hid a5
      obtain ⟨c0, c1, c2, c3, c4⟩ := a5
      simp only at c0 c1 c2 c3 c4 hsz
      by_cases h4 : xk = 4
      · subst h4
        have HM := hid (fun W => rmay_any 4 xn xt xb xe W hsz)
        cases hA : mayB 4 xn xt.toList xb xe with
        | false =>
          rw [hA] at HM
          have HZ : Hid (z = (l.take (k + 1)).foldl wstep 0) := by show _ = _; rw [hst.out]; unfold wstep Cv.may; simp only [hA]; simp
          clear hA hsz
          go_wp2_with (go_at_call 23; refine (HM.out _).mono ?_; rintro x w1 ⟨rfl, q1⟩)
          go_roundw
          case rel => exact ⟨k + 1, z, by omega, by go_num, rfl, hq.trans q1, HZ⟩
          case measure => simp [intOf]; omega
        | true =>
          rw [hA] at HM
          by_cases h0 : z = 0
          · have HZ : Hid (xe = (l.take (k + 1)).foldl wstep 0) := by show _ = _; rw [hst.out]; unfold wstep Cv.may; simp only [hA]; simp [h0]
            subst h0
            clear hA hsz
            go_wp2_with (go_at_call 23; refine (HM.out _).mono ?_; rintro x w1 ⟨rfl, q1⟩; have g4 := (A5.out.on q1).c4; simp only at g4)
            go_roundw
            case rel => exact ⟨k + 1, xe, by omega, by go_num, rfl, hq.trans q1, HZ⟩
            case measure => simp [intOf]; omega
          · have h0b : (z == 0) = false := beq_eq_false_iff_ne.2 h0
            by_cases hlz : xe < z
            · have HZ : Hid (xe = (l.take (k + 1)).foldl wstep 0) := by show _ = _; rw [hst.out]; unfold wstep Cv.may; simp only [hA]; simp [hlz]
              clear hA hsz h0
              go_wp2_with (go_at_call 23; refine (HM.out _).mono ?_; rintro x w1 ⟨rfl, q1⟩; have g4 := (A5.out.on q1).c4; simp only at g4)
              go_roundw
              case rel => exact ⟨k + 1, xe, by omega, by go_num, rfl, hq.trans q1, HZ⟩
              case measure => simp [intOf]; omega
            · have HZ : Hid (z = (l.take (k + 1)).foldl wstep 0) := by show _ = _; rw [hst.out]; unfold wstep Cv.may; simp only [hA]; simp [hlz, h0]
              clear hA hsz h0
              go_wp2_with (go_at_call 23; refine (HM.out _).mono ?_; rintro x w1 ⟨rfl, q1⟩; have g4 := (A5.out.on q1).c4; simp only at g4)
              go_roundw
              case rel => exact ⟨k + 1, z, by omega, by go_num, rfl, hq.trans q1, HZ⟩
              case measure => simp [intOf]; omega
      · have HZ : Hid (z = (l.take (k + 1)).foldl wstep 0) := by show _ = _; rw [hst.out]; unfold wstep; simp [h4]
        have h4b : (xk == 4) = false := beq_eq_false_iff_ne.2 h4
        clear hsz
        go_wp2_with fail
        go_roundw
        case rel => exact ⟨k + 1, z, by omega, by go_num, rfl, hq, HZ⟩
        case measure => simp [intOf]; omega
    · have HN : Hid (z = worst l) := by show _ = _; have h1 := hz.out; have h2 := HL.out; rw [List.take_of_length_le (by omega)] at h1; exact h1
      go_wp2
      go_ret
      exact ⟨ret_int HN.out, hq⟩
/-- five cells of one block hold these, and may be written -/
structure Bx (W : World) (b : Nat) (v0 v1 v2 v3 v4 : Value) : Prop where
  c0 : W.cell? ⟨b, 0, none⟩ = some v0
  c1 : W.cell? ⟨b, 1, none⟩ = some v1
  c2 : W.cell? ⟨b, 2, none⟩ = some v2
  c3 : W.cell? ⟨b, 3, none⟩ = some v3
  c4 : W.cell? ⟨b, 4, none⟩ = some v4
  f0 : W.frozen? ⟨b, 0, none⟩ = false
  f1 : W.frozen? ⟨b, 1, none⟩ = false
  f2 : W.frozen? ⟨b, 2, none⟩ = false
  f3 : W.frozen? ⟨b, 3, none⟩ = false
  f4 : W.frozen? ⟨b, 4, none⟩ = false
  big : b < W.heap.size
theorem bx_new (W : World) (v0 v1 v2 v3 v4 : Value) : Bx (W.alloc (.cells #[v0, v1, v2, v3, v4] 37)) W.heap.size v0 v1 v2 v3 v4 := by
  constructor
  all_goals simp [World.cell?_alloc_new, World.frozen?_alloc_new]
theorem Bx.on {W W' : World} {b : Nat} {v0 v1 v2 v3 v4 : Value} (h : Bx W b v0 v1 v2 v3 v4) (q : Q W W') : Bx W' b v0 v1 v2 v3 v4 := by
  have hb := h.big
  constructor
  · rw [q.cell hb]; exact h.c0
  · rw [q.cell hb]; exact h.c1
  · rw [q.cell hb]; exact h.c2
  · rw [q.cell hb]; exact h.c3
  · rw [q.cell hb]; exact h.c4
  · rw [Below.frozen q (p := ⟨b, 0, none⟩) hb]; exact h.f0
  · rw [Below.frozen q (p := ⟨b, 1, none⟩) hb]; exact h.f1
  · rw [Below.frozen q (p := ⟨b, 2, none⟩) hb]; exact h.f2
  · rw [Below.frozen q (p := ⟨b, 3, none⟩) hb]; exact h.f3
  · rw [Below.frozen q (p := ⟨b, 4, none⟩) hb]; exact h.f4
  · exact q.lt hb
theorem Bx.far {W : World} {b b' k : Nat} {v v0 v1 v2 v3 v4 : Value} (h : Bx W b v0 v1 v2 v3 v4) (hb : b' ≠ b) : Bx (W.setCell ⟨b', k, none⟩ v) b v0 v1 v2 v3 v4 := by
  constructor
  all_goals first
    | (rw [World.cell?_setCell_far _ _ _ _ hb]; first | exact h.c0 | exact h.c1 | exact h.c2 | exact h.c3 | exact h.c4)
    | (rw [World.frozen?_setCell]; first | exact h.f0 | exact h.f1 | exact h.f2 | exact h.f3 | exact h.f4)
    | (rw [World.size_setCell]; exact h.big)
theorem Bx.set0 {W : World} {b : Nat} {v v0 v1 v2 v3 v4 : Value} (h : Bx W b v0 v1 v2 v3 v4) : Bx (W.setCell ⟨b, 0, none⟩ v) b v v1 v2 v3 v4 := by
  constructor
  · exact World.cell?_setCell_same _ _ _ h.c0
  · rw [World.cell?_setCell_other _ _ _ _ (by simp)]; exact h.c1
  · rw [World.cell?_setCell_other _ _ _ _ (by simp)]; exact h.c2
  · rw [World.cell?_setCell_other _ _ _ _ (by simp)]; exact h.c3
  · rw [World.cell?_setCell_other _ _ _ _ (by simp)]; exact h.c4
  · rw [World.frozen?_setCell]; exact h.f0
  · rw [World.frozen?_setCell]; exact h.f1
  · rw [World.frozen?_setCell]; exact h.f2
  · rw [World.frozen?_setCell]; exact h.f3
  · rw [World.frozen?_setCell]; exact h.f4
  · rw [World.size_setCell]; exact h.big
theorem Bx.set1 {W : World} {b : Nat} {v v0 v1 v2 v3 v4 : Value} (h : Bx W b v0 v1 v2 v3 v4) : Bx (W.setCell ⟨b, 1, none⟩ v) b v0 v v2 v3 v4 := by
  constructor
  · rw [World.cell?_setCell_other _ _ _ _ (by simp)]; exact h.c0
  · exact World.cell?_setCell_same _ _ _ h.c1
  · rw [World.cell?_setCell_other _ _ _ _ (by simp)]; exact h.c2
  · rw [World.cell?_setCell_other _ _ _ _ (by simp)]; exact h.c3
  · rw [World.cell?_setCell_other _ _ _ _ (by simp)]; exact h.c4
  · rw [World.frozen?_setCell]; exact h.f0
  · rw [World.frozen?_setCell]; exact h.f1
  · rw [World.frozen?_setCell]; exact h.f2
  · rw [World.frozen?_setCell]; exact h.f3
  · rw [World.frozen?_setCell]; exact h.f4
  · rw [World.size_setCell]; exact h.big
theorem Bx.set2 {W : World} {b : Nat} {v v0 v1 v2 v3 v4 : Value} (h : Bx W b v0 v1 v2 v3 v4) : Bx (W.setCell ⟨b, 2, none⟩ v) b v0 v1 v v3 v4 := by
  constructor
  · rw [World.cell?_setCell_other _ _ _ _ (by simp)]; exact h.c0
  · rw [World.cell?_setCell_other _ _ _ _ (by simp)]; exact h.c1
  · exact World.cell?_setCell_same _ _ _ h.c2
  · rw [World.cell?_setCell_other _ _ _ _ (by simp)]; exact h.c3
  · rw [World.cell?_setCell_other _ _ _ _ (by simp)]; exact h.c4
  · rw [World.frozen?_setCell]; exact h.f0
  · rw [World.frozen?_setCell]; exact h.f1
  · rw [World.frozen?_setCell]; exact h.f2
  · rw [World.frozen?_setCell]; exact h.f3
  · rw [World.frozen?_setCell]; exact h.f4
  · rw [World.size_setCell]; exact h.big
theorem Bx.set3 {W : World} {b : Nat} {v v0 v1 v2 v3 v4 : Value} (h : Bx W b v0 v1 v2 v3 v4) : Bx (W.setCell ⟨b, 3, none⟩ v) b v0 v1 v2 v v4 := by
  constructor
  · rw [World.cell?_setCell_other _ _ _ _ (by simp)]; exact h.c0
  · rw [World.cell?_setCell_other _ _ _ _ (by simp)]; exact h.c1
  · rw [World.cell?_setCell_other _ _ _ _ (by simp)]; exact h.c2
  · exact World.cell?_setCell_same _ _ _ h.c3
  · rw [World.cell?_setCell_other _ _ _ _ (by simp)]; exact h.c4
  · rw [World.frozen?_setCell]; exact h.f0
  · rw [World.frozen?_setCell]; exact h.f1
  · rw [World.frozen?_setCell]; exact h.f2
  · rw [World.frozen?_setCell]; exact h.f3
  · rw [World.frozen?_setCell]; exact h.f4
  · rw [World.size_setCell]; exact h.big
theorem Bx.set4 {W : World} {b : Nat} {v v0 v1 v2 v3 v4 : Value} (h : Bx W b v0 v1 v2 v3 v4) : Bx (W.setCell ⟨b, 4, none⟩ v) b v0 v1 v2 v3 v := by
  constructor
  · rw [World.cell?_setCell_other _ _ _ _ (by simp)]; exact h.c0
  · rw [World.cell?_setCell_other _ _ _ _ (by simp)]; exact h.c1
  · rw [World.cell?_setCell_other _ _ _ _ (by simp)]; exact h.c2
  · rw [World.cell?_setCell_other _ _ _ _ (by simp)]; exact h.c3
  · exact World.cell?_setCell_same _ _ _ h.c4
  · rw [World.frozen?_setCell]; exact h.f0
  · rw [World.frozen?_setCell]; exact h.f1
  · rw [World.frozen?_setCell]; exact h.f2
  · rw [World.frozen?_setCell]; exact h.f3
  · rw [World.frozen?_setCell]; exact h.f4
  · rw [World.size_setCell]; exact h.big
/-- the world with five cells of a block set -/
def set5 (W : World) (b : Nat) (s0 s1 s2 s3 s4 : Value) : World :=
  ((((W.setCell ⟨b, 0, none⟩ s0).setCell ⟨b, 1, none⟩ s1).setCell ⟨b, 2, none⟩ s2).setCell ⟨b, 3, none⟩ s3).setCell ⟨b, 4, none⟩ s4
theorem Bx.set5 {W : World} {b : Nat} {v0 v1 v2 v3 v4 s0 s1 s2 s3 s4 : Value} (h : Bx W b v0 v1 v2 v3 v4) : Bx (set5 W b s0 s1 s2 s3 s4) b s0 s1 s2 s3 s4 := h.set0.set1.set2.set3.set4
theorem Bx.far5 {W : World} {b b' : Nat} {v0 v1 v2 v3 v4 s0 s1 s2 s3 s4 : Value} (h : Bx W b v0 v1 v2 v3 v4) (hb : b' ≠ b) : Bx (YtfjpdopmojfchaaGreatDoor.set5 W b' s0 s1 s2 s3 s4) b v0 v1 v2 v3 v4 := ((((h.far hb).far hb).far hb).far hb).far hb
theorem Q.set5 {a w : World} (h : Q a w) {b : Nat} (hb : a.heap.size ≤ b) {s0 s1 s2 s3 s4 : Value} : Q a (YtfjpdopmojfchaaGreatDoor.set5 w b s0 s1 s2 s3 s4) := ((((h.setCell hb _).setCell hb _).setCell hb _).setCell hb _).setCell hb _
/-- three values in their boxes -/
structure B3 (w : World) (k n : Int) (t : ByteArray) (b : Bool) (e : Int) (k' n' : Int) (t' : ByteArray) (b' : Bool) (e' : Int) (k2 n2 : Int) (t2 : ByteArray) (b2 : Bool) (e2 : Int) (W : World) : Prop where
  q : Q w W
  x : Bx W w.heap.size (.int .i64 k) (.int .i64 n) (.string t) (.bool b) (.int .i64 e)
  y : Bx W (w.heap.size + 1) (.int .i64 k') (.int .i64 n') (.string t') (.bool b') (.int .i64 e')
  z : Bx W (w.heap.size + 1 + 1) (.int .i64 k2) (.int .i64 n2) (.string t2) (.bool b2) (.int .i64 e2)
theorem B3.on {w W W' : World} {k n : Int} {t : ByteArray} {b : Bool} {e : Int} {k' n' : Int} {t' : ByteArray} {b' : Bool} {e' : Int} {k2 n2 : Int} {t2 : ByteArray} {b2 : Bool} {e2 : Int} (h : B3 w k n t b e k' n' t' b' e' k2 n2 t2 b2 e2 W) (g : Q W W') : B3 w k n t b e k' n' t' b' e' k2 n2 t2 b2 e2 W' :=
  ⟨h.q.trans g, h.x.on g, h.y.on g, h.z.on g⟩
theorem B3.drew {w W : World} {k n : Int} {t : ByteArray} {b : Bool} {e : Int} {k' n' : Int} {t' : ByteArray} {b' : Bool} {e' : Int} {k2 n2 : Int} {t2 : ByteArray} {b2 : Bool} {e2 : Int} (h : B3 w k n t b e k' n' t' b' e' k2 n2 t2 b2 e2 W) : B3 w k n t b e k' n' t' b' e' k2 n2 t2 b2 e2 W.drew := h.on (Q.refl _).drew
theorem b3_new (w : World) (k n : Int) (t : ByteArray) (b : Bool) (e : Int) (k' n' : Int) (t' : ByteArray) (b' : Bool) (e' : Int) (k2 n2 : Int) (t2 : ByteArray) (b2 : Bool) (e2 : Int) :
    B3 w k n t b e k' n' t' b' e' k2 n2 t2 b2 e2 (((w.alloc (.cells #[.int .i64 k, .int .i64 n, .string t, .bool b, .int .i64 e] 37)).alloc (.cells #[.int .i64 k', .int .i64 n', .string t', .bool b', .int .i64 e'] 37)).alloc (.cells #[.int .i64 k2, .int .i64 n2, .string t2, .bool b2, .int .i64 e2] 37)) := by
  refine ⟨(((Q.refl _).alloc _).alloc _).alloc _, ?_, ?_, ?_⟩
  · exact ((bx_new w _ _ _ _ _).on ((Q.refl _).alloc _)).on ((Q.refl _).alloc _)
  · have h := bx_new (w.alloc (.cells #[.int .i64 k, .int .i64 n, .string t, .bool b, .int .i64 e] 37)) (.int .i64 k') (.int .i64 n') (.string t') (.bool b') (.int .i64 e')
    rw [World.size_alloc] at h
    exact h.on ((Q.refl _).alloc _)
  · have h := bx_new ((w.alloc (.cells #[.int .i64 k, .int .i64 n, .string t, .bool b, .int .i64 e] 37)).alloc (.cells #[.int .i64 k', .int .i64 n', .string t', .bool b', .int .i64 e'] 37)) (.int .i64 k2) (.int .i64 n2) (.string t2) (.bool b2) (.int .i64 e2)
    rw [World.size_alloc, World.size_alloc] at h
    exact h
def Cv.v (x : Cv) : Value := vv x.k x.n x.t x.b x.e
def Cv.cells (x : Cv) : List Value := [.int .i64 x.k, .int .i64 x.n, .string x.t, .bool x.b, .int .i64 x.e]
theorem Cv.len (x : Cv) : x.cells.length = 5 := rfl
def Cv.cut (x : Cv) : Cv := { x with t := cutT x.t }
/-- errors, numbers, truths, texts -/
def er (e : Int) : Cv := ⟨4, 0, ⟨#[]⟩, false, e⟩
def nu (n : Int) : Cv := ⟨1, n, ⟨#[]⟩, false, 0⟩
def bo (b : Bool) : Cv := ⟨3, 0, ⟨#[]⟩, b, 0⟩
def tx (t : ByteArray) : Cv := ⟨2, 0, t, false, 0⟩
/-- what a value counts as -/
def ctd (x : Cv) : Cv := if x.may = true then x else er 5
/-- its text is no longer than a text can be -/
def Cv.sm (x : Cv) : Prop := (x.t.size : Int) ≤ 9223372036854775000
theorem Q5 {a w : World} (h : Q a w) {b : Nat} (hb : a.heap.size ≤ b) {s0 s1 s2 s3 s4 : Value} :
    Q a (((((w.setCell ⟨b, 0, none⟩ s0).setCell ⟨b, 1, none⟩ s1).setCell ⟨b, 2, none⟩ s2).setCell ⟨b, 3, none⟩ s3).setCell ⟨b, 4, none⟩ s4) :=
  ((((h.setCell hb _).setCell hb _).setCell hb _).setCell hb _).setCell hb _
theorem failure_any (n : Int) (w : World) : Calls Tryz.prog 30 #[.int .i64 n] w fun x w' => x = .returned (er n).v ∧ Q w w' := by
  go_enter Tryz.func30, Tryz.ntmps30
  go_wp2
  exact bodyPost_ret (v := (er n).v) (by simp [results, Tryz.results30, go_sem, vv, Cv.v, er]) rfl ⟨rfl, (Q.refl _).alloc _⟩
theorem number_any (n : Int) (w : World) : Calls Tryz.prog 55 #[.int .i64 n] w fun x w' => x = .returned (nu n).v ∧ Q w w' := by
  go_enter Tryz.func55, Tryz.ntmps55
  go_wp2
  exact bodyPost_ret (v := (nu n).v) (by simp [results, Tryz.results55, go_sem, vv, Cv.v, nu]) rfl ⟨rfl, (Q.refl _).alloc _⟩
theorem btruth_any (b : Bool) (w : World) : Calls Tryz.prog 43 #[.bool b] w fun x w' => x = .returned (bo b).v ∧ Q w w' := by
  go_enter Tryz.func43, Tryz.ntmps43
  go_wp2
  exact bodyPost_ret (v := (bo b).v) (by simp [results, Tryz.results43, go_sem, vv, Cv.v, bo]) rfl ⟨rfl, (Q.refl _).alloc _⟩
theorem btext_any (t : ByteArray) (w : World) : Calls Tryz.prog 92 #[.string t] w fun x w' => x = .returned (tx t).v ∧ Q w w' := by
  go_enter Tryz.func92, Tryz.ntmps92
  go_wp2
  exact bodyPost_ret (v := (tx t).v) (by simp [results, Tryz.results92, go_sem, vv, Cv.v, tx]) rfl ⟨rfl, (Q.refl _).alloc _⟩
theorem bxz (W : World) : Bx (W.alloc (.cells #[.int .i64 0, .int .i64 0, .string ⟨#[]⟩, .bool false, .int .i64 0] 37)) W.heap.size (.int .i64 0) (.int .i64 0) (.string ⟨#[]⟩) (.bool false) (.int .i64 0) := bx_new W _ _ _ _ _
set_option maxHeartbeats 1000000 in
theorem result_any (n : Int) (b : Bool) (w : World) : Calls Tryz.prog 81 #[.int .i64 n, .bool b] w fun x w' => x = .returned (if b = true then nu n else er 4).v ∧ Q w w' := by
  have HB := hid (bxz w)
  cases b
  · have HC := hid (fun W => failure_any 4 W)
    simp only [Cv.v, vv, er, Bool.false_eq_true, if_false] at *
    go_enter Tryz.func81, Tryz.ntmps81
    go_wp2_with (go_at_call 30; refine (HC.out _).mono ?_; rintro x w1 ⟨rfl, q1⟩; have B1 := HB.out.on q1; have Q1 : Hid (Q w w1) := hid (((Q.refl _).alloc _).trans q1); clear q1; obtain ⟨d0, d1, d2, d3, d4, y0, y1, y2, y3, y4, _⟩ := B1)
    exact bodyPost_ret (v := (er 4).v) (by simp [results, Tryz.results81, go_sem, vv, Cv.v, er, d0, d1, d2, d3, d4]) rfl ⟨rfl, Q5 Q1.out (Nat.le_refl _)⟩
  · have HC := hid (fun W => number_any n W)
    simp only [Cv.v, vv, nu, if_true] at *
    go_enter Tryz.func81, Tryz.ntmps81
    go_wp2_with (go_at_call 55; refine (HC.out _).mono ?_; rintro x w1 ⟨rfl, q1⟩; have B1 := HB.out.on q1; have Q1 : Hid (Q w w1) := hid (((Q.refl _).alloc _).trans q1); clear q1; obtain ⟨d0, d1, d2, d3, d4, y0, y1, y2, y3, y4, _⟩ := B1)
    exact bodyPost_ret (v := (nu n).v) (by simp [results, Tryz.results81, go_sem, vv, Cv.v, nu, d0, d1, d2, d3, d4]) rfl ⟨rfl, Q5 Q1.out (Nat.le_refl _)⟩
set_option maxHeartbeats 1000000 in
theorem counted_any (x : Cv) (w : World) (hw : Std2 w) (hs : x.sm) : Calls Tryz.prog 37 #[x.v] w fun r w' => r = .returned (ctd x).v ∧ Q w w' := by
  obtain ⟨k, n, t, b, e⟩ := x
  have HM := hid (fun W (q : Q w W) => may_any k n t b e W (hw.on q) hs)
  have HA := hid (bx_new w (.int .i64 k) (.int .i64 n) (.string t) (.bool b) (.int .i64 e))
  have HB := hid (bxz (w.alloc (.cells #[.int .i64 k, .int .i64 n, .string t, .bool b, .int .i64 e] 37)))
  have HF := hid (fun W => failure_any 5 W)
  unfold ctd Cv.may
  simp only
  cases hm : mayB k n t.toList b e
  · rw [hm] at HM
    simp only [Cv.v, vv, er, Bool.false_eq_true, if_false] at *
    go_enter Tryz.func37, Tryz.ntmps37
    go_wp2_with (first
      | (go_at_call 80; refine (HM.out _ (((Q.refl _).alloc _).alloc _)).mono ?_; rintro x w1 ⟨rfl, q1⟩; have B1 := HB.out.on q1; have Q1 : Hid (Q w w1) := hid ((((Q.refl _).alloc _).alloc _).trans q1); clear q1)
      | (go_at_call 30; refine (HF.out _).mono ?_; rintro x w2 ⟨rfl, q1⟩; have B2 := B1.on q1; have Q2 : Hid (Q w w2) := hid (Q1.out.trans q1); clear q1; obtain ⟨d0, d1, d2, d3, d4, y0, y1, y2, y3, y4, _⟩ := B2; simp only [World.size_alloc] at *))
    exact bodyPost_ret (v := (er 5).v) (by simp [results, Tryz.results37, go_sem, vv, Cv.v, er, d0, d1, d2, d3, d4]) rfl ⟨rfl, Q5 Q2.out (by omega)⟩
  · rw [hm] at HM
    simp only [Cv.v, vv, if_true] at *
    go_enter Tryz.func37, Tryz.ntmps37
    go_wp2_with (first
      | (go_at_call 80; refine (HM.out _ (((Q.refl _).alloc _).alloc _)).mono ?_; rintro x w1 ⟨rfl, q1⟩; have A1 := (HA.out.on ((Q.refl _).alloc _)).on q1; have B1 := HB.out.on q1; have Q1 : Hid (Q w w1) := hid ((((Q.refl _).alloc _).alloc _).trans q1); clear q1; obtain ⟨a0, a1, a2, a3, a4, _⟩ := A1; obtain ⟨d0, d1, d2, d3, d4, y0, y1, y2, y3, y4, _⟩ := B1; simp only [World.size_alloc] at *))
    exact bodyPost_ret (v := .agg #[.int .i64 k, .int .i64 n, .string t, .bool b, .int .i64 e]) (by simp [results, Tryz.results37, go_sem, d0, d1, d2, d3, d4]) rfl ⟨rfl, Q5 Q1.out (by omega)⟩
theorem sl_lit {α : Type} {enc : α → List Value} {k : Nat} (hk : ∀ x, (enc x).length = k) (W : World) (xs : List α) (n : Nat) (hn : xs.length = n) (hl : n ≤ 1000) (t : TypeId) : Sl enc k (W.alloc (.cells (flat enc xs).toArray t)) (.slice (some ⟨W.heap.size, 0, none⟩) n n) xs := by
  subst hn
  refine ⟨some ⟨W.heap.size, 0, none⟩, xs.length, rfl, Nat.le_refl _, by unfold maxLen; omega, fun _ => ⟨W.heap.size, 0, rfl, fun i hi j u hu => ?_⟩⟩
  have hj : j < k := by rw [← hk xs[i]]; exact (List.getElem?_eq_some_iff.1 hu).1
  rw [World.cell?_alloc_at _ _ _ _ rfl]
  rw [← hu, ← flat_at enc hk xs i hi j hj]
  simp
/-- an argument: a range?, its slice, its values -/
structure Ag where
  r : Bool
  s : Value
  l : List Cv
def Ag.cells (a : Ag) : List Value := [.bool a.r, a.s]
theorem Ag.len (a : Ag) : a.cells.length = 2 := rfl
/-- arguments in a slice -/
structure Args (W : World) (v : Value) (A : List Ag) : Prop where
  sl : Sl Ag.cells 2 W v A
  vs : ∀ a ∈ A, Sl Cv.cells 5 W a.s a.l
theorem Args.on {W W' : World} {v : Value} {A : List Ag} (h : Args W v A) (q : Q W W') : Args W' v A := ⟨h.sl.on q, fun a ha => (h.vs a ha).on q⟩
theorem getD_at (l : List Cv) {i : Nat} (hi : i < l.length) : l.getD i cv0 = l[i] := by rw [List.getD_eq_getElem?_getD, List.getElem?_eq_getElem hi]; rfl
theorem at5_of {W : World} {b o : Nat} {x : Cv} (h : Ats Cv.cells W b o x) : At5 W b o x := ⟨h 0 _ rfl, h 1 _ rfl, h 2 _ rfl, h 3 _ rfl, h 4 _ rfl⟩
set_option maxHeartbeats 1000000 in
theorem worst_sl (l : List Cv) (v : Value) (w : World) (hw : Std2 w) (h : Sl Cv.cells 5 w v l) (hm : l.length ≤ 1000) (hs : ∀ x ∈ l, x.sm) :
    Calls Tryz.prog 38 #[v] w fun e w' => e = .returned (.int .i64 (worst l)) ∧ Q w w' := by
  obtain ⟨ao, cap, rfl, h1, h2, h3⟩ := h
  rcases Nat.eq_zero_or_pos l.length with h0 | h0
  · have hl := List.eq_nil_of_length_eq_zero h0
    subst hl
    clear h3
    simp only [List.length_nil]
    go_enter Tryz.func38, Tryz.ntmps38
    go_wp2
    refine wp_loop_rounds 1 ?_
    rw [rounds_succ]
    go_wp2
    go_ret
    exact ⟨rfl, Q.refl _⟩
  · obtain ⟨b, off, rfl, hc⟩ := h3 h0
    refine worst_row b off l.length cap l w hw rfl (by omega) (fun i hi => ?_) (fun i hi => ?_)
    · rw [getD_at _ hi]; exact hs _ (List.getElem_mem hi)
    · rw [getD_at _ hi]; exact at5_of (hc i hi)
/-- function values: an aggregate's, one of single values, a strict one -/
def AggV (W : World) (f : Value) (F : Nat) : Prop := ∃ p, f = .func (.func 103) #[] #[.pointer (some ⟨p, 0, none⟩)] ∧ W.cell? ⟨p, 0, none⟩ = some (.func (.func F) #[] #[])
def SinV (W : World) (f : Value) (F : Nat) : Prop := ∃ p, f = .func (.func 110) #[] #[.pointer (some ⟨p, 0, none⟩)] ∧ W.cell? ⟨p, 0, none⟩ = some (.func (.func F) #[] #[])
theorem fcell {W W' : World} {p : Nat} {u : Value} (h : W.cell? ⟨p, 0, none⟩ = some u) (q : Q W W') : W'.cell? ⟨p, 0, none⟩ = some u := (q.cell (World.block_lt_of_cell? W ⟨p, 0, none⟩ h)).trans h
theorem AggV.on {W W' : World} {f : Value} {F : Nat} (h : AggV W f F) (q : Q W W') : AggV W' f F := by
  obtain ⟨p, e, c⟩ := h
  exact ⟨p, e, fcell c q⟩
theorem SinV.on {W W' : World} {f : Value} {F : Nat} (h : SinV W f F) (q : Q W W') : SinV W' f F := by
  obtain ⟨p, e, c⟩ := h
  exact ⟨p, e, fcell c q⟩
def TakV (W : World) (f : Value) (K G F : Nat) : Prop := ∃ p q r, f = .func (.func 110) #[] #[.pointer (some ⟨p, 0, none⟩)] ∧ W.cell? ⟨p, 0, none⟩ = some (.func (.func K) #[] #[.pointer (some ⟨q, 0, none⟩), .pointer (some ⟨r, 0, none⟩)]) ∧ W.cell? ⟨q, 0, none⟩ = some (.func (.func G) #[] #[]) ∧ W.cell? ⟨r, 0, none⟩ = some (.func (.func F) #[] #[])
theorem TakV.on {W W' : World} {f : Value} {K G F : Nat} (h : TakV W f K G F) (q : Q W W') : TakV W' f K G F := by
  obtain ⟨p, r, t, e, c, d, g⟩ := h
  exact ⟨p, r, t, e, fcell c q, fcell d q, fcell g q⟩
theorem aggregate_any (fn : Fn) (fi ca : Array Value) (w : World) : Calls Tryz.prog 57 #[.func fn fi ca] w fun e w' => e = .returned (.agg #[.int .i64 0, .int .i64 9223372036854775807, .func (.func 103) #[] #[.pointer (some ⟨w.heap.size, 0, none⟩)]]) ∧ w'.cell? ⟨w.heap.size, 0, none⟩ = some (.func fn fi ca) ∧ w.heap.size < w'.heap.size ∧ Q w w' := by
  go_enter Tryz.func57, Tryz.ntmps57
  go_wp2
  exact bodyPost_ret (v := .agg #[.int .i64 0, .int .i64 9223372036854775807, .func (.func 103) #[] #[.pointer (some ⟨w.heap.size, 0, none⟩)]]) (by simp [results, Tryz.results57, go_sem]) rfl ⟨rfl, by simp, by simp only [World.size_alloc]; omega, ((Q.refl _).alloc _).alloc _⟩
theorem ofSingles_any (lo hi : Int) (fn : Fn) (fi ca : Array Value) (w : World) : Calls Tryz.prog 63 #[.int .i64 lo, .int .i64 hi, .func fn fi ca] w fun e w' => e = .returned (.agg #[.int .i64 lo, .int .i64 hi, .func (.func 110) #[] #[.pointer (some ⟨w.heap.size, 0, none⟩)]]) ∧ w'.cell? ⟨w.heap.size, 0, none⟩ = some (.func fn fi ca) ∧ w.heap.size < w'.heap.size ∧ Q w w' := by
  go_enter Tryz.func63, Tryz.ntmps63
  go_wp2
  exact bodyPost_ret (v := .agg #[.int .i64 lo, .int .i64 hi, .func (.func 110) #[] #[.pointer (some ⟨w.heap.size, 0, none⟩)]]) (by simp [results, Tryz.results63, go_sem]) rfl ⟨rfl, by simp, by simp only [World.size_alloc]; omega, ((Q.refl _).alloc _).alloc _⟩
/-- what 'find' has laid first -/
abbrev fz (w : World) : World := w.alloc (.cells #[.int .i64 0, .int .i64 0, .nilFunc] 58)
theorem fz_c (w : World) : (fz w).cell? ⟨w.heap.size, 0, none⟩ = some (.int .i64 0) ∧ (fz w).cell? ⟨w.heap.size, 1, none⟩ = some (.int .i64 0) ∧ (fz w).cell? ⟨w.heap.size, 2, none⟩ = some .nilFunc := ⟨by simp, by simp, by simp⟩
theorem fz_f (w : World) (j : Nat) : (fz w).frozen? ⟨w.heap.size, j, none⟩ = false := by simp [World.frozen?_alloc_new]
theorem fz_q (w : World) : Q w (fz w) := (Q.refl _).alloc _
theorem fz_on {w W : World} (q : Q (fz w) W) : W.cell? ⟨w.heap.size, 0, none⟩ = some (.int .i64 0) ∧ W.cell? ⟨w.heap.size, 1, none⟩ = some (.int .i64 0) ∧ W.cell? ⟨w.heap.size, 2, none⟩ = some .nilFunc ∧ W.frozen? ⟨w.heap.size, 0, none⟩ = false ∧ W.frozen? ⟨w.heap.size, 1, none⟩ = false ∧ W.frozen? ⟨w.heap.size, 2, none⟩ = false := by
  have hl : w.heap.size < (fz w).heap.size := by simp
  refine ⟨?_, ?_, ?_, ?_, ?_, ?_⟩
  · rw [q.cell hl]; exact (fz_c w).1
  · rw [q.cell hl]; exact (fz_c w).2.1
  · rw [q.cell hl]; exact (fz_c w).2.2
  · rw [Below.frozen q (p := ⟨w.heap.size, 0, none⟩) hl]; exact fz_f w 0
  · rw [Below.frozen q (p := ⟨w.heap.size, 1, none⟩) hl]; exact fz_f w 1
  · rw [Below.frozen q (p := ⟨w.heap.size, 2, none⟩) hl]; exact fz_f w 2
theorem fz_set {w W : World} (q : Q w W) (a b c : Value) : Q w (((W.setCell ⟨w.heap.size, 0, none⟩ a).setCell ⟨w.heap.size, 1, none⟩ b).setCell ⟨w.heap.size, 2, none⟩ c) := ((q.setCell (Nat.le_refl _) _).setCell (Nat.le_refl _) _).setCell (Nat.le_refl _) _
theorem fz_far {w W : World} {p : Nat} (hp : w.heap.size ≠ p) (a b c : Value) : (((W.setCell ⟨w.heap.size, 0, none⟩ a).setCell ⟨w.heap.size, 1, none⟩ b).setCell ⟨w.heap.size, 2, none⟩ c).cell? ⟨p, 0, none⟩ = W.cell? ⟨p, 0, none⟩ := by
  rw [World.cell?_setCell_far _ _ _ _ hp, World.cell?_setCell_far _ _ _ _ hp, World.cell?_setCell_far _ _ _ _ hp]
set_option maxHeartbeats 1000000 in
theorem find_sum (w : World) : Calls Tryz.prog 29 #[.string ⟨#[83, 85, 77]⟩] w fun e w' => ∃ f, e = .returned (.tuple #[.agg #[.int .i64 0, .int .i64 9223372036854775807, f], .bool true]) ∧ AggV w' f 58 ∧ Q w w' := by
  have HA := hid (fun W => aggregate_any (.func 58) #[] #[] W)
  go_enter Tryz.func29, Tryz.ntmps29
  go_wp2_with (go_at_call 57; refine (HA.out _).mono ?_; rintro e w1 ⟨rfl, c1, l1, q1⟩; obtain ⟨d0, d1, d2, y0, y1, y2⟩ := fz_on q1; have Q1 := hid ((fz_q w).trans q1); have C1 := hid c1; clear c1 q1)
  refine bodyPost_ret (v := .tuple #[.agg #[.int .i64 0, .int .i64 9223372036854775807, .func (.func 103) #[] #[.pointer (some ⟨w.heap.size + 1, 0, none⟩)]], .bool true]) (by simp [results, Tryz.results29, go_sem, d0, d1, d2]) rfl ?_
  exact ⟨_, rfl, ⟨w.heap.size + 1, rfl, by rw [fz_far (by omega)]; simpa using C1.out⟩, fz_set Q1.out _ _ _⟩
set_option maxHeartbeats 1000000 in
theorem find_min (w : World) : Calls Tryz.prog 29 #[.string ⟨#[77, 73, 78]⟩] w fun e w' => ∃ f, e = .returned (.tuple #[.agg #[.int .i64 0, .int .i64 9223372036854775807, f], .bool true]) ∧ AggV w' f 59 ∧ Q w w' := by
  have HA := hid (fun W => aggregate_any (.func 59) #[] #[] W)
  go_enter Tryz.func29, Tryz.ntmps29
  go_wp2_with (go_at_call 57; refine (HA.out _).mono ?_; rintro e w1 ⟨rfl, c1, l1, q1⟩; obtain ⟨d0, d1, d2, y0, y1, y2⟩ := fz_on q1; have Q1 := hid ((fz_q w).trans q1); have C1 := hid c1; clear c1 q1)
  refine bodyPost_ret (v := .tuple #[.agg #[.int .i64 0, .int .i64 9223372036854775807, .func (.func 103) #[] #[.pointer (some ⟨w.heap.size + 1, 0, none⟩)]], .bool true]) (by simp [results, Tryz.results29, go_sem, d0, d1, d2]) rfl ?_
  exact ⟨_, rfl, ⟨w.heap.size + 1, rfl, by rw [fz_far (by omega)]; simpa using C1.out⟩, fz_set Q1.out _ _ _⟩
set_option maxHeartbeats 1000000 in
theorem find_max (w : World) : Calls Tryz.prog 29 #[.string ⟨#[77, 65, 88]⟩] w fun e w' => ∃ f, e = .returned (.tuple #[.agg #[.int .i64 0, .int .i64 9223372036854775807, f], .bool true]) ∧ AggV w' f 60 ∧ Q w w' := by
  have HA := hid (fun W => aggregate_any (.func 60) #[] #[] W)
  go_enter Tryz.func29, Tryz.ntmps29
  go_wp2_with (go_at_call 57; refine (HA.out _).mono ?_; rintro e w1 ⟨rfl, c1, l1, q1⟩; obtain ⟨d0, d1, d2, y0, y1, y2⟩ := fz_on q1; have Q1 := hid ((fz_q w).trans q1); have C1 := hid c1; clear c1 q1)
  refine bodyPost_ret (v := .tuple #[.agg #[.int .i64 0, .int .i64 9223372036854775807, .func (.func 103) #[] #[.pointer (some ⟨w.heap.size + 1, 0, none⟩)]], .bool true]) (by simp [results, Tryz.results29, go_sem, d0, d1, d2]) rfl ?_
  exact ⟨_, rfl, ⟨w.heap.size + 1, rfl, by rw [fz_far (by omega)]; simpa using C1.out⟩, fz_set Q1.out _ _ _⟩
set_option maxHeartbeats 1000000 in
theorem find_count (w : World) : Calls Tryz.prog 29 #[.string ⟨#[67, 79, 85, 78, 84]⟩] w fun e w' => ∃ f, e = .returned (.tuple #[.agg #[.int .i64 0, .int .i64 9223372036854775807, f], .bool true]) ∧ AggV w' f 61 ∧ Q w w' := by
  have HA := hid (fun W => aggregate_any (.func 61) #[] #[] W)
  go_enter Tryz.func29, Tryz.ntmps29
  go_wp2_with (go_at_call 57; refine (HA.out _).mono ?_; rintro e w1 ⟨rfl, c1, l1, q1⟩; obtain ⟨d0, d1, d2, y0, y1, y2⟩ := fz_on q1; have Q1 := hid ((fz_q w).trans q1); have C1 := hid c1; clear c1 q1)
  refine bodyPost_ret (v := .tuple #[.agg #[.int .i64 0, .int .i64 9223372036854775807, .func (.func 103) #[] #[.pointer (some ⟨w.heap.size + 1, 0, none⟩)]], .bool true]) (by simp [results, Tryz.results29, go_sem, d0, d1, d2]) rfl ?_
  exact ⟨_, rfl, ⟨w.heap.size + 1, rfl, by rw [fz_far (by omega)]; simpa using C1.out⟩, fz_set Q1.out _ _ _⟩
set_option maxHeartbeats 1000000 in
theorem find_average (w : World) : Calls Tryz.prog 29 #[.string ⟨#[65, 86, 69, 82, 65, 71, 69]⟩] w fun e w' => ∃ f, e = .returned (.tuple #[.agg #[.int .i64 0, .int .i64 9223372036854775807, f], .bool true]) ∧ AggV w' f 62 ∧ Q w w' := by
  have HA := hid (fun W => aggregate_any (.func 62) #[] #[] W)
  go_enter Tryz.func29, Tryz.ntmps29
  go_wp2_with (go_at_call 57; refine (HA.out _).mono ?_; rintro e w1 ⟨rfl, c1, l1, q1⟩; obtain ⟨d0, d1, d2, y0, y1, y2⟩ := fz_on q1; have Q1 := hid ((fz_q w).trans q1); have C1 := hid c1; clear c1 q1)
  refine bodyPost_ret (v := .tuple #[.agg #[.int .i64 0, .int .i64 9223372036854775807, .func (.func 103) #[] #[.pointer (some ⟨w.heap.size + 1, 0, none⟩)]], .bool true]) (by simp [results, Tryz.results29, go_sem, d0, d1, d2]) rfl ?_
  exact ⟨_, rfl, ⟨w.heap.size + 1, rfl, by rw [fz_far (by omega)]; simpa using C1.out⟩, fz_set Q1.out _ _ _⟩
set_option maxHeartbeats 1000000 in
theorem find_if (w : World) : Calls Tryz.prog 29 #[.string ⟨#[73, 70]⟩] w fun e w' => ∃ f, e = .returned (.tuple #[.agg #[.int .i64 2, .int .i64 3, f], .bool true]) ∧ SinV w' f 64 ∧ Q w w' := by
  have HA := hid (fun W => ofSingles_any 2 3 (.func 64) #[] #[] W)
  go_enter Tryz.func29, Tryz.ntmps29
  go_wp2_with (go_at_call 63; refine (HA.out _).mono ?_; rintro e w1 ⟨rfl, c1, l1, q1⟩; obtain ⟨d0, d1, d2, y0, y1, y2⟩ := fz_on q1; have Q1 := hid ((fz_q w).trans q1); have C1 := hid c1; clear c1 q1)
  refine bodyPost_ret (v := .tuple #[.agg #[.int .i64 2, .int .i64 3, .func (.func 110) #[] #[.pointer (some ⟨w.heap.size + 1, 0, none⟩)]], .bool true]) (by simp [results, Tryz.results29, go_sem, d0, d1, d2]) rfl ?_
  exact ⟨_, rfl, ⟨w.heap.size + 1, rfl, by rw [fz_far (by omega)]; simpa using C1.out⟩, fz_set Q1.out _ _ _⟩
set_option maxHeartbeats 1000000 in
theorem find_iserror (w : World) : Calls Tryz.prog 29 #[.string ⟨#[73, 83, 69, 82, 82, 79, 82]⟩] w fun e w' => ∃ f, e = .returned (.tuple #[.agg #[.int .i64 1, .int .i64 1, f], .bool true]) ∧ SinV w' f 74 ∧ Q w w' := by
  have HA := hid (fun W => ofSingles_any 1 1 (.func 74) #[] #[] W)
  go_enter Tryz.func29, Tryz.ntmps29
  go_wp2_with (go_at_call 63; refine (HA.out _).mono ?_; rintro e w1 ⟨rfl, c1, l1, q1⟩; obtain ⟨d0, d1, d2, y0, y1, y2⟩ := fz_on q1; have Q1 := hid ((fz_q w).trans q1); have C1 := hid c1; clear c1 q1)
  refine bodyPost_ret (v := .tuple #[.agg #[.int .i64 1, .int .i64 1, .func (.func 110) #[] #[.pointer (some ⟨w.heap.size + 1, 0, none⟩)]], .bool true]) (by simp [results, Tryz.results29, go_sem, d0, d1, d2]) rfl ?_
  exact ⟨_, rfl, ⟨w.heap.size + 1, rfl, by rw [fz_far (by omega)]; simpa using C1.out⟩, fz_set Q1.out _ _ _⟩
set_option maxHeartbeats 1000000 in
theorem find_no (w : World) : Calls Tryz.prog 29 #[.string ⟨#[105, 102]⟩] w fun e w' => e = .returned (.tuple #[.agg #[.int .i64 0, .int .i64 0, .nilFunc], .bool false]) ∧ Q w w' := by
  go_enter Tryz.func29, Tryz.ntmps29
  go_wp2
  exact bodyPost_ret (v := .tuple #[.agg #[.int .i64 0, .int .i64 0, .nilFunc], .bool false]) (by simp [results, Tryz.results29, go_sem]) rfl ⟨rfl, (Q.refl _).alloc _⟩
theorem mk_bool (fn : Fn) (fi ca : Array Value) (fn' : Fn) (fi' ca' : Array Value) (w : World) : Calls Tryz.prog 65 #[.func fn fi ca, .func fn' fi' ca'] w fun e w' => e = .returned (.func (.func 112) #[] #[.pointer (some ⟨w.heap.size, 0, none⟩), .pointer (some ⟨w.heap.size + 1, 0, none⟩)]) ∧ w'.cell? ⟨w.heap.size, 0, none⟩ = some (.func fn fi ca) ∧ w'.cell? ⟨w.heap.size + 1, 0, none⟩ = some (.func fn' fi' ca') ∧ w.heap.size + 1 < w'.heap.size ∧ Q w w' := by
  go_enter Tryz.func65, Tryz.ntmps65
  go_wp2
  exact bodyPost_ret (v := .func (.func 112) #[] #[.pointer (some ⟨w.heap.size, 0, none⟩), .pointer (some ⟨w.heap.size + 1, 0, none⟩)]) (by simp [results, Tryz.results65, go_sem]) rfl ⟨rfl, by simp, by simp, by simp only [World.size_alloc]; omega, ((Q.refl _).alloc _).alloc _⟩
theorem mk_str (fn : Fn) (fi ca : Array Value) (fn' : Fn) (fi' ca' : Array Value) (w : World) : Calls Tryz.prog 40 #[.func fn fi ca, .func fn' fi' ca'] w fun e w' => e = .returned (.func (.func 86) #[] #[.pointer (some ⟨w.heap.size, 0, none⟩), .pointer (some ⟨w.heap.size + 1, 0, none⟩)]) ∧ w'.cell? ⟨w.heap.size, 0, none⟩ = some (.func fn fi ca) ∧ w'.cell? ⟨w.heap.size + 1, 0, none⟩ = some (.func fn' fi' ca') ∧ w.heap.size + 1 < w'.heap.size ∧ Q w w' := by
  go_enter Tryz.func40, Tryz.ntmps40
  go_wp2
  exact bodyPost_ret (v := .func (.func 86) #[] #[.pointer (some ⟨w.heap.size, 0, none⟩), .pointer (some ⟨w.heap.size + 1, 0, none⟩)]) (by simp [results, Tryz.results40, go_sem]) rfl ⟨rfl, by simp, by simp, by simp only [World.size_alloc]; omega, ((Q.refl _).alloc _).alloc _⟩
theorem mk_fix (fn : Fn) (fi ca : Array Value) (fn' : Fn) (fi' ca' : Array Value) (w : World) : Calls Tryz.prog 70 #[.func fn fi ca, .func fn' fi' ca'] w fun e w' => e = .returned (.func (.func 115) #[] #[.pointer (some ⟨w.heap.size, 0, none⟩), .pointer (some ⟨w.heap.size + 1, 0, none⟩)]) ∧ w'.cell? ⟨w.heap.size, 0, none⟩ = some (.func fn fi ca) ∧ w'.cell? ⟨w.heap.size + 1, 0, none⟩ = some (.func fn' fi' ca') ∧ w.heap.size + 1 < w'.heap.size ∧ Q w w' := by
  go_enter Tryz.func70, Tryz.ntmps70
  go_wp2
  exact bodyPost_ret (v := .func (.func 115) #[] #[.pointer (some ⟨w.heap.size, 0, none⟩), .pointer (some ⟨w.heap.size + 1, 0, none⟩)]) (by simp [results, Tryz.results70, go_sem]) rfl ⟨rfl, by simp, by simp, by simp only [World.size_alloc]; omega, ((Q.refl _).alloc _).alloc _⟩
set_option maxHeartbeats 1000000 in
theorem find_and (w : World) : Calls Tryz.prog 29 #[.string ⟨#[65, 78, 68]⟩] w fun e w' => ∃ f, e = .returned (.tuple #[.agg #[.int .i64 1, .int .i64 9223372036854775807, f], .bool true]) ∧ TakV w' f 112 66 67 ∧ Q w w' := by
  have HS := hid (fun W => mk_bool (.func 66) #[] #[] (.func 67) #[] #[] W)
  have HA := hid (fun W => ofSingles_any 1 9223372036854775807 (.func 112) #[] #[.pointer (some ⟨w.heap.size + 1, 0, none⟩), .pointer (some ⟨w.heap.size + 1 + 1, 0, none⟩)] W)
  go_enter Tryz.func29, Tryz.ntmps29
  go_wp2_with (first
    | (go_at_call 65; refine (HS.out _).mono ?_; rintro e w1 ⟨rfl, c1, c2, l1, q1⟩; simp only [World.size_alloc] at c1 c2 l1 ⊢; have Q1 := hid q1; have C1 := hid c1; have C2 := hid c2; clear c1 c2 q1)
    | (go_at_call 63; refine (HA.out _).mono ?_; rintro e w2 ⟨rfl, c2, l2, q2⟩; obtain ⟨d0, d1, d2, y0, y1, y2⟩ := fz_on (Q1.out.trans q2); have Q2 := hid ((fz_q w).trans (Q1.out.trans q2)); have C3 := hid c2; have C4 := hid (fcell C1.out q2); have C5 := hid (fcell C2.out q2); clear c2 q2))
  refine bodyPost_ret (v := .tuple #[.agg #[.int .i64 1, .int .i64 9223372036854775807, .func (.func 110) #[] #[.pointer (some ⟨w1.heap.size, 0, none⟩)]], .bool true]) (by simp [results, Tryz.results29, go_sem, d0, d1, d2]) rfl ?_
  exact ⟨_, rfl, ⟨w1.heap.size, w.heap.size + 1, w.heap.size + 1 + 1, rfl, by rw [fz_far (by omega)]; exact C3.out, by rw [fz_far (by omega)]; exact C4.out, by rw [fz_far (by omega)]; exact C5.out⟩, fz_set Q2.out _ _ _⟩
set_option maxHeartbeats 1000000 in
theorem find_or (w : World) : Calls Tryz.prog 29 #[.string ⟨#[79, 82]⟩] w fun e w' => ∃ f, e = .returned (.tuple #[.agg #[.int .i64 1, .int .i64 9223372036854775807, f], .bool true]) ∧ TakV w' f 112 66 68 ∧ Q w w' := by
  have HS := hid (fun W => mk_bool (.func 66) #[] #[] (.func 68) #[] #[] W)
  have HA := hid (fun W => ofSingles_any 1 9223372036854775807 (.func 112) #[] #[.pointer (some ⟨w.heap.size + 1, 0, none⟩), .pointer (some ⟨w.heap.size + 1 + 1, 0, none⟩)] W)
  go_enter Tryz.func29, Tryz.ntmps29
  go_wp2_with (first
    | (go_at_call 65; refine (HS.out _).mono ?_; rintro e w1 ⟨rfl, c1, c2, l1, q1⟩; simp only [World.size_alloc] at c1 c2 l1 ⊢; have Q1 := hid q1; have C1 := hid c1; have C2 := hid c2; clear c1 c2 q1)
    | (go_at_call 63; refine (HA.out _).mono ?_; rintro e w2 ⟨rfl, c2, l2, q2⟩; obtain ⟨d0, d1, d2, y0, y1, y2⟩ := fz_on (Q1.out.trans q2); have Q2 := hid ((fz_q w).trans (Q1.out.trans q2)); have C3 := hid c2; have C4 := hid (fcell C1.out q2); have C5 := hid (fcell C2.out q2); clear c2 q2))
  refine bodyPost_ret (v := .tuple #[.agg #[.int .i64 1, .int .i64 9223372036854775807, .func (.func 110) #[] #[.pointer (some ⟨w1.heap.size, 0, none⟩)]], .bool true]) (by simp [results, Tryz.results29, go_sem, d0, d1, d2]) rfl ?_
  exact ⟨_, rfl, ⟨w1.heap.size, w.heap.size + 1, w.heap.size + 1 + 1, rfl, by rw [fz_far (by omega)]; exact C3.out, by rw [fz_far (by omega)]; exact C4.out, by rw [fz_far (by omega)]; exact C5.out⟩, fz_set Q2.out _ _ _⟩
set_option maxHeartbeats 1000000 in
theorem find_not (w : World) : Calls Tryz.prog 29 #[.string ⟨#[78, 79, 84]⟩] w fun e w' => ∃ f, e = .returned (.tuple #[.agg #[.int .i64 1, .int .i64 1, f], .bool true]) ∧ TakV w' f 112 66 69 ∧ Q w w' := by
  have HS := hid (fun W => mk_bool (.func 66) #[] #[] (.func 69) #[] #[] W)
  have HA := hid (fun W => ofSingles_any 1 1 (.func 112) #[] #[.pointer (some ⟨w.heap.size + 1, 0, none⟩), .pointer (some ⟨w.heap.size + 1 + 1, 0, none⟩)] W)
  go_enter Tryz.func29, Tryz.ntmps29
  go_wp2_with (first
    | (go_at_call 65; refine (HS.out _).mono ?_; rintro e w1 ⟨rfl, c1, c2, l1, q1⟩; simp only [World.size_alloc] at c1 c2 l1 ⊢; have Q1 := hid q1; have C1 := hid c1; have C2 := hid c2; clear c1 c2 q1)
    | (go_at_call 63; refine (HA.out _).mono ?_; rintro e w2 ⟨rfl, c2, l2, q2⟩; obtain ⟨d0, d1, d2, y0, y1, y2⟩ := fz_on (Q1.out.trans q2); have Q2 := hid ((fz_q w).trans (Q1.out.trans q2)); have C3 := hid c2; have C4 := hid (fcell C1.out q2); have C5 := hid (fcell C2.out q2); clear c2 q2))
  refine bodyPost_ret (v := .tuple #[.agg #[.int .i64 1, .int .i64 1, .func (.func 110) #[] #[.pointer (some ⟨w1.heap.size, 0, none⟩)]], .bool true]) (by simp [results, Tryz.results29, go_sem, d0, d1, d2]) rfl ?_
  exact ⟨_, rfl, ⟨w1.heap.size, w.heap.size + 1, w.heap.size + 1 + 1, rfl, by rw [fz_far (by omega)]; exact C3.out, by rw [fz_far (by omega)]; exact C4.out, by rw [fz_far (by omega)]; exact C5.out⟩, fz_set Q2.out _ _ _⟩
set_option maxHeartbeats 1000000 in
theorem find_abs (w : World) : Calls Tryz.prog 29 #[.string ⟨#[65, 66, 83]⟩] w fun e w' => ∃ f, e = .returned (.tuple #[.agg #[.int .i64 1, .int .i64 1, f], .bool true]) ∧ TakV w' f 115 71 72 ∧ Q w w' := by
  have HS := hid (fun W => mk_fix (.func 71) #[] #[] (.func 72) #[] #[] W)
  have HA := hid (fun W => ofSingles_any 1 1 (.func 115) #[] #[.pointer (some ⟨w.heap.size + 1, 0, none⟩), .pointer (some ⟨w.heap.size + 1 + 1, 0, none⟩)] W)
  go_enter Tryz.func29, Tryz.ntmps29
  go_wp2_with (first
    | (go_at_call 70; refine (HS.out _).mono ?_; rintro e w1 ⟨rfl, c1, c2, l1, q1⟩; simp only [World.size_alloc] at c1 c2 l1 ⊢; have Q1 := hid q1; have C1 := hid c1; have C2 := hid c2; clear c1 c2 q1)
    | (go_at_call 63; refine (HA.out _).mono ?_; rintro e w2 ⟨rfl, c2, l2, q2⟩; obtain ⟨d0, d1, d2, y0, y1, y2⟩ := fz_on (Q1.out.trans q2); have Q2 := hid ((fz_q w).trans (Q1.out.trans q2)); have C3 := hid c2; have C4 := hid (fcell C1.out q2); have C5 := hid (fcell C2.out q2); clear c2 q2))
  refine bodyPost_ret (v := .tuple #[.agg #[.int .i64 1, .int .i64 1, .func (.func 110) #[] #[.pointer (some ⟨w1.heap.size, 0, none⟩)]], .bool true]) (by simp [results, Tryz.results29, go_sem, d0, d1, d2]) rfl ?_
  exact ⟨_, rfl, ⟨w1.heap.size, w.heap.size + 1, w.heap.size + 1 + 1, rfl, by rw [fz_far (by omega)]; exact C3.out, by rw [fz_far (by omega)]; exact C4.out, by rw [fz_far (by omega)]; exact C5.out⟩, fz_set Q2.out _ _ _⟩
set_option maxHeartbeats 1000000 in
theorem find_len (w : World) : Calls Tryz.prog 29 #[.string ⟨#[76, 69, 78]⟩] w fun e w' => ∃ f, e = .returned (.tuple #[.agg #[.int .i64 1, .int .i64 1, f], .bool true]) ∧ TakV w' f 86 41 73 ∧ Q w w' := by
  have HS := hid (fun W => mk_str (.func 41) #[] #[] (.func 73) #[] #[] W)
  have HA := hid (fun W => ofSingles_any 1 1 (.func 86) #[] #[.pointer (some ⟨w.heap.size + 1, 0, none⟩), .pointer (some ⟨w.heap.size + 1 + 1, 0, none⟩)] W)
  go_enter Tryz.func29, Tryz.ntmps29
  go_wp2_with (first
    | (go_at_call 40; refine (HS.out _).mono ?_; rintro e w1 ⟨rfl, c1, c2, l1, q1⟩; simp only [World.size_alloc] at c1 c2 l1 ⊢; have Q1 := hid q1; have C1 := hid c1; have C2 := hid c2; clear c1 c2 q1)
    | (go_at_call 63; refine (HA.out _).mono ?_; rintro e w2 ⟨rfl, c2, l2, q2⟩; obtain ⟨d0, d1, d2, y0, y1, y2⟩ := fz_on (Q1.out.trans q2); have Q2 := hid ((fz_q w).trans (Q1.out.trans q2)); have C3 := hid c2; have C4 := hid (fcell C1.out q2); have C5 := hid (fcell C2.out q2); clear c2 q2))
  refine bodyPost_ret (v := .tuple #[.agg #[.int .i64 1, .int .i64 1, .func (.func 110) #[] #[.pointer (some ⟨w1.heap.size, 0, none⟩)]], .bool true]) (by simp [results, Tryz.results29, go_sem, d0, d1, d2]) rfl ?_
  exact ⟨_, rfl, ⟨w1.heap.size, w.heap.size + 1, w.heap.size + 1 + 1, rfl, by rw [fz_far (by omega)]; exact C3.out, by rw [fz_far (by omega)]; exact C4.out, by rw [fz_far (by omega)]; exact C5.out⟩, fz_set Q2.out _ _ _⟩
set_option maxHeartbeats 1000000 in
theorem find_concat (w : World) : Calls Tryz.prog 29 #[.string ⟨#[67, 79, 78, 67, 65, 84]⟩] w fun e w' => ∃ f, e = .returned (.tuple #[.agg #[.int .i64 0, .int .i64 9223372036854775807, f], .bool true]) ∧ TakV w' f 86 41 42 ∧ Q w w' := by
  have HS := hid (fun W => mk_str (.func 41) #[] #[] (.func 42) #[] #[] W)
  have HA := hid (fun W => ofSingles_any 0 9223372036854775807 (.func 86) #[] #[.pointer (some ⟨w.heap.size + 1, 0, none⟩), .pointer (some ⟨w.heap.size + 1 + 1, 0, none⟩)] W)
  go_enter Tryz.func29, Tryz.ntmps29
  go_wp2_with (first
    | (go_at_call 40; refine (HS.out _).mono ?_; rintro e w1 ⟨rfl, c1, c2, l1, q1⟩; simp only [World.size_alloc] at c1 c2 l1 ⊢; have Q1 := hid q1; have C1 := hid c1; have C2 := hid c2; clear c1 c2 q1)
    | (go_at_call 63; refine (HA.out _).mono ?_; rintro e w2 ⟨rfl, c2, l2, q2⟩; obtain ⟨d0, d1, d2, y0, y1, y2⟩ := fz_on (Q1.out.trans q2); have Q2 := hid ((fz_q w).trans (Q1.out.trans q2)); have C3 := hid c2; have C4 := hid (fcell C1.out q2); have C5 := hid (fcell C2.out q2); clear c2 q2))
  refine bodyPost_ret (v := .tuple #[.agg #[.int .i64 0, .int .i64 9223372036854775807, .func (.func 110) #[] #[.pointer (some ⟨w1.heap.size, 0, none⟩)]], .bool true]) (by simp [results, Tryz.results29, go_sem, d0, d1, d2]) rfl ?_
  exact ⟨_, rfl, ⟨w1.heap.size, w.heap.size + 1, w.heap.size + 1 + 1, rfl, by rw [fz_far (by omega)]; exact C3.out, by rw [fz_far (by omega)]; exact C4.out, by rw [fz_far (by omega)]; exact C5.out⟩, fz_set Q2.out _ _ _⟩
theorem abs_prod (a b : Int) (ha : Fx a) (hb : Fx b) : (a.natAbs : Int) * (b.natAbs : Int) < 6277101735386680763835789423207666416102355444464034512896 := by
  have h1 := ha.lo; have h2 := ha.hi; have h3 := hb.lo; have h4 := hb.hi
  have h := Int.mul_le_mul (show (a.natAbs : Int) ≤ 9223372036854775808 by omega) (show (b.natAbs : Int) ≤ 9223372036854775808 by omega) (by omega) (by omega)
  omega
set_option maxHeartbeats 1000000 in
theorem rmul_any (a b : Int) (w : World) (ha : Fx a) (hb : Fx b) :
    Calls Tryz.prog 52 #[.int .i64 a, .int .i64 b] w fun e w' => e = .returned (.tuple #[.int .i64 (keep (mulV a b)), .bool (fitB (mulV a b))]) ∧ Q w w' := by
  have la := natAbs_lt ha
  have lb := natAbs_lt hb
  have HA := hid (fun W => abs_any a W ha)
  have HB := hid (fun W => abs_any b W hb)
  have HP := hid (abs_prod a b ha hb)
  have HO := hid (fun W => one_any (a.natAbs : Int) W (by omega) (by omega))
  have hE : Hid (((a.natAbs * b.natAbs / 10000 : Nat) : Int) = (a.natAbs : Int) * (b.natAbs : Int) / 10000) := by show _ = _; rw [Int.natCast_ediv, Int.natCast_mul]; rfl
  have hM : Hid (mulV a b = sgn ((a.natAbs : Int) * (b.natAbs : Int) / 10000) (decide (a < 0) != decide (b < 0))) := by show _ = _; unfold mulV; rw [hE.out]
  rw [hM.out]
  have l2 : Hid ((b.natAbs : Int) < 18446744073709551616) := by show _ < _; omega
  clear la lb hE hM
  go_enter Tryz.func52, Tryz.ntmps52
  go_wp2_with (first
    | (go_at_call_of 102 a; refine (HA.out _).mono ?_; rintro e w1 ⟨rfl, rfl⟩)
    | (go_at_call 101; refine (HO.out _).mono ?_; rintro e w2 ⟨⟨x0, x1, x2, x3, x4, x5, rfl, dx⟩, q2⟩)
    | (go_at_call_of 102 b; refine (HB.out _).mono ?_; rintro e w3 ⟨rfl, rfl⟩)
    | (go_at_call 100; refine (times_any x0 x1 x2 x3 x4 x5 (a.natAbs : Int) (b.natAbs : Int) _ dx (by omega) l2.out HP.out).mono ?_; rintro e w4 ⟨⟨y0, y1, y2, y3, y4, y5, rfl, dy⟩, q4⟩)
    | (go_at_call 99; refine (quo_any y0 y1 y2 y3 y4 y5 _ 10000 _ dy (by omega) (by omega)).mono ?_; rintro e w5 ⟨⟨z0, z1, z2, z3, z4, z5, rfl, dz⟩, q5⟩)
    | (go_at_call 98; refine (fix_any z0 z1 z2 z3 z4 z5 _ (decide (a < 0) != decide (b < 0)) _ dz).mono ?_; rintro e w6 ⟨rfl, q6⟩))
  go_ret2
  exact ⟨rfl, ((q2.trans q4).trans q5).trans q6⟩
theorem ten_prod (a : Int) (ha : Fx a) : (a.natAbs : Int) * 10000 < 6277101735386680763835789423207666416102355444464034512896 := by
  have h1 := ha.lo; have h2 := ha.hi
  omega
set_option maxHeartbeats 1000000 in
theorem rdiv_any (a b : Int) (w : World) (ha : Fx a) (hb : Fx b) (hz : (b == 0) = false) :
    Calls Tryz.prog 53 #[.int .i64 a, .int .i64 b] w fun e w' => e = .returned (.tuple #[.int .i64 (keep (divV a b)), .bool (fitB (divV a b))]) ∧ Q w w' := by
  have la := natAbs_lt ha
  have lb := natAbs_lt hb
  have hne : b ≠ 0 := beq_eq_false_iff_ne.1 hz
  have HA := hid (fun W => abs_any a W ha)
  have HB := hid (fun W => abs_any b W hb)
  have HP := hid (ten_prod a ha)
  have HO := hid (fun W => one_any (a.natAbs : Int) W (by omega) (by omega))
  have hE : Hid (((a.natAbs * 10000 / b.natAbs : Nat) : Int) = (a.natAbs : Int) * 10000 / (b.natAbs : Int)) := by show _ = _; rw [Int.natCast_ediv, Int.natCast_mul]; rfl
  have hM : Hid (divV a b = sgn ((a.natAbs : Int) * 10000 / (b.natAbs : Int)) (decide (a < 0) != decide (b < 0))) := by show _ = _; unfold divV; rw [hE.out]
  rw [hM.out]
  have l2 : Hid ((b.natAbs : Int) < 18446744073709551616) := by show _ < _; omega
  have p2 : Hid (0 < (b.natAbs : Int)) := by show _ < _; omega
  clear la lb hE hM hne
  go_enter Tryz.func53, Tryz.ntmps53
  go_wp2_with (first
    | (go_at_call_of 102 a; refine (HA.out _).mono ?_; rintro e w1 ⟨rfl, rfl⟩)
    | (go_at_call 101; refine (HO.out _).mono ?_; rintro e w2 ⟨⟨x0, x1, x2, x3, x4, x5, rfl, dx⟩, q2⟩)
    | (go_at_call_of 102 b; refine (HB.out _).mono ?_; rintro e w3 ⟨rfl, rfl⟩)
    | (go_at_call 100; refine (times_any x0 x1 x2 x3 x4 x5 (a.natAbs : Int) 10000 _ dx (by omega) (by omega) HP.out).mono ?_; rintro e w4 ⟨⟨y0, y1, y2, y3, y4, y5, rfl, dy⟩, q4⟩)
    | (go_at_call 99; refine (quo_any y0 y1 y2 y3 y4 y5 _ (b.natAbs : Int) _ dy p2.out l2.out).mono ?_; rintro e w5 ⟨⟨z0, z1, z2, z3, z4, z5, rfl, dz⟩, q5⟩)
    | (go_at_call 98; refine (fix_any z0 z1 z2 z3 z4 z5 _ (decide (a < 0) != decide (b < 0)) _ dz).mono ?_; rintro e w6 ⟨rfl, q6⟩))
  go_ret2
  exact ⟨rfl, ((q2.trans q4).trans q5).trans q6⟩
end Go.Proofs.YtfjpdopmojfchaaGreatDoor
