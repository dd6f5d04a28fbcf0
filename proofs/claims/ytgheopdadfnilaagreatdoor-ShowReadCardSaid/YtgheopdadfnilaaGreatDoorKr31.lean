/- show.Read, walked; The reference's Num, Txt, Boo, Err, Eq; UTF-8, plainly: what stands behind a lead byte. No program in this text. -/
import Derived.Test.YtgheopdadfnilaaGreatDoorKr30
import Derived.Test.YtgheopdadfnilaaGreatDoorKr24
import Derived.Lib.ValidLaws
set_option linter.unusedVariables false
set_option linter.unusedSimpArgs false
set_option maxRecDepth 100000
namespace Go.Proofs.YtgheopdadfnilaaGreatDoor
open Go.RowKit
def valT (l : List UInt8) : Cl × Nat := if V.mayB (rvT l).1 (rvT l).2.1 (rvT l).2.2.1 (rvT l).2.2.2.1 (rvT l).2.2.2.2 then ((false, rvT l, zeroE), 0) else (zC, 2)
def showT (l : List UInt8) (x : Ex × Nat) : Cl × Nat := if Lib.hasPrefix l [61] then frm x else valT l
theorem rvT_len (l : List UInt8) : (rvT l).2.2.1.length ≤ l.length := by
  unfold rvT
  repeat' split
  all_goals simp
set_option maxHeartbeats 4000000 in
theorem read_eq (s T : ByteArray) (x : Ex × Nat) (w : World) (hw : Std w) (hp : Lib.hasPrefix s.data.toList [61] = true) (hT : (⟨(s.data.toList.drop 1).toArray⟩ : ByteArray) = T) (HP : Hid (∀ W, Std W → Calls Tryz.prog 76 #[.string T] W fun e W' => RepR W x e W')) : Calls Tryz.prog 16 #[.string s] w fun e W' => RepC w (frm x) e W' := by
  have HW := hid hw
  have HC : Hid (∀ W, Calls Tryz.prog 40 #[.string s, .string ⟨#[61]⟩] W fun e w' => e = .returned (.tuple #[.string T, .bool true]) ∧ w' = W) := by
    intro W
    have := Tryz.strings_CutPrefix s ⟨#[61]⟩ W
    rw [show (⟨#[61]⟩ : ByteArray).data.toList = [61] from rfl, hp] at this
    rw [← hT]
    have e : Lib.trimPrefix s.data.toList [61] = s.data.toList.drop 1 := by unfold Lib.trimPrefix; rw [hp]; rfl
    rw [e] at this
    exact this
  have HR := hid (fun W (g : Std W) => readFormula_any T x W (hid fun W' q => HP.out W' (g.on q)))
  have HZ := hid (cb_new w [.bool false, .int .i64 0, .int .i64 0, .string ⟨#[]⟩, .bool false, .int .i64 0, .int .i64 0, .int .i64 0, .string ⟨#[]⟩, .bool false, .int .i64 0, .slice none 0 0, .slice none 0 0] 39)
  clear hw hp hT HP
  go_enter Tryz.func16, Tryz.ntmps16
  go_wp2_with (first | (go_at_call 40; refine (HC.out _).mono ?_; rintro e9 w9 ⟨rfl, h9⟩; replace h9 := h9.symm; subst h9) | (go_at_call 41; refine (HR.out _ (HW.out.on ((Q.refl _).alloc _))).mono ?_; rintro e9 w1 ⟨v9, rfl, hr, q1⟩; obtain ⟨k, m, t, bb, er, a1, l1, c1, a2, l2, c2, rfl, hrd⟩ := hr; have R1 := hid hrd; have hs1 : w.heap.size < w1.heap.size := (by have := q1.size; simp at this; omega); have Z1 := hid (HZ.out.on q1); have Q1 : Hid (Q w w1) := hid (((Q.refl _).alloc _).trans q1); clear hrd q1; have d0 := Z1.out.c 0 _ rfl; have d1 := Z1.out.c 1 _ rfl; have d2 := Z1.out.c 2 _ rfl; have d3 := Z1.out.c 3 _ rfl; have d4 := Z1.out.c 4 _ rfl; have d5 := Z1.out.c 5 _ rfl; have d6 := Z1.out.c 6 _ rfl; have d7 := Z1.out.c 7 _ rfl; have d8 := Z1.out.c 8 _ rfl; have d9 := Z1.out.c 9 _ rfl; have d10 := Z1.out.c 10 _ rfl; have d11 := Z1.out.c 11 _ rfl; have d12 := Z1.out.c 12 _ rfl; have y0 := Z1.out.f 0; have y1 := Z1.out.f 1; have y2 := Z1.out.f 2; have y3 := Z1.out.f 3; have y4 := Z1.out.f 4; have y5 := Z1.out.f 5; have y6 := Z1.out.f 6; have y7 := Z1.out.f 7; have y8 := Z1.out.f 8; have y9 := Z1.out.f 9; have y10 := Z1.out.f 10; have y11 := Z1.out.f 11; have y12 := Z1.out.f 12))
  refine bodyPost_ret (v := .tuple #[.agg #[.bool (frm x).1.1, .int .i64 (frm x).1.2.1.1, .int .i64 (frm x).1.2.1.2.1, .string ⟨(frm x).1.2.1.2.2.1.toArray⟩, .bool (frm x).1.2.1.2.2.2.1, .int .i64 (frm x).1.2.1.2.2.2.2, .int .i64 k, .int .i64 m, .string t, .bool bb, .int .i64 er, .slice a1 l1 c1, .slice a2 l2 c2], .int .i64 ((frm x).2 : Int)]) (by simp [results, Tryz.results16, go_sem, hs1, d0, d1, d2, d3, d4, d5, d6, d7, d8, d9, d10, d11, d12]) rfl ?_
  refine ⟨_, rfl, ⟨k, m, t, bb, er, a1, l1, c1, a2, l2, c2, rfl, ?_⟩, by repeat (first | with_reducible exact Q1.out | with_reducible refine Q.setCell ?_ (Nat.le_refl _) _ | with_reducible refine Q.alloc ?_ _)⟩
  exact Rdg.mono (fun b hb => by simp at hb; omega) _ _ (Rdg.on (p := w.heap.size) (show Qx w.heap.size w1 _ from by repeat (first | with_reducible exact Qx.refl _ _ | with_reducible refine Qx.own ?_ _ _ | with_reducible refine Qx.alloc ?_ _)) (fun b hb => by simp at hb; omega) _ _ R1.out)
set_option maxHeartbeats 4000000 in
theorem read_val (s : ByteArray) (w : World) (hw : Std w) (hs : s.size ≤ 100000) (hp : Lib.hasPrefix s.data.toList [61] = false) : Calls Tryz.prog 16 #[.string s] w fun e W' => RepC w (valT s.data.toList) e W' := by
  have HW := hid hw
  have HC : Hid (∀ W, Calls Tryz.prog 40 #[.string s, .string ⟨#[61]⟩] W fun e w' => e = .returned (.tuple #[.string ⟨(Lib.trimPrefix s.data.toList [61]).toArray⟩, .bool false]) ∧ w' = W) := by
    intro W
    have := Tryz.strings_CutPrefix s ⟨#[61]⟩ W
    rw [show (⟨#[61]⟩ : ByteArray).data.toList = [61] from rfl, hp] at this
    exact this
  generalize (⟨(Lib.trimPrefix s.data.toList [61]).toArray⟩ : ByteArray) = T9 at HC
  have HV := hid (fun W (g : Std W) => readValue_any s W g hs)
  have hl := rvT_len s.data.toList
  unfold valT
  generalize rvT s.data.toList = v at HV hl ⊢
  obtain ⟨k, n, t, b, e⟩ := v
  simp only at hl ⊢
  rw [len_data] at hl
  have HM := hid (fun W (g : Std W) => V.may_any k n ⟨t.toArray⟩ b e W g (by rw [size_mk]; omega))
  unfold V.vv at HM
  unfold vL vx at HV
  simp only at HV
  rw [show (⟨t.toArray⟩ : ByteArray).toList = t from by rw [Lib.toList_data]] at HM
  have HZ := hid (cb_new w [.bool false, .int .i64 0, .int .i64 0, .string ⟨#[]⟩, .bool false, .int .i64 0, .int .i64 0, .int .i64 0, .string ⟨#[]⟩, .bool false, .int .i64 0, .slice none 0 0, .slice none 0 0] 39)
  clear hw hp hl
  by_cases hm : V.mayB k n t b e = true
  · rw [hm] at HM
    rw [if_pos hm]
    have HD : ∀ B W, RdC B W (false, (k, n, t, b, e), zeroE) _ := fun B W => rdc_val B W (k, n, t, b, e) false
    simp only at HD
    generalize (⟨t.toArray⟩ : ByteArray) = tt at HM HV HD
    clear hm
    go_enter Tryz.func16, Tryz.ntmps16
    go_wp2_with (first | (go_at_call 40; refine (HC.out _).mono ?_; rintro e9 w9 ⟨rfl, h9⟩; replace h9 := h9.symm; subst h9) | (go_at_call 42; refine (HV.out _ (HW.out.on ((Q.refl _).alloc _))).mono ?_; rintro e9 w1 ⟨rfl, q1⟩; have hs1 : w.heap.size < w1.heap.size := (by have := q1.size; simp at this; omega); have Z1 := hid (HZ.out.on q1); have Q1 : Hid (Q w w1) := hid (((Q.refl _).alloc _).trans q1); have X1 := hid (cb_new w1 [.int .i64 k, .int .i64 n, .string tt, .bool b, .int .i64 e] 37); clear q1) | (go_at_call 43; refine (HM.out _ (HW.out.on (Q1.out.alloc _))).mono ?_; rintro e9 w2 ⟨rfl, q2⟩; have hs2 : w.heap.size < w2.heap.size := (by have := q2.size; simp at this; omega); have Z2 := hid (Z1.out.on (((Q.refl _).alloc _).trans q2)); have X2 := hid (X1.out.on q2); have Q2 : Hid (Q w w2) := hid ((Q1.out.alloc _).trans q2); clear q2; have d0 := Z2.out.c 0 _ rfl; have d1 := Z2.out.c 1 _ rfl; have d2 := Z2.out.c 2 _ rfl; have d3 := Z2.out.c 3 _ rfl; have d4 := Z2.out.c 4 _ rfl; have d5 := Z2.out.c 5 _ rfl; have d6 := Z2.out.c 6 _ rfl; have d7 := Z2.out.c 7 _ rfl; have d8 := Z2.out.c 8 _ rfl; have d9 := Z2.out.c 9 _ rfl; have d10 := Z2.out.c 10 _ rfl; have d11 := Z2.out.c 11 _ rfl; have d12 := Z2.out.c 12 _ rfl; have y0 := Z2.out.f 0; have y1 := Z2.out.f 1; have y2 := Z2.out.f 2; have y3 := Z2.out.f 3; have y4 := Z2.out.f 4; have y5 := Z2.out.f 5; have y6 := Z2.out.f 6; have y7 := Z2.out.f 7; have y8 := Z2.out.f 8; have y9 := Z2.out.f 9; have y10 := Z2.out.f 10; have y11 := Z2.out.f 11; have y12 := Z2.out.f 12; have n0 := X2.out.c 0 _ rfl; have n1 := X2.out.c 1 _ rfl; have n2 := X2.out.c 2 _ rfl; have n3 := X2.out.c 3 _ rfl; have n4 := X2.out.c 4 _ rfl))
    refine bodyPost_ret (v := .tuple #[.agg #[.bool false, .int .i64 k, .int .i64 n, .string tt, .bool b, .int .i64 e, .int .i64 0, .int .i64 0, .string ⟨#[]⟩, .bool false, .int .i64 0, .slice none 0 0, .slice none 0 0], .int .i64 0]) (by simp [results, Tryz.results16, go_sem, hs2, d0, d1, d2, d3, d4, d5, d6, d7, d8, d9, d10, d11, d12]) rfl ?_
    exact ⟨_, rfl, HD _ _, by repeat (first | with_reducible exact Q2.out | with_reducible refine Q.setCell ?_ (Nat.le_refl _) _ | with_reducible refine Q.alloc ?_ _)⟩
  · have hm' : V.mayB k n t b e = false := by simpa using hm
    rw [hm'] at HM
    rw [if_neg hm]
    generalize (⟨t.toArray⟩ : ByteArray) = tt at HM HV
    clear hm hm'
    go_enter Tryz.func16, Tryz.ntmps16
    go_wp2_with (first | (go_at_call 40; refine (HC.out _).mono ?_; rintro e9 w9 ⟨rfl, h9⟩; replace h9 := h9.symm; subst h9) | (go_at_call 42; refine (HV.out _ (HW.out.on ((Q.refl _).alloc _))).mono ?_; rintro e9 w1 ⟨rfl, q1⟩; have hs1 : w.heap.size < w1.heap.size := (by have := q1.size; simp at this; omega); have Z1 := hid (HZ.out.on q1); have Q1 : Hid (Q w w1) := hid (((Q.refl _).alloc _).trans q1); clear q1) | (go_at_call 43; refine (HM.out _ (HW.out.on (Q1.out.alloc _))).mono ?_; rintro e9 w2 ⟨rfl, q2⟩; have hs2 : w.heap.size < w2.heap.size := (by have := q2.size; simp at this; omega); have Z2 := hid (Z1.out.on (((Q.refl _).alloc _).trans q2)); have Q2 : Hid (Q w w2) := hid ((Q1.out.alloc _).trans q2); clear q2; have d0 := Z2.out.c 0 _ rfl; have d1 := Z2.out.c 1 _ rfl; have d2 := Z2.out.c 2 _ rfl; have d3 := Z2.out.c 3 _ rfl; have d4 := Z2.out.c 4 _ rfl; have d5 := Z2.out.c 5 _ rfl; have d6 := Z2.out.c 6 _ rfl; have d7 := Z2.out.c 7 _ rfl; have d8 := Z2.out.c 8 _ rfl; have d9 := Z2.out.c 9 _ rfl; have d10 := Z2.out.c 10 _ rfl; have d11 := Z2.out.c 11 _ rfl; have d12 := Z2.out.c 12 _ rfl; have y0 := Z2.out.f 0; have y1 := Z2.out.f 1; have y2 := Z2.out.f 2; have y3 := Z2.out.f 3; have y4 := Z2.out.f 4; have y5 := Z2.out.f 5; have y6 := Z2.out.f 6; have y7 := Z2.out.f 7; have y8 := Z2.out.f 8; have y9 := Z2.out.f 9; have y10 := Z2.out.f 10; have y11 := Z2.out.f 11; have y12 := Z2.out.f 12))
    refine bodyPost_ret (v := .tuple #[.agg #[.bool false, .int .i64 0, .int .i64 0, .string ⟨#[]⟩, .bool false, .int .i64 0, .int .i64 0, .int .i64 0, .string ⟨#[]⟩, .bool false, .int .i64 0, .slice none 0 0, .slice none 0 0], .int .i64 2]) (by simp [results, Tryz.results16, go_sem, hs2, d0, d1, d2, d3, d4, d5, d6, d7, d8, d9, d10, d11, d12]) rfl ?_
    exact ⟨_, rfl, rdc_val _ _ zV false, by repeat (first | with_reducible exact Q2.out | with_reducible refine Q.setCell ?_ (Nat.le_refl _) _ | with_reducible refine Q.alloc ?_ _)⟩
theorem rNum_any (n : Int) (w : World) : Calls Tryz.prog 45 #[.int .i64 n] w fun e w' => e = .returned (.agg #[.int .i64 1, .int .i64 n, .string ⟨#[]⟩, .bool false, .int .i64 0]) ∧ Q w w' := by
  go_enter Tryz.func45, Tryz.ntmps45
  go_wp2_with fail
  refine bodyPost_ret (v := .agg #[.int .i64 1, .int .i64 n, .string ⟨#[]⟩, .bool false, .int .i64 0]) (by simp [results, Tryz.results45, go_sem]) rfl ?_
  exact ⟨rfl, by repeat (first | with_reducible exact Q.refl _ | with_reducible refine Q.alloc ?_ _ | with_reducible refine Q.setCell ?_ (Nat.le_refl _) _)⟩
theorem rTxt_any (s : ByteArray) (w : World) : Calls Tryz.prog 24 #[.string s] w fun e w' => e = .returned (.agg #[.int .i64 2, .int .i64 0, .string s, .bool false, .int .i64 0]) ∧ Q w w' := by
  go_enter Tryz.func24, Tryz.ntmps24
  go_wp2_with fail
  refine bodyPost_ret (v := .agg #[.int .i64 2, .int .i64 0, .string s, .bool false, .int .i64 0]) (by simp [results, Tryz.results24, go_sem]) rfl ?_
  exact ⟨rfl, by repeat (first | with_reducible exact Q.refl _ | with_reducible refine Q.alloc ?_ _ | with_reducible refine Q.setCell ?_ (Nat.le_refl _) _)⟩
theorem rBoo_any (b : Bool) (w : World) : Calls Tryz.prog 46 #[.bool b] w fun e w' => e = .returned (.agg #[.int .i64 3, .int .i64 0, .string ⟨#[]⟩, .bool b, .int .i64 0]) ∧ Q w w' := by
  go_enter Tryz.func46, Tryz.ntmps46
  go_wp2_with fail
  refine bodyPost_ret (v := .agg #[.int .i64 3, .int .i64 0, .string ⟨#[]⟩, .bool b, .int .i64 0]) (by simp [results, Tryz.results46, go_sem]) rfl ?_
  exact ⟨rfl, by repeat (first | with_reducible exact Q.refl _ | with_reducible refine Q.alloc ?_ _ | with_reducible refine Q.setCell ?_ (Nat.le_refl _) _)⟩
theorem rErr_any (n : Int) (w : World) : Calls Tryz.prog 47 #[.int .i64 n] w fun e w' => e = .returned (.agg #[.int .i64 4, .int .i64 0, .string ⟨#[]⟩, .bool false, .int .i64 n]) ∧ Q w w' := by
  go_enter Tryz.func47, Tryz.ntmps47
  go_wp2_with fail
  refine bodyPost_ret (v := .agg #[.int .i64 4, .int .i64 0, .string ⟨#[]⟩, .bool false, .int .i64 n]) (by simp [results, Tryz.results47, go_sem]) rfl ?_
  exact ⟨rfl, by repeat (first | with_reducible exact Q.refl _ | with_reducible refine Q.alloc ?_ _ | with_reducible refine Q.setCell ?_ (Nat.le_refl _) _)⟩
set_option maxHeartbeats 4000000 in
theorem req_same (k n : Int) (t : ByteArray) (b : Bool) (e : Int) (w : World) : Calls Tryz.prog 49 #[.agg #[.int .i64 k, .int .i64 n, .string t, .bool b, .int .i64 e], .agg #[.int .i64 k, .int .i64 n, .string t, .bool b, .int .i64 e]] w fun x w' => x = .returned (.bool true) ∧ Q w w' := by
  have e0 : (k == k) = true := by simp
  have e1 : (n == n) = true := by simp
  have e2 : (t.toList == t.toList) = true := by simp
  have e3 : (b == b) = true := by simp
  have e4 : (e == e) = true := by simp
  go_enter Tryz.func49, Tryz.ntmps49
  go_wp2_with fail
  go_ret
  exact ⟨rfl, ((Q.refl _).alloc _).alloc _⟩
end Go.Proofs.YtgheopdadfnilaaGreatDoor
namespace Go.Proofs.YtgheopdadfnilaaGreatDoor.V
open Go Go.Lib
theorem lead_bad (m : List UInt8) (hne : m ≠ []) (c : Nat) (ec : (m.getD 0 0).toNat = c) (h : (128 ≤ c ∧ c < 194) ∨ 245 ≤ c) : validD m = false := by
  have hc : c < 256 := by rw [← ec]; exact (m.getD 0 0).toNat_lt
  rw [validD_lead m hne (by rw [ec]; omega), ec]
  have hf : firstT c % 8 = 1 := by
    unfold firstT
    repeat' split
    all_goals first | omega | rfl
  rw [hf]
  simp [checkN]
theorem lead2 (m : List UInt8) (hne : m ≠ []) (c : Nat) (ec : (m.getD 0 0).toNat = c) (h : 194 ≤ c ∧ c ≤ 223) :
    validD m = if m.length < 2 ∨ (m.getD 1 0).toNat < 128 ∨ 191 < (m.getD 1 0).toNat then false else validD (m.drop 2) := by
  rw [validD_lead m hne (by rw [ec]; omega), ec]
  have hf : firstT c = 2 := by
    unfold firstT
    repeat' split
    all_goals first | omega | rfl
  rw [hf]
  unfold checkN
  simp only [show 2 % 8 = 2 from rfl, if_true]
  have e1 : accLo (2 / 16) = 128 := by decide
  have e2 : accHi (2 / 16) = 191 := by decide
  rw [e1, e2]
  by_cases hh : m.length < 2 ∨ (m.getD 1 0).toNat < 128 ∨ 191 < (m.getD 1 0).toNat
  · rw [if_pos hh, if_pos hh]
  · rw [if_neg hh, if_neg hh]
theorem lead3 (m : List UInt8) (hne : m ≠ []) (c : Nat) (ec : (m.getD 0 0).toNat = c) (h : 224 ≤ c ∧ c ≤ 239) :
    validD m = if m.length < 3 ∨ (m.getD 1 0).toNat < (if c = 224 then 160 else 128) ∨ (if c = 237 then 159 else 191) < (m.getD 1 0).toNat ∨ (m.getD 2 0).toNat < 128 ∨ 191 < (m.getD 2 0).toNat then false else validD (m.drop 3) := by
  rw [validD_lead m hne (by rw [ec]; omega), ec]
  have hf : firstT c % 8 = 3 ∧ accLo (firstT c / 16) = (if c = 224 then 160 else 128) ∧ accHi (firstT c / 16) = (if c = 237 then 159 else 191) := by
    by_cases h1 : c = 224
    · subst h1; decide
    · by_cases h2 : c = 237
      · subst h2; decide
      · rw [if_neg h1, if_neg h2]
        unfold firstT
        repeat' split
        all_goals first | omega | decide
  rw [hf.1, hf.2.1, hf.2.2]
  unfold checkN
  simp only [show ¬ (3 = 2) by omega, if_false, if_true]
  by_cases hh : m.length < 3 ∨ (m.getD 1 0).toNat < (if c = 224 then 160 else 128) ∨ (if c = 237 then 159 else 191) < (m.getD 1 0).toNat ∨ (m.getD 2 0).toNat < 128 ∨ 191 < (m.getD 2 0).toNat
  · rw [if_pos hh, if_pos hh]
  · rw [if_neg hh, if_neg hh]
theorem lead4 (m : List UInt8) (hne : m ≠ []) (c : Nat) (ec : (m.getD 0 0).toNat = c) (h : 240 ≤ c ∧ c ≤ 244) :
    validD m = if m.length < 4 ∨ (m.getD 1 0).toNat < (if c = 240 then 144 else 128) ∨ (if c = 244 then 143 else 191) < (m.getD 1 0).toNat ∨ (m.getD 2 0).toNat < 128 ∨ 191 < (m.getD 2 0).toNat ∨ (m.getD 3 0).toNat < 128 ∨ 191 < (m.getD 3 0).toNat then false else validD (m.drop 4) := by
  rw [validD_lead m hne (by rw [ec]; omega), ec]
  have hf : firstT c % 8 = 4 ∧ accLo (firstT c / 16) = (if c = 240 then 144 else 128) ∧ accHi (firstT c / 16) = (if c = 244 then 143 else 191) := by
    rcases (by omega : c = 240 ∨ c = 241 ∨ c = 242 ∨ c = 243 ∨ c = 244) with rfl | rfl | rfl | rfl | rfl <;> decide
  rw [hf.1, hf.2.1, hf.2.2]
  unfold checkN
  simp only [show ¬ (4 = 2) by omega, show ¬ (4 = 3) by omega, if_false, if_true]
  by_cases hh : m.length < 4 ∨ (m.getD 1 0).toNat < (if c = 240 then 144 else 128) ∨ (if c = 244 then 143 else 191) < (m.getD 1 0).toNat ∨ (m.getD 2 0).toNat < 128 ∨ 191 < (m.getD 2 0).toNat ∨ (m.getD 3 0).toNat < 128 ∨ 191 < (m.getD 3 0).toNat
  · rw [if_pos hh, if_pos hh]
  · rw [if_neg hh, if_neg hh]
theorem drop_get (s : ByteArray) (k j : Nat) (h : k + j < s.size) : ((s.data.toList.drop k).getD j 0) = s[k + j] := by
  have h' : k + j < s.data.toList.length := by simpa using h
  rw [List.getD_eq_getElem?_getD, List.getElem?_drop, List.getElem?_eq_getElem h']
  rfl
structure At (s : ByteArray) (k : Nat) (A : Bool) : Prop where
  asc : ∀ (h : k < s.size), s[k].toNat < 128 → validD (s.data.toList.drop (k + 1)) = A
  bad : ∀ (h : k < s.size), ((128 ≤ s[k].toNat ∧ s[k].toNat < 194) ∨ 245 ≤ s[k].toNat) → A = false
  two0 : ∀ (h : k < s.size), 194 ≤ s[k].toNat → s[k].toNat ≤ 223 → s.size ≤ k + 1 → A = false
  two1 : ∀ (h : k < s.size) (h1 : k + 1 < s.size), 194 ≤ s[k].toNat → s[k].toNat ≤ 223 → (s[k + 1].toNat < 128 ∨ 191 < s[k + 1].toNat) → A = false
  two : ∀ (h : k < s.size) (h1 : k + 1 < s.size), 194 ≤ s[k].toNat → s[k].toNat ≤ 223 → (128 ≤ s[k + 1].toNat ∧ s[k + 1].toNat ≤ 191) → validD (s.data.toList.drop (k + 2)) = A
  three0 : ∀ (h : k < s.size), 224 ≤ s[k].toNat → s[k].toNat ≤ 239 → s.size ≤ k + 2 → A = false
  three1 : ∀ (h : k < s.size) (h1 : k + 1 < s.size) (h2 : k + 2 < s.size), 224 ≤ s[k].toNat → s[k].toNat ≤ 239 →
    ((s[k].toNat = 224 ∧ s[k + 1].toNat < 160) ∨ (s[k].toNat = 237 ∧ 159 < s[k + 1].toNat) ∨ s[k + 1].toNat < 128 ∨ 191 < s[k + 1].toNat ∨ s[k + 2].toNat < 128 ∨ 191 < s[k + 2].toNat) → A = false
  three : ∀ (h : k < s.size) (h1 : k + 1 < s.size) (h2 : k + 2 < s.size), 224 ≤ s[k].toNat → s[k].toNat ≤ 239 →
    ((s[k].toNat = 224 → 160 ≤ s[k + 1].toNat) ∧ (s[k].toNat = 237 → s[k + 1].toNat ≤ 159) ∧ 128 ≤ s[k + 1].toNat ∧ s[k + 1].toNat ≤ 191 ∧ 128 ≤ s[k + 2].toNat ∧ s[k + 2].toNat ≤ 191) → validD (s.data.toList.drop (k + 3)) = A
  four0 : ∀ (h : k < s.size), 240 ≤ s[k].toNat → s[k].toNat ≤ 244 → s.size ≤ k + 3 → A = false
  four1 : ∀ (h : k < s.size) (h1 : k + 1 < s.size) (h2 : k + 2 < s.size) (h3 : k + 3 < s.size), 240 ≤ s[k].toNat → s[k].toNat ≤ 244 →
    ((s[k].toNat = 240 ∧ s[k + 1].toNat < 144) ∨ (s[k].toNat = 244 ∧ 143 < s[k + 1].toNat) ∨ s[k + 1].toNat < 128 ∨ 191 < s[k + 1].toNat ∨ s[k + 2].toNat < 128 ∨ 191 < s[k + 2].toNat ∨ s[k + 3].toNat < 128 ∨ 191 < s[k + 3].toNat) → A = false
  four : ∀ (h : k < s.size) (h1 : k + 1 < s.size) (h2 : k + 2 < s.size) (h3 : k + 3 < s.size), 240 ≤ s[k].toNat → s[k].toNat ≤ 244 →
    ((s[k].toNat = 240 → 144 ≤ s[k + 1].toNat) ∧ (s[k].toNat = 244 → s[k + 1].toNat ≤ 143) ∧ 128 ≤ s[k + 1].toNat ∧ s[k + 1].toNat ≤ 191 ∧ 128 ≤ s[k + 2].toNat ∧ s[k + 2].toNat ≤ 191 ∧ 128 ≤ s[k + 3].toNat ∧ s[k + 3].toNat ≤ 191) → validD (s.data.toList.drop (k + 4)) = A
theorem at_of (s : ByteArray) (k : Nat) (A : Bool) (hA : validD (s.data.toList.drop k) = A) : At s k A := by
  have hlen : (s.data.toList.drop k).length = s.size - k := by rw [List.length_drop]; simp
  have hne : k < s.size → s.data.toList.drop k ≠ [] := fun h e => by rw [e] at hlen; simp at hlen; omega
  have e0 : ∀ (h : k < s.size), ((s.data.toList.drop k).getD 0 0) = s[k] := fun h => drop_get s k 0 h
  have ed : ∀ j, (s.data.toList.drop k).drop j = s.data.toList.drop (k + j) := fun j => by rw [List.drop_drop]
  constructor
  · intro h hc
    have hl := hne h
    cases e : s.data.toList.drop k with
    | nil => exact absurd e hl
    | cons b t =>
      have hb : b = s[k] := by rw [← e0 h, e]; rfl
      rw [e, validD_cons b t (by rw [hb]; exact hc)] at hA
      rw [← ed 1, e]
      exact hA
  · intro h hc
    rw [← hA]
    exact lead_bad _ (hne h) _ (by rw [e0 h]) hc
  · intro h h1 h2 hs
    rw [← hA, lead2 _ (hne h) _ (by rw [e0 h]) ⟨h1, h2⟩, if_pos (.inl (by rw [hlen]; omega))]
  · intro h hk h1 h2 hb
    rw [← hA, lead2 _ (hne h) _ (by rw [e0 h]) ⟨h1, h2⟩, drop_get s k 1 hk, if_pos (.inr hb)]
  · intro h hk h1 h2 hb
    rw [lead2 _ (hne h) _ (by rw [e0 h]) ⟨h1, h2⟩, hlen, drop_get s k 1 hk, ed, if_neg (by omega)] at hA
    exact hA
  · intro h h1 h2 hs
    rw [← hA, lead3 _ (hne h) _ (by rw [e0 h]) ⟨h1, h2⟩, if_pos (.inl (by rw [hlen]; omega))]
  · intro h hk1 hk2 h1 h2 hb
    rw [← hA, lead3 _ (hne h) _ (by rw [e0 h]) ⟨h1, h2⟩, drop_get s k 1 hk1, drop_get s k 2 hk2, if_pos]
    right
    rcases Decidable.em (s[k].toNat = 224) with g1 | g1
    · rw [if_pos g1, if_neg (by omega)]; omega
    · rw [if_neg g1]
      rcases Decidable.em (s[k].toNat = 237) with g2 | g2
      · rw [if_pos g2]; omega
      · rw [if_neg g2]; omega
  · intro h hk1 hk2 h1 h2 hb
    rw [lead3 _ (hne h) _ (by rw [e0 h]) ⟨h1, h2⟩, hlen, drop_get s k 1 hk1, drop_get s k 2 hk2, ed, if_neg] at hA
    · exact hA
    · rcases Decidable.em (s[k].toNat = 224) with g1 | g1
      · rw [if_pos g1, if_neg (by omega)]; omega
      · rw [if_neg g1]
        rcases Decidable.em (s[k].toNat = 237) with g2 | g2
        · rw [if_pos g2]; omega
        · rw [if_neg g2]; omega
  · intro h h1 h2 hs
    rw [← hA, lead4 _ (hne h) _ (by rw [e0 h]) ⟨h1, h2⟩, if_pos (.inl (by rw [hlen]; omega))]
  · intro h hk1 hk2 hk3 h1 h2 hb
    rw [← hA, lead4 _ (hne h) _ (by rw [e0 h]) ⟨h1, h2⟩, drop_get s k 1 hk1, drop_get s k 2 hk2, drop_get s k 3 hk3, if_pos]
    right
    rcases Decidable.em (s[k].toNat = 240) with g1 | g1
    · rw [if_pos g1, if_neg (by omega)]; omega
    · rw [if_neg g1]
      rcases Decidable.em (s[k].toNat = 244) with g2 | g2
      · rw [if_pos g2]; omega
      · rw [if_neg g2]; omega
  · intro h hk1 hk2 hk3 h1 h2 hb
    rw [lead4 _ (hne h) _ (by rw [e0 h]) ⟨h1, h2⟩, hlen, drop_get s k 1 hk1, drop_get s k 2 hk2, drop_get s k 3 hk3, ed, if_neg] at hA
    · exact hA
    · rcases Decidable.em (s[k].toNat = 240) with g1 | g1
      · rw [if_pos g1, if_neg (by omega)]; omega
      · rw [if_neg g1]
        rcases Decidable.em (s[k].toNat = 244) with g2 | g2
        · rw [if_pos g2]; omega
        · rw [if_neg g2]; omega
end Go.Proofs.YtgheopdadfnilaaGreatDoor.V
