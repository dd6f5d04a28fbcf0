/- a1.Parse, walked. -/
import Derived.Test.YtkipbcimjmialaaDoorF0
namespace Go.Proofs.YtkipbcimjmialaaDoor
open Go.RowKit
set_option linter.unusedVariables false
set_option linter.unusedSimpArgs false

/-- what the calls answer of the text behind the sheet's -/
structure Tail (C T E R G : ByteArray) (k : Nat) (ca ra cf nf : Bool) (col row : Int) : Prop where
  P : ∀ W, Calls Tryd.prog 47 #[.string C, .string ⟨#[36]⟩] W fun e w' => e = .returned (.tuple #[.string T, .bool ca]) ∧ w' = W
  L : ∀ W, Calls Tryd.prog 54 #[.string T] W fun e w' => e = .returned (.int .i64 (k : Int)) ∧ w' = W
  hk : k ≤ T.size
  hT : T.size ≤ 4294967281
  eE : T.extract 0 k = E
  eR : T.extract k T.size = R
  K : ∀ W, Calls Tryd.prog 55 #[.string E] W fun e w' => e = .returned (.tuple #[.int .i64 col, .bool cf]) ∧ w' = W
  R : ∀ W, Calls Tryd.prog 47 #[.string R, .string ⟨#[36]⟩] W fun e w' => e = .returned (.tuple #[.string G, .bool ra]) ∧ w' = W
  N : ∀ W, Calls Tryd.prog 56 #[.string G, .int .i64 2199023255552] W fun e w' => e = .returned (.tuple #[.int .i64 row, .bool nf]) ∧ w' = W
  r1 : 0 ≤ row
  r2 : row ≤ 2199023255552
theorem numK_lo (l : List UInt8) (m : Nat) : 0 ≤ numK l m := by unfold numK; split <;> omega
theorem numK_hi (l : List UInt8) (m : Nat) : numK l m ≤ (m : Int) := by
  unfold numK
  split
  · rename_i h
    unfold numF at h
    simp only [Bool.and_eq_true, decide_eq_true_eq] at h
    omega
  · omega
theorem tail_of (C : ByteArray) (hs : C.size ≤ 4294967281) :
    ∃ T E R G, Tail C T E R G (lead (Lib.trimPrefix C.data.toList [36])) (Lib.hasPrefix C.data.toList [36]) (Lib.hasPrefix ((Lib.trimPrefix C.data.toList [36]).dropWhile let1) [36])
      (colF ((Lib.trimPrefix C.data.toList [36]).takeWhile let1)) (numF (Lib.trimPrefix ((Lib.trimPrefix C.data.toList [36]).dropWhile let1) [36]) 2199023255552)
      (colK ((Lib.trimPrefix C.data.toList [36]).takeWhile let1)) (numK (Lib.trimPrefix ((Lib.trimPrefix C.data.toList [36]).dropWhile let1) [36]) 2199023255552) := by
  have l1 := Lib.trimPrefix_le C.data.toList [36]
  rw [len_data] at l1
  have P0 : ∀ W, Calls Tryd.prog 47 #[.string C, .string ⟨#[36]⟩] W fun e w' => e = .returned (.tuple #[.string ⟨(Lib.trimPrefix C.data.toList [36]).toArray⟩, .bool (Lib.hasPrefix C.data.toList [36])]) ∧ w' = W := fun W => Tryd.strings_CutPrefix C ⟨#[36]⟩ W
  generalize Lib.trimPrefix C.data.toList [36] = t at *
  have l2 := lead_le t
  have e1 : ((⟨t.toArray⟩ : ByteArray).extract 0 (lead t)).data.toList = t.takeWhile let1 := by
    rw [Lib.extract_data, ← take_lead]
    rfl
  have e2 : ((⟨t.toArray⟩ : ByteArray).extract (lead t) (⟨t.toArray⟩ : ByteArray).size).data.toList = t.dropWhile let1 := by
    rw [Lib.extract_data, ← drop_lead, size_mk]
    exact List.take_of_length_le (by simp)
  have l3 := Lib.trimPrefix_le (t.dropWhile let1) [36]
  have l4 : (t.dropWhile let1).length ≤ t.length := by rw [← drop_lead, List.length_drop]; omega
  have hK := fun W => col_any ((⟨t.toArray⟩ : ByteArray).extract 0 (lead t)) W (by rw [ByteArray.size_extract, size_mk]; omega)
  rw [e1] at hK
  have hR : ∀ W, Calls Tryd.prog 47 #[.string ((⟨t.toArray⟩ : ByteArray).extract (lead t) (⟨t.toArray⟩ : ByteArray).size), .string ⟨#[36]⟩] W fun e w' => e = .returned (.tuple #[.string ⟨(Lib.trimPrefix (t.dropWhile let1) [36]).toArray⟩, .bool (Lib.hasPrefix (t.dropWhile let1) [36])]) ∧ w' = W := fun W => by
    have h := Tryd.strings_CutPrefix ((⟨t.toArray⟩ : ByteArray).extract (lead t) (⟨t.toArray⟩ : ByteArray).size) ⟨#[36]⟩ W
    rw [e2] at h
    exact h
  exact ⟨_, _, _, ⟨(Lib.trimPrefix (t.dropWhile let1) [36]).toArray⟩, P0, fun W => leading_any ⟨t.toArray⟩ W (by rw [size_mk]; omega), by rw [size_mk]; exact l2, by rw [size_mk]; omega, rfl, rfl, hK, hR,
    fun W => number_any ⟨(Lib.trimPrefix (t.dropWhile let1) [36]).toArray⟩ 2199023255552 2199023255552 W rfl (by omega) (by omega) (by rw [size_mk]; omega), numK_lo _ _, numK_hi _ _⟩

theorem bcell {W w1 : World} (hb : Q W w1) : (∀ b o, b < W.heap.size → w1.cell? ⟨b, o, none⟩ = W.cell? ⟨b, o, none⟩) ∧ (∀ b o, b < W.heap.size → w1.frozen? ⟨b, o, none⟩ = W.frozen? ⟨b, o, none⟩) :=
  ⟨fun b o h => Below.cell hb (p := ⟨b, o, none⟩) h, fun b o h => Below.frozen hb (p := ⟨b, o, none⟩) h⟩

set_option maxHeartbeats 1000000 in
theorem parse_f1 (C A B T E R G : ByteArray) (k : Nat) (ca ra nf : Bool) (col row : Int) (w : World)
    (HC : Hid (∀ W, Q w W → Calls Tryd.prog 48 #[.string C, .string ⟨#[33]⟩] W fun e w' => e = .returned (.tuple #[.string A, .string B, .bool false]) ∧ ∃ n, w' = W.drewN n))
    (ht : Tail C T E R G k ca ra false nf col row)
    : Calls Tryd.prog 41 #[.string C] w fun e w' => e = .returned (.tuple #[.agg #[.string ⟨#[]⟩, .int .i64 0, .int .i64 0, .bool false, .bool false], .bool false]) ∧ Q w w' := by
  obtain ⟨HP, HL, hk, hT, eE, eR, HK, HR, HN, r1, r2⟩ := ht
  replace HP := hid HP
  replace HL := hid HL
  replace HK := hid HK
  replace HR := hid HR
  replace HN := hid HN
  go_enter Tryd.func41, Tryd.ntmps41
  go_wp2_with (first | (go_at_call 48; refine (HC.out _ (by repeat (first | exact Q.refl _ | refine Q.drewN ?_ _ | refine Q.alloc ?_ _))).mono ?_; rintro e w2 ⟨rfl, nn, rfl⟩) | (go_at_call_of 47 C; refine (HP.out _).mono ?_; rintro e w1 ⟨rfl, rfl⟩) | (go_at_call 54; refine (HL.out _).mono ?_; rintro e w1 ⟨rfl, rfl⟩) | (go_at_call 55; refine (HK.out _).mono ?_; rintro e w1 ⟨rfl, rfl⟩))
  refine bodyPost_ret (v := .tuple #[.agg #[.string ⟨#[]⟩, .int .i64 0, .int .i64 0, .bool false, .bool false], .bool false]) (by simp [results, Tryd.results41, go_sem]) rfl ⟨rfl, ?_⟩
  repeat' (first | with_reducible exact Q.refl _ | with_reducible refine Q.alloc ?_ _ | with_reducible refine Q.drewN ?_ _ | with_reducible refine Q.setCell ?_ (by omega) _ | with_reducible refine Q.trans ?_ (by assumption))

set_option maxHeartbeats 1000000 in
theorem parse_f2 (C A B T E R G : ByteArray) (k : Nat) (ca ra : Bool) (col row : Int) (w : World)
    (HC : Hid (∀ W, Q w W → Calls Tryd.prog 48 #[.string C, .string ⟨#[33]⟩] W fun e w' => e = .returned (.tuple #[.string A, .string B, .bool false]) ∧ ∃ n, w' = W.drewN n))
    (ht : Tail C T E R G k ca ra true false col row)
    : Calls Tryd.prog 41 #[.string C] w fun e w' => e = .returned (.tuple #[.agg #[.string ⟨#[]⟩, .int .i64 0, .int .i64 0, .bool false, .bool false], .bool false]) ∧ Q w w' := by
  obtain ⟨HP, HL, hk, hT, eE, eR, HK, HR, HN, r1, r2⟩ := ht
  replace HP := hid HP
  replace HL := hid HL
  replace HK := hid HK
  replace HR := hid HR
  replace HN := hid HN
  go_enter Tryd.func41, Tryd.ntmps41
  go_wp2_with (first | (go_at_call 48; refine (HC.out _ (by repeat (first | exact Q.refl _ | refine Q.drewN ?_ _ | refine Q.alloc ?_ _))).mono ?_; rintro e w2 ⟨rfl, nn, rfl⟩) | (go_at_call_of 47 C; refine (HP.out _).mono ?_; rintro e w1 ⟨rfl, rfl⟩) | (go_at_call 54; refine (HL.out _).mono ?_; rintro e w1 ⟨rfl, rfl⟩) | (go_at_call 55; refine (HK.out _).mono ?_; rintro e w1 ⟨rfl, rfl⟩) | (go_at_call_of 47 R; refine (HR.out _).mono ?_; rintro e w1 ⟨rfl, rfl⟩) | (go_at_call 56; refine (HN.out _).mono ?_; rintro e w1 ⟨rfl, rfl⟩))
  refine bodyPost_ret (v := .tuple #[.agg #[.string ⟨#[]⟩, .int .i64 0, .int .i64 0, .bool false, .bool false], .bool false]) (by simp [results, Tryd.results41, go_sem]) rfl ⟨rfl, ?_⟩
  repeat' (first | with_reducible exact Q.refl _ | with_reducible refine Q.alloc ?_ _ | with_reducible refine Q.drewN ?_ _ | with_reducible refine Q.setCell ?_ (by omega) _ | with_reducible refine Q.trans ?_ (by assumption))

set_option maxHeartbeats 1000000 in
theorem parse_f3 (C A B T E R G : ByteArray) (k : Nat) (ca ra : Bool) (col row : Int) (w : World)
    (HC : Hid (∀ W, Q w W → Calls Tryd.prog 48 #[.string C, .string ⟨#[33]⟩] W fun e w' => e = .returned (.tuple #[.string A, .string B, .bool false]) ∧ ∃ n, w' = W.drewN n))
    (ht : Tail C T E R G k ca ra true true col row)
    (r0 : (row == 0) = true)
    : Calls Tryd.prog 41 #[.string C] w fun e w' => e = .returned (.tuple #[.agg #[.string ⟨#[]⟩, .int .i64 0, .int .i64 0, .bool false, .bool false], .bool false]) ∧ Q w w' := by
  obtain ⟨HP, HL, hk, hT, eE, eR, HK, HR, HN, r1, r2⟩ := ht
  replace HP := hid HP
  replace HL := hid HL
  replace HK := hid HK
  replace HR := hid HR
  replace HN := hid HN
  go_enter Tryd.func41, Tryd.ntmps41
  go_wp2_with (first | (go_at_call 48; refine (HC.out _ (by repeat (first | exact Q.refl _ | refine Q.drewN ?_ _ | refine Q.alloc ?_ _))).mono ?_; rintro e w2 ⟨rfl, nn, rfl⟩) | (go_at_call_of 47 C; refine (HP.out _).mono ?_; rintro e w1 ⟨rfl, rfl⟩) | (go_at_call 54; refine (HL.out _).mono ?_; rintro e w1 ⟨rfl, rfl⟩) | (go_at_call 55; refine (HK.out _).mono ?_; rintro e w1 ⟨rfl, rfl⟩) | (go_at_call_of 47 R; refine (HR.out _).mono ?_; rintro e w1 ⟨rfl, rfl⟩) | (go_at_call 56; refine (HN.out _).mono ?_; rintro e w1 ⟨rfl, rfl⟩))
  refine bodyPost_ret (v := .tuple #[.agg #[.string ⟨#[]⟩, .int .i64 0, .int .i64 0, .bool false, .bool false], .bool false]) (by simp [results, Tryd.results41, go_sem]) rfl ⟨rfl, ?_⟩
  repeat' (first | with_reducible exact Q.refl _ | with_reducible refine Q.alloc ?_ _ | with_reducible refine Q.drewN ?_ _ | with_reducible refine Q.setCell ?_ (by omega) _ | with_reducible refine Q.trans ?_ (by assumption))

set_option maxHeartbeats 1000000 in
theorem parse_f4 (C A B T E R G : ByteArray) (k : Nat) (ca ra : Bool) (col row : Int) (w : World)
    (HC : Hid (∀ W, Q w W → Calls Tryd.prog 48 #[.string C, .string ⟨#[33]⟩] W fun e w' => e = .returned (.tuple #[.string A, .string B, .bool false]) ∧ ∃ n, w' = W.drewN n))
    (ht : Tail C T E R G k ca ra true true col row)
    (HX : Hid (∀ W, Calls Tryd.prog 29 #[.string ⟨#[]⟩] W fun e w' => e = .returned (.string ⟨#[]⟩) ∧ Q W w'))
    (r0 : (row == 0) = false)
    : Calls Tryd.prog 41 #[.string C] w fun e w' => e = .returned (.tuple #[.agg #[.string ⟨#[]⟩, .int .i64 (row - 1), .int .i64 col, .bool ra, .bool ca], .bool true]) ∧ Q w w' := by
  obtain ⟨HP, HL, hk, hT, eE, eR, HK, HR, HN, r1, r2⟩ := ht
  replace HP := hid HP
  replace HL := hid HL
  replace HK := hid HK
  replace HR := hid HR
  replace HN := hid HN
  go_enter Tryd.func41, Tryd.ntmps41
  go_wp2_with (first | (go_at_call 48; refine (HC.out _ (by repeat (first | exact Q.refl _ | refine Q.drewN ?_ _ | refine Q.alloc ?_ _))).mono ?_; rintro e w2 ⟨rfl, nn, rfl⟩) | (go_at_call_of 47 C; refine (HP.out _).mono ?_; rintro e w1 ⟨rfl, rfl⟩) | (go_at_call 54; refine (HL.out _).mono ?_; rintro e w1 ⟨rfl, rfl⟩) | (go_at_call 55; refine (HK.out _).mono ?_; rintro e w1 ⟨rfl, rfl⟩) | (go_at_call_of 47 R; refine (HR.out _).mono ?_; rintro e w1 ⟨rfl, rfl⟩) | (go_at_call 56; refine (HN.out _).mono ?_; rintro e w1 ⟨rfl, rfl⟩) | (go_at_call 29; refine (HX.out _).mono ?_; rintro e w5 ⟨rfl, q5⟩; obtain ⟨hc5, hf5⟩ := bcell q5; have z0 : w.heap.size < w5.heap.size := q5.lt (by first | exact y0 | simp)))
  refine bodyPost_ret (v := .tuple #[.agg #[.string ⟨#[]⟩, .int .i64 (row - 1), .int .i64 col, .bool ra, .bool ca], .bool true]) (by simp [results, Tryd.results41, go_sem, hc5, hf5, z0]) rfl ⟨rfl, ?_⟩
  repeat' (first | with_reducible exact Q.refl _ | with_reducible refine Q.alloc ?_ _ | with_reducible refine Q.drewN ?_ _ | with_reducible refine Q.setCell ?_ (by omega) _ | with_reducible refine Q.trans ?_ (by assumption))

set_option maxHeartbeats 1000000 in
theorem parse_o1 (S C A T E R G : ByteArray) (k : Nat) (ca ra nf : Bool) (col row : Int) (w : World)
    (HC : Hid (∀ W, Q w W → Calls Tryd.prog 48 #[.string S, .string ⟨#[33]⟩] W fun e w' => e = .returned (.tuple #[.string A, .string C, .bool true]) ∧ ∃ n, w' = W.drewN n))
    (HI : Hid (∀ W, Q w W → Calls Tryd.prog 53 #[.string A] W fun e w' => e = .returned (.bool true) ∧ Q W w'))
    (ht : Tail C T E R G k ca ra false nf col row)
    : Calls Tryd.prog 41 #[.string S] w fun e w' => e = .returned (.tuple #[.agg #[.string ⟨#[]⟩, .int .i64 0, .int .i64 0, .bool false, .bool false], .bool false]) ∧ Q w w' := by
  obtain ⟨HP, HL, hk, hT, eE, eR, HK, HR, HN, r1, r2⟩ := ht
  replace HP := hid HP
  replace HL := hid HL
  replace HK := hid HK
  replace HR := hid HR
  replace HN := hid HN
  go_enter Tryd.func41, Tryd.ntmps41
  go_wp2_with (first | (go_at_call 48; refine (HC.out _ (by repeat (first | exact Q.refl _ | refine Q.drewN ?_ _ | refine Q.alloc ?_ _))).mono ?_; rintro e w2 ⟨rfl, nn, rfl⟩) | (go_at_call 53; refine (HI.out _ (by repeat (first | exact Q.refl _ | refine Q.drewN ?_ _ | refine Q.alloc ?_ _))).mono ?_; rintro e w3 ⟨rfl, q3⟩; obtain ⟨hc3, hf3⟩ := bcell q3; have y0 : w.heap.size < w3.heap.size := q3.lt (by simp)) | (go_at_call_of 47 C; refine (HP.out _).mono ?_; rintro e w1 ⟨rfl, rfl⟩) | (go_at_call 54; refine (HL.out _).mono ?_; rintro e w1 ⟨rfl, rfl⟩) | (go_at_call 55; refine (HK.out _).mono ?_; rintro e w1 ⟨rfl, rfl⟩))
  refine bodyPost_ret (v := .tuple #[.agg #[.string ⟨#[]⟩, .int .i64 0, .int .i64 0, .bool false, .bool false], .bool false]) (by simp [results, Tryd.results41, go_sem, hc3, hf3, y0]) rfl ⟨rfl, ?_⟩
  repeat' (first | with_reducible exact Q.refl _ | with_reducible refine Q.alloc ?_ _ | with_reducible refine Q.drewN ?_ _ | with_reducible refine Q.setCell ?_ (by omega) _ | with_reducible refine Q.trans ?_ (by assumption))

set_option maxHeartbeats 1000000 in
theorem parse_o2 (S C A T E R G : ByteArray) (k : Nat) (ca ra : Bool) (col row : Int) (w : World)
    (HC : Hid (∀ W, Q w W → Calls Tryd.prog 48 #[.string S, .string ⟨#[33]⟩] W fun e w' => e = .returned (.tuple #[.string A, .string C, .bool true]) ∧ ∃ n, w' = W.drewN n))
    (HI : Hid (∀ W, Q w W → Calls Tryd.prog 53 #[.string A] W fun e w' => e = .returned (.bool true) ∧ Q W w'))
    (ht : Tail C T E R G k ca ra true false col row)
    : Calls Tryd.prog 41 #[.string S] w fun e w' => e = .returned (.tuple #[.agg #[.string ⟨#[]⟩, .int .i64 0, .int .i64 0, .bool false, .bool false], .bool false]) ∧ Q w w' := by
  obtain ⟨HP, HL, hk, hT, eE, eR, HK, HR, HN, r1, r2⟩ := ht
  replace HP := hid HP
  replace HL := hid HL
  replace HK := hid HK
  replace HR := hid HR
  replace HN := hid HN
  go_enter Tryd.func41, Tryd.ntmps41
  go_wp2_with (first | (go_at_call 48; refine (HC.out _ (by repeat (first | exact Q.refl _ | refine Q.drewN ?_ _ | refine Q.alloc ?_ _))).mono ?_; rintro e w2 ⟨rfl, nn, rfl⟩) | (go_at_call 53; refine (HI.out _ (by repeat (first | exact Q.refl _ | refine Q.drewN ?_ _ | refine Q.alloc ?_ _))).mono ?_; rintro e w3 ⟨rfl, q3⟩; obtain ⟨hc3, hf3⟩ := bcell q3; have y0 : w.heap.size < w3.heap.size := q3.lt (by simp)) | (go_at_call_of 47 C; refine (HP.out _).mono ?_; rintro e w1 ⟨rfl, rfl⟩) | (go_at_call 54; refine (HL.out _).mono ?_; rintro e w1 ⟨rfl, rfl⟩) | (go_at_call 55; refine (HK.out _).mono ?_; rintro e w1 ⟨rfl, rfl⟩) | (go_at_call_of 47 R; refine (HR.out _).mono ?_; rintro e w1 ⟨rfl, rfl⟩) | (go_at_call 56; refine (HN.out _).mono ?_; rintro e w1 ⟨rfl, rfl⟩))
  refine bodyPost_ret (v := .tuple #[.agg #[.string ⟨#[]⟩, .int .i64 0, .int .i64 0, .bool false, .bool false], .bool false]) (by simp [results, Tryd.results41, go_sem, hc3, hf3, y0]) rfl ⟨rfl, ?_⟩
  repeat' (first | with_reducible exact Q.refl _ | with_reducible refine Q.alloc ?_ _ | with_reducible refine Q.drewN ?_ _ | with_reducible refine Q.setCell ?_ (by omega) _ | with_reducible refine Q.trans ?_ (by assumption))

set_option maxHeartbeats 1000000 in
theorem parse_o3 (S C A T E R G : ByteArray) (k : Nat) (ca ra : Bool) (col row : Int) (w : World)
    (HC : Hid (∀ W, Q w W → Calls Tryd.prog 48 #[.string S, .string ⟨#[33]⟩] W fun e w' => e = .returned (.tuple #[.string A, .string C, .bool true]) ∧ ∃ n, w' = W.drewN n))
    (HI : Hid (∀ W, Q w W → Calls Tryd.prog 53 #[.string A] W fun e w' => e = .returned (.bool true) ∧ Q W w'))
    (ht : Tail C T E R G k ca ra true true col row)
    (r0 : (row == 0) = true)
    : Calls Tryd.prog 41 #[.string S] w fun e w' => e = .returned (.tuple #[.agg #[.string ⟨#[]⟩, .int .i64 0, .int .i64 0, .bool false, .bool false], .bool false]) ∧ Q w w' := by
  obtain ⟨HP, HL, hk, hT, eE, eR, HK, HR, HN, r1, r2⟩ := ht
  replace HP := hid HP
  replace HL := hid HL
  replace HK := hid HK
  replace HR := hid HR
  replace HN := hid HN
  go_enter Tryd.func41, Tryd.ntmps41
  go_wp2_with (first | (go_at_call 48; refine (HC.out _ (by repeat (first | exact Q.refl _ | refine Q.drewN ?_ _ | refine Q.alloc ?_ _))).mono ?_; rintro e w2 ⟨rfl, nn, rfl⟩) | (go_at_call 53; refine (HI.out _ (by repeat (first | exact Q.refl _ | refine Q.drewN ?_ _ | refine Q.alloc ?_ _))).mono ?_; rintro e w3 ⟨rfl, q3⟩; obtain ⟨hc3, hf3⟩ := bcell q3; have y0 : w.heap.size < w3.heap.size := q3.lt (by simp)) | (go_at_call_of 47 C; refine (HP.out _).mono ?_; rintro e w1 ⟨rfl, rfl⟩) | (go_at_call 54; refine (HL.out _).mono ?_; rintro e w1 ⟨rfl, rfl⟩) | (go_at_call 55; refine (HK.out _).mono ?_; rintro e w1 ⟨rfl, rfl⟩) | (go_at_call_of 47 R; refine (HR.out _).mono ?_; rintro e w1 ⟨rfl, rfl⟩) | (go_at_call 56; refine (HN.out _).mono ?_; rintro e w1 ⟨rfl, rfl⟩))
  refine bodyPost_ret (v := .tuple #[.agg #[.string ⟨#[]⟩, .int .i64 0, .int .i64 0, .bool false, .bool false], .bool false]) (by simp [results, Tryd.results41, go_sem, hc3, hf3, y0]) rfl ⟨rfl, ?_⟩
  repeat' (first | with_reducible exact Q.refl _ | with_reducible refine Q.alloc ?_ _ | with_reducible refine Q.drewN ?_ _ | with_reducible refine Q.setCell ?_ (by omega) _ | with_reducible refine Q.trans ?_ (by assumption))

set_option maxHeartbeats 1000000 in
theorem parse_o4 (S C A T E R G : ByteArray) (k : Nat) (ca ra : Bool) (col row : Int) (w : World)
    (HC : Hid (∀ W, Q w W → Calls Tryd.prog 48 #[.string S, .string ⟨#[33]⟩] W fun e w' => e = .returned (.tuple #[.string A, .string C, .bool true]) ∧ ∃ n, w' = W.drewN n))
    (HI : Hid (∀ W, Q w W → Calls Tryd.prog 53 #[.string A] W fun e w' => e = .returned (.bool true) ∧ Q W w'))
    (ht : Tail C T E R G k ca ra true true col row)
    (HX : Hid (∀ W, Calls Tryd.prog 29 #[.string A] W fun e w' => e = .returned (.string A) ∧ Q W w'))
    (r0 : (row == 0) = false)
    : Calls Tryd.prog 41 #[.string S] w fun e w' => e = .returned (.tuple #[.agg #[.string A, .int .i64 (row - 1), .int .i64 col, .bool ra, .bool ca], .bool true]) ∧ Q w w' := by
  obtain ⟨HP, HL, hk, hT, eE, eR, HK, HR, HN, r1, r2⟩ := ht
  replace HP := hid HP
  replace HL := hid HL
  replace HK := hid HK
  replace HR := hid HR
  replace HN := hid HN
  go_enter Tryd.func41, Tryd.ntmps41
  go_wp2_with (first | (go_at_call 48; refine (HC.out _ (by repeat (first | exact Q.refl _ | refine Q.drewN ?_ _ | refine Q.alloc ?_ _))).mono ?_; rintro e w2 ⟨rfl, nn, rfl⟩) | (go_at_call 53; refine (HI.out _ (by repeat (first | exact Q.refl _ | refine Q.drewN ?_ _ | refine Q.alloc ?_ _))).mono ?_; rintro e w3 ⟨rfl, q3⟩; obtain ⟨hc3, hf3⟩ := bcell q3; have y0 : w.heap.size < w3.heap.size := q3.lt (by simp)) | (go_at_call_of 47 C; refine (HP.out _).mono ?_; rintro e w1 ⟨rfl, rfl⟩) | (go_at_call 54; refine (HL.out _).mono ?_; rintro e w1 ⟨rfl, rfl⟩) | (go_at_call 55; refine (HK.out _).mono ?_; rintro e w1 ⟨rfl, rfl⟩) | (go_at_call_of 47 R; refine (HR.out _).mono ?_; rintro e w1 ⟨rfl, rfl⟩) | (go_at_call 56; refine (HN.out _).mono ?_; rintro e w1 ⟨rfl, rfl⟩) | (go_at_call 29; refine (HX.out _).mono ?_; rintro e w5 ⟨rfl, q5⟩; obtain ⟨hc5, hf5⟩ := bcell q5; have z0 : w.heap.size < w5.heap.size := q5.lt (by first | exact y0 | simp)))
  refine bodyPost_ret (v := .tuple #[.agg #[.string A, .int .i64 (row - 1), .int .i64 col, .bool ra, .bool ca], .bool true]) (by simp [results, Tryd.results41, go_sem, hc3, hf3, y0, hc5, hf5, z0]) rfl ⟨rfl, ?_⟩
  repeat' (first | with_reducible exact Q.refl _ | with_reducible refine Q.alloc ?_ _ | with_reducible refine Q.drewN ?_ _ | with_reducible refine Q.setCell ?_ (by omega) _ | with_reducible refine Q.trans ?_ (by assumption))

set_option maxHeartbeats 1000000 in
theorem parse_n (S C A T E R G : ByteArray) (k : Nat) (ca ra : Bool) (col row : Int) (w : World)
    (HC : Hid (∀ W, Q w W → Calls Tryd.prog 48 #[.string S, .string ⟨#[33]⟩] W fun e w' => e = .returned (.tuple #[.string A, .string C, .bool true]) ∧ ∃ n, w' = W.drewN n))
    (HI : Hid (∀ W, Q w W → Calls Tryd.prog 53 #[.string A] W fun e w' => e = .returned (.bool false) ∧ Q W w'))
    : Calls Tryd.prog 41 #[.string S] w fun e w' => e = .returned (.tuple #[.agg #[.string ⟨#[]⟩, .int .i64 0, .int .i64 0, .bool false, .bool false], .bool false]) ∧ Q w w' := by
  go_enter Tryd.func41, Tryd.ntmps41
  go_wp2_with (first | (go_at_call 48; refine (HC.out _ (by repeat (first | exact Q.refl _ | refine Q.drewN ?_ _ | refine Q.alloc ?_ _))).mono ?_; rintro e w2 ⟨rfl, nn, rfl⟩) | (go_at_call 53; refine (HI.out _ (by repeat (first | exact Q.refl _ | refine Q.drewN ?_ _ | refine Q.alloc ?_ _))).mono ?_; rintro e w3 ⟨rfl, q3⟩; obtain ⟨hc3, hf3⟩ := bcell q3; have y0 : w.heap.size < w3.heap.size := q3.lt (by simp)))
  refine bodyPost_ret (v := .tuple #[.agg #[.string ⟨#[]⟩, .int .i64 0, .int .i64 0, .bool false, .bool false], .bool false]) (by simp [results, Tryd.results41, go_sem, hc3, hf3, y0]) rfl ⟨rfl, ?_⟩
  repeat' (first | with_reducible exact Q.refl _ | with_reducible refine Q.alloc ?_ _ | with_reducible refine Q.drewN ?_ _ | with_reducible refine Q.setCell ?_ (by omega) _ | with_reducible refine Q.trans ?_ (by assumption))
end Go.Proofs.YtkipbcimjmialaaDoor
