/- show.Read of any text by what is parsed; show.cellText, show.Cell, walked; Cells that may be: how they are written, and that they are read again, plainly; show.Cell of them, walked; What the statements on show begin with, walked. -/
import Derived.Test.YtgheopdadfnilaaGreatDoorKs33
namespace Go.Proofs.YtgheopdadfnilaaGreatDoor
open Go.RowKit
set_option linter.unusedVariables false
set_option linter.unusedSimpArgs false
theorem read_any (s : ByteArray) (y : Ex × Nat) (hz : PzR (s.data.toList.drop 1) y) (hs : s.size ≤ 100000) (W : World) (hw : Std W) : Calls Tryz.prog 16 #[.string s] W fun e W' => RepC W (showT s.data.toList y) e W' := by
  unfold showT
  by_cases hp : Lib.hasPrefix s.data.toList [61] = true
  · rw [if_pos hp]
    exact read_eq s _ y W hw hp rfl (hid fun W' g => pz_prog (s := ⟨(s.data.toList.drop 1).toArray⟩) hz (by rw [size_mk, List.length_drop, len_data]; omega) W' g)
  · rw [if_neg hp]
    exact read_val s W hw hs (by simpa using hp)
/-- how a text that is a value is written -/
def ctx (l : List UInt8) : List UInt8 := if Lib.hasPrefix l [61] = false ∧ (valT l).1.2.1 = (2, 0, l, false, 0) then l else 39 :: l
theorem ctx_show (l : List UInt8) (y : Ex × Nat) : ctx l = if (showT l y).1.2.1 = (2, 0, l, false, 0) then l else 39 :: l := by
  unfold ctx showT
  by_cases hp : Lib.hasPrefix l [61] = true
  · rw [if_pos hp, if_neg (fun x => by rw [hp] at x; cases x.1), if_neg]
    unfold frm
    split
    · intro e; cases e
    · intro e; cases e
  · have hp' : Lib.hasPrefix l [61] = false := by simpa using hp
    rw [if_neg hp]
    by_cases h : (valT l).1.2.1 = (2, 0, l, false, 0)
    · rw [if_pos ⟨hp', h⟩, if_pos h]
    · rw [if_neg (fun x => h x.2), if_neg h]
set_option maxRecDepth 100000 in
set_option maxHeartbeats 8000000 in
theorem cellText_any (tv : ByteArray) (w : World) (hg : Gd w) (hs : tv.size ≤ 100000) : Calls Tryz.prog 53 #[.agg #[.int .i64 2, .int .i64 0, .string tv, .bool false, .int .i64 0]] w fun e W' => e = .returned (.string ⟨(ctx tv.data.toList).toArray⟩) ∧ Q w W' := by
  obtain ⟨y, hy⟩ := pz_total (tv.data.toList.drop 1)
  have HR := hid (fun W' (g : Std W') => read_any tv y hy hs W' g)
  have HCT := hid (ctx_show tv.data.toList y)
  obtain ⟨⟨⟨f, ⟨vk, vn, vl, vb, ve⟩, X⟩, er0⟩, hsT⟩ : ∃ r, showT tv.data.toList y = r := ⟨_, rfl⟩
  rw [hsT] at HR HCT
  obtain ⟨vt, hvt⟩ : ∃ vt : ByteArray, (⟨vl.toArray⟩ : ByteArray) = vt := ⟨_, rfl⟩
  have hvl : vt.data.toList = vl := by rw [← hvt]
  subst hvl
  have HV := hid (fun W' => veq_any vk vn vt vb ve 2 0 tv false 0 W')
  unfold vx at HV
  have HC2 : Hid (ctx tv.data.toList = if decide (vk = 2 ∧ vn = 0 ∧ vt.data.toList = tv.data.toList ∧ vb = false ∧ ve = 0) = true then tv.data.toList else 39 :: tv.data.toList) := by
    show _ = _
    rw [HCT.out]
    congr 1
    simp
  generalize decide (vk = 2 ∧ vn = 0 ∧ vt.data.toList = tv.data.toList ∧ vb = false ∧ ve = 0) = rr at HV HC2
  have HCl := hid (fun W' => clone_any tv W' (by omega))
  have HG := hid hg
  have nS : ¬ (9223372036854775807 < 1 + tv.size) := by omega
  obtain ⟨S2, hS2⟩ : ∃ S : ByteArray, (⟨#[39]⟩ : ByteArray) ++ tv = S := ⟨_, rfl⟩
  have HS2 : Hid (S2 = ⟨(39 :: tv.data.toList).toArray⟩) := by
    show _ = _
    rw [← hS2]
    apply ByteArray.ext
    simp
  clear hg hy hsT HCT hs
  unfold RepC RdC at HR
  simp only [bytes_of] at HR
  cases rr with
  | true =>
    rw [HC2.out, if_pos rfl, bytes_of]
    go_enter Tryz.func53, Tryz.ntmps53
    go_upto_region 2 with (go_at_call 16; refine (HR.out _ (HG.out.on ((Q.refl _).alloc _)).1).mono ?_; rintro e9 w3 ⟨v, rfl, ⟨k, m, t, bb, er, a1, l1, c1, a2, l2, c2, rfl, _⟩, q3⟩; have Z1 := hid ((cb_new w [.int .i64 2, .int .i64 0, .string tv, .bool false, .int .i64 0] 37).on q3); have Q3 : Hid (Q w w3) := hid (((Q.refl _).alloc _).trans q3); clear q3)
    have Z2 := hid (cb_new w3 [.bool f, .int .i64 vk, .int .i64 vn, .string vt, .bool vb, .int .i64 ve, .int .i64 k, .int .i64 m, .string t, .bool bb, .int .i64 er, .slice a1 l1 c1, .slice a2 l2 c2] 39)
    have Z12 := hid (Z1.out.on ((Q.refl w3).alloc (.cells #[.bool f, .int .i64 vk, .int .i64 vn, .string vt, .bool vb, .int .i64 ve, .int .i64 k, .int .i64 m, .string t, .bool bb, .int .i64 er, .slice a1 l1 c1, .slice a2 l2 c2] 39)))
    have Q4 := hid (Q3.out.alloc (.cells #[.bool f, .int .i64 vk, .int .i64 vn, .string vt, .bool vb, .int .i64 ve, .int .i64 k, .int .i64 m, .string t, .bool bb, .int .i64 er, .slice a1 l1 c1, .slice a2 l2 c2] 39))
    rw [show ([.bool f, .int .i64 vk, .int .i64 vn, .string vt, .bool vb, .int .i64 ve, .int .i64 k, .int .i64 m, .string t, .bool bb, .int .i64 er, .slice a1 l1 c1, .slice a2 l2 c2] : List Value).toArray = #[.bool f, .int .i64 vk, .int .i64 vn, .string vt, .bool vb, .int .i64 ve, .int .i64 k, .int .i64 m, .string t, .bool bb, .int .i64 er, .slice a1 l1 c1, .slice a2 l2 c2] from rfl] at Z2
    generalize w3.alloc (.cells #[.bool f, .int .i64 vk, .int .i64 vn, .string vt, .bool vb, .int .i64 ve, .int .i64 k, .int .i64 m, .string t, .bool bb, .int .i64 er, .slice a1 l1 c1, .slice a2 l2 c2] 39) = w4 at Z2 Z12 Q4 ⊢
    generalize w3.heap.size = b4 at Z2 ⊢
    clear Z1 Q3
    have d0 := Z2.out.c 0 _ rfl
    have d1 := Z2.out.c 1 _ rfl
    have d2 := Z2.out.c 2 _ rfl
    have d3 := Z2.out.c 3 _ rfl
    have d4 := Z2.out.c 4 _ rfl
    have d5 := Z2.out.c 5 _ rfl
    have d6 := Z2.out.c 6 _ rfl
    have d7 := Z2.out.c 7 _ rfl
    have d8 := Z2.out.c 8 _ rfl
    have d9 := Z2.out.c 9 _ rfl
    have d10 := Z2.out.c 10 _ rfl
    have d11 := Z2.out.c 11 _ rfl
    have d12 := Z2.out.c 12 _ rfl
    have x0 := Z12.out.c 0 _ rfl
    have x1 := Z12.out.c 1 _ rfl
    have x2 := Z12.out.c 2 _ rfl
    have x3 := Z12.out.c 3 _ rfl
    have x4 := Z12.out.c 4 _ rfl
    go_wp2_with (first | (go_at_call 51; refine (HV.out _).mono ?_; rintro e9 w5 ⟨rfl, q5⟩; have Q5 := hid (Q4.out.trans q5); have Z15 := hid (Z12.out.on q5); clear q5; have n0 := Z15.out.c 2 _ rfl) | (go_at_call 89; refine (HCl.out _).mono ?_; rintro e9 w6 ⟨rfl, q6⟩; have Q6 := hid (Q5.out.trans q6); clear q6))
    go_ret
    exact ⟨rfl, Q6.out⟩
  | false =>
    rw [HC2.out, if_neg (by simp), ← HS2.out]
    go_enter Tryz.func53, Tryz.ntmps53
    go_upto_region 2 with (go_at_call 16; refine (HR.out _ (HG.out.on ((Q.refl _).alloc _)).1).mono ?_; rintro e9 w3 ⟨v, rfl, ⟨k, m, t, bb, er, a1, l1, c1, a2, l2, c2, rfl, _⟩, q3⟩; have Z1 := hid ((cb_new w [.int .i64 2, .int .i64 0, .string tv, .bool false, .int .i64 0] 37).on q3); have Q3 : Hid (Q w w3) := hid (((Q.refl _).alloc _).trans q3); clear q3)
    have Z2 := hid (cb_new w3 [.bool f, .int .i64 vk, .int .i64 vn, .string vt, .bool vb, .int .i64 ve, .int .i64 k, .int .i64 m, .string t, .bool bb, .int .i64 er, .slice a1 l1 c1, .slice a2 l2 c2] 39)
    have Z12 := hid (Z1.out.on ((Q.refl w3).alloc (.cells #[.bool f, .int .i64 vk, .int .i64 vn, .string vt, .bool vb, .int .i64 ve, .int .i64 k, .int .i64 m, .string t, .bool bb, .int .i64 er, .slice a1 l1 c1, .slice a2 l2 c2] 39)))
    have Q4 := hid (Q3.out.alloc (.cells #[.bool f, .int .i64 vk, .int .i64 vn, .string vt, .bool vb, .int .i64 ve, .int .i64 k, .int .i64 m, .string t, .bool bb, .int .i64 er, .slice a1 l1 c1, .slice a2 l2 c2] 39))
    rw [show ([.bool f, .int .i64 vk, .int .i64 vn, .string vt, .bool vb, .int .i64 ve, .int .i64 k, .int .i64 m, .string t, .bool bb, .int .i64 er, .slice a1 l1 c1, .slice a2 l2 c2] : List Value).toArray = #[.bool f, .int .i64 vk, .int .i64 vn, .string vt, .bool vb, .int .i64 ve, .int .i64 k, .int .i64 m, .string t, .bool bb, .int .i64 er, .slice a1 l1 c1, .slice a2 l2 c2] from rfl] at Z2
    generalize w3.alloc (.cells #[.bool f, .int .i64 vk, .int .i64 vn, .string vt, .bool vb, .int .i64 ve, .int .i64 k, .int .i64 m, .string t, .bool bb, .int .i64 er, .slice a1 l1 c1, .slice a2 l2 c2] 39) = w4 at Z2 Z12 Q4 ⊢
    generalize w3.heap.size = b4 at Z2 ⊢
    clear Z1 Q3
    have d0 := Z2.out.c 0 _ rfl
    have d1 := Z2.out.c 1 _ rfl
    have d2 := Z2.out.c 2 _ rfl
    have d3 := Z2.out.c 3 _ rfl
    have d4 := Z2.out.c 4 _ rfl
    have d5 := Z2.out.c 5 _ rfl
    have d6 := Z2.out.c 6 _ rfl
    have d7 := Z2.out.c 7 _ rfl
    have d8 := Z2.out.c 8 _ rfl
    have d9 := Z2.out.c 9 _ rfl
    have d10 := Z2.out.c 10 _ rfl
    have d11 := Z2.out.c 11 _ rfl
    have d12 := Z2.out.c 12 _ rfl
    have x0 := Z12.out.c 0 _ rfl
    have x1 := Z12.out.c 1 _ rfl
    have x2 := Z12.out.c 2 _ rfl
    have x3 := Z12.out.c 3 _ rfl
    have x4 := Z12.out.c 4 _ rfl
    go_wp2_with (go_at_call 51; refine (HV.out _).mono ?_; rintro e9 w5 ⟨rfl, q5⟩; have Q5 := hid (Q4.out.trans q5); have Z15 := hid (Z12.out.on q5); clear q5; have n0 := Z15.out.c 2 _ rfl)
    go_ret
    exact ⟨rfl, Q5.out⟩
set_option maxHeartbeats 2000000 in
theorem plain_blank (w : World) (hg : Gd w) : Calls Tryz.prog 54 #[vx 0 0 ⟨#[]⟩ false 0] w fun e w' => e = .returned (.string ⟨#[]⟩) ∧ Q w w' := by
  have HT : Hid (∀ W', Q w W' → Calls Tryz.prog 90 #[vx 0 0 ⟨#[]⟩ false 0] W' fun e w' => e = .returned (.tuple #[.string ⟨#[]⟩, .int .i64 0]) ∧ Q W' w') := by
    intro W' q
    have HF := hid (fun W2 (q2 : Q W' W2) => fault_any 0 0 ⟨#[]⟩ false 0 W2 ((hg.1.on q).on q2) (by decide))
    have hm : V.mayB 0 0 (⟨#[]⟩ : ByteArray).toList false 0 = true := by rw [Lib.toList_data]; simp [V.mayB]
    rw [hm, if_pos rfl] at HF
    clear hg hm
    unfold vx at HF ⊢
    go_enter Tryz.func90, Tryz.ntmps90
    go_wp2_with (go_at_call 115; refine (HF.out _ ((Q.refl _).alloc _)).mono ?_; rintro e9 w1 ⟨rfl, q1⟩; have Q1 : Hid (Q W' w1) := hid (((Q.refl _).alloc _).trans q1); have Z1 := hid ((cb_new W' [.int .i64 0, .int .i64 0, .string ⟨#[]⟩, .bool false, .int .i64 0] 37).on q1); clear q1; have c0 := Z1.out.c 0 _ rfl; have c2 := Z1.out.c 2 _ rfl)
    go_ret2
    exact ⟨rfl, Q1.out⟩
  clear hg
  unfold vx at HT ⊢
  go_enter Tryz.func54, Tryz.ntmps54
  go_wp2_with (go_at_call 90; refine (HT.out _ ((Q.refl _).alloc _)).mono ?_; rintro e9 w1 ⟨rfl, q1⟩; have Q1 : Hid (Q w w1) := hid (((Q.refl _).alloc _).trans q1); clear q1)
  go_ret
  exact ⟨rfl, Q1.out⟩
set_option maxRecDepth 100000 in
set_option maxHeartbeats 4000000 in
theorem scell_form (vk vn : Int) (vt : ByteArray) (vb : Bool) (ve : Int) (k m : Int) (t : ByteArray) (bb : Bool) (er : Int) (a1 : Option Addr) (l1 c1 : Nat) (a2 : Option Addr) (l2 c2 : Nat) (T : ByteArray) (w : World) (hT : T.size ≤ 1000000) (HM : Hid (∀ W', Q w W' → Calls Tryz.prog 21 #[.agg #[.bool true, .int .i64 vk, .int .i64 vn, .string vt, .bool vb, .int .i64 ve, .int .i64 k, .int .i64 m, .string t, .bool bb, .int .i64 er, .slice a1 l1 c1, .slice a2 l2 c2]] W' fun e W2 => e = .returned (.bool true) ∧ Q W' W2)) (HF : Hid (∀ W', Q w W' → Calls Tryz.prog 10 #[.agg #[.int .i64 k, .int .i64 m, .string t, .bool bb, .int .i64 er, .slice a1 l1 c1, .slice a2 l2 c2]] W' fun e W2 => e = .returned (.string T) ∧ Q W' W2)) : Calls Tryz.prog 22 #[.agg #[.bool true, .int .i64 vk, .int .i64 vn, .string vt, .bool vb, .int .i64 ve, .int .i64 k, .int .i64 m, .string t, .bool bb, .int .i64 er, .slice a1 l1 c1, .slice a2 l2 c2]] w fun e W' => e = .returned (.string ⟨(61 :: T.data.toList).toArray⟩) ∧ Q w W' := by
  have nS : ¬ (9223372036854775807 < 1 + T.size) := by omega
  obtain ⟨S2, hS2⟩ : ∃ S : ByteArray, (⟨#[61]⟩ : ByteArray) ++ T = S := ⟨_, rfl⟩
  have HS2 : Hid (S2 = ⟨(61 :: T.data.toList).toArray⟩) := by
    show _ = _
    rw [← hS2]
    apply ByteArray.ext
    simp
  rw [← HS2.out]
  clear hT
  go_enter Tryz.func22, Tryz.ntmps22
  go_wp2_with (first | (go_at_call 21; refine (HM.out _ ((Q.refl _).alloc _)).mono ?_; rintro e9 w1 ⟨rfl, q1⟩; have Q1 : Hid (Q w w1) := hid (((Q.refl _).alloc _).trans q1); have Z1 := hid ((cb_new w [.bool true, .int .i64 vk, .int .i64 vn, .string vt, .bool vb, .int .i64 ve, .int .i64 k, .int .i64 m, .string t, .bool bb, .int .i64 er, .slice a1 l1 c1, .slice a2 l2 c2] 39).on q1); clear q1; have d0 := Z1.out.c 0 _ rfl; have d1 := Z1.out.c 1 _ rfl; have d2 := Z1.out.c 2 _ rfl; have d3 := Z1.out.c 3 _ rfl; have d4 := Z1.out.c 4 _ rfl; have d5 := Z1.out.c 5 _ rfl; have d6 := Z1.out.c 6 _ rfl; have d7 := Z1.out.c 7 _ rfl; have d8 := Z1.out.c 8 _ rfl; have d9 := Z1.out.c 9 _ rfl; have d10 := Z1.out.c 10 _ rfl; have d11 := Z1.out.c 11 _ rfl; have d12 := Z1.out.c 12 _ rfl) | (go_at_call 10; refine (HF.out _ Q1.out).mono ?_; rintro e9 w2 ⟨rfl, q2⟩; have Q2 := hid (Q1.out.trans q2); clear q2))
  go_ret
  exact ⟨rfl, Q2.out⟩
set_option maxRecDepth 100000 in
set_option maxHeartbeats 4000000 in
theorem scell_0 (vn : Int) (vt : ByteArray) (vb : Bool) (ve : Int) (k m : Int) (t : ByteArray) (bb : Bool) (er : Int) (a1 : Option Addr) (l1 c1 : Nat) (a2 : Option Addr) (l2 c2 : Nat) (T : ByteArray) (w : World) (HM : Hid (∀ W', Q w W' → Calls Tryz.prog 21 #[.agg #[.bool false, .int .i64 0, .int .i64 vn, .string vt, .bool vb, .int .i64 ve, .int .i64 k, .int .i64 m, .string t, .bool bb, .int .i64 er, .slice a1 l1 c1, .slice a2 l2 c2]] W' fun e W2 => e = .returned (.bool true) ∧ Q W' W2)) (HF : Hid (∀ W', Q w W' → Calls Tryz.prog 54 #[.agg #[.int .i64 0, .int .i64 vn, .string vt, .bool vb, .int .i64 ve]] W' fun e W2 => e = .returned (.string T) ∧ Q W' W2)) : Calls Tryz.prog 22 #[.agg #[.bool false, .int .i64 0, .int .i64 vn, .string vt, .bool vb, .int .i64 ve, .int .i64 k, .int .i64 m, .string t, .bool bb, .int .i64 er, .slice a1 l1 c1, .slice a2 l2 c2]] w fun e W' => e = .returned (.string T) ∧ Q w W' := by
  go_enter Tryz.func22, Tryz.ntmps22
  go_wp2_with (first | (go_at_call 21; refine (HM.out _ ((Q.refl _).alloc _)).mono ?_; rintro e9 w1 ⟨rfl, q1⟩; have Q1 : Hid (Q w w1) := hid (((Q.refl _).alloc _).trans q1); have Z1 := hid ((cb_new w [.bool false, .int .i64 0, .int .i64 vn, .string vt, .bool vb, .int .i64 ve, .int .i64 k, .int .i64 m, .string t, .bool bb, .int .i64 er, .slice a1 l1 c1, .slice a2 l2 c2] 39).on q1); clear q1; have d0 := Z1.out.c 0 _ rfl; have d1 := Z1.out.c 1 _ rfl; have d2 := Z1.out.c 2 _ rfl; have d3 := Z1.out.c 3 _ rfl; have d4 := Z1.out.c 4 _ rfl; have d5 := Z1.out.c 5 _ rfl; have d6 := Z1.out.c 6 _ rfl; have d7 := Z1.out.c 7 _ rfl; have d8 := Z1.out.c 8 _ rfl; have d9 := Z1.out.c 9 _ rfl; have d10 := Z1.out.c 10 _ rfl; have d11 := Z1.out.c 11 _ rfl; have d12 := Z1.out.c 12 _ rfl) | (go_at_call 54; refine (HF.out _ Q1.out).mono ?_; rintro e9 w2 ⟨rfl, q2⟩; have Q2 := hid (Q1.out.trans q2); clear q2))
  go_ret
  exact ⟨rfl, Q2.out⟩
set_option maxRecDepth 100000 in
set_option maxHeartbeats 4000000 in
theorem scell_1 (vn : Int) (vt : ByteArray) (vb : Bool) (ve : Int) (k m : Int) (t : ByteArray) (bb : Bool) (er : Int) (a1 : Option Addr) (l1 c1 : Nat) (a2 : Option Addr) (l2 c2 : Nat) (T : ByteArray) (w : World) (HM : Hid (∀ W', Q w W' → Calls Tryz.prog 21 #[.agg #[.bool false, .int .i64 1, .int .i64 vn, .string vt, .bool vb, .int .i64 ve, .int .i64 k, .int .i64 m, .string t, .bool bb, .int .i64 er, .slice a1 l1 c1, .slice a2 l2 c2]] W' fun e W2 => e = .returned (.bool true) ∧ Q W' W2)) (HF : Hid (∀ W', Q w W' → Calls Tryz.prog 54 #[.agg #[.int .i64 1, .int .i64 vn, .string vt, .bool vb, .int .i64 ve]] W' fun e W2 => e = .returned (.string T) ∧ Q W' W2)) : Calls Tryz.prog 22 #[.agg #[.bool false, .int .i64 1, .int .i64 vn, .string vt, .bool vb, .int .i64 ve, .int .i64 k, .int .i64 m, .string t, .bool bb, .int .i64 er, .slice a1 l1 c1, .slice a2 l2 c2]] w fun e W' => e = .returned (.string T) ∧ Q w W' := by
  go_enter Tryz.func22, Tryz.ntmps22
  go_wp2_with (first | (go_at_call 21; refine (HM.out _ ((Q.refl _).alloc _)).mono ?_; rintro e9 w1 ⟨rfl, q1⟩; have Q1 : Hid (Q w w1) := hid (((Q.refl _).alloc _).trans q1); have Z1 := hid ((cb_new w [.bool false, .int .i64 1, .int .i64 vn, .string vt, .bool vb, .int .i64 ve, .int .i64 k, .int .i64 m, .string t, .bool bb, .int .i64 er, .slice a1 l1 c1, .slice a2 l2 c2] 39).on q1); clear q1; have d0 := Z1.out.c 0 _ rfl; have d1 := Z1.out.c 1 _ rfl; have d2 := Z1.out.c 2 _ rfl; have d3 := Z1.out.c 3 _ rfl; have d4 := Z1.out.c 4 _ rfl; have d5 := Z1.out.c 5 _ rfl; have d6 := Z1.out.c 6 _ rfl; have d7 := Z1.out.c 7 _ rfl; have d8 := Z1.out.c 8 _ rfl; have d9 := Z1.out.c 9 _ rfl; have d10 := Z1.out.c 10 _ rfl; have d11 := Z1.out.c 11 _ rfl; have d12 := Z1.out.c 12 _ rfl) | (go_at_call 54; refine (HF.out _ Q1.out).mono ?_; rintro e9 w2 ⟨rfl, q2⟩; have Q2 := hid (Q1.out.trans q2); clear q2))
  go_ret
  exact ⟨rfl, Q2.out⟩
set_option maxRecDepth 100000 in
set_option maxHeartbeats 4000000 in
theorem scell_2 (vn : Int) (vt : ByteArray) (vb : Bool) (ve : Int) (k m : Int) (t : ByteArray) (bb : Bool) (er : Int) (a1 : Option Addr) (l1 c1 : Nat) (a2 : Option Addr) (l2 c2 : Nat) (T : ByteArray) (w : World) (HM : Hid (∀ W', Q w W' → Calls Tryz.prog 21 #[.agg #[.bool false, .int .i64 2, .int .i64 vn, .string vt, .bool vb, .int .i64 ve, .int .i64 k, .int .i64 m, .string t, .bool bb, .int .i64 er, .slice a1 l1 c1, .slice a2 l2 c2]] W' fun e W2 => e = .returned (.bool true) ∧ Q W' W2)) (HF : Hid (∀ W', Q w W' → Calls Tryz.prog 53 #[.agg #[.int .i64 2, .int .i64 vn, .string vt, .bool vb, .int .i64 ve]] W' fun e W2 => e = .returned (.string T) ∧ Q W' W2)) : Calls Tryz.prog 22 #[.agg #[.bool false, .int .i64 2, .int .i64 vn, .string vt, .bool vb, .int .i64 ve, .int .i64 k, .int .i64 m, .string t, .bool bb, .int .i64 er, .slice a1 l1 c1, .slice a2 l2 c2]] w fun e W' => e = .returned (.string T) ∧ Q w W' := by
  go_enter Tryz.func22, Tryz.ntmps22
  go_wp2_with (first | (go_at_call 21; refine (HM.out _ ((Q.refl _).alloc _)).mono ?_; rintro e9 w1 ⟨rfl, q1⟩; have Q1 : Hid (Q w w1) := hid (((Q.refl _).alloc _).trans q1); have Z1 := hid ((cb_new w [.bool false, .int .i64 2, .int .i64 vn, .string vt, .bool vb, .int .i64 ve, .int .i64 k, .int .i64 m, .string t, .bool bb, .int .i64 er, .slice a1 l1 c1, .slice a2 l2 c2] 39).on q1); clear q1; have d0 := Z1.out.c 0 _ rfl; have d1 := Z1.out.c 1 _ rfl; have d2 := Z1.out.c 2 _ rfl; have d3 := Z1.out.c 3 _ rfl; have d4 := Z1.out.c 4 _ rfl; have d5 := Z1.out.c 5 _ rfl; have d6 := Z1.out.c 6 _ rfl; have d7 := Z1.out.c 7 _ rfl; have d8 := Z1.out.c 8 _ rfl; have d9 := Z1.out.c 9 _ rfl; have d10 := Z1.out.c 10 _ rfl; have d11 := Z1.out.c 11 _ rfl; have d12 := Z1.out.c 12 _ rfl) | (go_at_call 53; refine (HF.out _ Q1.out).mono ?_; rintro e9 w2 ⟨rfl, q2⟩; have Q2 := hid (Q1.out.trans q2); clear q2))
  go_ret
  exact ⟨rfl, Q2.out⟩
set_option maxRecDepth 100000 in
set_option maxHeartbeats 4000000 in
theorem scell_3 (vn : Int) (vt : ByteArray) (vb : Bool) (ve : Int) (k m : Int) (t : ByteArray) (bb : Bool) (er : Int) (a1 : Option Addr) (l1 c1 : Nat) (a2 : Option Addr) (l2 c2 : Nat) (T : ByteArray) (w : World) (HM : Hid (∀ W', Q w W' → Calls Tryz.prog 21 #[.agg #[.bool false, .int .i64 3, .int .i64 vn, .string vt, .bool vb, .int .i64 ve, .int .i64 k, .int .i64 m, .string t, .bool bb, .int .i64 er, .slice a1 l1 c1, .slice a2 l2 c2]] W' fun e W2 => e = .returned (.bool true) ∧ Q W' W2)) (HF : Hid (∀ W', Q w W' → Calls Tryz.prog 54 #[.agg #[.int .i64 3, .int .i64 vn, .string vt, .bool vb, .int .i64 ve]] W' fun e W2 => e = .returned (.string T) ∧ Q W' W2)) : Calls Tryz.prog 22 #[.agg #[.bool false, .int .i64 3, .int .i64 vn, .string vt, .bool vb, .int .i64 ve, .int .i64 k, .int .i64 m, .string t, .bool bb, .int .i64 er, .slice a1 l1 c1, .slice a2 l2 c2]] w fun e W' => e = .returned (.string T) ∧ Q w W' := by
  go_enter Tryz.func22, Tryz.ntmps22
  go_wp2_with (first | (go_at_call 21; refine (HM.out _ ((Q.refl _).alloc _)).mono ?_; rintro e9 w1 ⟨rfl, q1⟩; have Q1 : Hid (Q w w1) := hid (((Q.refl _).alloc _).trans q1); have Z1 := hid ((cb_new w [.bool false, .int .i64 3, .int .i64 vn, .string vt, .bool vb, .int .i64 ve, .int .i64 k, .int .i64 m, .string t, .bool bb, .int .i64 er, .slice a1 l1 c1, .slice a2 l2 c2] 39).on q1); clear q1; have d0 := Z1.out.c 0 _ rfl; have d1 := Z1.out.c 1 _ rfl; have d2 := Z1.out.c 2 _ rfl; have d3 := Z1.out.c 3 _ rfl; have d4 := Z1.out.c 4 _ rfl; have d5 := Z1.out.c 5 _ rfl; have d6 := Z1.out.c 6 _ rfl; have d7 := Z1.out.c 7 _ rfl; have d8 := Z1.out.c 8 _ rfl; have d9 := Z1.out.c 9 _ rfl; have d10 := Z1.out.c 10 _ rfl; have d11 := Z1.out.c 11 _ rfl; have d12 := Z1.out.c 12 _ rfl) | (go_at_call 54; refine (HF.out _ Q1.out).mono ?_; rintro e9 w2 ⟨rfl, q2⟩; have Q2 := hid (Q1.out.trans q2); clear q2))
  go_ret
  exact ⟨rfl, Q2.out⟩
set_option maxRecDepth 100000 in
set_option maxHeartbeats 4000000 in
theorem scell_4 (vn : Int) (vt : ByteArray) (vb : Bool) (ve : Int) (k m : Int) (t : ByteArray) (bb : Bool) (er : Int) (a1 : Option Addr) (l1 c1 : Nat) (a2 : Option Addr) (l2 c2 : Nat) (T : ByteArray) (w : World) (HM : Hid (∀ W', Q w W' → Calls Tryz.prog 21 #[.agg #[.bool false, .int .i64 4, .int .i64 vn, .string vt, .bool vb, .int .i64 ve, .int .i64 k, .int .i64 m, .string t, .bool bb, .int .i64 er, .slice a1 l1 c1, .slice a2 l2 c2]] W' fun e W2 => e = .returned (.bool true) ∧ Q W' W2)) (HF : Hid (∀ W', Q w W' → Calls Tryz.prog 54 #[.agg #[.int .i64 4, .int .i64 vn, .string vt, .bool vb, .int .i64 ve]] W' fun e W2 => e = .returned (.string T) ∧ Q W' W2)) : Calls Tryz.prog 22 #[.agg #[.bool false, .int .i64 4, .int .i64 vn, .string vt, .bool vb, .int .i64 ve, .int .i64 k, .int .i64 m, .string t, .bool bb, .int .i64 er, .slice a1 l1 c1, .slice a2 l2 c2]] w fun e W' => e = .returned (.string T) ∧ Q w W' := by
  go_enter Tryz.func22, Tryz.ntmps22
  go_wp2_with (first | (go_at_call 21; refine (HM.out _ ((Q.refl _).alloc _)).mono ?_; rintro e9 w1 ⟨rfl, q1⟩; have Q1 : Hid (Q w w1) := hid (((Q.refl _).alloc _).trans q1); have Z1 := hid ((cb_new w [.bool false, .int .i64 4, .int .i64 vn, .string vt, .bool vb, .int .i64 ve, .int .i64 k, .int .i64 m, .string t, .bool bb, .int .i64 er, .slice a1 l1 c1, .slice a2 l2 c2] 39).on q1); clear q1; have d0 := Z1.out.c 0 _ rfl; have d1 := Z1.out.c 1 _ rfl; have d2 := Z1.out.c 2 _ rfl; have d3 := Z1.out.c 3 _ rfl; have d4 := Z1.out.c 4 _ rfl; have d5 := Z1.out.c 5 _ rfl; have d6 := Z1.out.c 6 _ rfl; have d7 := Z1.out.c 7 _ rfl; have d8 := Z1.out.c 8 _ rfl; have d9 := Z1.out.c 9 _ rfl; have d10 := Z1.out.c 10 _ rfl; have d11 := Z1.out.c 11 _ rfl; have d12 := Z1.out.c 12 _ rfl) | (go_at_call 54; refine (HF.out _ Q1.out).mono ?_; rintro e9 w2 ⟨rfl, q2⟩; have Q2 := hid (Q1.out.trans q2); clear q2))
  go_ret
  exact ⟨rfl, Q2.out⟩
end Go.Proofs.YtgheopdadfnilaaGreatDoor
namespace Go.Proofs.YtgheopdadfnilaaGreatDoor
open Go.RowKit
set_option linter.unusedVariables false
set_option linter.unusedSimpArgs false
/-- a formula that may be -/
def GF (c : Cl) : Prop := c.1 = true ∧ c.2.1 = zV ∧ fitB c.2.2 = true ∧ MX c.2.2
/-- a value that may be -/
def GV (c : Cl) : Prop := c.1 = false ∧ c.2.2 = zeroE ∧ V.mayB c.2.1.1 c.2.1.2.1 c.2.1.2.2.1 c.2.1.2.2.2.1 c.2.1.2.2.2.2 = true ∧ V.fitB c.2.1.2.1 = true
/-- how a cell that may be is written -/
def ctT (c : Cl) : List UInt8 := if c.1 then 61 :: fmE c.2.2 else if c.2.1.1 = 2 then ctx c.2.1.2.2.1 else plT c.2.1.1 c.2.1.2.1 c.2.1.2.2.2.1 c.2.1.2.2.2.2
/-- which values may be -/
theorem mayB_cases {k n : Int} {t : List UInt8} {b : Bool} {e : Int} (h : V.mayB k n t b e = true) : (k, n, t, b, e) = (0, 0, [], false, 0) ∨ (k, n, t, b, e) = (1, n, [], false, 0) ∨ ((k, n, t, b, e) = (2, 0, t, false, 0) ∧ V.mtB t = true) ∨ (k, n, t, b, e) = (3, 0, [], b, 0) ∨ ((k, n, t, b, e) = (4, 0, [], false, e) ∧ 1 ≤ e ∧ e ≤ 7) := by
  unfold V.mayB at h
  split at h
  · rename_i hk
    simp only [Bool.and_eq_true, Bool.not_eq_true', decide_eq_true_eq] at h
    obtain ⟨rfl, rfl, rfl, rfl⟩ := h
    subst hk
    exact .inl rfl
  split at h
  · rename_i hk
    simp only [Bool.and_eq_true, Bool.not_eq_true', decide_eq_true_eq] at h
    obtain ⟨rfl, rfl, rfl⟩ := h
    subst hk
    exact .inr (.inl rfl)
  split at h
  · rename_i hk
    simp only [Bool.and_eq_true, Bool.not_eq_true', decide_eq_true_eq] at h
    obtain ⟨rfl, rfl, rfl, hm⟩ := h
    subst hk
    exact .inr (.inr (.inl ⟨rfl, hm⟩))
  split at h
  · rename_i hk
    simp only [Bool.and_eq_true, Bool.not_eq_true', decide_eq_true_eq] at h
    obtain ⟨rfl, rfl, rfl⟩ := h
    subst hk
    exact .inr (.inr (.inr (.inl rfl)))
  split at h
  · rename_i hk
    simp only [Bool.and_eq_true, Bool.not_eq_true', decide_eq_true_eq] at h
    obtain ⟨rfl, rfl, rfl, h1, h2⟩ := h
    subst hk
    exact .inr (.inr (.inr (.inr ⟨rfl, h1, h2⟩)))
  · cases h
theorem showT_val {l : List UInt8} (h : Lib.hasPrefix l [61] = false) (y : Ex × Nat) : showT l y = valT l := by
  unfold showT
  rw [h]
  rfl
theorem valT_ok {l : List UInt8} {v : Int × Int × List UInt8 × Bool × Int} (h : rvT l = v) (hm : V.mayB v.1 v.2.1 v.2.2.1 v.2.2.2.1 v.2.2.2.2 = true) : valT l = ((false, v, zeroE), 0) := by
  unfold valT
  rw [h, hm]
  rfl
theorem mtB_short {t : List UInt8} (h : V.mtB t = true) : t.length ≤ 200 := by
  unfold V.mtB at h
  simp only [Bool.and_eq_true, decide_eq_true_eq] at h
  exact h.1
theorem rvT_print {n : Int} (hf : V.fitB n = true) : rvT (V.printL n) = (1, n, [], false, 0) ∧ Lib.hasPrefix (V.printL n) [61] = false := by
  have hp : V.pf (V.parseO (V.printL n)) = true := by rw [V.parse_print]; exact hf
  obtain ⟨c, r, e, hc⟩ : ∃ c r, V.printL n = c :: r ∧ (c = 45 ∨ joinB c = true) := by
    by_cases h0 : n < 0
    · refine ⟨45, V.magL n.natAbs, ?_, .inl rfl⟩
      unfold V.printL
      rw [if_pos h0]
    · have h1 := print_join n (by omega)
      have h2 := print_ne n
      cases hq : V.printL n with
      | nil => exact absurd hq h2
      | cons c r => exact ⟨c, r, rfl, .inr (h1 c (by rw [hq]; simp))⟩
  have h39 : c ≠ 39 := by
    rcases hc with rfl | hc
    · decide
    · rintro rfl; revert hc; decide
  have h61 : c ≠ 61 := by
    rcases hc with rfl | hc
    · decide
    · rintro rfl; revert hc; decide
  refine ⟨?_, by rw [e]; exact hp_fst c 61 r h61⟩
  unfold rvT
  rw [if_neg (print_ne n), if_neg (by rw [e, hp_fst c 39 r h39]; simp), if_pos hp, V.parse_print]
  show (1, V.keep n, [], false, 0) = _
  unfold V.keep
  rw [hf]
  rfl
/-- a value that may be, written, is read again -/
theorem val_read {c : Cl} (h : GV c) (y : Ex × Nat) : showT (ctT c) y = (c, 0) := by
  obtain ⟨f, ⟨k, n, t, b, e⟩, x⟩ := c
  obtain ⟨h1, h2, h3, h4⟩ := h
  simp only at h1 h2 h3 h4
  subst h1 h2
  unfold ctT
  simp only [Bool.false_eq_true, if_false]
  have hm := h3
  rcases mayB_cases h3 with h | h | ⟨h, h5⟩ | h | ⟨h, h5, h6⟩
  · simp only [Prod.mk.injEq] at h
    obtain ⟨rfl, rfl, rfl, rfl, rfl⟩ := h
    rw [if_neg (by decide)]
    have e : plT 0 0 false 0 = [] := by decide
    rw [e, showT_val (by rfl), valT_ok (v := (0, 0, [], false, 0)) (by rfl) hm]
  · simp only [Prod.mk.injEq] at h
    obtain ⟨rfl, -, rfl, rfl, rfl⟩ := h
    rw [if_neg (by decide)]
    have e : plT 1 n false 0 = V.printL n := rfl
    obtain ⟨g1, g2⟩ := rvT_print h4
    rw [e, showT_val g2, valT_ok g1 hm]
  · simp only [Prod.mk.injEq] at h
    obtain ⟨rfl, rfl, -, rfl, rfl⟩ := h
    rw [if_pos rfl]
    unfold ctx
    by_cases hc : Lib.hasPrefix t [61] = false ∧ (valT t).1.2.1 = (2, 0, t, false, 0)
    · rw [if_pos hc, showT_val hc.1]
      have hv := hc.2
      unfold valT at hv ⊢
      split
      · rename_i hmm
        rw [if_pos hmm] at hv
        simp only at hv
        rw [hv]
      · rename_i hmm
        rw [if_neg hmm] at hv
        cases hv
    · rw [if_neg hc, showT_val (hp_fst 39 61 t (by decide))]
      refine valT_ok (v := (2, 0, t, false, 0)) ?_ hm
      unfold rvT
      rw [if_neg (by simp), if_pos (by unfold Lib.hasPrefix; simp)]
      rfl
  · simp only [Prod.mk.injEq] at h
    obtain ⟨rfl, rfl, rfl, -, rfl⟩ := h
    rw [if_neg (by decide)]
    have e : plT 3 0 b 0 = if b then truW else flsW := rfl
    rw [e]
    have g : rvT (if b then truW else flsW) = (3, 0, [], b, 0) ∧ Lib.hasPrefix (if b then truW else flsW) [61] = false := by cases b <;> exact ⟨by decide +kernel, by decide +kernel⟩
    rw [showT_val g.2, valT_ok g.1 hm]
  · simp only [Prod.mk.injEq] at h
    obtain ⟨rfl, rfl, rfl, rfl, -⟩ := h
    rw [if_neg (by decide)]
    have e0 : plT 4 0 false e = enL e := rfl
    rw [e0]
    have g : rvT (enL e) = (4, 0, [], false, e) ∧ Lib.hasPrefix (enL e) [61] = false := by
      rcases (by omega : e = 1 ∨ e = 2 ∨ e = 3 ∨ e = 4 ∨ e = 5 ∨ e = 6 ∨ e = 7) with rfl | rfl | rfl | rfl | rfl | rfl | rfl <;> exact ⟨by decide +kernel, by decide +kernel⟩
    rw [showT_val g.2, valT_ok g.1 hm]
/-- a formula that may be, written, is read again -/
theorem form_read {c : Cl} (h : GF c) (hl : (ctT c).length ≤ 1000) (y : Ex × Nat) (hy : PzR ((ctT c).drop 1) y) : showT (ctT c) y = (c, 0) := by
  obtain ⟨f, v, x⟩ := c
  obtain ⟨h1, h2, h3, h4⟩ := h
  simp only at h1 h2 h3 h4
  subst h1 h2
  unfold ctT at hl hy ⊢
  simp only [if_true, List.length_cons, List.drop_succ_cons, List.drop_zero] at hl hy ⊢
  have := pz_fun hy (pz_fm h4.1 h4.2 h3 (by omega))
  subst this
  unfold showT
  rw [if_pos (by unfold Lib.hasPrefix; simp)]
  rfl
theorem cell_read {c : Cl} (h : GF c ∨ GV c) (hl : (ctT c).length ≤ 1000) (y : Ex × Nat) (hy : PzR ((ctT c).drop 1) y) : showT (ctT c) y = (c, 0) := by
  rcases h with h | h
  · exact form_read h hl y hy
  · exact val_read h y
/-- what is read may be -/
theorem rvT_fit (l : List UInt8) : V.fitB (rvT l).2.1 = true := by
  have h0 : V.fitB 0 = true := by decide
  unfold rvT
  split
  · exact h0
  split
  · exact h0
  split
  · rename_i h
    show V.fitB (V.pk (V.parseO l)) = true
    cases hp : V.parseO l with
    | none => rw [hp] at h; cases h
    | some n =>
      rw [hp] at h
      have hf : V.fitB n = true := h
      show V.fitB (V.keep n) = true
      unfold V.keep
      rw [hf, if_pos rfl]
      exact hf
  split
  · exact h0
  split
  · exact h0
  · exact h0
theorem show_good {l : List UInt8} {y : Ex × Nat} (hy : PzR (l.drop 1) y) (h : (showT l y).2 = 0) : GF (showT l y).1 ∨ GV (showT l y).1 := by
  unfold showT at h ⊢
  by_cases hp : Lib.hasPrefix l [61] = true
  · rw [if_pos hp] at h ⊢
    obtain ⟨x, n⟩ := y
    unfold frm at h ⊢
    simp only at h ⊢
    split at h
    · rename_i hn
      subst hn
      rw [if_pos rfl]
      obtain ⟨h1, h2, h3⟩ := pz_may hy
      exact .inl ⟨rfl, rfl, h1, h2, h3⟩
    · rename_i hn
      exact absurd h hn
  · rw [if_neg hp] at h ⊢
    unfold valT at h ⊢
    split
    · rename_i hm
      exact .inr ⟨rfl, rfl, hm, rvT_fit l⟩
    · rename_i hm
      rw [if_neg hm] at h
      cases h
theorem ctT_len {c : Cl} (h : GF c ∨ GV c) : (ctT c).length ≤ 100000 := by
  rcases h with ⟨h1, h2, h3, h4⟩ | ⟨h1, h2, h3, h4⟩
  · unfold ctT
    rw [h1, if_pos rfl, List.length_cons]
    have h5 := fm_len _ c.2.2 (Nat.le_refl _) h4.1 h4.2
    have h6 := fit_nodes h3
    omega
  · obtain ⟨f, ⟨k, n, t, b, e⟩, x⟩ := c
    simp only at h1 h2 h3 h4
    subst h1
    unfold ctT
    simp only [Bool.false_eq_true, if_false]
    rcases mayB_cases h3 with h | h | ⟨h, h5⟩ | h | ⟨h, h5, h6⟩
    · simp only [Prod.mk.injEq] at h
      obtain ⟨rfl, rfl, rfl, rfl, rfl⟩ := h
      decide
    · simp only [Prod.mk.injEq] at h
      obtain ⟨rfl, -, rfl, rfl, rfl⟩ := h
      rw [if_neg (by decide), show plT 1 n false 0 = V.printL n from rfl]
      have := print_len n h4
      omega
    · simp only [Prod.mk.injEq] at h
      obtain ⟨rfl, rfl, -, rfl, rfl⟩ := h
      rw [if_pos rfl]
      have := mtB_short h5
      unfold ctx
      split
      · omega
      · rw [List.length_cons]; omega
    · simp only [Prod.mk.injEq] at h
      obtain ⟨rfl, rfl, rfl, -, rfl⟩ := h
      cases b <;> decide
    · simp only [Prod.mk.injEq] at h
      obtain ⟨rfl, rfl, rfl, rfl, -⟩ := h
      rcases (by omega : e = 1 ∨ e = 2 ∨ e = 3 ∨ e = 4 ∨ e = 5 ∨ e = 6 ∨ e = 7) with rfl | rfl | rfl | rfl | rfl | rfl | rfl <;> decide
/-- show.May of a cell that may be -/
theorem smay_good {c : Cl} (h : GF c ∨ GV c) {v : Value} {B : Nat} {w : World} (hg : Gd w) (hr : RdC B w c v) : Calls Tryz.prog 21 #[v] w fun e W' => e = .returned (.bool true) ∧ Q w W' := by
  obtain ⟨f, ⟨vk, vn, vl, vb, ve⟩, X⟩ := c
  obtain ⟨k, m, t, bb, er, a1, l1, c1, a2, l2, c2, rfl, hd⟩ := hr
  have hd := Rdg.rd _ _ hd
  rcases h with ⟨h1, h2, h3, h4⟩ | ⟨h1, h2, h3, h4⟩
  · simp only at h1 h2 h3 h4
    subst h1
    cases h2
    refine (smay_form 0 0 ⟨#[]⟩ false 0 k m t bb er a1 l1 c1 a2 l2 c2 X w hg (may_sm _ X (Nat.le_refl _) h4.1) hd).mono ?_
    rintro e W' ⟨rfl, q⟩
    rw [h3, h4.1]
    exact ⟨by simp, q⟩
  · simp only at h1 h2 h3 h4
    subst h1 h2
    have hl : vl.length ≤ 200 := by
      rcases mayB_cases h3 with h | h | ⟨h, h5⟩ | h | ⟨h, h5, h6⟩
      · simp only [Prod.mk.injEq] at h; rw [h.2.2.1]; simp
      · simp only [Prod.mk.injEq] at h; rw [h.2.2.1]; simp
      · exact mtB_short h5
      · simp only [Prod.mk.injEq] at h; rw [h.2.2.1]; simp
      · simp only [Prod.mk.injEq] at h; rw [h.2.2.1]; simp
    refine (smay_val vk vn ⟨vl.toArray⟩ vb ve k m t bb er a1 l1 c1 a2 l2 c2 zeroE w hg (by rw [size_mk]; omega) (by decide) hd).mono ?_
    rintro e W' ⟨rfl, q⟩
    rw [show (⟨vl.toArray⟩ : ByteArray).data.toList = vl from rfl, h3]
    exact ⟨rfl, q⟩
theorem RdC.on0 {B : Nat} {W W' : World} {c : Cl} {v : Value} (h : RdC B W c v) (q : Q W W') (hB : 0 < B) : RdC B W' c v := h.on (Qx.of (p := 0) q) hB
/-- show.Cell of a cell that may be -/
theorem scell_good {c : Cl} (h : GF c ∨ GV c) {v : Value} {B : Nat} {w : World} (hg : Gd w) (hB : 0 < B) (hr : RdC B w c v) : Calls Tryz.prog 22 #[v] w fun e W' => e = .returned (.string ⟨(ctT c).toArray⟩) ∧ Q w W' := by
  have HM := hid (fun W' (q : Q w W') => smay_good h (hg.on q) (hr.on0 q hB))
  obtain ⟨f, ⟨vk, vn, vl, vb, ve⟩, X⟩ := c
  obtain ⟨k, m, t, bb, er, a1, l1, c1, a2, l2, c2, rfl, hd⟩ := hr
  have hd := Rdg.rd _ _ hd
  have hlen := ctT_len h
  rcases h with ⟨h1, h2, h3, h4⟩ | ⟨h1, h2, h3, h4⟩
  · simp only at h1 h2 h3 h4
    subst h1
    cases h2
    have HF := hid (fun W' (q : Q w W') => form_yes X _ W' (hg.on q) h4 h3 (Rd.on q _ _ hd))
    unfold ctT at hlen ⊢
    simp only [if_true, List.length_cons] at hlen ⊢
    exact scell_form 0 0 ⟨#[]⟩ false 0 k m t bb er a1 l1 c1 a2 l2 c2 ⟨(fmE X).toArray⟩ w (by rw [size_mk]; omega) HM HF
  · simp only at h1 h2 h3 h4
    subst h1
    unfold ctT at hlen ⊢
    simp only [Bool.false_eq_true, if_false] at hlen ⊢
    rcases mayB_cases h3 with h | h | ⟨h, h5⟩ | h | ⟨h, h5, h6⟩
    · simp only [Prod.mk.injEq] at h
      obtain ⟨rfl, rfl, rfl, rfl, rfl⟩ := h
      exact scell_0 0 ⟨#[]⟩ false 0 k m t bb er a1 l1 c1 a2 l2 c2 ⟨#[]⟩ w HM (hid fun W' q => plain_blank W' (hg.on q))
    · simp only [Prod.mk.injEq] at h
      obtain ⟨rfl, -, rfl, rfl, rfl⟩ := h
      exact scell_1 vn ⟨#[]⟩ false 0 k m t bb er a1 l1 c1 a2 l2 c2 ⟨(V.printL vn).toArray⟩ w HM (hid fun W' q => plain_numG vn _ W' (hg.on q) (hid (fun W2 g2 => fprint_any vn W2 g2 h4 (by have := of_decide_eq_true h4; omega))))
    · simp only [Prod.mk.injEq] at h
      obtain ⟨rfl, rfl, -, rfl, rfl⟩ := h
      rw [if_pos rfl]
      have := mtB_short h5
      exact scell_2 0 ⟨vl.toArray⟩ false 0 k m t bb er a1 l1 c1 a2 l2 c2 ⟨(ctx vl).toArray⟩ w HM (hid fun W' q => cellText_any ⟨vl.toArray⟩ W' (hg.on q) (by rw [size_mk]; omega))
    · simp only [Prod.mk.injEq] at h
      obtain ⟨rfl, rfl, rfl, -, rfl⟩ := h
      exact scell_3 0 ⟨#[]⟩ vb 0 k m t bb er a1 l1 c1 a2 l2 c2 ⟨(if vb then truW else flsW).toArray⟩ w HM (hid fun W' q => plain_bool vb W' (hg.on q))
    · simp only [Prod.mk.injEq] at h
      obtain ⟨rfl, rfl, rfl, rfl, -⟩ := h
      exact scell_4 0 ⟨#[]⟩ false ve k m t bb er a1 l1 c1 a2 l2 c2 ⟨(enL ve).toArray⟩ w HM (hid fun W' q => plain_err ve W' (hg.on q))
end Go.Proofs.YtgheopdadfnilaaGreatDoor
namespace Go.Proofs.YtgheopdadfnilaaGreatDoor
open Go.RowKit
set_option linter.unusedVariables false
set_option linter.unusedSimpArgs false
/-- the tree of the first formula -/
def xb : Ex := binE [42] (binE [43] (numE 10000) (refE ([], 1, 0, false, false))) (numE 30000)
theorem xb_fm : fmE xb = [40, 49, 43, 65, 50, 41, 42, 51] := by decide +kernel
theorem xb_mx : MX xb := mx_bin (by decide) (mx_bin (by decide) (mx_num (by omega) (by omega)) (mx_leaf (by decide +kernel) (by omega))) (mx_num (by omega) (by omega))
theorem xb_fit : fitB xb = true := by decide +kernel
theorem xb_pz : PzR [40, 49, 43, 65, 50, 41, 42, 51] (xb, 0) := by
  have := pz_fm xb_mx.1 xb_mx.2 xb_fit (by rw [xb_fm]; decide)
  rw [xb_fm] at this
  exact this
def cA : Cl := (true, zV, xb)
def cB : Cl := (false, (2, 0, [53], false, 0), zeroE)
theorem gA : GF cA ∨ GV cA := .inl ⟨rfl, rfl, xb_fit, xb_mx⟩
theorem gB : GF cB ∨ GV cB := .inr ⟨rfl, rfl, by decide +kernel, by decide⟩
theorem tA : ctT cA = [61, 40, 49, 43, 65, 50, 41, 42, 51] := by
  unfold ctT cA
  simp only [if_true]
  rw [xb_fm]
theorem tB : ctT cB = [39, 53] := by decide +kernel
set_option maxRecDepth 100000 in
set_option maxHeartbeats 8000000 in
theorem sbegun_any (w : World) (hg : Gd w) : Calls Tryz.prog 8 #[] w fun e W' => e = .returned (.bool true) ∧ Q w W' := by
  obtain ⟨y5, hy5⟩ := pz_total [53]
  have HA : Hid (∀ W', Std W' → Calls Tryz.prog 16 #[.string ⟨#[61, 40, 49, 43, 65, 50, 41, 42, 51]⟩] W' fun e W2 => RepC W' (cA, 0) e W2) := fun W' g => by
    have := read_any ⟨#[61, 40, 49, 43, 65, 50, 41, 42, 51]⟩ (xb, 0) xb_pz (by decide) W' g
    exact this
  have HB : Hid (∀ W', Std W' → Calls Tryz.prog 16 #[.string ⟨#[39, 53]⟩] W' fun e W2 => RepC W' (cB, 0) e W2) := fun W' g => by
    have := read_any ⟨#[39, 53]⟩ y5 hy5 (by decide) W' g
    rw [show showT (⟨#[39, 53]⟩ : ByteArray).data.toList y5 = (cB, 0) by rw [showT_val (by decide +kernel)]; exact valT_ok (v := (2, 0, [53], false, 0)) (by decide +kernel) (by decide +kernel)] at this
    exact this
  have HCA := hid (fun W' B v (g : Gd W') (hB : 0 < B) (hr : RdC B W' cA v) => scell_good gA g hB hr)
  have HCB := hid (fun W' B v (g : Gd W') (hB : 0 < B) (hr : RdC B W' cB v) => scell_good gB g hB hr)
  have HMA := hid (fun W' B v (g : Gd W') (hr : RdC B W' cA v) => smay_good gA g hr)
  rw [tA] at HCA
  rw [tB] at HCB
  have HG := hid hg
  clear hg
  go_enter Tryz.func8, Tryz.ntmps8
  go_upto_region 2 with (go_at_call 16; refine (HA.out _ HG.out.1).mono ?_; rintro e9 w1 ⟨v, rfl, hr, q1⟩; have hr0 := hid hr; obtain ⟨k, m, t, bb, er, a1, l1, c1, a2, l2, c2, rfl, _⟩ := hr; have R1 := hr0; have Q1 := hid q1; clear q1 hr0)
  have hB0 : 0 < w.heap.size := Nat.lt_of_le_of_lt (Nat.zero_le _) HG.out.1.big
  have Z1 := hid (cb_new w1 [.bool true, .int .i64 0, .int .i64 0, .string ⟨#[]⟩, .bool false, .int .i64 0, .int .i64 k, .int .i64 m, .string t, .bool bb, .int .i64 er, .slice a1 l1 c1, .slice a2 l2 c2] 39)
  have R2 := hid (R1.out.on0 ((Q.refl w1).alloc (.cells #[.bool true, .int .i64 0, .int .i64 0, .string ⟨#[]⟩, .bool false, .int .i64 0, .int .i64 k, .int .i64 m, .string t, .bool bb, .int .i64 er, .slice a1 l1 c1, .slice a2 l2 c2] 39)) hB0)
  have Q2 := hid (Q1.out.alloc (.cells #[.bool true, .int .i64 0, .int .i64 0, .string ⟨#[]⟩, .bool false, .int .i64 0, .int .i64 k, .int .i64 m, .string t, .bool bb, .int .i64 er, .slice a1 l1 c1, .slice a2 l2 c2] 39))
  rw [show ([.bool true, .int .i64 0, .int .i64 0, .string ⟨#[]⟩, .bool false, .int .i64 0, .int .i64 k, .int .i64 m, .string t, .bool bb, .int .i64 er, .slice a1 l1 c1, .slice a2 l2 c2] : List Value).toArray = #[.bool true, .int .i64 0, .int .i64 0, .string ⟨#[]⟩, .bool false, .int .i64 0, .int .i64 k, .int .i64 m, .string t, .bool bb, .int .i64 er, .slice a1 l1 c1, .slice a2 l2 c2] from rfl] at Z1
  simp only [cA, zV] at ⊢
  generalize w1.alloc (.cells #[.bool true, .int .i64 0, .int .i64 0, .string ⟨#[]⟩, .bool false, .int .i64 0, .int .i64 k, .int .i64 m, .string t, .bool bb, .int .i64 er, .slice a1 l1 c1, .slice a2 l2 c2] 39) = w2 at Z1 R2 Q2 ⊢
  generalize w1.heap.size = b2 at Z1 ⊢
  clear R1 Q1
  go_upto_region 3 with (go_at_call 16; refine (HB.out _ (HG.out.on Q2.out).1).mono ?_; rintro e9 w3 ⟨v, rfl, hr, q3⟩; have hr0 := hid hr; obtain ⟨k', m', t', bb', er', a1', l1', c1', a2', l2', c2', rfl, _⟩ := hr; have R3 := hr0; have Q3 := hid q3; clear q3 hr0)
  have hB2 : 0 < w2.heap.size := Nat.lt_of_le_of_lt (Nat.zero_le _) Z1.out.l
  simp only [cB] at ⊢
  have Z2 := hid (cb_new w3 [.bool false, .int .i64 2, .int .i64 0, .string ⟨#[53]⟩, .bool false, .int .i64 0, .int .i64 k', .int .i64 m', .string t', .bool bb', .int .i64 er', .slice a1' l1' c1', .slice a2' l2' c2'] 39)
  have Z12 := hid (Z1.out.on (Q3.out.alloc (.cells #[.bool false, .int .i64 2, .int .i64 0, .string ⟨#[53]⟩, .bool false, .int .i64 0, .int .i64 k', .int .i64 m', .string t', .bool bb', .int .i64 er', .slice a1' l1' c1', .slice a2' l2' c2'] 39)))
  have RA : Hid (RdC w.heap.size (w3.alloc (.cells #[.bool false, .int .i64 2, .int .i64 0, .string ⟨#[53]⟩, .bool false, .int .i64 0, .int .i64 k', .int .i64 m', .string t', .bool bb', .int .i64 er', .slice a1' l1' c1', .slice a2' l2' c2'] 39)) cA (.agg #[.bool true, .int .i64 0, .int .i64 0, .string ⟨#[]⟩, .bool false, .int .i64 0, .int .i64 k, .int .i64 m, .string t, .bool bb, .int .i64 er, .slice a1 l1 c1, .slice a2 l2 c2])) := hid (R2.out.on0 (Q3.out.alloc _) hB0)
  have RB : Hid (RdC w2.heap.size (w3.alloc (.cells #[.bool false, .int .i64 2, .int .i64 0, .string ⟨#[53]⟩, .bool false, .int .i64 0, .int .i64 k', .int .i64 m', .string t', .bool bb', .int .i64 er', .slice a1' l1' c1', .slice a2' l2' c2'] 39)) cB (.agg #[.bool false, .int .i64 2, .int .i64 0, .string ⟨#[53]⟩, .bool false, .int .i64 0, .int .i64 k', .int .i64 m', .string t', .bool bb', .int .i64 er', .slice a1' l1' c1', .slice a2' l2' c2'])) := hid (R3.out.on0 ((Q.refl w3).alloc _) hB2)
  have Q4 := hid (Q2.out.trans (Q3.out.alloc (.cells #[.bool false, .int .i64 2, .int .i64 0, .string ⟨#[53]⟩, .bool false, .int .i64 0, .int .i64 k', .int .i64 m', .string t', .bool bb', .int .i64 er', .slice a1' l1' c1', .slice a2' l2' c2'] 39)))
  rw [show ([.bool false, .int .i64 2, .int .i64 0, .string ⟨#[53]⟩, .bool false, .int .i64 0, .int .i64 k', .int .i64 m', .string t', .bool bb', .int .i64 er', .slice a1' l1' c1', .slice a2' l2' c2'] : List Value).toArray = #[.bool false, .int .i64 2, .int .i64 0, .string ⟨#[53]⟩, .bool false, .int .i64 0, .int .i64 k', .int .i64 m', .string t', .bool bb', .int .i64 er', .slice a1' l1' c1', .slice a2' l2' c2'] from rfl] at Z2
  generalize w3.alloc (.cells #[.bool false, .int .i64 2, .int .i64 0, .string ⟨#[53]⟩, .bool false, .int .i64 0, .int .i64 k', .int .i64 m', .string t', .bool bb', .int .i64 er', .slice a1' l1' c1', .slice a2' l2' c2'] 39) = w4 at Z2 Z12 RA RB Q4 ⊢
  generalize w3.heap.size = b4 at Z2 ⊢
  clear R2 R3 Q2 Q3 Z1
  have d0 := Z12.out.c 0 _ rfl
  have d1 := Z12.out.c 1 _ rfl
  have d2 := Z12.out.c 2 _ rfl
  have d3 := Z12.out.c 3 _ rfl
  have d4 := Z12.out.c 4 _ rfl
  have d5 := Z12.out.c 5 _ rfl
  have d6 := Z12.out.c 6 _ rfl
  have d7 := Z12.out.c 7 _ rfl
  have d8 := Z12.out.c 8 _ rfl
  have d9 := Z12.out.c 9 _ rfl
  have d10 := Z12.out.c 10 _ rfl
  have d11 := Z12.out.c 11 _ rfl
  have d12 := Z12.out.c 12 _ rfl
  have x0 := Z2.out.c 0 _ rfl
  have x1 := Z2.out.c 1 _ rfl
  have x2 := Z2.out.c 2 _ rfl
  have x3 := Z2.out.c 3 _ rfl
  have x4 := Z2.out.c 4 _ rfl
  have x5 := Z2.out.c 5 _ rfl
  have x6 := Z2.out.c 6 _ rfl
  have x7 := Z2.out.c 7 _ rfl
  have x8 := Z2.out.c 8 _ rfl
  have x9 := Z2.out.c 9 _ rfl
  have x10 := Z2.out.c 10 _ rfl
  have x11 := Z2.out.c 11 _ rfl
  have x12 := Z2.out.c 12 _ rfl
  go_wp2_with (first | (go_at_call_of 22 t'; refine (HCB.out w5 _ _ (HG.out.on Q5.out) hB2 RB5.out).mono ?_; rintro e9 w6 ⟨rfl, q6⟩; have Q6 := hid (Q5.out.trans q6); have RA6 := hid (RA5.out.on0 q6 hB0); have ZA6 := hid (ZA5.out.on q6); clear q6; have z0 := ZA6.out.c 0 _ rfl; have z1 := ZA6.out.c 1 _ rfl; have z2 := ZA6.out.c 2 _ rfl; have z3 := ZA6.out.c 3 _ rfl; have z4 := ZA6.out.c 4 _ rfl; have z5 := ZA6.out.c 5 _ rfl; have z6 := ZA6.out.c 6 _ rfl; have z7 := ZA6.out.c 7 _ rfl; have z8 := ZA6.out.c 8 _ rfl; have z9 := ZA6.out.c 9 _ rfl; have z10 := ZA6.out.c 10 _ rfl; have z11 := ZA6.out.c 11 _ rfl; have z12 := ZA6.out.c 12 _ rfl) | (go_at_call_of 22 t; refine (HCA.out w4 _ _ (HG.out.on Q4.out) hB0 RA.out).mono ?_; rintro e9 w5 ⟨rfl, q5⟩; have Q5 := hid (Q4.out.trans q5); have RA5 := hid (RA.out.on0 q5 hB0); have RB5 := hid (RB.out.on0 q5 hB2); have ZA5 := hid (Z12.out.on q5); have ZB5 := hid (Z2.out.on q5); clear q5; have y0 := ZB5.out.c 0 _ rfl; have y1 := ZB5.out.c 1 _ rfl; have y2 := ZB5.out.c 2 _ rfl; have y3 := ZB5.out.c 3 _ rfl; have y4 := ZB5.out.c 4 _ rfl; have y5 := ZB5.out.c 5 _ rfl; have y6 := ZB5.out.c 6 _ rfl; have y7 := ZB5.out.c 7 _ rfl; have y8 := ZB5.out.c 8 _ rfl; have y9 := ZB5.out.c 9 _ rfl; have y10 := ZB5.out.c 10 _ rfl; have y11 := ZB5.out.c 11 _ rfl; have y12 := ZB5.out.c 12 _ rfl) | (go_at_call 21; refine (HMA.out w6 _ _ (HG.out.on Q6.out) RA6.out).mono ?_; rintro e9 w7 ⟨rfl, q7⟩; have Q7 := hid (Q6.out.trans q7); clear q7))
  go_ret
  exact ⟨rfl, Q7.out⟩
end Go.Proofs.YtgheopdadfnilaaGreatDoor
