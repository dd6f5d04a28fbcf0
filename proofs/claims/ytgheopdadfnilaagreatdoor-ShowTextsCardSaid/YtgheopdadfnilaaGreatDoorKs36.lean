/- ShowTexts, walked. -/
import Derived.Test.YtgheopdadfnilaaGreatDoorKs34
import Derived.Test.YtgheopdadfnilaaGreatDoorKs35
namespace Go.Proofs.YtgheopdadfnilaaGreatDoor
open Go.RowKit
set_option linter.unusedVariables false
set_option linter.unusedSimpArgs false
set_option maxRecDepth 100000 in
set_option maxHeartbeats 8000000 in
theorem showtexts_any (s : ByteArray) (W : World) (hg : Gd W) : Calls Tryz.prog 6 #[.string s] W fun e W' => e = .returned (.bool true) ∧ Q W W' := by
  have HBG := hid (sbegun_any W hg)
  have HS := hid (fun W' => short_any s 200 W' (by omega) (by omega))
  obtain ⟨S, hS⟩ : ∃ S, (if (200 : Int) < (s.size : Int) then s.extract 0 (200 : Int).toNat else s) = S := ⟨_, rfl⟩
  have hlen : S.size ≤ 200 := by
    rw [← hS]
    split
    · rw [ByteArray.size_extract]; omega
    · omega
  rw [hS] at HS
  have HG := hid hg
  have hB0 : 0 < W.heap.size := Nat.lt_of_le_of_lt (Nat.zero_le _) hg.1.big
  have HRM := hid (fun W' => V.rmay_any 2 0 S false 0 W' (by omega))
  unfold V.vv at HRM
  rw [Lib.toList_data] at HRM
  have HSM := hid (fun W' (g : Gd W') => smay_val 2 0 S false 0 0 0 ⟨#[]⟩ false 0 none 0 0 none 0 0 zeroE W' g (by omega) (by decide) (rd_zero W'))
  rw [show isZ zeroE = true from rfl, Bool.and_true] at HSM
  clear hS hg
  cases hm : V.mayB 2 0 S.data.toList false 0
  · rw [hm] at HRM HSM
    clear hlen hm
    go_enter Tryz.func6, Tryz.ntmps6
    go_upto_region 5 with (first | (go_at_call 8; refine HBG.out.mono ?_; rintro e9 w1 ⟨rfl, q1⟩; have Q1 := hid q1; clear q1) | (go_at_call 15; refine (HS.out _).mono ?_; rintro e9 w2 ⟨rfl, h2⟩; replace h2 := h2.symm; subst h2) | (go_at_call 24; refine (rTxt_any S _).mono ?_; rintro e9 w3 ⟨rfl, q3⟩; have Q3 := hid (Q1.out.trans q3); clear q3))
    have Z4 := hid (cb_new w3 [.bool false, .int .i64 2, .int .i64 0, .string S, .bool false, .int .i64 0, .int .i64 0, .int .i64 0, .string ⟨#[]⟩, .bool false, .int .i64 0, .slice none 0 0, .slice none 0 0] 39)
    have Q4 := hid (Q3.out.alloc (.cells #[.bool false, .int .i64 2, .int .i64 0, .string S, .bool false, .int .i64 0, .int .i64 0, .int .i64 0, .string ⟨#[]⟩, .bool false, .int .i64 0, .slice none 0 0, .slice none 0 0] 39))
    rw [show ([.bool false, .int .i64 2, .int .i64 0, .string S, .bool false, .int .i64 0, .int .i64 0, .int .i64 0, .string ⟨#[]⟩, .bool false, .int .i64 0, .slice none 0 0, .slice none 0 0] : List Value).toArray = #[.bool false, .int .i64 2, .int .i64 0, .string S, .bool false, .int .i64 0, .int .i64 0, .int .i64 0, .string ⟨#[]⟩, .bool false, .int .i64 0, .slice none 0 0, .slice none 0 0] from rfl] at Z4
    generalize w3.alloc (.cells #[.bool false, .int .i64 2, .int .i64 0, .string S, .bool false, .int .i64 0, .int .i64 0, .int .i64 0, .string ⟨#[]⟩, .bool false, .int .i64 0, .slice none 0 0, .slice none 0 0] 39) = w4 at Z4 Q4 ⊢
    generalize w3.heap.size = b4 at Z4 ⊢
    clear Q3
    have d0 := Z4.out.c 0 _ rfl
    have d1 := Z4.out.c 1 _ rfl
    have d2 := Z4.out.c 2 _ rfl
    have d3 := Z4.out.c 3 _ rfl
    have d4 := Z4.out.c 4 _ rfl
    have d5 := Z4.out.c 5 _ rfl
    have d6 := Z4.out.c 6 _ rfl
    have d7 := Z4.out.c 7 _ rfl
    have d8 := Z4.out.c 8 _ rfl
    have d9 := Z4.out.c 9 _ rfl
    have d10 := Z4.out.c 10 _ rfl
    have d11 := Z4.out.c 11 _ rfl
    have d12 := Z4.out.c 12 _ rfl
    go_wp2_with (first | (go_at_call 25; refine (HRM.out _).mono ?_; rintro e9 w5 ⟨rfl, q5⟩; have Q5 := hid (Q4.out.trans q5); have Z5 := hid (Z4.out.on q5); clear q5; have x0 := Z5.out.c 0 _ rfl; have x1 := Z5.out.c 1 _ rfl; have x2 := Z5.out.c 2 _ rfl; have x3 := Z5.out.c 3 _ rfl; have x4 := Z5.out.c 4 _ rfl; have x5 := Z5.out.c 5 _ rfl; have x6 := Z5.out.c 6 _ rfl; have x7 := Z5.out.c 7 _ rfl; have x8 := Z5.out.c 8 _ rfl; have x9 := Z5.out.c 9 _ rfl; have x10 := Z5.out.c 10 _ rfl; have x11 := Z5.out.c 11 _ rfl; have x12 := Z5.out.c 12 _ rfl) | (go_at_call 21; refine (HSM.out _ (HG.out.on Q5.out)).mono ?_; rintro e9 w6 ⟨rfl, q6⟩; have Q6 := hid (Q5.out.trans q6); clear q6))
    go_ret
    exact ⟨rfl, Q6.out⟩
  · rw [hm] at HRM
    have hc : GF (false, (2, 0, S.data.toList, false, 0), zeroE) ∨ GV (false, (2, 0, S.data.toList, false, 0), zeroE) := .inr ⟨rfl, rfl, hm, (show V.fitB 0 = true by decide)⟩
    have HC := hid (fun W' B v (g : Gd W') (hB : 0 < B) (hr : RdC B W' (false, (2, 0, S.data.toList, false, 0), zeroE) v) => scell_good hc g hB hr)
    have HE := hid (fun W' v v' B B' (h : RdC B W' (false, (2, 0, S.data.toList, false, 0), zeroE) v) (h' : RdC B' W' (false, (2, 0, S.data.toList, false, 0), zeroE) v') => eqcell_same _ v v' B B' W' h h')
    obtain ⟨T, hT⟩ : ∃ T : ByteArray, (⟨(ctT (false, (2, 0, S.data.toList, false, 0), zeroE)).toArray⟩ : ByteArray) = T := ⟨_, rfl⟩
    have hTl : T.data.toList = ctT (false, (2, 0, S.data.toList, false, 0), zeroE) := by rw [← hT]
    have hTs : T.size ≤ 100000 := by rw [← len_data, hTl]; exact ctT_len hc
    rw [hT] at HC
    obtain ⟨y2, hy2⟩ := pz_total (T.data.toList.drop 1)
    have HR2 : Hid (∀ W', Std W' → Calls Tryz.prog 16 #[.string T] W' fun e W2 => RepC W' ((false, (2, 0, S.data.toList, false, 0), zeroE), 0) e W2) := fun W' g => by
      have := read_any T y2 hy2 hTs W' g
      rw [hTl, val_read (c := (false, (2, 0, S.data.toList, false, 0), zeroE)) ⟨rfl, rfl, hm, (show V.fitB 0 = true by decide)⟩] at this
      exact this
    have RZ : ∀ B W', RdC B W' (false, (2, 0, S.data.toList, false, 0), zeroE) (.agg #[.bool false, .int .i64 2, .int .i64 0, .string S, .bool false, .int .i64 0, .int .i64 0, .int .i64 0, .string ⟨#[]⟩, .bool false, .int .i64 0, .slice none 0 0, .slice none 0 0]) := fun B W' => by
      have := rdc_val B W' (2, 0, S.data.toList, false, 0) false
      simp only [bytes_of] at this
      exact this
    have HRZ := hid RZ
    clear hlen hm hc hT hTl hTs hy2 RZ
    go_enter Tryz.func6, Tryz.ntmps6
    go_upto_region 5 with (first | (go_at_call 8; refine HBG.out.mono ?_; rintro e9 w1 ⟨rfl, q1⟩; have Q1 := hid q1; clear q1) | (go_at_call 15; refine (HS.out _).mono ?_; rintro e9 w2 ⟨rfl, h2⟩; replace h2 := h2.symm; subst h2) | (go_at_call 24; refine (rTxt_any S _).mono ?_; rintro e9 w3 ⟨rfl, q3⟩; have Q3 := hid (Q1.out.trans q3); clear q3))
    have Z4 := hid (cb_new w3 [.bool false, .int .i64 2, .int .i64 0, .string S, .bool false, .int .i64 0, .int .i64 0, .int .i64 0, .string ⟨#[]⟩, .bool false, .int .i64 0, .slice none 0 0, .slice none 0 0] 39)
    have Q4 := hid (Q3.out.alloc (.cells #[.bool false, .int .i64 2, .int .i64 0, .string S, .bool false, .int .i64 0, .int .i64 0, .int .i64 0, .string ⟨#[]⟩, .bool false, .int .i64 0, .slice none 0 0, .slice none 0 0] 39))
    rw [show ([.bool false, .int .i64 2, .int .i64 0, .string S, .bool false, .int .i64 0, .int .i64 0, .int .i64 0, .string ⟨#[]⟩, .bool false, .int .i64 0, .slice none 0 0, .slice none 0 0] : List Value).toArray = #[.bool false, .int .i64 2, .int .i64 0, .string S, .bool false, .int .i64 0, .int .i64 0, .int .i64 0, .string ⟨#[]⟩, .bool false, .int .i64 0, .slice none 0 0, .slice none 0 0] from rfl] at Z4
    generalize w3.alloc (.cells #[.bool false, .int .i64 2, .int .i64 0, .string S, .bool false, .int .i64 0, .int .i64 0, .int .i64 0, .string ⟨#[]⟩, .bool false, .int .i64 0, .slice none 0 0, .slice none 0 0] 39) = w4 at Z4 Q4 ⊢
    generalize w3.heap.size = b4 at Z4 ⊢
    clear Q3
    have hB4 : 0 < w4.heap.size := Nat.lt_of_lt_of_le hB0 Q4.out.size
    have d0 := Z4.out.c 0 _ rfl
    have d1 := Z4.out.c 1 _ rfl
    have d2 := Z4.out.c 2 _ rfl
    have d3 := Z4.out.c 3 _ rfl
    have d4 := Z4.out.c 4 _ rfl
    have d5 := Z4.out.c 5 _ rfl
    have d6 := Z4.out.c 6 _ rfl
    have d7 := Z4.out.c 7 _ rfl
    have d8 := Z4.out.c 8 _ rfl
    have d9 := Z4.out.c 9 _ rfl
    have d10 := Z4.out.c 10 _ rfl
    have d11 := Z4.out.c 11 _ rfl
    have d12 := Z4.out.c 12 _ rfl
    go_upto_region 8 with (first | (go_at_call 25; refine (HRM.out _).mono ?_; rintro e9 w5 ⟨rfl, q5⟩; have Q5 := hid (Q4.out.trans q5); have Z5 := hid (Z4.out.on q5); clear q5; have x0 := Z5.out.c 0 _ rfl; have x1 := Z5.out.c 1 _ rfl; have x2 := Z5.out.c 2 _ rfl; have x3 := Z5.out.c 3 _ rfl; have x4 := Z5.out.c 4 _ rfl; have x5 := Z5.out.c 5 _ rfl; have x6 := Z5.out.c 6 _ rfl; have x7 := Z5.out.c 7 _ rfl; have x8 := Z5.out.c 8 _ rfl; have x9 := Z5.out.c 9 _ rfl; have x10 := Z5.out.c 10 _ rfl; have x11 := Z5.out.c 11 _ rfl; have x12 := Z5.out.c 12 _ rfl) | (go_at_call 22; refine (HC.out w5 w4.heap.size _ (HG.out.on Q5.out) hB4 (HRZ.out _ _)).mono ?_; rintro e9 w6 ⟨rfl, q6⟩; have Q6 := hid (Q5.out.trans q6); have Z6 := hid (Z5.out.on q6); clear q6) | (go_at_call 16; refine (HR2.out w6 (HG.out.on Q6.out).1).mono ?_; rintro e9 w7 ⟨v, rfl, hr, q7⟩; have hr0 := hid hr; obtain ⟨k', m', t', bb', er', a1', l1', c1', a2', l2', c2', rfl, _⟩ := hr; have R7 := hr0; have Q7 := hid q7; clear q7 hr0))
    have hB6 : 0 < w6.heap.size := Nat.lt_of_lt_of_le hB0 Q6.out.size
    simp only [bytes_of] at R7 ⊢
    have Z8 := hid (cb_new w7 [.bool false, .int .i64 2, .int .i64 0, .string S, .bool false, .int .i64 0, .int .i64 k', .int .i64 m', .string t', .bool bb', .int .i64 er', .slice a1' l1' c1', .slice a2' l2' c2'] 39)
    have Z68 := hid (Z6.out.on (Q7.out.alloc (.cells #[.bool false, .int .i64 2, .int .i64 0, .string S, .bool false, .int .i64 0, .int .i64 k', .int .i64 m', .string t', .bool bb', .int .i64 er', .slice a1' l1' c1', .slice a2' l2' c2'] 39)))
    have R8 := hid (R7.out.on0 ((Q.refl w7).alloc (.cells #[.bool false, .int .i64 2, .int .i64 0, .string S, .bool false, .int .i64 0, .int .i64 k', .int .i64 m', .string t', .bool bb', .int .i64 er', .slice a1' l1' c1', .slice a2' l2' c2'] 39)) hB6)
    have Q8 := hid ((Q6.out.trans Q7.out).alloc (.cells #[.bool false, .int .i64 2, .int .i64 0, .string S, .bool false, .int .i64 0, .int .i64 k', .int .i64 m', .string t', .bool bb', .int .i64 er', .slice a1' l1' c1', .slice a2' l2' c2'] 39))
    rw [show ([.bool false, .int .i64 2, .int .i64 0, .string S, .bool false, .int .i64 0, .int .i64 k', .int .i64 m', .string t', .bool bb', .int .i64 er', .slice a1' l1' c1', .slice a2' l2' c2'] : List Value).toArray = #[.bool false, .int .i64 2, .int .i64 0, .string S, .bool false, .int .i64 0, .int .i64 k', .int .i64 m', .string t', .bool bb', .int .i64 er', .slice a1' l1' c1', .slice a2' l2' c2'] from rfl] at Z8
    generalize w7.alloc (.cells #[.bool false, .int .i64 2, .int .i64 0, .string S, .bool false, .int .i64 0, .int .i64 k', .int .i64 m', .string t', .bool bb', .int .i64 er', .slice a1' l1' c1', .slice a2' l2' c2'] 39) = w8 at Z8 Z68 R8 Q8 ⊢
    generalize w7.heap.size = b8 at Z8 ⊢
    clear R7 Q7 Z6 Z5 Z4 d0 d1 d2 d3 d4 d5 d6 d7 d8 d9 d10 d11 d12 x0 x1 x2 x3 x4 x5 x6 x7 x8 x9 x10 x11 x12
    have y0 := Z68.out.c 0 _ rfl
    have y1 := Z68.out.c 1 _ rfl
    have y2 := Z68.out.c 2 _ rfl
    have y3 := Z68.out.c 3 _ rfl
    have y4 := Z68.out.c 4 _ rfl
    have y5 := Z68.out.c 5 _ rfl
    have y6 := Z68.out.c 6 _ rfl
    have y7 := Z68.out.c 7 _ rfl
    have y8 := Z68.out.c 8 _ rfl
    have y9 := Z68.out.c 9 _ rfl
    have y10 := Z68.out.c 10 _ rfl
    have y11 := Z68.out.c 11 _ rfl
    have y12 := Z68.out.c 12 _ rfl
    have z0 := Z8.out.c 0 _ rfl
    have z1 := Z8.out.c 1 _ rfl
    have z2 := Z8.out.c 2 _ rfl
    have z3 := Z8.out.c 3 _ rfl
    have z4 := Z8.out.c 4 _ rfl
    have z5 := Z8.out.c 5 _ rfl
    have z6 := Z8.out.c 6 _ rfl
    have z7 := Z8.out.c 7 _ rfl
    have z8 := Z8.out.c 8 _ rfl
    have z9 := Z8.out.c 9 _ rfl
    have z10 := Z8.out.c 10 _ rfl
    have z11 := Z8.out.c 11 _ rfl
    have z12 := Z8.out.c 12 _ rfl
    go_wp2_with (go_at_call 18; refine (HE.out w8 _ _ w4.heap.size _ (HRZ.out _ _) R8.out).mono ?_; rintro e9 w9 ⟨rfl, q9⟩; have Q9 := hid (Q8.out.trans q9); clear q9)
    go_ret
    exact ⟨rfl, Q9.out⟩
end Go.Proofs.YtgheopdadfnilaaGreatDoor
