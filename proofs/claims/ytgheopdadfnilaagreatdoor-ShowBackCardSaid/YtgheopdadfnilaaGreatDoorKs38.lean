/- ShowBack, walked. -/
import Derived.Test.YtgheopdadfnilaaGreatDoorKs34
namespace Go.Proofs.YtgheopdadfnilaaGreatDoor
open Go.RowKit
set_option linter.unusedVariables false
set_option linter.unusedSimpArgs false
set_option maxRecDepth 100000 in
set_option maxHeartbeats 8000000 in
theorem showback_any (s : ByteArray) (W : World) (hg : Gd W) : Calls Tryz.prog 7 #[.string s] W fun e W' => e = .returned (.bool true) ∧ Q W W' := by
  have HBG := hid (sbegun_any W hg)
  have HS := hid (fun W' => short_any s 900 W' (by omega) (by omega))
  obtain ⟨S, hS⟩ : ∃ S, (if (900 : Int) < (s.size : Int) then s.extract 0 (900 : Int).toNat else s) = S := ⟨_, rfl⟩
  have hlen : S.size ≤ 100000 := by
    rw [← hS]
    split
    · rw [ByteArray.size_extract]; omega
    · omega
  rw [hS] at HS
  obtain ⟨y, hy⟩ := pz_total (S.data.toList.drop 1)
  have HR := hid (fun W' (g : Std W') => read_any S y hy hlen W' g)
  have hgood := show_good hy
  generalize showT S.data.toList y = r at HR hgood
  obtain ⟨c, er0⟩ := r
  have HG := hid hg
  have hB0 : 0 < W.heap.size := Nat.lt_of_le_of_lt (Nat.zero_le _) hg.1.big
  clear hS hlen hg hy
  by_cases he : er0 = 0
  · subst he
    have hc := hgood rfl
    have hcl := ctT_len hc
    have HC := hid (fun W' B v (g : Gd W') (hB : 0 < B) (hr : RdC B W' c v) => scell_good hc g hB hr)
    have HE := hid (fun W' v v' B B' (h : RdC B W' c v) (h' : RdC B' W' c v') => eqcell_same c v v' B B' W' h h')
    obtain ⟨T, hT⟩ : ∃ T : ByteArray, (⟨(ctT c).toArray⟩ : ByteArray) = T := ⟨_, rfl⟩
    have hTl : T.data.toList = ctT c := by rw [← hT]
    have hTs : T.size ≤ 100000 := by rw [← len_data, hTl]; exact hcl
    rw [hT] at HC
    obtain ⟨y2, hy2⟩ := pz_total (T.data.toList.drop 1)
    have eTT : (T.toList == T.toList) = true := by simp
    have HR2 : Hid (T.size ≤ 1000 → ∀ W', Std W' → Calls Tryz.prog 16 #[.string T] W' fun e W2 => RepC W' (c, 0) e W2) := fun hl W' g => by
      have := read_any T y2 hy2 hTs W' g
      rw [hTl] at this hy2
      rw [cell_read hc (by rw [← hTl, len_data]; exact hl) y2 hy2] at this
      exact this
    clear hgood hcl hT hTl hy2
    obtain ⟨f, ⟨vk, vn, vl, vb, ve⟩, X⟩ := c
    obtain ⟨vt, hvt⟩ : ∃ vt : ByteArray, (⟨vl.toArray⟩ : ByteArray) = vt := ⟨_, rfl⟩
    have hvl : vt.data.toList = vl := by rw [← hvt]
    subst hvl
    clear hvt hc
    go_enter Tryz.func7, Tryz.ntmps7
    go_upto_region 5 with (first | (go_at_call 8; refine HBG.out.mono ?_; rintro e9 w1 ⟨rfl, q1⟩; have Q1 := hid q1; clear q1) | (go_at_call 15; refine (HS.out _).mono ?_; rintro e9 w2 ⟨rfl, h2⟩; replace h2 := h2.symm; subst h2) | (go_at_call 16; refine (HR.out _ (HG.out.on Q1.out).1).mono ?_; rintro e9 w3 ⟨v, rfl, hr, q3⟩; have hr0 := hid hr; obtain ⟨k, m, t, bb, er, a1, l1, c1, a2, l2, c2, rfl, _⟩ := hr; have R3 := hr0; have Q3 := hid q3; clear q3 hr0))
    have hB1 : 0 < w1.heap.size := Nat.lt_of_lt_of_le hB0 Q1.out.size
    simp only [bytes_of] at R3 ⊢
    have Z4 := hid (cb_new w3 [.bool f, .int .i64 vk, .int .i64 vn, .string vt, .bool vb, .int .i64 ve, .int .i64 k, .int .i64 m, .string t, .bool bb, .int .i64 er, .slice a1 l1 c1, .slice a2 l2 c2] 39)
    have R4 := hid (R3.out.on0 ((Q.refl w3).alloc (.cells #[.bool f, .int .i64 vk, .int .i64 vn, .string vt, .bool vb, .int .i64 ve, .int .i64 k, .int .i64 m, .string t, .bool bb, .int .i64 er, .slice a1 l1 c1, .slice a2 l2 c2] 39)) hB1)
    have Q4 := hid ((Q1.out.trans Q3.out).alloc (.cells #[.bool f, .int .i64 vk, .int .i64 vn, .string vt, .bool vb, .int .i64 ve, .int .i64 k, .int .i64 m, .string t, .bool bb, .int .i64 er, .slice a1 l1 c1, .slice a2 l2 c2] 39))
    rw [show ([.bool f, .int .i64 vk, .int .i64 vn, .string vt, .bool vb, .int .i64 ve, .int .i64 k, .int .i64 m, .string t, .bool bb, .int .i64 er, .slice a1 l1 c1, .slice a2 l2 c2] : List Value).toArray = #[.bool f, .int .i64 vk, .int .i64 vn, .string vt, .bool vb, .int .i64 ve, .int .i64 k, .int .i64 m, .string t, .bool bb, .int .i64 er, .slice a1 l1 c1, .slice a2 l2 c2] from rfl] at Z4
    generalize w3.alloc (.cells #[.bool f, .int .i64 vk, .int .i64 vn, .string vt, .bool vb, .int .i64 ve, .int .i64 k, .int .i64 m, .string t, .bool bb, .int .i64 er, .slice a1 l1 c1, .slice a2 l2 c2] 39) = w4 at Z4 R4 Q4 ⊢
    generalize w3.heap.size = b4 at Z4 ⊢
    clear R3 Q3
    have d0 := Z4.out.c 0 _ rfl
    have d1 := Z4.out.c 1 _ rfl
    have d2 := Z4.out.c 2 _ rfl
    have d3 := Z4.out.c 3 _ rfl
    have d4 := Z4.out.c 4 _ rfl
    have d5 := Z4.out.c 5 _ rfl
    have d6 := Z4.out.c 6 _ rfl
    have d7 := Z4.out.c 7 _ rfl
    have d8 := Z4.out.c 8 _ rfl
    have d9 := Z4.out.c 9 _ rfl
    have d10 := Z4.out.c 10 _ rfl
    have d11 := Z4.out.c 11 _ rfl
    have d12 := Z4.out.c 12 _ rfl
    by_cases hl : T.size ≤ 1000
    · have HR3 := hid (HR2.out hl)
      have hlI : (T.size : Int) ≤ 1000 := by omega
      go_upto_region 11 with (first | (go_at_call 22; refine (HC.out w4 _ _ (HG.out.on Q4.out) hB1 R4.out).mono ?_; rintro e9 w5 ⟨rfl, q5⟩; have Q5 := hid (Q4.out.trans q5); have R5 := hid (R4.out.on0 q5 hB1); have Z5 := hid (Z4.out.on q5); clear q5) | (go_at_call 16; refine (HR3.out w5 (HG.out.on Q5.out).1).mono ?_; rintro e9 w6 ⟨v, rfl, hr, q6⟩; have hr0 := hid hr; obtain ⟨k', m', t', bb', er', a1', l1', c1', a2', l2', c2', rfl, _⟩ := hr; have R6 := hr0; have Q6 := hid q6; clear q6 hr0))
      have hB5 : 0 < w5.heap.size := Nat.lt_of_lt_of_le hB0 Q5.out.size
      simp only [bytes_of] at R6 ⊢
      have Z7 := hid (cb_new w6 [.bool f, .int .i64 vk, .int .i64 vn, .string vt, .bool vb, .int .i64 ve, .int .i64 k', .int .i64 m', .string t', .bool bb', .int .i64 er', .slice a1' l1' c1', .slice a2' l2' c2'] 39)
      have Z57 := hid (Z5.out.on (Q6.out.alloc (.cells #[.bool f, .int .i64 vk, .int .i64 vn, .string vt, .bool vb, .int .i64 ve, .int .i64 k', .int .i64 m', .string t', .bool bb', .int .i64 er', .slice a1' l1' c1', .slice a2' l2' c2'] 39)))
      have R57 := hid (R5.out.on0 (Q6.out.alloc (.cells #[.bool f, .int .i64 vk, .int .i64 vn, .string vt, .bool vb, .int .i64 ve, .int .i64 k', .int .i64 m', .string t', .bool bb', .int .i64 er', .slice a1' l1' c1', .slice a2' l2' c2'] 39)) hB1)
      have R7 := hid (R6.out.on0 ((Q.refl w6).alloc (.cells #[.bool f, .int .i64 vk, .int .i64 vn, .string vt, .bool vb, .int .i64 ve, .int .i64 k', .int .i64 m', .string t', .bool bb', .int .i64 er', .slice a1' l1' c1', .slice a2' l2' c2'] 39)) hB5)
      have Q7 := hid ((Q5.out.trans Q6.out).alloc (.cells #[.bool f, .int .i64 vk, .int .i64 vn, .string vt, .bool vb, .int .i64 ve, .int .i64 k', .int .i64 m', .string t', .bool bb', .int .i64 er', .slice a1' l1' c1', .slice a2' l2' c2'] 39))
      rw [show ([.bool f, .int .i64 vk, .int .i64 vn, .string vt, .bool vb, .int .i64 ve, .int .i64 k', .int .i64 m', .string t', .bool bb', .int .i64 er', .slice a1' l1' c1', .slice a2' l2' c2'] : List Value).toArray = #[.bool f, .int .i64 vk, .int .i64 vn, .string vt, .bool vb, .int .i64 ve, .int .i64 k', .int .i64 m', .string t', .bool bb', .int .i64 er', .slice a1' l1' c1', .slice a2' l2' c2'] from rfl] at Z7
      generalize w6.alloc (.cells #[.bool f, .int .i64 vk, .int .i64 vn, .string vt, .bool vb, .int .i64 ve, .int .i64 k', .int .i64 m', .string t', .bool bb', .int .i64 er', .slice a1' l1' c1', .slice a2' l2' c2'] 39) = w7 at Z7 Z57 R57 R7 Q7 ⊢
      generalize w6.heap.size = b7 at Z7 ⊢
      clear R6 Q6 R5 Z5 d0 d1 d2 d3 d4 d5 d6 d7 d8 d9 d10 d11 d12
      have x0 := Z57.out.c 0 _ rfl
      have x1 := Z57.out.c 1 _ rfl
      have x2 := Z57.out.c 2 _ rfl
      have x3 := Z57.out.c 3 _ rfl
      have x4 := Z57.out.c 4 _ rfl
      have x5 := Z57.out.c 5 _ rfl
      have x6 := Z57.out.c 6 _ rfl
      have x7 := Z57.out.c 7 _ rfl
      have x8 := Z57.out.c 8 _ rfl
      have x9 := Z57.out.c 9 _ rfl
      have x10 := Z57.out.c 10 _ rfl
      have x11 := Z57.out.c 11 _ rfl
      have x12 := Z57.out.c 12 _ rfl
      have z0 := Z7.out.c 0 _ rfl
      have z1 := Z7.out.c 1 _ rfl
      have z2 := Z7.out.c 2 _ rfl
      have z3 := Z7.out.c 3 _ rfl
      have z4 := Z7.out.c 4 _ rfl
      have z5 := Z7.out.c 5 _ rfl
      have z6 := Z7.out.c 6 _ rfl
      have z7 := Z7.out.c 7 _ rfl
      have z8 := Z7.out.c 8 _ rfl
      have z9 := Z7.out.c 9 _ rfl
      have z10 := Z7.out.c 10 _ rfl
      have z11 := Z7.out.c 11 _ rfl
      have z12 := Z7.out.c 12 _ rfl
      go_wp2_with (first | (go_at_call 18; refine (HE.out w7 _ _ _ _ R57.out R7.out).mono ?_; rintro e9 w8 ⟨rfl, q8⟩; have Q8 := hid (Q7.out.trans q8); have R8 := hid (R7.out.on0 q8 hB5); have Z8 := hid (Z7.out.on q8); clear q8; have u0 := Z8.out.c 0 _ rfl; have u1 := Z8.out.c 1 _ rfl; have u2 := Z8.out.c 2 _ rfl; have u3 := Z8.out.c 3 _ rfl; have u4 := Z8.out.c 4 _ rfl; have u5 := Z8.out.c 5 _ rfl; have u6 := Z8.out.c 6 _ rfl; have u7 := Z8.out.c 7 _ rfl; have u8 := Z8.out.c 8 _ rfl; have u9 := Z8.out.c 9 _ rfl; have u10 := Z8.out.c 10 _ rfl; have u11 := Z8.out.c 11 _ rfl; have u12 := Z8.out.c 12 _ rfl) | (go_at_call 22; refine (HC.out w8 _ _ (HG.out.on Q8.out) hB5 R8.out).mono ?_; rintro e9 w9 ⟨rfl, q9⟩; have Q9 := hid (Q8.out.trans q9); clear q9))
      go_ret
      exact ⟨rfl, Q9.out⟩
    · have hlI : (1000 : Int) < (T.size : Int) := by omega
      go_wp2_with (go_at_call 22; refine (HC.out w4 _ _ (HG.out.on Q4.out) hB1 R4.out).mono ?_; rintro e9 w5 ⟨rfl, q5⟩; have Q5 := hid (Q4.out.trans q5); clear q5)
      go_ret
      exact ⟨rfl, Q5.out⟩
  · have heI : ((er0 : Int) != 0) = true := by simp; omega
    obtain ⟨f, ⟨vk, vn, vl, vb, ve⟩, X⟩ := c
    clear hgood
    go_enter Tryz.func7, Tryz.ntmps7
    go_wp2_with (first | (go_at_call 8; refine HBG.out.mono ?_; rintro e9 w1 ⟨rfl, q1⟩; have Q1 := hid q1; clear q1) | (go_at_call 15; refine (HS.out _).mono ?_; rintro e9 w2 ⟨rfl, h2⟩; replace h2 := h2.symm; subst h2) | (go_at_call 16; refine (HR.out _ (HG.out.on Q1.out).1).mono ?_; rintro e9 w3 ⟨v, rfl, hr, q3⟩; obtain ⟨k, m, t, bb, er, a1, l1, c1, a2, l2, c2, rfl, _⟩ := hr; have Q3 := hid q3; clear q3))
    go_ret
    exact ⟨rfl, (Q1.out.trans Q3.out).alloc _⟩
end Go.Proofs.YtgheopdadfnilaaGreatDoor
