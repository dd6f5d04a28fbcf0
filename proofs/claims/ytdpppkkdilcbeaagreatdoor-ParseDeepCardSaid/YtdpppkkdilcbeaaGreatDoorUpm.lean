/- ParseDeep, walked. -/
import Derived.Test.YtdpppkkdilcbeaaGreatDoorUom
import Derived.Test.YtdpppkkdilcbeaaGreatDoorMa28
namespace Go.Proofs.YtdpppkkdilcbeaaGreatDoor
open Go.RowKit
set_option linter.unusedVariables false
set_option linter.unusedSimpArgs false

theorem ptF_up {E : Env} {L : List Wd} {f lv i : Nat} {o : Option (Ex × Nat)} (h : ptF E L f lv i = some o) : ∀ k, ptF E L (f + k) lv i = some o
  | 0 => h
  | k + 1 => (mono_pro E L (f + k)).1 lv i o (ptF_up h k)
theorem ptF_one {E : Env} {L : List Wd} {f g lv i : Nat} {o o' : Option (Ex × Nat)} (h : ptF E L f lv i = some o) (h' : ptF E L g lv i = some o') : o = o' := by
  have h1 := ptF_up h g
  have h2 := ptF_up h' f
  rw [Nat.add_comm g f, h1] at h2
  exact Option.some.inj h2
/-- what both answer, of a text whose words and tree are known -/
theorem parse_know (s : ByteArray) (hs : s.size ≤ 100000) (L : List Wd) (n g : Nat) (o : Option (Ex × Nat)) (hsc : scanL s.data.toList = (some L, n)) (hg : ptF EE L g 1 0 = some o) : (∀ W, Std W → Calls Tryz.prog 8 #[.string s] W fun e W' => RepR W (finR L o) e W') ∧ (∀ W, Calls Tryz.prog 9 #[.string s] W fun e W' => RepR W (finR L o) e W') := by
  refine ⟨fun W hw => pparse_any s W hw hs L n g o hsc hg, fun W => ?_⟩
  obtain ⟨hpos, hr, hE, hG, hK, hz⟩ := scan_good hsc
  obtain ⟨f, r, hf⟩ := total_ref EE L hE L.length ⟨0, false, 0⟩ (by simp) hpos 1 (by omega) (by omega)
  obtain ⟨g', o', hg', hag⟩ := (same_all EE L hE hG f).1 1 ⟨0, false, 0⟩ r (by omega) (by omega) hpos rfl hf
  obtain rfl := ptF_one hg hg'
  have e : finS L r = finR L o := by
    cases o with
    | none =>
      have hb : r.2.bd = true := hag
      unfold finS finR
      rw [if_pos (.inl hb)]
    | some xj =>
      obtain ⟨x, j⟩ := xj
      obtain ⟨h1, h2, h3, h4⟩ := hag
      unfold finS finR
      simp only at h4 ⊢
      rw [h2, h1]
      by_cases hk : kAt L j = 7
      · rw [if_pos hk, if_neg (by rintro (e | e); · rw [h3] at e; cases e
                                  · exact e hk)]
        have hd := dp_shl 50 x
        unfold fitB
        rw [← hd]
        by_cases hn : nodes x ≤ 200
        · by_cases hdd : dp 51 x ≤ 50
          · rw [if_neg (by rintro (e | e) <;> omega), decide_eq_true hn, decide_eq_true hdd]; rfl
          · rw [if_pos (.inr (by omega)), decide_eq_true hn, decide_eq_false hdd]; rfl
        · rw [if_pos (.inl (by omega)), decide_eq_false hn]; rfl
      · rw [if_neg hk, if_pos (.inr hk)]
  rw [← e]
  exact rparse_text s W hs L n f r hsc hf
theorem cat_l (a b : List UInt8) : (⟨a.toArray⟩ : ByteArray) ++ ⟨b.toArray⟩ = ⟨(a ++ b).toArray⟩ := bytes_cat a b
theorem cat_d (a b : ByteArray) : (a ++ b).data.toList = a.data.toList ++ b.data.toList := by
  simp

set_option maxRecDepth 100000 in
set_option maxHeartbeats 8000000 in
theorem deep_0 (n : Nat) (W : World) (hg : Gd W) (h1 : 1 ≤ n) (h2 : n ≤ 220) : Calls Tryz.prog 5 #[.int .i64 0, .int .i64 (n : Int)] W fun e W' => e = .returned (.bool true) ∧ Q W W' := by
  have HB := hid (begun_any W hg)
  have HG := hid hg
  clear hg
  have n1 : ¬ (n : Int) < 1 := by omega
  have n2 : ¬ (220 : Int) < (n : Int) := by omega
  go_enter Tryz.func5, Tryz.ntmps5
  go_wp2_with (go_at_call 6; refine HB.out.mono ?_; rintro e w1 ⟨rfl, q1⟩; have Q1 := hid q1; clear q1)
  go_loopw [6, 7] (fun u z wr => ∃ (i : Nat) (T : ByteArray), i ≤ n ∧ z = .int .i64 (i : Int) ∧ u = .string T ∧ Hid (T.data.toList = rp [45] i) ∧ Hid (Q W wr)) (fun _ z _ => n - (intOf z).toNat)
  case atStart => exact ⟨0, ⟨#[]⟩, Nat.zero_le _, rfl, rfl, rfl, Q1⟩
  case round =>
    obtain ⟨i, T, hi, rfl, rfl, HT, HQ⟩ := hrel
    have hTs : T.size = i * 1 := by
      rw [← len_data, HT.out, rp_len]
      rfl
    by_cases hlt : i < n
    · have hlt' : (i : Int) < (n : Int) := by omega
      obtain ⟨X, hX⟩ : ∃ X, T ++ ⟨#[45]⟩ = X := ⟨_, rfl⟩
      have HX : Hid (X.data.toList = rp [45] (i + 1)) := by
        show _ = _
        rw [← hX, rp_snoc, ← HT.out]
        exact cat_d T ⟨#[45]⟩
      have f1 : ¬ 9223372036854775807 < T.size + 1 := by omega
      have f2 : ¬ 9223372036854775807 < T.size + (⟨#[45]⟩ : ByteArray).size := by show ¬ 9223372036854775807 < T.size + 1; omega
      clear hTs
      go_wp2_with fail
      exact ⟨⟨i + 1, X, by omega, by go_num, rfl, HX, hid (by repeat (first | with_reducible exact HQ.out | with_reducible exact Q.refl _ | with_reducible refine Q.drewN ?_ _ | with_reducible refine Q.drew ?_ | with_reducible refine Q.alloc ?_ _ | with_reducible refine Q.setCell ?_ (by simp) _))⟩, by simp [intOf]; omega⟩
    · have hlt' : ¬ (i : Int) < (n : Int) := by omega
      have hie : i = n := by omega
      subst hie
      obtain ⟨X, hX⟩ : ∃ X, T ++ ⟨#[49]⟩ = X := ⟨_, rfl⟩
      have HX : Hid (X.data.toList = rp [45] i ++ [49] ++ rp [41] 0) := by
        show _ = _
        rw [← hX, ← HT.out, rp_zero, List.append_nil]
        exact cat_d T ⟨#[49]⟩
      have f1 : ¬ 9223372036854775807 < T.size + 1 := by omega
      have f2 : ¬ 9223372036854775807 < T.size + (⟨#[49]⟩ : ByteArray).size := by show ¬ 9223372036854775807 < T.size + 1; omega
      clear hTs HT
      obtain ⟨n, hn⟩ : ∃ n, n = i := ⟨_, rfl⟩
      subst hn
      go_wp2_with fail
      go_loopw [6, 8] (fun u z wr' => ∃ (i : Nat) (T : ByteArray), i ≤ n ∧ z = .int .i64 (i : Int) ∧ u = .string T ∧ Hid (T.data.toList = rp [45] n ++ [49] ++ rp [41] i) ∧ Hid (Q W wr') ∧ i = 0) (fun _ z _ => n - (intOf z).toNat)
      case atStart => exact ⟨0, X, Nat.zero_le _, rfl, rfl, HX, HQ, rfl⟩
      case round =>
        clear HX hX f1 f2 HQ
        obtain ⟨i, T, hi, rfl, rfl, HT, HQ, rfl⟩ := hrel
        have hlt' : (0 : Int) < (n : Int) := by omega
        have hlt2 : ((0 : Nat) : Int) < (n : Int) := by omega
        replace HT : Hid (T.data.toList = textD 0 n) := by show _ = _; rw [HT.out]; rfl
        by_cases hbig : 1000 < T.size
        · have g1 : (1000 : Int) < (T.size : Int) := by omega
          go_wp2_with fail
          go_ret
          exact ⟨rfl, HQ.out⟩
        · have g1 : ¬ (1000 : Int) < (T.size : Int) := by omega
          obtain ⟨L, f, o, hL, hp, her⟩ := deep_err 0 n (by omega) (by rw [← HT.out, len_data]; omega)
          rw [← HT.out] at hL
          obtain ⟨h8, h9⟩ := parse_know T (by omega) L 0 f o hL hp
          obtain ⟨⟨X, er⟩, hx⟩ : ∃ x, finR L o = x := ⟨_, rfl⟩
          rw [hx] at h8 h9 her
          simp only at her
          have H8 := hid h8
          have H9 := hid h9
          have HGr := hid (HG.out.on HQ.out)
          clear h8 h9 hL hp hx
          by_cases h50 : n < 50
          · have u1 : (n : Int) < 50 := by omega
            have u2 : ((er : Int) == 0) = true := by rw [her.2 h50]; rfl
            clear her h50
            go_upto_region 19 with (go_at_call 8; refine (H8.out _ HGr.out.1).mono ?_; rintro e w3 ⟨v, rfl, hr, q3⟩; obtain ⟨k, m, t, b, e1, a1, l1, c1, a2, l2, c2, rfl⟩ := hr.shape; have R3 := hid hr; have Q3 := hid (HQ.out.trans q3); clear hr q3)
            have HX := hid (Bx.start w3 (.int .i64 k) (.int .i64 m) (.string t) (.bool b) (.int .i64 e1) (.slice a1 l1 c1) (.slice a2 l2 c2) 28)
            obtain ⟨w4, hw4⟩ : ∃ w4, w4 = w3.alloc (.cells #[.int .i64 k, .int .i64 m, .string t, .bool b, .int .i64 e1, .slice a1 l1 c1, .slice a2 l2 c2] 28) := ⟨_, rfl⟩
            rw [← hw4] at HX
            have HQ4 : Hid (Q w3 w4) := by rw [hw4]; exact (Q.refl _).alloc _
            rw [← hw4]
            clear hw4
            have he : ((er : Int) == (er : Int)) = true := by simp
            go_upto_region 20 with (go_at_call 9; refine (H9.out _).mono ?_; rintro e w5 ⟨v, rfl, hr, q5⟩; obtain ⟨k', m', t', b', e1', a1', l1', c1', a2', l2', c2', rfl⟩ := hr.shape; have R5 := hid hr; have X5 := hid (HX.out.on q5); have Q5 := hid q5; clear hr q5)
            have HY := hid (Bx.start w5 (.int .i64 k') (.int .i64 m') (.string t') (.bool b') (.int .i64 e1') (.slice a1' l1' c1') (.slice a2' l2' c2') 28)
            obtain ⟨w6, hw6⟩ : ∃ w6, w6 = w5.alloc (.cells #[.int .i64 k', .int .i64 m', .string t', .bool b', .int .i64 e1', .slice a1' l1' c1', .slice a2' l2' c2'] 28) := ⟨_, rfl⟩
            rw [← hw6] at HY
            have HQ6 : Hid (Q w5 w6) := by rw [hw6]; exact (Q.refl _).alloc _
            have X6 := hid (X5.out.on HQ6.out)
            rw [← hw6]
            clear hw6
            have HE := hid ((eqexpr_any (SizeOf.sizeOf X) X X _ _ w6 (Nat.le_refl _) (Rd.on (HQ4.out.trans (Q5.out.trans HQ6.out)) _ _ R3.out) (Rd.on HQ6.out _ _ R5.out)).mono fun e w h => (⟨h.1.t rfl, h.2⟩ : e = .returned (.bool true) ∧ Q w6 w))
            obtain ⟨_, _, g0, gg1, g2, g3, g4, g5, g6⟩ := X6.out
            obtain ⟨_, _, d0, d1, d2, d3, d4, d5, d6⟩ := HY.out
            go_wp2_with (go_at_call 10; refine HE.out.mono ?_; rintro e w7 ⟨rfl, q7⟩; have Q7 := hid q7; clear q7)
            go_ret
            exact ⟨rfl, (((Q3.out.trans HQ4.out).trans Q5.out).trans HQ6.out).trans Q7.out⟩
          · have u1 : ¬ (n : Int) < 50 := by omega
            have u2 : ((er : Int) == 0) = false := by rw [beq_eq_false_iff_ne]; intro e; exact h50 (her.1 (by omega))
            clear her h50
            go_upto_region 19 with (go_at_call 8; refine (H8.out _ HGr.out.1).mono ?_; rintro e w3 ⟨v, rfl, hr, q3⟩; obtain ⟨k, m, t, b, e1, a1, l1, c1, a2, l2, c2, rfl⟩ := hr.shape; have R3 := hid hr; have Q3 := hid (HQ.out.trans q3); clear hr q3)
            have HX := hid (Bx.start w3 (.int .i64 k) (.int .i64 m) (.string t) (.bool b) (.int .i64 e1) (.slice a1 l1 c1) (.slice a2 l2 c2) 28)
            obtain ⟨w4, hw4⟩ : ∃ w4, w4 = w3.alloc (.cells #[.int .i64 k, .int .i64 m, .string t, .bool b, .int .i64 e1, .slice a1 l1 c1, .slice a2 l2 c2] 28) := ⟨_, rfl⟩
            rw [← hw4] at HX
            have HQ4 : Hid (Q w3 w4) := by rw [hw4]; exact (Q.refl _).alloc _
            rw [← hw4]
            clear hw4
            have he : ((er : Int) == (er : Int)) = true := by simp
            go_upto_region 20 with (go_at_call 9; refine (H9.out _).mono ?_; rintro e w5 ⟨v, rfl, hr, q5⟩; obtain ⟨k', m', t', b', e1', a1', l1', c1', a2', l2', c2', rfl⟩ := hr.shape; have R5 := hid hr; have X5 := hid (HX.out.on q5); have Q5 := hid q5; clear hr q5)
            have HY := hid (Bx.start w5 (.int .i64 k') (.int .i64 m') (.string t') (.bool b') (.int .i64 e1') (.slice a1' l1' c1') (.slice a2' l2' c2') 28)
            obtain ⟨w6, hw6⟩ : ∃ w6, w6 = w5.alloc (.cells #[.int .i64 k', .int .i64 m', .string t', .bool b', .int .i64 e1', .slice a1' l1' c1', .slice a2' l2' c2'] 28) := ⟨_, rfl⟩
            rw [← hw6] at HY
            have HQ6 : Hid (Q w5 w6) := by rw [hw6]; exact (Q.refl _).alloc _
            have X6 := hid (X5.out.on HQ6.out)
            rw [← hw6]
            clear hw6
            have HE := hid ((eqexpr_any (SizeOf.sizeOf X) X X _ _ w6 (Nat.le_refl _) (Rd.on (HQ4.out.trans (Q5.out.trans HQ6.out)) _ _ R3.out) (Rd.on HQ6.out _ _ R5.out)).mono fun e w h => (⟨h.1.t rfl, h.2⟩ : e = .returned (.bool true) ∧ Q w6 w))
            obtain ⟨_, _, g0, gg1, g2, g3, g4, g5, g6⟩ := X6.out
            obtain ⟨_, _, d0, d1, d2, d3, d4, d5, d6⟩ := HY.out
            go_wp2_with (go_at_call 10; refine HE.out.mono ?_; rintro e w7 ⟨rfl, q7⟩; have Q7 := hid q7; clear q7)
            go_ret
            exact ⟨by show Ending.returned (.bool (!decide ((n : Int) < 50))) = _; rw [decide_eq_false (by omega)]; rfl, (((Q3.out.trans HQ4.out).trans Q5.out).trans HQ6.out).trans Q7.out⟩

set_option maxRecDepth 100000 in
set_option maxHeartbeats 8000000 in
theorem deep_1 (n : Nat) (W : World) (hg : Gd W) (h1 : 1 ≤ n) (h2 : n ≤ 220) : Calls Tryz.prog 5 #[.int .i64 1, .int .i64 (n : Int)] W fun e W' => e = .returned (.bool true) ∧ Q W W' := by
  have HB := hid (begun_any W hg)
  have HG := hid hg
  clear hg
  have n1 : ¬ (n : Int) < 1 := by omega
  have n2 : ¬ (220 : Int) < (n : Int) := by omega
  go_enter Tryz.func5, Tryz.ntmps5
  go_wp2_with (go_at_call 6; refine HB.out.mono ?_; rintro e w1 ⟨rfl, q1⟩; have Q1 := hid q1; clear q1)
  go_loopw [6, 7] (fun u z wr => ∃ (i : Nat) (T : ByteArray), i ≤ n ∧ z = .int .i64 (i : Int) ∧ u = .string T ∧ Hid (T.data.toList = rp [65, 66, 83, 40] i) ∧ Hid (Q W wr)) (fun _ z _ => n - (intOf z).toNat)
  case atStart => exact ⟨0, ⟨#[]⟩, Nat.zero_le _, rfl, rfl, rfl, Q1⟩
  case round =>
    obtain ⟨i, T, hi, rfl, rfl, HT, HQ⟩ := hrel
    have hTs : T.size = i * 4 := by
      rw [← len_data, HT.out, rp_len]
      rfl
    by_cases hlt : i < n
    · have hlt' : (i : Int) < (n : Int) := by omega
      obtain ⟨X, hX⟩ : ∃ X, T ++ ⟨#[65, 66, 83, 40]⟩ = X := ⟨_, rfl⟩
      have HX : Hid (X.data.toList = rp [65, 66, 83, 40] (i + 1)) := by
        show _ = _
        rw [← hX, rp_snoc, ← HT.out]
        exact cat_d T ⟨#[65, 66, 83, 40]⟩
      have f1 : ¬ 9223372036854775807 < T.size + 4 := by omega
      have f2 : ¬ 9223372036854775807 < T.size + (⟨#[65, 66, 83, 40]⟩ : ByteArray).size := by show ¬ 9223372036854775807 < T.size + 4; omega
      clear hTs
      go_wp2_with fail
      exact ⟨⟨i + 1, X, by omega, by go_num, rfl, HX, hid (by repeat (first | with_reducible exact HQ.out | with_reducible exact Q.refl _ | with_reducible refine Q.drewN ?_ _ | with_reducible refine Q.drew ?_ | with_reducible refine Q.alloc ?_ _ | with_reducible refine Q.setCell ?_ (by simp) _))⟩, by simp [intOf]; omega⟩
    · have hlt' : ¬ (i : Int) < (n : Int) := by omega
      have hie : i = n := by omega
      subst hie
      obtain ⟨X, hX⟩ : ∃ X, T ++ ⟨#[49]⟩ = X := ⟨_, rfl⟩
      have HX : Hid (X.data.toList = rp [65, 66, 83, 40] i ++ [49] ++ rp [41] 0) := by
        show _ = _
        rw [← hX, ← HT.out, rp_zero, List.append_nil]
        exact cat_d T ⟨#[49]⟩
      have f1 : ¬ 9223372036854775807 < T.size + 1 := by omega
      have f2 : ¬ 9223372036854775807 < T.size + (⟨#[49]⟩ : ByteArray).size := by show ¬ 9223372036854775807 < T.size + 1; omega
      clear hTs HT
      obtain ⟨n, hn⟩ : ∃ n, n = i := ⟨_, rfl⟩
      subst hn
      go_wp2_with fail
      go_loopw [6, 8] (fun u z wr' => ∃ (i : Nat) (T : ByteArray), i ≤ n ∧ z = .int .i64 (i : Int) ∧ u = .string T ∧ Hid (T.data.toList = rp [65, 66, 83, 40] n ++ [49] ++ rp [41] i) ∧ Hid (Q W wr')) (fun _ z _ => n - (intOf z).toNat)
      case atStart => exact ⟨0, X, Nat.zero_le _, rfl, rfl, HX, HQ⟩
      case round =>
        clear HX hX f1 f2 HQ
        obtain ⟨i, T, hi, rfl, rfl, HT, HQ⟩ := hrel
        have hTs : T.size = n * 4 + 1 + i := by
          rw [← len_data, HT.out, List.length_append, List.length_append, rp_len, rp_len]
          simp
        by_cases hlt : i < n
        · have hlt' : (i : Int) < (n : Int) := by omega
          obtain ⟨X, hX⟩ : ∃ X, T ++ ⟨#[41]⟩ = X := ⟨_, rfl⟩
          have HX : Hid (X.data.toList = rp [65, 66, 83, 40] n ++ [49] ++ rp [41] (i + 1)) := by
            show _ = _
            rw [← hX, rp_snoc, ← List.append_assoc, ← HT.out]
            exact cat_d T ⟨#[41]⟩
          have f1 : ¬ 9223372036854775807 < T.size + 1 := by omega
          have f2 : ¬ 9223372036854775807 < T.size + (⟨#[41]⟩ : ByteArray).size := by show ¬ 9223372036854775807 < T.size + 1; omega
          clear hTs
          go_wp2_with fail
          go_roundw
          case rel => exact ⟨i + 1, X, by omega, by go_num, rfl, HX, hid (by repeat (first | with_reducible exact HQ.out | with_reducible exact Q.refl _ | with_reducible refine Q.drewN ?_ _ | with_reducible refine Q.drew ?_ | with_reducible refine Q.alloc ?_ _ | with_reducible refine Q.setCell ?_ (by simp) _))⟩
          case measure => simp [intOf]; omega
        · have hlt' : ¬ (i : Int) < (n : Int) := by omega
          have hie : i = n := by omega
          clear hTs
          replace HT : Hid (T.data.toList = textD 1 n) := by show _ = _; rw [HT.out, hie]; rfl
          clear hie
          by_cases hbig : 1000 < T.size
          · have g1 : (1000 : Int) < (T.size : Int) := by omega
            go_wp2_with fail
            go_ret
            exact ⟨rfl, HQ.out⟩
          · have g1 : ¬ (1000 : Int) < (T.size : Int) := by omega
            obtain ⟨L, f, o, hL, hp, her⟩ := deep_err 1 n (by omega) (by rw [← HT.out, len_data]; omega)
            rw [← HT.out] at hL
            obtain ⟨h8, h9⟩ := parse_know T (by omega) L 0 f o hL hp
            obtain ⟨⟨X, er⟩, hx⟩ : ∃ x, finR L o = x := ⟨_, rfl⟩
            rw [hx] at h8 h9 her
            simp only at her
            have H8 := hid h8
            have H9 := hid h9
            have HGr := hid (HG.out.on HQ.out)
            clear h8 h9 hL hp hx
            by_cases h50 : n < 50
            · have u1 : (n : Int) < 50 := by omega
              have u2 : ((er : Int) == 0) = true := by rw [her.2 h50]; rfl
              clear her h50
              go_upto_region 19 with (go_at_call 8; refine (H8.out _ HGr.out.1).mono ?_; rintro e w3 ⟨v, rfl, hr, q3⟩; obtain ⟨k, m, t, b, e1, a1, l1, c1, a2, l2, c2, rfl⟩ := hr.shape; have R3 := hid hr; have Q3 := hid (HQ.out.trans q3); clear hr q3)
              have HX := hid (Bx.start w3 (.int .i64 k) (.int .i64 m) (.string t) (.bool b) (.int .i64 e1) (.slice a1 l1 c1) (.slice a2 l2 c2) 28)
              obtain ⟨w4, hw4⟩ : ∃ w4, w4 = w3.alloc (.cells #[.int .i64 k, .int .i64 m, .string t, .bool b, .int .i64 e1, .slice a1 l1 c1, .slice a2 l2 c2] 28) := ⟨_, rfl⟩
              rw [← hw4] at HX
              have HQ4 : Hid (Q w3 w4) := by rw [hw4]; exact (Q.refl _).alloc _
              rw [← hw4]
              clear hw4
              have he : ((er : Int) == (er : Int)) = true := by simp
              go_upto_region 20 with (go_at_call 9; refine (H9.out _).mono ?_; rintro e w5 ⟨v, rfl, hr, q5⟩; obtain ⟨k', m', t', b', e1', a1', l1', c1', a2', l2', c2', rfl⟩ := hr.shape; have R5 := hid hr; have X5 := hid (HX.out.on q5); have Q5 := hid q5; clear hr q5)
              have HY := hid (Bx.start w5 (.int .i64 k') (.int .i64 m') (.string t') (.bool b') (.int .i64 e1') (.slice a1' l1' c1') (.slice a2' l2' c2') 28)
              obtain ⟨w6, hw6⟩ : ∃ w6, w6 = w5.alloc (.cells #[.int .i64 k', .int .i64 m', .string t', .bool b', .int .i64 e1', .slice a1' l1' c1', .slice a2' l2' c2'] 28) := ⟨_, rfl⟩
              rw [← hw6] at HY
              have HQ6 : Hid (Q w5 w6) := by rw [hw6]; exact (Q.refl _).alloc _
              have X6 := hid (X5.out.on HQ6.out)
              rw [← hw6]
              clear hw6
              have HE := hid ((eqexpr_any (SizeOf.sizeOf X) X X _ _ w6 (Nat.le_refl _) (Rd.on (HQ4.out.trans (Q5.out.trans HQ6.out)) _ _ R3.out) (Rd.on HQ6.out _ _ R5.out)).mono fun e w h => (⟨h.1.t rfl, h.2⟩ : e = .returned (.bool true) ∧ Q w6 w))
              obtain ⟨_, _, g0, gg1, g2, g3, g4, g5, g6⟩ := X6.out
              obtain ⟨_, _, d0, d1, d2, d3, d4, d5, d6⟩ := HY.out
              go_wp2_with (go_at_call 10; refine HE.out.mono ?_; rintro e w7 ⟨rfl, q7⟩; have Q7 := hid q7; clear q7)
              go_ret
              exact ⟨rfl, (((Q3.out.trans HQ4.out).trans Q5.out).trans HQ6.out).trans Q7.out⟩
            · have u1 : ¬ (n : Int) < 50 := by omega
              have u2 : ((er : Int) == 0) = false := by rw [beq_eq_false_iff_ne]; intro e; exact h50 (her.1 (by omega))
              clear her h50
              go_upto_region 19 with (go_at_call 8; refine (H8.out _ HGr.out.1).mono ?_; rintro e w3 ⟨v, rfl, hr, q3⟩; obtain ⟨k, m, t, b, e1, a1, l1, c1, a2, l2, c2, rfl⟩ := hr.shape; have R3 := hid hr; have Q3 := hid (HQ.out.trans q3); clear hr q3)
              have HX := hid (Bx.start w3 (.int .i64 k) (.int .i64 m) (.string t) (.bool b) (.int .i64 e1) (.slice a1 l1 c1) (.slice a2 l2 c2) 28)
              obtain ⟨w4, hw4⟩ : ∃ w4, w4 = w3.alloc (.cells #[.int .i64 k, .int .i64 m, .string t, .bool b, .int .i64 e1, .slice a1 l1 c1, .slice a2 l2 c2] 28) := ⟨_, rfl⟩
              rw [← hw4] at HX
              have HQ4 : Hid (Q w3 w4) := by rw [hw4]; exact (Q.refl _).alloc _
              rw [← hw4]
              clear hw4
              have he : ((er : Int) == (er : Int)) = true := by simp
              go_upto_region 20 with (go_at_call 9; refine (H9.out _).mono ?_; rintro e w5 ⟨v, rfl, hr, q5⟩; obtain ⟨k', m', t', b', e1', a1', l1', c1', a2', l2', c2', rfl⟩ := hr.shape; have R5 := hid hr; have X5 := hid (HX.out.on q5); have Q5 := hid q5; clear hr q5)
              have HY := hid (Bx.start w5 (.int .i64 k') (.int .i64 m') (.string t') (.bool b') (.int .i64 e1') (.slice a1' l1' c1') (.slice a2' l2' c2') 28)
              obtain ⟨w6, hw6⟩ : ∃ w6, w6 = w5.alloc (.cells #[.int .i64 k', .int .i64 m', .string t', .bool b', .int .i64 e1', .slice a1' l1' c1', .slice a2' l2' c2'] 28) := ⟨_, rfl⟩
              rw [← hw6] at HY
              have HQ6 : Hid (Q w5 w6) := by rw [hw6]; exact (Q.refl _).alloc _
              have X6 := hid (X5.out.on HQ6.out)
              rw [← hw6]
              clear hw6
              have HE := hid ((eqexpr_any (SizeOf.sizeOf X) X X _ _ w6 (Nat.le_refl _) (Rd.on (HQ4.out.trans (Q5.out.trans HQ6.out)) _ _ R3.out) (Rd.on HQ6.out _ _ R5.out)).mono fun e w h => (⟨h.1.t rfl, h.2⟩ : e = .returned (.bool true) ∧ Q w6 w))
              obtain ⟨_, _, g0, gg1, g2, g3, g4, g5, g6⟩ := X6.out
              obtain ⟨_, _, d0, d1, d2, d3, d4, d5, d6⟩ := HY.out
              go_wp2_with (go_at_call 10; refine HE.out.mono ?_; rintro e w7 ⟨rfl, q7⟩; have Q7 := hid q7; clear q7)
              go_ret
              exact ⟨by show Ending.returned (.bool (!decide ((n : Int) < 50))) = _; rw [decide_eq_false (by omega)]; rfl, (((Q3.out.trans HQ4.out).trans Q5.out).trans HQ6.out).trans Q7.out⟩

set_option maxRecDepth 100000 in
set_option maxHeartbeats 8000000 in
theorem deep_2 (n : Nat) (W : World) (hg : Gd W) (h1 : 1 ≤ n) (h2 : n ≤ 220) : Calls Tryz.prog 5 #[.int .i64 2, .int .i64 (n : Int)] W fun e W' => e = .returned (.bool true) ∧ Q W W' := by
  have HB := hid (begun_any W hg)
  have HG := hid hg
  clear hg
  have n1 : ¬ (n : Int) < 1 := by omega
  have n2 : ¬ (220 : Int) < (n : Int) := by omega
  go_enter Tryz.func5, Tryz.ntmps5
  go_wp2_with (go_at_call 6; refine HB.out.mono ?_; rintro e w1 ⟨rfl, q1⟩; have Q1 := hid q1; clear q1)
  go_loopw [6, 7] (fun u z wr => ∃ (i : Nat) (T : ByteArray), i ≤ n ∧ z = .int .i64 (i : Int) ∧ u = .string T ∧ Hid (T.data.toList = rp [49, 43] i) ∧ Hid (Q W wr)) (fun _ z _ => n - (intOf z).toNat)
  case atStart => exact ⟨0, ⟨#[]⟩, Nat.zero_le _, rfl, rfl, rfl, Q1⟩
  case round =>
    obtain ⟨i, T, hi, rfl, rfl, HT, HQ⟩ := hrel
    have hTs : T.size = i * 2 := by
      rw [← len_data, HT.out, rp_len]
      rfl
    by_cases hlt : i < n
    · have hlt' : (i : Int) < (n : Int) := by omega
      obtain ⟨X, hX⟩ : ∃ X, T ++ ⟨#[49, 43]⟩ = X := ⟨_, rfl⟩
      have HX : Hid (X.data.toList = rp [49, 43] (i + 1)) := by
        show _ = _
        rw [← hX, rp_snoc, ← HT.out]
        exact cat_d T ⟨#[49, 43]⟩
      have f1 : ¬ 9223372036854775807 < T.size + 2 := by omega
      have f2 : ¬ 9223372036854775807 < T.size + (⟨#[49, 43]⟩ : ByteArray).size := by show ¬ 9223372036854775807 < T.size + 2; omega
      clear hTs
      go_wp2_with fail
      exact ⟨⟨i + 1, X, by omega, by go_num, rfl, HX, hid (by repeat (first | with_reducible exact HQ.out | with_reducible exact Q.refl _ | with_reducible refine Q.drewN ?_ _ | with_reducible refine Q.drew ?_ | with_reducible refine Q.alloc ?_ _ | with_reducible refine Q.setCell ?_ (by simp) _))⟩, by simp [intOf]; omega⟩
    · have hlt' : ¬ (i : Int) < (n : Int) := by omega
      have hie : i = n := by omega
      subst hie
      obtain ⟨X, hX⟩ : ∃ X, T ++ ⟨#[49]⟩ = X := ⟨_, rfl⟩
      have HX : Hid (X.data.toList = rp [49, 43] i ++ [49] ++ rp [41] 0) := by
        show _ = _
        rw [← hX, ← HT.out, rp_zero, List.append_nil]
        exact cat_d T ⟨#[49]⟩
      have f1 : ¬ 9223372036854775807 < T.size + 1 := by omega
      have f2 : ¬ 9223372036854775807 < T.size + (⟨#[49]⟩ : ByteArray).size := by show ¬ 9223372036854775807 < T.size + 1; omega
      clear hTs HT
      obtain ⟨n, hn⟩ : ∃ n, n = i := ⟨_, rfl⟩
      subst hn
      go_wp2_with fail
      go_loopw [6, 8] (fun u z wr' => ∃ (i : Nat) (T : ByteArray), i ≤ n ∧ z = .int .i64 (i : Int) ∧ u = .string T ∧ Hid (T.data.toList = rp [49, 43] n ++ [49] ++ rp [41] i) ∧ Hid (Q W wr') ∧ i = 0) (fun _ z _ => n - (intOf z).toNat)
      case atStart => exact ⟨0, X, Nat.zero_le _, rfl, rfl, HX, HQ, rfl⟩
      case round =>
        clear HX hX f1 f2 HQ
        obtain ⟨i, T, hi, rfl, rfl, HT, HQ, rfl⟩ := hrel
        have hlt' : (0 : Int) < (n : Int) := by omega
        have hlt2 : ((0 : Nat) : Int) < (n : Int) := by omega
        replace HT : Hid (T.data.toList = textD 2 n) := by show _ = _; rw [HT.out]; rfl
        by_cases hbig : 1000 < T.size
        · have g1 : (1000 : Int) < (T.size : Int) := by omega
          go_wp2_with fail
          go_ret
          exact ⟨rfl, HQ.out⟩
        · have g1 : ¬ (1000 : Int) < (T.size : Int) := by omega
          obtain ⟨L, f, o, hL, hp, her⟩ := deep_err 2 n (by omega) (by rw [← HT.out, len_data]; omega)
          rw [← HT.out] at hL
          obtain ⟨h8, h9⟩ := parse_know T (by omega) L 0 f o hL hp
          obtain ⟨⟨X, er⟩, hx⟩ : ∃ x, finR L o = x := ⟨_, rfl⟩
          rw [hx] at h8 h9 her
          simp only at her
          have H8 := hid h8
          have H9 := hid h9
          have HGr := hid (HG.out.on HQ.out)
          clear h8 h9 hL hp hx
          by_cases h50 : n < 50
          · have u1 : (n : Int) < 50 := by omega
            have u2 : ((er : Int) == 0) = true := by rw [her.2 h50]; rfl
            clear her h50
            go_upto_region 19 with (go_at_call 8; refine (H8.out _ HGr.out.1).mono ?_; rintro e w3 ⟨v, rfl, hr, q3⟩; obtain ⟨k, m, t, b, e1, a1, l1, c1, a2, l2, c2, rfl⟩ := hr.shape; have R3 := hid hr; have Q3 := hid (HQ.out.trans q3); clear hr q3)
            have HX := hid (Bx.start w3 (.int .i64 k) (.int .i64 m) (.string t) (.bool b) (.int .i64 e1) (.slice a1 l1 c1) (.slice a2 l2 c2) 28)
            obtain ⟨w4, hw4⟩ : ∃ w4, w4 = w3.alloc (.cells #[.int .i64 k, .int .i64 m, .string t, .bool b, .int .i64 e1, .slice a1 l1 c1, .slice a2 l2 c2] 28) := ⟨_, rfl⟩
            rw [← hw4] at HX
            have HQ4 : Hid (Q w3 w4) := by rw [hw4]; exact (Q.refl _).alloc _
            rw [← hw4]
            clear hw4
            have he : ((er : Int) == (er : Int)) = true := by simp
            go_upto_region 20 with (go_at_call 9; refine (H9.out _).mono ?_; rintro e w5 ⟨v, rfl, hr, q5⟩; obtain ⟨k', m', t', b', e1', a1', l1', c1', a2', l2', c2', rfl⟩ := hr.shape; have R5 := hid hr; have X5 := hid (HX.out.on q5); have Q5 := hid q5; clear hr q5)
            have HY := hid (Bx.start w5 (.int .i64 k') (.int .i64 m') (.string t') (.bool b') (.int .i64 e1') (.slice a1' l1' c1') (.slice a2' l2' c2') 28)
            obtain ⟨w6, hw6⟩ : ∃ w6, w6 = w5.alloc (.cells #[.int .i64 k', .int .i64 m', .string t', .bool b', .int .i64 e1', .slice a1' l1' c1', .slice a2' l2' c2'] 28) := ⟨_, rfl⟩
            rw [← hw6] at HY
            have HQ6 : Hid (Q w5 w6) := by rw [hw6]; exact (Q.refl _).alloc _
            have X6 := hid (X5.out.on HQ6.out)
            rw [← hw6]
            clear hw6
            have HE := hid ((eqexpr_any (SizeOf.sizeOf X) X X _ _ w6 (Nat.le_refl _) (Rd.on (HQ4.out.trans (Q5.out.trans HQ6.out)) _ _ R3.out) (Rd.on HQ6.out _ _ R5.out)).mono fun e w h => (⟨h.1.t rfl, h.2⟩ : e = .returned (.bool true) ∧ Q w6 w))
            obtain ⟨_, _, g0, gg1, g2, g3, g4, g5, g6⟩ := X6.out
            obtain ⟨_, _, d0, d1, d2, d3, d4, d5, d6⟩ := HY.out
            go_wp2_with (go_at_call 10; refine HE.out.mono ?_; rintro e w7 ⟨rfl, q7⟩; have Q7 := hid q7; clear q7)
            go_ret
            exact ⟨rfl, (((Q3.out.trans HQ4.out).trans Q5.out).trans HQ6.out).trans Q7.out⟩
          · have u1 : ¬ (n : Int) < 50 := by omega
            have u2 : ((er : Int) == 0) = false := by rw [beq_eq_false_iff_ne]; intro e; exact h50 (her.1 (by omega))
            clear her h50
            go_upto_region 19 with (go_at_call 8; refine (H8.out _ HGr.out.1).mono ?_; rintro e w3 ⟨v, rfl, hr, q3⟩; obtain ⟨k, m, t, b, e1, a1, l1, c1, a2, l2, c2, rfl⟩ := hr.shape; have R3 := hid hr; have Q3 := hid (HQ.out.trans q3); clear hr q3)
            have HX := hid (Bx.start w3 (.int .i64 k) (.int .i64 m) (.string t) (.bool b) (.int .i64 e1) (.slice a1 l1 c1) (.slice a2 l2 c2) 28)
            obtain ⟨w4, hw4⟩ : ∃ w4, w4 = w3.alloc (.cells #[.int .i64 k, .int .i64 m, .string t, .bool b, .int .i64 e1, .slice a1 l1 c1, .slice a2 l2 c2] 28) := ⟨_, rfl⟩
            rw [← hw4] at HX
            have HQ4 : Hid (Q w3 w4) := by rw [hw4]; exact (Q.refl _).alloc _
            rw [← hw4]
            clear hw4
            have he : ((er : Int) == (er : Int)) = true := by simp
            go_upto_region 20 with (go_at_call 9; refine (H9.out _).mono ?_; rintro e w5 ⟨v, rfl, hr, q5⟩; obtain ⟨k', m', t', b', e1', a1', l1', c1', a2', l2', c2', rfl⟩ := hr.shape; have R5 := hid hr; have X5 := hid (HX.out.on q5); have Q5 := hid q5; clear hr q5)
            have HY := hid (Bx.start w5 (.int .i64 k') (.int .i64 m') (.string t') (.bool b') (.int .i64 e1') (.slice a1' l1' c1') (.slice a2' l2' c2') 28)
            obtain ⟨w6, hw6⟩ : ∃ w6, w6 = w5.alloc (.cells #[.int .i64 k', .int .i64 m', .string t', .bool b', .int .i64 e1', .slice a1' l1' c1', .slice a2' l2' c2'] 28) := ⟨_, rfl⟩
            rw [← hw6] at HY
            have HQ6 : Hid (Q w5 w6) := by rw [hw6]; exact (Q.refl _).alloc _
            have X6 := hid (X5.out.on HQ6.out)
            rw [← hw6]
            clear hw6
            have HE := hid ((eqexpr_any (SizeOf.sizeOf X) X X _ _ w6 (Nat.le_refl _) (Rd.on (HQ4.out.trans (Q5.out.trans HQ6.out)) _ _ R3.out) (Rd.on HQ6.out _ _ R5.out)).mono fun e w h => (⟨h.1.t rfl, h.2⟩ : e = .returned (.bool true) ∧ Q w6 w))
            obtain ⟨_, _, g0, gg1, g2, g3, g4, g5, g6⟩ := X6.out
            obtain ⟨_, _, d0, d1, d2, d3, d4, d5, d6⟩ := HY.out
            go_wp2_with (go_at_call 10; refine HE.out.mono ?_; rintro e w7 ⟨rfl, q7⟩; have Q7 := hid q7; clear q7)
            go_ret
            exact ⟨by show Ending.returned (.bool (!decide ((n : Int) < 50))) = _; rw [decide_eq_false (by omega)]; rfl, (((Q3.out.trans HQ4.out).trans Q5.out).trans HQ6.out).trans Q7.out⟩

set_option maxRecDepth 100000 in
set_option maxHeartbeats 8000000 in
theorem deep_3 (n : Nat) (W : World) (hg : Gd W) (h1 : 1 ≤ n) (h2 : n ≤ 220) : Calls Tryz.prog 5 #[.int .i64 3, .int .i64 (n : Int)] W fun e W' => e = .returned (.bool true) ∧ Q W W' := by
  have HB := hid (begun_any W hg)
  have HG := hid hg
  clear hg
  have n1 : ¬ (n : Int) < 1 := by omega
  have n2 : ¬ (220 : Int) < (n : Int) := by omega
  go_enter Tryz.func5, Tryz.ntmps5
  go_wp2_with (go_at_call 6; refine HB.out.mono ?_; rintro e w1 ⟨rfl, q1⟩; have Q1 := hid q1; clear q1)
  go_loopw [6, 7] (fun u z wr => ∃ (i : Nat) (T : ByteArray), i ≤ n ∧ z = .int .i64 (i : Int) ∧ u = .string T ∧ Hid (T.data.toList = rp [40] i) ∧ Hid (Q W wr)) (fun _ z _ => n - (intOf z).toNat)
  case atStart => exact ⟨0, ⟨#[]⟩, Nat.zero_le _, rfl, rfl, rfl, Q1⟩
  case round =>
    obtain ⟨i, T, hi, rfl, rfl, HT, HQ⟩ := hrel
    have hTs : T.size = i * 1 := by
      rw [← len_data, HT.out, rp_len]
      rfl
    by_cases hlt : i < n
    · have hlt' : (i : Int) < (n : Int) := by omega
      obtain ⟨X, hX⟩ : ∃ X, T ++ ⟨#[40]⟩ = X := ⟨_, rfl⟩
      have HX : Hid (X.data.toList = rp [40] (i + 1)) := by
        show _ = _
        rw [← hX, rp_snoc, ← HT.out]
        exact cat_d T ⟨#[40]⟩
      have f1 : ¬ 9223372036854775807 < T.size + 1 := by omega
      have f2 : ¬ 9223372036854775807 < T.size + (⟨#[40]⟩ : ByteArray).size := by show ¬ 9223372036854775807 < T.size + 1; omega
      clear hTs
      go_wp2_with fail
      exact ⟨⟨i + 1, X, by omega, by go_num, rfl, HX, hid (by repeat (first | with_reducible exact HQ.out | with_reducible exact Q.refl _ | with_reducible refine Q.drewN ?_ _ | with_reducible refine Q.drew ?_ | with_reducible refine Q.alloc ?_ _ | with_reducible refine Q.setCell ?_ (by simp) _))⟩, by simp [intOf]; omega⟩
    · have hlt' : ¬ (i : Int) < (n : Int) := by omega
      have hie : i = n := by omega
      subst hie
      obtain ⟨X, hX⟩ : ∃ X, T ++ ⟨#[49]⟩ = X := ⟨_, rfl⟩
      have HX : Hid (X.data.toList = rp [40] i ++ [49] ++ rp [41] 0) := by
        show _ = _
        rw [← hX, ← HT.out, rp_zero, List.append_nil]
        exact cat_d T ⟨#[49]⟩
      have f1 : ¬ 9223372036854775807 < T.size + 1 := by omega
      have f2 : ¬ 9223372036854775807 < T.size + (⟨#[49]⟩ : ByteArray).size := by show ¬ 9223372036854775807 < T.size + 1; omega
      clear hTs HT
      obtain ⟨n, hn⟩ : ∃ n, n = i := ⟨_, rfl⟩
      subst hn
      go_wp2_with fail
      go_loopw [6, 8] (fun u z wr' => ∃ (i : Nat) (T : ByteArray), i ≤ n ∧ z = .int .i64 (i : Int) ∧ u = .string T ∧ Hid (T.data.toList = rp [40] n ++ [49] ++ rp [41] i) ∧ Hid (Q W wr')) (fun _ z _ => n - (intOf z).toNat)
      case atStart => exact ⟨0, X, Nat.zero_le _, rfl, rfl, HX, HQ⟩
      case round =>
        clear HX hX f1 f2 HQ
        obtain ⟨i, T, hi, rfl, rfl, HT, HQ⟩ := hrel
        have hTs : T.size = n * 1 + 1 + i := by
          rw [← len_data, HT.out, List.length_append, List.length_append, rp_len, rp_len]
          simp
        by_cases hlt : i < n
        · have hlt' : (i : Int) < (n : Int) := by omega
          obtain ⟨X, hX⟩ : ∃ X, T ++ ⟨#[41]⟩ = X := ⟨_, rfl⟩
          have HX : Hid (X.data.toList = rp [40] n ++ [49] ++ rp [41] (i + 1)) := by
            show _ = _
            rw [← hX, rp_snoc, ← List.append_assoc, ← HT.out]
            exact cat_d T ⟨#[41]⟩
          have f1 : ¬ 9223372036854775807 < T.size + 1 := by omega
          have f2 : ¬ 9223372036854775807 < T.size + (⟨#[41]⟩ : ByteArray).size := by show ¬ 9223372036854775807 < T.size + 1; omega
          clear hTs
          go_wp2_with fail
          go_roundw
          case rel => exact ⟨i + 1, X, by omega, by go_num, rfl, HX, hid (by repeat (first | with_reducible exact HQ.out | with_reducible exact Q.refl _ | with_reducible refine Q.drewN ?_ _ | with_reducible refine Q.drew ?_ | with_reducible refine Q.alloc ?_ _ | with_reducible refine Q.setCell ?_ (by simp) _))⟩
          case measure => simp [intOf]; omega
        · have hlt' : ¬ (i : Int) < (n : Int) := by omega
          have hie : i = n := by omega
          clear hTs
          replace HT : Hid (T.data.toList = textD 3 n) := by show _ = _; rw [HT.out, hie]; rfl
          clear hie
          by_cases hbig : 1000 < T.size
          · have g1 : (1000 : Int) < (T.size : Int) := by omega
            go_wp2_with fail
            go_ret
            exact ⟨rfl, HQ.out⟩
          · have g1 : ¬ (1000 : Int) < (T.size : Int) := by omega
            obtain ⟨⟨X, er⟩, h8, h9⟩ := parse_same T (by omega)
            have H8 := hid h8
            have H9 := hid h9
            have HGr := hid (HG.out.on HQ.out)
            clear h8 h9
            go_upto_region 19 with (go_at_call 8; refine (H8.out _ HGr.out.1).mono ?_; rintro e w3 ⟨v, rfl, hr, q3⟩; obtain ⟨k, m, t, b, e1, a1, l1, c1, a2, l2, c2, rfl⟩ := hr.shape; have R3 := hid hr; have Q3 := hid (HQ.out.trans q3); clear hr q3)
            have HX := hid (Bx.start w3 (.int .i64 k) (.int .i64 m) (.string t) (.bool b) (.int .i64 e1) (.slice a1 l1 c1) (.slice a2 l2 c2) 28)
            obtain ⟨w4, hw4⟩ : ∃ w4, w4 = w3.alloc (.cells #[.int .i64 k, .int .i64 m, .string t, .bool b, .int .i64 e1, .slice a1 l1 c1, .slice a2 l2 c2] 28) := ⟨_, rfl⟩
            rw [← hw4] at HX
            have HQ4 : Hid (Q w3 w4) := by rw [hw4]; exact (Q.refl _).alloc _
            rw [← hw4]
            clear hw4
            have he : ((er : Int) == (er : Int)) = true := by simp
            go_upto_region 20 with (go_at_call 9; refine (H9.out _).mono ?_; rintro e w5 ⟨v, rfl, hr, q5⟩; obtain ⟨k', m', t', b', e1', a1', l1', c1', a2', l2', c2', rfl⟩ := hr.shape; have R5 := hid hr; have X5 := hid (HX.out.on q5); have Q5 := hid q5; clear hr q5)
            have HY := hid (Bx.start w5 (.int .i64 k') (.int .i64 m') (.string t') (.bool b') (.int .i64 e1') (.slice a1' l1' c1') (.slice a2' l2' c2') 28)
            obtain ⟨w6, hw6⟩ : ∃ w6, w6 = w5.alloc (.cells #[.int .i64 k', .int .i64 m', .string t', .bool b', .int .i64 e1', .slice a1' l1' c1', .slice a2' l2' c2'] 28) := ⟨_, rfl⟩
            rw [← hw6] at HY
            have HQ6 : Hid (Q w5 w6) := by rw [hw6]; exact (Q.refl _).alloc _
            have X6 := hid (X5.out.on HQ6.out)
            rw [← hw6]
            clear hw6
            have HE := hid ((eqexpr_any (SizeOf.sizeOf X) X X _ _ w6 (Nat.le_refl _) (Rd.on (HQ4.out.trans (Q5.out.trans HQ6.out)) _ _ R3.out) (Rd.on HQ6.out _ _ R5.out)).mono fun e w h => (⟨h.1.t rfl, h.2⟩ : e = .returned (.bool true) ∧ Q w6 w))
            obtain ⟨_, _, g0, gg1, g2, g3, g4, g5, g6⟩ := X6.out
            obtain ⟨_, _, d0, d1, d2, d3, d4, d5, d6⟩ := HY.out
            go_wp2_with (go_at_call 10; refine HE.out.mono ?_; rintro e w7 ⟨rfl, q7⟩; have Q7 := hid q7; clear q7)
            go_ret
            exact ⟨rfl, (((Q3.out.trans HQ4.out).trans Q5.out).trans HQ6.out).trans Q7.out⟩

set_option maxRecDepth 100000 in
set_option maxHeartbeats 4000000 in
theorem deep_no (k n : Int) (W : World) (hg : Gd W) (h : n < 1 ∨ 220 < n ∨ k < 0 ∨ 3 < k) : Calls Tryz.prog 5 #[.int .i64 k, .int .i64 n] W fun e W' => e = .returned (.bool true) ∧ Q W W' := by
  have HB := hid (begun_any W hg)
  clear hg
  by_cases h1 : n < 1
  · clear h
    go_enter Tryz.func5, Tryz.ntmps5
    go_wp2_with (go_at_call 6; refine HB.out.mono ?_; rintro e w1 ⟨rfl, q1⟩; have Q1 := hid q1; clear q1)
    go_ret
    exact ⟨rfl, Q1.out⟩
  · by_cases h2 : 220 < n
    · clear h
      go_enter Tryz.func5, Tryz.ntmps5
      go_wp2_with (go_at_call 6; refine HB.out.mono ?_; rintro e w1 ⟨rfl, q1⟩; have Q1 := hid q1; clear q1)
      go_ret
      exact ⟨rfl, Q1.out⟩
    · by_cases h3 : k < 0
      · clear h
        go_enter Tryz.func5, Tryz.ntmps5
        go_wp2_with (go_at_call 6; refine HB.out.mono ?_; rintro e w1 ⟨rfl, q1⟩; have Q1 := hid q1; clear q1)
        go_ret
        exact ⟨rfl, Q1.out⟩
      · have h4 : 3 < k := by omega
        clear h
        go_enter Tryz.func5, Tryz.ntmps5
        go_wp2_with (go_at_call 6; refine HB.out.mono ?_; rintro e w1 ⟨rfl, q1⟩; have Q1 := hid q1; clear q1)
        go_ret
        exact ⟨rfl, Q1.out⟩
theorem parsedeep_any (k n : Int) (W : World) (hg : Gd W) : Calls Tryz.prog 5 #[.int .i64 k, .int .i64 n] W fun e W' => e = .returned (.bool true) ∧ Q W W' := by
  by_cases h : n < 1 ∨ 220 < n ∨ k < 0 ∨ 3 < k
  · exact deep_no k n W hg h
  · obtain ⟨m, rfl⟩ : ∃ m : Nat, n = (m : Int) := ⟨n.toNat, by omega⟩
    have h1 : 1 ≤ m := by omega
    have h2 : m ≤ 220 := by omega
    rcases (by omega : k = 0 ∨ k = 1 ∨ k = 2 ∨ k = 3) with rfl | rfl | rfl | rfl
    · exact deep_0 m W hg h1 h2
    · exact deep_1 m W hg h1 h2
    · exact deep_2 m W hg h1 h2
    · exact deep_3 m W hg h1 h2

end Go.Proofs.YtdpppkkdilcbeaaGreatDoor
