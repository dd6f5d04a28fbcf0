/- The program's reader: errors' names, names, brackets; parse.mayNode, walked. -/
import Derived.Test.YtgheopdadfnilaaGreatDoorKs15
import Derived.Test.YtgheopdadfnilaaGreatDoorKs07
import Derived.Test.YtgheopdadfnilaaGreatDoorKs08
import Derived.Test.YtgheopdadfnilaaGreatDoorKs11
namespace Go.Proofs.YtgheopdadfnilaaGreatDoor
open Go.RowKit
set_option linter.unusedVariables false
set_option linter.unusedSimpArgs false
set_option maxHeartbeats 2000000 in
theorem ptruth_any (s : ByteArray) (w : World) : Calls Tryz.prog 150 #[.string s] w fun e w' => e = .returned (.bool (decide (s.data.toList = truW ∨ s.data.toList = flsW))) ∧ w' = w := by
  have et := hid (toL s)
  by_cases h1 : s.data.toList = truW
  · have f1 : (s.toList == [84, 82, 85, 69]) = true := by rw [et.out, h1]; rfl
    have HR : Hid (decide (s.data.toList = truW ∨ s.data.toList = flsW) = true) := by show _ = _; exact decide_eq_true (.inl h1)
    generalize decide (s.data.toList = truW ∨ s.data.toList = flsW) = r at HR ⊢
    clear et h1
    go_enter Tryz.func150, Tryz.ntmps150
    go_wp2
    go_ret
    exact ⟨ret_bool HR.out.symm, rfl⟩
  · have f1 : (s.toList == [84, 82, 85, 69]) = false := by rw [et.out, beq_eq_false_iff_ne]; exact h1
    by_cases h2 : s.data.toList = flsW
    · have f2 : (s.toList == [70, 65, 76, 83, 69]) = true := by rw [et.out, h2]; rfl
      have HR : Hid (decide (s.data.toList = truW ∨ s.data.toList = flsW) = true) := by show _ = _; exact decide_eq_true (.inr h2)
      generalize decide (s.data.toList = truW ∨ s.data.toList = flsW) = r at HR ⊢
      clear et h1 h2
      go_enter Tryz.func150, Tryz.ntmps150
      go_wp2
      go_ret
      exact ⟨ret_bool HR.out.symm, rfl⟩
    · have f2 : (s.toList == [70, 65, 76, 83, 69]) = false := by rw [et.out, beq_eq_false_iff_ne]; exact h2
      have HR : Hid (decide (s.data.toList = truW ∨ s.data.toList = flsW) = false) := by show _ = _; exact decide_eq_false (fun e => e.elim h1 h2)
      generalize decide (s.data.toList = truW ∨ s.data.toList = flsW) = r at HR ⊢
      clear et h1 h2
      go_enter Tryz.func150, Tryz.ntmps150
      go_wp2
      go_ret
      exact ⟨ret_bool HR.out.symm, rfl⟩
set_option maxHeartbeats 2000000 in
theorem errof_any (T : ByteArray) (t : List UInt8) (hT : T.data.toList = t) (w : World) (hw : Std w) (he : errN t ≠ 0) : Calls Tryz.prog 185 #[.string T] w fun e w' => e = .returned (.int .i64 (errN t : Int)) ∧ Q w w' := by
  have HM := hid (errN_min he)
  have hm1 := HM.out.1
  have hm7 := HM.out.2.1
  have HTT := hid hT
  generalize hM : errN t = M at HM hm1 hm7 he ⊢
  have HNm := hid hw.nam
  clear hw hT hM he
  go_enter Tryz.func185, Tryz.ntmps185
  go_wp2
  go_loop [3] (fun y => ∃ e : Nat, 1 ≤ e ∧ e ≤ M ∧ y = .int .i64 (e : Int)) (fun y => 8 - (intOf y).toNat)
  case atStart => exact ⟨1, by omega, by omega, rfl⟩
  case round =>
    obtain ⟨e, he1, heM, rfl⟩ := hrel
    have H1 := hid (V.name_any (e : Int) w HNm.out)
    obtain ⟨N, hN, lN⟩ : ∃ N : ByteArray, ⟨(enL (e : Int)).toArray⟩ = N ∧ N.data.toList = enL (e : Int) := ⟨_, rfl, rfl⟩
    rw [hN] at H1
    by_cases h7 : (e : Int) < 7
    · by_cases hlt2 : e < M
      · have e7 : (N.toList == T.toList) = false := by rw [toL, toL, lN, beq_eq_false_iff_ne, HTT.out]; exact HM.out.2.2.2 e he1 hlt2
        clear hN lN
        go_wp2_with (go_at_call 82; refine H1.out.mono ?_; rintro e9 w9 ⟨rfl, h9⟩; replace h9 := h9.symm; subst h9)
        go_round
        case rel => exact ⟨e + 1, by omega, by omega, by go_num⟩
        case measure => simp [intOf]; omega
      · have eM : e = M := by omega
        have e7 : (N.toList == T.toList) = true := by rw [toL, toL, lN, beq_iff_eq, HTT.out, eM]; exact HM.out.2.2.1
        have EM := hid eM
        clear hN lN hlt2 eM
        go_wp2_with (go_at_call 82; refine H1.out.mono ?_; rintro e9 w9 ⟨rfl, h9⟩; replace h9 := h9.symm; subst h9)
        go_ret
        exact ⟨ret_int (by rw [EM.out]), Q.refl _⟩
    · have eM : M = 7 := by omega
      have EM := hid eM
      clear hN lN eM
      go_wp2_with fail
      go_ret
      exact ⟨ret_int (by rw [EM.out]; rfl), Q.refl _⟩
set_option maxRecDepth 100000 in
set_option maxHeartbeats 4000000 in
theorem mayname_any (s : ByteArray) (w : World) (hs : s.size ≤ 4000000000) : Calls Tryz.prog 126 #[.string s] w fun e w' => e = .returned (.bool (namF s.data.toList)) ∧ w' = w := by
  have hl := len_data s
  by_cases h0 : s.size = 0
  · have HR : Hid (namF s.data.toList = false) := by show _ = _; unfold namF; rw [hl, h0]; rfl
    have e0 : ((s.size : Int) == 0) = true := by rw [h0]; rfl
    generalize namF s.data.toList = r at HR ⊢
    clear hl
    go_enter Tryz.func126, Tryz.ntmps126
    go_wp2_with fail
    go_ret
    exact ⟨ret_bool HR.out.symm, rfl⟩
  · have e0 : ((s.size : Int) == 0) = false := by rw [beq_eq_false_iff_ne]; omega
    by_cases h20 : (20 : Int) < (s.size : Int)
    · have HR : Hid (namF s.data.toList = false) := by show _ = _; unfold namF; rw [hl, decide_eq_false (show ¬ s.size ≤ 20 by omega)]; simp
      generalize namF s.data.toList = r at HR ⊢
      clear hl h0
      go_enter Tryz.func126, Tryz.ntmps126
      go_wp2_with fail
      go_ret
      exact ⟨ret_bool HR.out.symm, rfl⟩
    · have HT := hid (ptruth_any s w)
      by_cases htr : s.data.toList = truW ∨ s.data.toList = flsW
      · rw [decide_eq_true htr] at HT
        have HR : Hid (namF s.data.toList = false) := by show _ = _; unfold namF; rw [decide_eq_false (show ¬ ¬ (s.data.toList = truW ∨ s.data.toList = flsW) from fun e => e htr)]; simp
        generalize namF s.data.toList = r at HR ⊢
        clear hl h0 htr
        go_enter Tryz.func126, Tryz.ntmps126
        go_wp2_with (go_at_call 150; refine HT.out.mono ?_; rintro e9 w9 ⟨rfl, h9⟩; replace h9 := h9.symm; subst h9)
        go_ret
        exact ⟨ret_bool HR.out.symm, rfl⟩
      · rw [decide_eq_false htr] at HT
        have HR : Hid (namF s.data.toList = allL s.data.toList) := by
          show _ = _
          unfold namF allL
          rw [hl, decide_eq_true (show 0 < s.size by omega), decide_eq_true (show s.size ≤ 20 by omega), decide_eq_true htr]
          simp
        generalize namF s.data.toList = r at HR ⊢
        clear hl h0 htr
        go_enter Tryz.func126, Tryz.ntmps126
        go_wp2_with (go_at_call 150; refine HT.out.mono ?_; rintro e9 w9 ⟨rfl, h9⟩; replace h9 := h9.symm; subst h9)
        go_loop [18, 3] (fun i _ => ∃ k : Nat, k ≤ s.size ∧ i = .int .i64 k ∧ Hid (allL (s.data.toList.take k) = true)) (fun i _ => s.size - (intOf i).toNat)
        case atStart => exact ⟨0, Nat.zero_le _, rfl, rfl⟩
        case round =>
          obtain ⟨k, hk, rfl, ha⟩ := hrel
          by_cases hlt : k < s.size
          · by_cases hd : let1 s[k] = true
            · have ha' : Hid (allL (s.data.toList.take (k + 1)) = true) := by
                show _ = _
                have := ha.out
                rw [take_snoc s k hlt, allL_app, this]
                unfold allL
                simp [hd]
              have b0 : ¬ (s[k].toNat : Int) < 65 := by unfold let1 at hd; simp at hd; omega
              have b1 : ¬ 90 < (s[k].toNat : Int) := by unfold let1 at hd; simp at hd; omega
              clear hd
              go_wp2_with fail
              go_round
              case rel => exact ⟨k + 1, by omega, by go_num, ha'⟩
              case measure => simp [intOf]; omega
            · have hN := hid (allL_no s k hlt (by simpa using hd))
              by_cases b0 : (s[k].toNat : Int) < 65
              · clear hd
                go_wp2_with fail
                go_ret
                exact ⟨ret_bool (by rw [HR.out, hN.out]), rfl⟩
              · have b1 : 90 < (s[k].toNat : Int) := by unfold let1 at hd; simp at hd; omega
                clear hd
                go_wp2_with fail
                go_ret
                exact ⟨ret_bool (by rw [HR.out, hN.out]), rfl⟩
          · have hN : Hid (allL s.data.toList = true) := by
              show _ = _
              have := ha.out
              rw [take_all s k (by omega)] at this
              exact this
            go_wp2_with fail
            go_ret
            exact ⟨ret_bool (by rw [HR.out, hN.out]), rfl⟩
set_option maxRecDepth 100000 in
set_option maxHeartbeats 8000000 in
theorem pfirst_paren (L : List Wd) (p b off cap i : Nat) (W : World) (h : PT W p L b off cap i) (hi : i < L.length) (hr : L.length ≤ 50000) (hw : isW L i [40] = true) (o : Option (Ex × Nat)) (HT : Hid (∀ W1, PT W1 p L b off cap (i + 1) → Calls Tryz.prog 184 #[.pointer (some ⟨p, 0, none⟩)] W1 fun e W' => RepP p L b off cap W1 o e W')) :
    Calls Tryz.prog 167 #[.pointer (some ⟨p, 0, none⟩)] W fun e W' => RepP p L b off cap W o e W' := by
  have hlt := h.lt
  have hbW := h.blk i hi
  have HP := hid h
  have HZ := hid (tb_new W (.int .i64 0) (.int .i64 0) (.string ⟨#[]⟩) (.bool false) (.int .i64 0) (.slice none 0 0) (.slice none 0 0) 26)
  have hc := hid (fun W1 (g : PT W1 p L b off cap i) => ptake_any W1 p L b off cap i ⟨#[40]⟩ g hi hr (by simp))
  rw [show (⟨#[40]⟩ : ByteArray).data.toList = [40] from rfl, hw] at hc
  clear h
  go_enter Tryz.func167, Tryz.ntmps167
  go_wp2_with (first | (go_at_call 166; refine (hc.out _ (HP.out.on (by repeat (first | with_reducible exact Q.refl _ | with_reducible refine Q.drewN ?_ _ | with_reducible refine Q.drew ?_ | with_reducible refine Q.alloc ?_ _ | with_reducible refine Q.setCell ?_ (by simp) _)))).mono ?_; rintro e w1 ⟨rfl, q1, p1⟩; have Q1 : Hid (Qx p W w1) := hid (Qx.trans (by repeat (first | with_reducible exact Qx.refl _ _ | with_reducible refine Qx.drewN ?_ _ | with_reducible refine Qx.drew ?_ | with_reducible refine Qx.alloc ?_ _ | with_reducible refine Qx.own ?_ _ _ | with_reducible refine Qx.new ?_ (by simp) _ _)) q1); have P1 := hid p1; have Z1 := hid (HZ.out.on q1 (by omega)); have hsw : W.heap.size < w1.heap.size := World.block_lt_of_cell? w1 ⟨W.heap.size, 0, none⟩ Z1.out.g0; clear q1 p1) | (go_at_call 184; refine (HT.out _ P1.out).mono ?_; rintro e w2 h2; obtain ⟨k, m, t, bb, er, a1, l1, c1, a2, l2, c2, rfl, q2, r2⟩ := h2.in; have Q2 := hid q2; have R2 := hid r2; clear h2 q2 r2; have Z2 := hid (Z1.out.on Q2.out (by omega)); have d0 := Z2.out.g0; have d1 := Z2.out.g1; have d2 := Z2.out.g2; have d3 := Z2.out.g3; have d4 := Z2.out.g4; have d5 := Z2.out.g5; have d6 := Z2.out.g6; have y0 := Z2.out.f 0; have y1 := Z2.out.f 1; have y2 := Z2.out.f 2; have y3 := Z2.out.f 3; have y4 := Z2.out.f 4; have y5 := Z2.out.f 5; have y6 := Z2.out.f 6))
  refine bodyPost_ret (v := .tuple #[.agg #[.int .i64 k, .int .i64 m, .string t, .bool bb, .int .i64 er, .slice a1 l1 c1, .slice a2 l2 c2], .bool o.isSome]) (by simp [results, Tryz.results167, go_sem, d0, d1, d2, d3, d4, d5, d6]) rfl ?_
  exact finP o k m t bb er a1 l1 c1 a2 l2 c2 hlt hbW (Q1.out.trans Q2.out) (fun x j e => ⟨Rdg.mono (fun b hb => by omega) _ _ (R2.out x j e).1, (R2.out x j e).2⟩)
end Go.Proofs.YtgheopdadfnilaaGreatDoor
namespace Go.Proofs.YtgheopdadfnilaaGreatDoor
open Go.RowKit
set_option linter.unusedVariables false
set_option linter.unusedSimpArgs false
def bareB (n : Int) (t : List UInt8) (b : Bool) (e : Int) (l1 l2 : Nat) : Bool := decide (n = 0 ∧ t = [] ∧ b = false ∧ e = 0 ∧ l1 = 0 ∧ l2 = 0)
theorem bare_b (k n : Int) (t : ByteArray) (b : Bool) (e : Int) (a1 : Option Addr) (l1 c1 : Nat) (a2 : Option Addr) (l2 c2 : Nat) (r : Bool) (h : bareB n t.data.toList b e l1 l2 = r) (W : World) : Calls Tryz.prog 127 #[.agg #[.int .i64 k, .int .i64 n, .string t, .bool b, .int .i64 e, .slice a1 l1 c1, .slice a2 l2 c2]] W fun e' W' => e' = .returned (.bool r) ∧ Q W W' := by
  rw [← h]
  exact bare_any k n t b e a1 l1 c1 a2 l2 c2 W
/-- a tree in two blocks, one behind the other -/
theorem two_new (W : World) (c0 c1 c2 c3 c4 c5 c6 : Value) : Tb (((W.alloc (.cells #[c0, c1, c2, c3, c4, c5, c6] 26)).alloc (.cells #[c0, c1, c2, c3, c4, c5, c6] 26)).drew) W.heap.size c0 c1 c2 c3 c4 c5 c6 ∧ Tb (((W.alloc (.cells #[c0, c1, c2, c3, c4, c5, c6] 26)).alloc (.cells #[c0, c1, c2, c3, c4, c5, c6] 26)).drew) (W.heap.size + 1) c0 c1 c2 c3 c4 c5 c6 := by
  constructor
  · exact ((tb_new W c0 c1 c2 c3 c4 c5 c6 26).on ((Qx.refl (W.heap.size + 5) _).alloc _) (by omega)).on ((Qx.refl (W.heap.size + 5) _).drew) (by omega)
  · have h := (tb_new (W.alloc (.cells #[c0, c1, c2, c3, c4, c5, c6] 26)) c0 c1 c2 c3 c4 c5 c6 26).on (p := W.heap.size + 5) ((Qx.refl _ _).drew) (by simp)
    rw [show (W.alloc (.cells #[c0, c1, c2, c3, c4, c5, c6] 26)).heap.size = W.heap.size + 1 by simp] at h
    exact h
set_option maxRecDepth 100000 in
set_option maxHeartbeats 4000000 in
theorem mn_1 (n : Int) (t : ByteArray) (b : Bool) (e : Int) (a1 : Option Addr) (l1 c1 : Nat) (a2 : Option Addr) (l2 c2 : Nat) (W : World) : Calls Tryz.prog 93 #[.agg #[.int .i64 1, .int .i64 n, .string t, .bool b, .int .i64 e, .slice a1 l1 c1, .slice a2 l2 c2]] W fun e' W' => e' = .returned (.bool ((decide (0 ≤ n)) && bareB 0 t.data.toList b e l1 l2)) ∧ Q W W' := by
  obtain ⟨rb, hrb⟩ : ∃ rb, bareB 0 t.data.toList b e l1 l2 = rb := ⟨_, rfl⟩
  have HB := hid (fun W' => bare_b 1 0 t b e a1 l1 c1 a2 l2 c2 rb hrb W')
  obtain ⟨t1, t2⟩ := two_new W (.int .i64 1) (.int .i64 n) (.string t) (.bool b) (.int .i64 e) (.slice a1 l1 c1) (.slice a2 l2 c2)
  have T1 := hid t1
  have T2 := hid t2
  have HQ : Hid (Q W (((W.alloc (.cells #[.int .i64 1, .int .i64 n, .string t, .bool b, .int .i64 e, .slice a1 l1 c1, .slice a2 l2 c2] 26)).alloc (.cells #[.int .i64 1, .int .i64 n, .string t, .bool b, .int .i64 e, .slice a1 l1 c1, .slice a2 l2 c2] 26)).drew)) := hid (((Q.refl _).alloc _).alloc _).drew
  have HRB := hid hrb
  clear hrb t1 t2
  by_cases h : 0 ≤ n
  ·
    have HR : Hid (((decide (0 ≤ n)) && bareB 0 t.data.toList b e l1 l2) = rb) := by
      show _ = _
      rw [show (decide (0 ≤ n)) = true from decide_eq_true h]
      exact (Bool.true_and _).trans HRB.out
    generalize ((decide (0 ≤ n)) && bareB 0 t.data.toList b e l1 l2) = rr at HR ⊢
    go_enter Tryz.func93, Tryz.ntmps93
    go_wp2_with fail
    go_region
    obtain ⟨w1, hw1⟩ : ∃ w1, w1 = (((W.alloc (.cells #[.int .i64 1, .int .i64 n, .string t, .bool b, .int .i64 e, .slice a1 l1 c1, .slice a2 l2 c2] 26)).alloc (.cells #[.int .i64 1, .int .i64 n, .string t, .bool b, .int .i64 e, .slice a1 l1 c1, .slice a2 l2 c2] 26)).drew) := ⟨_, rfl⟩
    rw [← hw1] at T1 T2 HQ
    rw [← hw1]
    clear hw1
    obtain ⟨g0, g1, g2, g3, g4, g5, g6, _⟩ := T1.out
    obtain ⟨d0, d1, d2, d3, d4, d5, d6, yf⟩ := T2.out
    have y0 := yf 0
    have y1 := yf 1
    have y2 := yf 2
    have y3 := yf 3
    have y4 := yf 4
    have y5 := yf 5
    have y6 := yf 6
    clear yf
    go_wp2_with (first | (go_at_call 127; refine (HB.out _).mono ?_; rintro e9 w9 ⟨rfl, q9⟩; have Q9 := hid q9; clear q9))
    go_ret
    exact ⟨ret_bool HR.out.symm, Q.trans (by repeat (first | with_reducible exact QC.out | with_reducible exact HQ.out | with_reducible refine Q.drewN ?_ _ | with_reducible refine Q.drew ?_ | with_reducible refine Q.alloc ?_ _ | with_reducible refine Q.setCell ?_ (by simp) _)) Q9.out⟩
  ·
    have HR : Hid (((decide (0 ≤ n)) && bareB 0 t.data.toList b e l1 l2) = false) := by
      show _ = _
      rw [show (decide (0 ≤ n)) = false from decide_eq_false h]
      exact Bool.false_and _
    generalize ((decide (0 ≤ n)) && bareB 0 t.data.toList b e l1 l2) = rr at HR ⊢
    go_enter Tryz.func93, Tryz.ntmps93
    go_wp2_with fail
    go_region
    obtain ⟨w1, hw1⟩ : ∃ w1, w1 = (((W.alloc (.cells #[.int .i64 1, .int .i64 n, .string t, .bool b, .int .i64 e, .slice a1 l1 c1, .slice a2 l2 c2] 26)).alloc (.cells #[.int .i64 1, .int .i64 n, .string t, .bool b, .int .i64 e, .slice a1 l1 c1, .slice a2 l2 c2] 26)).drew) := ⟨_, rfl⟩
    rw [← hw1] at T1 T2 HQ
    rw [← hw1]
    clear hw1
    obtain ⟨g0, g1, g2, g3, g4, g5, g6, _⟩ := T1.out
    obtain ⟨d0, d1, d2, d3, d4, d5, d6, yf⟩ := T2.out
    have y0 := yf 0
    have y1 := yf 1
    have y2 := yf 2
    have y3 := yf 3
    have y4 := yf 4
    have y5 := yf 5
    have y6 := yf 6
    clear yf
    go_wp2_with fail
    go_ret
    exact ⟨ret_bool HR.out.symm, (by repeat (first | with_reducible exact QC.out | with_reducible exact HQ.out | with_reducible refine Q.drewN ?_ _ | with_reducible refine Q.drew ?_ | with_reducible refine Q.alloc ?_ _ | with_reducible refine Q.setCell ?_ (by simp) _))⟩
set_option maxRecDepth 100000 in
set_option maxHeartbeats 4000000 in
theorem mn_2 (n : Int) (t : ByteArray) (b : Bool) (e : Int) (a1 : Option Addr) (l1 c1 : Nat) (a2 : Option Addr) (l2 c2 : Nat) (W : World) (hw : Std W) (hs : t.size ≤ 4000000000) : Calls Tryz.prog 93 #[.agg #[.int .i64 2, .int .i64 n, .string t, .bool b, .int .i64 e, .slice a1 l1 c1, .slice a2 l2 c2]] W fun e' W' => e' = .returned (.bool ((V.mayB 2 0 t.toList false 0) && bareB n [] b e l1 l2)) ∧ Q W W' := by
  obtain ⟨rb, hrb⟩ : ∃ rb, bareB n [] b e l1 l2 = rb := ⟨_, rfl⟩
  have HB := hid (fun W' => bare_b 2 n ⟨#[]⟩ b e a1 l1 c1 a2 l2 c2 rb hrb W')
  obtain ⟨t1, t2⟩ := two_new W (.int .i64 2) (.int .i64 n) (.string t) (.bool b) (.int .i64 e) (.slice a1 l1 c1) (.slice a2 l2 c2)
  have T1 := hid t1
  have T2 := hid t2
  have HQ : Hid (Q W (((W.alloc (.cells #[.int .i64 2, .int .i64 n, .string t, .bool b, .int .i64 e, .slice a1 l1 c1, .slice a2 l2 c2] 26)).alloc (.cells #[.int .i64 2, .int .i64 n, .string t, .bool b, .int .i64 e, .slice a1 l1 c1, .slice a2 l2 c2] 26)).drew)) := hid (((Q.refl _).alloc _).alloc _).drew
  have HRB := hid hrb
  clear hrb t1 t2
  have HM := hid (fun W' (q : Q W W') => V.may_any 2 0 t false 0 W' (hw.on q) (by omega))
  clear hw
  cases h : V.mayB 2 0 t.toList false 0
  ·
    rw [h] at HM
    have HR : Hid (((false) && bareB n [] b e l1 l2) = false) := by
      show _ = _
      rw [show (false) = false from rfl]
      exact Bool.false_and _
    generalize ((false) && bareB n [] b e l1 l2) = rr at HR ⊢
    go_enter Tryz.func93, Tryz.ntmps93
    go_wp2_with fail
    go_region
    obtain ⟨w1, hw1⟩ : ∃ w1, w1 = (((W.alloc (.cells #[.int .i64 2, .int .i64 n, .string t, .bool b, .int .i64 e, .slice a1 l1 c1, .slice a2 l2 c2] 26)).alloc (.cells #[.int .i64 2, .int .i64 n, .string t, .bool b, .int .i64 e, .slice a1 l1 c1, .slice a2 l2 c2] 26)).drew) := ⟨_, rfl⟩
    rw [← hw1] at T1 T2 HQ
    rw [← hw1]
    clear hw1
    obtain ⟨g0, g1, g2, g3, g4, g5, g6, _⟩ := T1.out
    obtain ⟨d0, d1, d2, d3, d4, d5, d6, yf⟩ := T2.out
    have y0 := yf 0
    have y1 := yf 1
    have y2 := yf 2
    have y3 := yf 3
    have y4 := yf 4
    have y5 := yf 5
    have y6 := yf 6
    clear yf
    go_wp2_with (first | (go_at_call 43; refine (HM.out _ HQ.out).mono ?_; rintro e8 w2 ⟨rfl, q2⟩; have QC := hid (HQ.out.trans q2); have T3 := hid (T2.out.on (Qx.of (p := W.heap.size + 5) q2) (by omega)); clear q2; have v0 := T3.out.g0; have v1 := T3.out.g1; have v2 := T3.out.g2; have v3 := T3.out.g3; have v4 := T3.out.g4; have v5 := T3.out.g5; have v6 := T3.out.g6; have x0 := T3.out.f 0; have x1 := T3.out.f 1; have x2 := T3.out.f 2; have x3 := T3.out.f 3; have x4 := T3.out.f 4; have x5 := T3.out.f 5; have x6 := T3.out.f 6))
    go_ret
    exact ⟨ret_bool HR.out.symm, (by repeat (first | with_reducible exact QC.out | with_reducible exact HQ.out | with_reducible refine Q.drewN ?_ _ | with_reducible refine Q.drew ?_ | with_reducible refine Q.alloc ?_ _ | with_reducible refine Q.setCell ?_ (by simp) _))⟩
  ·
    rw [h] at HM
    have HR : Hid (((true) && bareB n [] b e l1 l2) = rb) := by
      show _ = _
      rw [show (true) = true from rfl]
      exact (Bool.true_and _).trans HRB.out
    generalize ((true) && bareB n [] b e l1 l2) = rr at HR ⊢
    go_enter Tryz.func93, Tryz.ntmps93
    go_wp2_with fail
    go_region
    obtain ⟨w1, hw1⟩ : ∃ w1, w1 = (((W.alloc (.cells #[.int .i64 2, .int .i64 n, .string t, .bool b, .int .i64 e, .slice a1 l1 c1, .slice a2 l2 c2] 26)).alloc (.cells #[.int .i64 2, .int .i64 n, .string t, .bool b, .int .i64 e, .slice a1 l1 c1, .slice a2 l2 c2] 26)).drew) := ⟨_, rfl⟩
    rw [← hw1] at T1 T2 HQ
    rw [← hw1]
    clear hw1
    obtain ⟨g0, g1, g2, g3, g4, g5, g6, _⟩ := T1.out
    obtain ⟨d0, d1, d2, d3, d4, d5, d6, yf⟩ := T2.out
    have y0 := yf 0
    have y1 := yf 1
    have y2 := yf 2
    have y3 := yf 3
    have y4 := yf 4
    have y5 := yf 5
    have y6 := yf 6
    clear yf
    go_wp2_with (first | (go_at_call 43; refine (HM.out _ HQ.out).mono ?_; rintro e8 w2 ⟨rfl, q2⟩; have QC := hid (HQ.out.trans q2); have T3 := hid (T2.out.on (Qx.of (p := W.heap.size + 5) q2) (by omega)); clear q2; have v0 := T3.out.g0; have v1 := T3.out.g1; have v2 := T3.out.g2; have v3 := T3.out.g3; have v4 := T3.out.g4; have v5 := T3.out.g5; have v6 := T3.out.g6; have x0 := T3.out.f 0; have x1 := T3.out.f 1; have x2 := T3.out.f 2; have x3 := T3.out.f 3; have x4 := T3.out.f 4; have x5 := T3.out.f 5; have x6 := T3.out.f 6) | (go_at_call 127; refine (HB.out _).mono ?_; rintro e9 w9 ⟨rfl, q9⟩; have Q9 := hid q9; clear q9))
    go_ret
    exact ⟨ret_bool HR.out.symm, Q.trans (by repeat (first | with_reducible exact QC.out | with_reducible exact HQ.out | with_reducible refine Q.drewN ?_ _ | with_reducible refine Q.drew ?_ | with_reducible refine Q.alloc ?_ _ | with_reducible refine Q.setCell ?_ (by simp) _)) Q9.out⟩
set_option maxRecDepth 100000 in
set_option maxHeartbeats 4000000 in
theorem mn_3 (n : Int) (t : ByteArray) (b : Bool) (e : Int) (a1 : Option Addr) (l1 c1 : Nat) (a2 : Option Addr) (l2 c2 : Nat) (W : World) : Calls Tryz.prog 93 #[.agg #[.int .i64 3, .int .i64 n, .string t, .bool b, .int .i64 e, .slice a1 l1 c1, .slice a2 l2 c2]] W fun e' W' => e' = .returned (.bool ((true) && bareB n t.data.toList false e l1 l2)) ∧ Q W W' := by
  obtain ⟨rb, hrb⟩ : ∃ rb, bareB n t.data.toList false e l1 l2 = rb := ⟨_, rfl⟩
  have HB := hid (fun W' => bare_b 3 n t false e a1 l1 c1 a2 l2 c2 rb hrb W')
  obtain ⟨t1, t2⟩ := two_new W (.int .i64 3) (.int .i64 n) (.string t) (.bool b) (.int .i64 e) (.slice a1 l1 c1) (.slice a2 l2 c2)
  have T1 := hid t1
  have T2 := hid t2
  have HQ : Hid (Q W (((W.alloc (.cells #[.int .i64 3, .int .i64 n, .string t, .bool b, .int .i64 e, .slice a1 l1 c1, .slice a2 l2 c2] 26)).alloc (.cells #[.int .i64 3, .int .i64 n, .string t, .bool b, .int .i64 e, .slice a1 l1 c1, .slice a2 l2 c2] 26)).drew)) := hid (((Q.refl _).alloc _).alloc _).drew
  have HRB := hid hrb
  clear hrb t1 t2
  have HR : Hid (((true) && bareB n t.data.toList false e l1 l2) = rb) := by
    show _ = _
    rw [show (true) = true from rfl]
    exact (Bool.true_and _).trans HRB.out
  generalize ((true) && bareB n t.data.toList false e l1 l2) = rr at HR ⊢
  go_enter Tryz.func93, Tryz.ntmps93
  go_wp2_with fail
  go_region
  obtain ⟨w1, hw1⟩ : ∃ w1, w1 = (((W.alloc (.cells #[.int .i64 3, .int .i64 n, .string t, .bool b, .int .i64 e, .slice a1 l1 c1, .slice a2 l2 c2] 26)).alloc (.cells #[.int .i64 3, .int .i64 n, .string t, .bool b, .int .i64 e, .slice a1 l1 c1, .slice a2 l2 c2] 26)).drew) := ⟨_, rfl⟩
  rw [← hw1] at T1 T2 HQ
  rw [← hw1]
  clear hw1
  obtain ⟨g0, g1, g2, g3, g4, g5, g6, _⟩ := T1.out
  obtain ⟨d0, d1, d2, d3, d4, d5, d6, yf⟩ := T2.out
  have y0 := yf 0
  have y1 := yf 1
  have y2 := yf 2
  have y3 := yf 3
  have y4 := yf 4
  have y5 := yf 5
  have y6 := yf 6
  clear yf
  go_wp2_with (first | (go_at_call 127; refine (HB.out _).mono ?_; rintro e9 w9 ⟨rfl, q9⟩; have Q9 := hid q9; clear q9))
  go_ret
  exact ⟨ret_bool HR.out.symm, Q.trans (by repeat (first | with_reducible exact QC.out | with_reducible exact HQ.out | with_reducible refine Q.drewN ?_ _ | with_reducible refine Q.drew ?_ | with_reducible refine Q.alloc ?_ _ | with_reducible refine Q.setCell ?_ (by simp) _)) Q9.out⟩
set_option maxRecDepth 100000 in
set_option maxHeartbeats 4000000 in
theorem mn_4 (n : Int) (t : ByteArray) (b : Bool) (e : Int) (a1 : Option Addr) (l1 c1 : Nat) (a2 : Option Addr) (l2 c2 : Nat) (W : World) (hw : Std W) : Calls Tryz.prog 93 #[.agg #[.int .i64 4, .int .i64 n, .string t, .bool b, .int .i64 e, .slice a1 l1 c1, .slice a2 l2 c2]] W fun e' W' => e' = .returned (.bool ((decide (enL e ≠ [])) && bareB n t.data.toList b 0 l1 l2)) ∧ Q W W' := by
  obtain ⟨rb, hrb⟩ : ∃ rb, bareB n t.data.toList b 0 l1 l2 = rb := ⟨_, rfl⟩
  have HB := hid (fun W' => bare_b 4 n t b 0 a1 l1 c1 a2 l2 c2 rb hrb W')
  obtain ⟨t1, t2⟩ := two_new W (.int .i64 4) (.int .i64 n) (.string t) (.bool b) (.int .i64 e) (.slice a1 l1 c1) (.slice a2 l2 c2)
  have T1 := hid t1
  have T2 := hid t2
  have HQ : Hid (Q W (((W.alloc (.cells #[.int .i64 4, .int .i64 n, .string t, .bool b, .int .i64 e, .slice a1 l1 c1, .slice a2 l2 c2] 26)).alloc (.cells #[.int .i64 4, .int .i64 n, .string t, .bool b, .int .i64 e, .slice a1 l1 c1, .slice a2 l2 c2] 26)).drew)) := hid (((Q.refl _).alloc _).alloc _).drew
  have HRB := hid hrb
  clear hrb t1 t2
  have HM := hid (fun W' (q : Q W W') => V.name_any e W' (hw.on q).nam)
  clear hw
  obtain ⟨S, hS, lS⟩ : ∃ S : ByteArray, ⟨(enL e).toArray⟩ = S ∧ S.data.toList = enL e := ⟨_, rfl, rfl⟩
  rw [hS] at HM
  by_cases h : enL e ≠ []
  ·
    have f4 : (S.toList == []) = false := by rw [toL, lS, beq_eq_false_iff_ne]; exact h
    clear hS lS
    have HR : Hid (((decide (enL e ≠ [])) && bareB n t.data.toList b 0 l1 l2) = rb) := by
      show _ = _
      rw [show (decide (enL e ≠ [])) = true from decide_eq_true h]
      exact (Bool.true_and _).trans HRB.out
    generalize ((decide (enL e ≠ [])) && bareB n t.data.toList b 0 l1 l2) = rr at HR ⊢
    go_enter Tryz.func93, Tryz.ntmps93
    go_wp2_with fail
    go_region
    obtain ⟨w1, hw1⟩ : ∃ w1, w1 = (((W.alloc (.cells #[.int .i64 4, .int .i64 n, .string t, .bool b, .int .i64 e, .slice a1 l1 c1, .slice a2 l2 c2] 26)).alloc (.cells #[.int .i64 4, .int .i64 n, .string t, .bool b, .int .i64 e, .slice a1 l1 c1, .slice a2 l2 c2] 26)).drew) := ⟨_, rfl⟩
    rw [← hw1] at T1 T2 HQ
    rw [← hw1]
    clear hw1
    obtain ⟨g0, g1, g2, g3, g4, g5, g6, _⟩ := T1.out
    obtain ⟨d0, d1, d2, d3, d4, d5, d6, yf⟩ := T2.out
    have y0 := yf 0
    have y1 := yf 1
    have y2 := yf 2
    have y3 := yf 3
    have y4 := yf 4
    have y5 := yf 5
    have y6 := yf 6
    clear yf
    go_wp2_with (first | (go_at_call 82; refine (HM.out _ HQ.out).mono ?_; rintro e8 w2 ⟨rfl, h2⟩; replace h2 := h2.symm; subst h2) | (go_at_call 127; refine (HB.out _).mono ?_; rintro e9 w9 ⟨rfl, q9⟩; have Q9 := hid q9; clear q9))
    go_ret
    exact ⟨ret_bool HR.out.symm, Q.trans (by repeat (first | with_reducible exact QC.out | with_reducible exact HQ.out | with_reducible refine Q.drewN ?_ _ | with_reducible refine Q.drew ?_ | with_reducible refine Q.alloc ?_ _ | with_reducible refine Q.setCell ?_ (by simp) _)) Q9.out⟩
  ·
    have f4 : (S.toList == []) = true := by rw [toL, lS, Classical.not_not.1 h]; rfl
    clear hS lS
    have HR : Hid (((decide (enL e ≠ [])) && bareB n t.data.toList b 0 l1 l2) = false) := by
      show _ = _
      rw [show (decide (enL e ≠ [])) = false from decide_eq_false h]
      exact Bool.false_and _
    generalize ((decide (enL e ≠ [])) && bareB n t.data.toList b 0 l1 l2) = rr at HR ⊢
    go_enter Tryz.func93, Tryz.ntmps93
    go_wp2_with fail
    go_region
    obtain ⟨w1, hw1⟩ : ∃ w1, w1 = (((W.alloc (.cells #[.int .i64 4, .int .i64 n, .string t, .bool b, .int .i64 e, .slice a1 l1 c1, .slice a2 l2 c2] 26)).alloc (.cells #[.int .i64 4, .int .i64 n, .string t, .bool b, .int .i64 e, .slice a1 l1 c1, .slice a2 l2 c2] 26)).drew) := ⟨_, rfl⟩
    rw [← hw1] at T1 T2 HQ
    rw [← hw1]
    clear hw1
    obtain ⟨g0, g1, g2, g3, g4, g5, g6, _⟩ := T1.out
    obtain ⟨d0, d1, d2, d3, d4, d5, d6, yf⟩ := T2.out
    have y0 := yf 0
    have y1 := yf 1
    have y2 := yf 2
    have y3 := yf 3
    have y4 := yf 4
    have y5 := yf 5
    have y6 := yf 6
    clear yf
    go_wp2_with (first | (go_at_call 82; refine (HM.out _ HQ.out).mono ?_; rintro e8 w2 ⟨rfl, h2⟩; replace h2 := h2.symm; subst h2))
    go_ret
    exact ⟨ret_bool HR.out.symm, (by repeat (first | with_reducible exact QC.out | with_reducible exact HQ.out | with_reducible refine Q.drewN ?_ _ | with_reducible refine Q.drew ?_ | with_reducible refine Q.alloc ?_ _ | with_reducible refine Q.setCell ?_ (by simp) _))⟩
set_option maxRecDepth 100000 in
set_option maxHeartbeats 4000000 in
theorem mn_7 (n : Int) (t : ByteArray) (b : Bool) (e : Int) (a1 : Option Addr) (l1 c1 : Nat) (a2 : Option Addr) (l2 c2 : Nat) (W : World) : Calls Tryz.prog 93 #[.agg #[.int .i64 7, .int .i64 n, .string t, .bool b, .int .i64 e, .slice a1 l1 c1, .slice a2 l2 c2]] W fun e' W' => e' = .returned (.bool ((decide (l2 = 1)) && bareB n t.data.toList b e l1 0)) ∧ Q W W' := by
  obtain ⟨rb, hrb⟩ : ∃ rb, bareB n t.data.toList b e l1 0 = rb := ⟨_, rfl⟩
  have HB := hid (fun W' => bare_b 7 n t b e a1 l1 c1 none 0 0 rb hrb W')
  obtain ⟨t1, t2⟩ := two_new W (.int .i64 7) (.int .i64 n) (.string t) (.bool b) (.int .i64 e) (.slice a1 l1 c1) (.slice a2 l2 c2)
  have T1 := hid t1
  have T2 := hid t2
  have HQ : Hid (Q W (((W.alloc (.cells #[.int .i64 7, .int .i64 n, .string t, .bool b, .int .i64 e, .slice a1 l1 c1, .slice a2 l2 c2] 26)).alloc (.cells #[.int .i64 7, .int .i64 n, .string t, .bool b, .int .i64 e, .slice a1 l1 c1, .slice a2 l2 c2] 26)).drew)) := hid (((Q.refl _).alloc _).alloc _).drew
  have HRB := hid hrb
  clear hrb t1 t2
  by_cases h : l2 = 1
  ·
    have f7 : ((l2 : Int) == 1) = true := by rw [h]; rfl
    have HR : Hid (((decide (l2 = 1)) && bareB n t.data.toList b e l1 0) = rb) := by
      show _ = _
      rw [show (decide (l2 = 1)) = true from decide_eq_true h]
      exact (Bool.true_and _).trans HRB.out
    generalize ((decide (l2 = 1)) && bareB n t.data.toList b e l1 0) = rr at HR ⊢
    clear h
    go_enter Tryz.func93, Tryz.ntmps93
    go_wp2_with fail
    go_region
    obtain ⟨w1, hw1⟩ : ∃ w1, w1 = (((W.alloc (.cells #[.int .i64 7, .int .i64 n, .string t, .bool b, .int .i64 e, .slice a1 l1 c1, .slice a2 l2 c2] 26)).alloc (.cells #[.int .i64 7, .int .i64 n, .string t, .bool b, .int .i64 e, .slice a1 l1 c1, .slice a2 l2 c2] 26)).drew) := ⟨_, rfl⟩
    rw [← hw1] at T1 T2 HQ
    rw [← hw1]
    clear hw1
    obtain ⟨g0, g1, g2, g3, g4, g5, g6, _⟩ := T1.out
    obtain ⟨d0, d1, d2, d3, d4, d5, d6, yf⟩ := T2.out
    have y0 := yf 0
    have y1 := yf 1
    have y2 := yf 2
    have y3 := yf 3
    have y4 := yf 4
    have y5 := yf 5
    have y6 := yf 6
    clear yf
    go_wp2_with (first | (go_at_call 127; refine (HB.out _).mono ?_; rintro e9 w9 ⟨rfl, q9⟩; have Q9 := hid q9; clear q9))
    go_ret
    exact ⟨ret_bool HR.out.symm, Q.trans (by repeat (first | with_reducible exact QC.out | with_reducible exact HQ.out | with_reducible refine Q.drewN ?_ _ | with_reducible refine Q.drew ?_ | with_reducible refine Q.alloc ?_ _ | with_reducible refine Q.setCell ?_ (by simp) _)) Q9.out⟩
  ·
    have f7 : ((l2 : Int) == 1) = false := by rw [beq_eq_false_iff_ne]; omega
    have HR : Hid (((decide (l2 = 1)) && bareB n t.data.toList b e l1 0) = false) := by
      show _ = _
      rw [show (decide (l2 = 1)) = false from decide_eq_false h]
      exact Bool.false_and _
    generalize ((decide (l2 = 1)) && bareB n t.data.toList b e l1 0) = rr at HR ⊢
    go_enter Tryz.func93, Tryz.ntmps93
    go_wp2_with fail
    go_region
    obtain ⟨w1, hw1⟩ : ∃ w1, w1 = (((W.alloc (.cells #[.int .i64 7, .int .i64 n, .string t, .bool b, .int .i64 e, .slice a1 l1 c1, .slice a2 l2 c2] 26)).alloc (.cells #[.int .i64 7, .int .i64 n, .string t, .bool b, .int .i64 e, .slice a1 l1 c1, .slice a2 l2 c2] 26)).drew) := ⟨_, rfl⟩
    rw [← hw1] at T1 T2 HQ
    rw [← hw1]
    clear hw1
    obtain ⟨g0, g1, g2, g3, g4, g5, g6, _⟩ := T1.out
    obtain ⟨d0, d1, d2, d3, d4, d5, d6, yf⟩ := T2.out
    have y0 := yf 0
    have y1 := yf 1
    have y2 := yf 2
    have y3 := yf 3
    have y4 := yf 4
    have y5 := yf 5
    have y6 := yf 6
    clear yf
    go_wp2_with fail
    go_ret
    exact ⟨ret_bool HR.out.symm, (by repeat (first | with_reducible exact QC.out | with_reducible exact HQ.out | with_reducible refine Q.drewN ?_ _ | with_reducible refine Q.drew ?_ | with_reducible refine Q.alloc ?_ _ | with_reducible refine Q.setCell ?_ (by simp) _))⟩
set_option maxRecDepth 100000 in
set_option maxHeartbeats 4000000 in
theorem mn_8 (n : Int) (t : ByteArray) (b : Bool) (e : Int) (a1 : Option Addr) (l1 c1 : Nat) (a2 : Option Addr) (l2 c2 : Nat) (W : World) : Calls Tryz.prog 93 #[.agg #[.int .i64 8, .int .i64 n, .string t, .bool b, .int .i64 e, .slice a1 l1 c1, .slice a2 l2 c2]] W fun e' W' => e' = .returned (.bool ((decide (1 ≤ lvl t.data.toList) && decide (l2 = 2)) && bareB n [] b e l1 0)) ∧ Q W W' := by
  obtain ⟨rb, hrb⟩ : ∃ rb, bareB n [] b e l1 0 = rb := ⟨_, rfl⟩
  have HB := hid (fun W' => bare_b 8 n ⟨#[]⟩ b e a1 l1 c1 none 0 0 rb hrb W')
  obtain ⟨t1, t2⟩ := two_new W (.int .i64 8) (.int .i64 n) (.string t) (.bool b) (.int .i64 e) (.slice a1 l1 c1) (.slice a2 l2 c2)
  have T1 := hid t1
  have T2 := hid t2
  have HQ : Hid (Q W (((W.alloc (.cells #[.int .i64 8, .int .i64 n, .string t, .bool b, .int .i64 e, .slice a1 l1 c1, .slice a2 l2 c2] 26)).alloc (.cells #[.int .i64 8, .int .i64 n, .string t, .bool b, .int .i64 e, .slice a1 l1 c1, .slice a2 l2 c2] 26)).drew)) := hid (((Q.refl _).alloc _).alloc _).drew
  have HRB := hid hrb
  clear hrb t1 t2
  have HM := hid (fun W' => strength_any t W')
  obtain ⟨lv, hlv⟩ : ∃ lv, lvl t.data.toList = lv := ⟨_, rfl⟩
  rw [hlv] at HM ⊢
  by_cases h : 1 ≤ lv
  · have f8 : (1 : Int) ≤ (lv : Int) := by omega
    by_cases h2 : l2 = 2
    ·
      have f7 : ((l2 : Int) == 2) = true := by rw [h2]; rfl
      have HR : Hid (((decide (1 ≤ lv) && decide (l2 = 2)) && bareB n [] b e l1 0) = rb) := by
        show _ = _
        rw [show (decide (1 ≤ lv) && decide (l2 = 2)) = true from by rw [decide_eq_true h, decide_eq_true h2]; rfl]
        exact (Bool.true_and _).trans HRB.out
      generalize ((decide (1 ≤ lv) && decide (l2 = 2)) && bareB n [] b e l1 0) = rr at HR ⊢
      clear h2
      go_enter Tryz.func93, Tryz.ntmps93
      go_wp2_with fail
      go_region
      obtain ⟨w1, hw1⟩ : ∃ w1, w1 = (((W.alloc (.cells #[.int .i64 8, .int .i64 n, .string t, .bool b, .int .i64 e, .slice a1 l1 c1, .slice a2 l2 c2] 26)).alloc (.cells #[.int .i64 8, .int .i64 n, .string t, .bool b, .int .i64 e, .slice a1 l1 c1, .slice a2 l2 c2] 26)).drew) := ⟨_, rfl⟩
      rw [← hw1] at T1 T2 HQ
      rw [← hw1]
      clear hw1
      obtain ⟨g0, g1, g2, g3, g4, g5, g6, _⟩ := T1.out
      obtain ⟨d0, d1, d2, d3, d4, d5, d6, yf⟩ := T2.out
      have y0 := yf 0
      have y1 := yf 1
      have y2 := yf 2
      have y3 := yf 3
      have y4 := yf 4
      have y5 := yf 5
      have y6 := yf 6
      clear yf
      go_wp2_with (first | (go_at_call 125; refine (HM.out _).mono ?_; rintro e8 w2 ⟨rfl, h2⟩; replace h2 := h2.symm; subst h2) | (go_at_call 127; refine (HB.out _).mono ?_; rintro e9 w9 ⟨rfl, q9⟩; have Q9 := hid q9; clear q9))
      go_ret
      exact ⟨ret_bool HR.out.symm, Q.trans (by repeat (first | with_reducible exact QC.out | with_reducible exact HQ.out | with_reducible refine Q.drewN ?_ _ | with_reducible refine Q.drew ?_ | with_reducible refine Q.alloc ?_ _ | with_reducible refine Q.setCell ?_ (by simp) _)) Q9.out⟩
    ·
      have f7 : ((l2 : Int) == 2) = false := by rw [beq_eq_false_iff_ne]; omega
      have HR : Hid (((decide (1 ≤ lv) && decide (l2 = 2)) && bareB n [] b e l1 0) = false) := by
        show _ = _
        rw [show (decide (1 ≤ lv) && decide (l2 = 2)) = false from by rw [decide_eq_false h2, Bool.and_false]]
        exact Bool.false_and _
      generalize ((decide (1 ≤ lv) && decide (l2 = 2)) && bareB n [] b e l1 0) = rr at HR ⊢
      go_enter Tryz.func93, Tryz.ntmps93
      go_wp2_with fail
      go_region
      obtain ⟨w1, hw1⟩ : ∃ w1, w1 = (((W.alloc (.cells #[.int .i64 8, .int .i64 n, .string t, .bool b, .int .i64 e, .slice a1 l1 c1, .slice a2 l2 c2] 26)).alloc (.cells #[.int .i64 8, .int .i64 n, .string t, .bool b, .int .i64 e, .slice a1 l1 c1, .slice a2 l2 c2] 26)).drew) := ⟨_, rfl⟩
      rw [← hw1] at T1 T2 HQ
      rw [← hw1]
      clear hw1
      obtain ⟨g0, g1, g2, g3, g4, g5, g6, _⟩ := T1.out
      obtain ⟨d0, d1, d2, d3, d4, d5, d6, yf⟩ := T2.out
      have y0 := yf 0
      have y1 := yf 1
      have y2 := yf 2
      have y3 := yf 3
      have y4 := yf 4
      have y5 := yf 5
      have y6 := yf 6
      clear yf
      go_wp2_with (first | (go_at_call 125; refine (HM.out _).mono ?_; rintro e8 w2 ⟨rfl, h2⟩; replace h2 := h2.symm; subst h2))
      go_ret
      exact ⟨ret_bool HR.out.symm, (by repeat (first | with_reducible exact QC.out | with_reducible exact HQ.out | with_reducible refine Q.drewN ?_ _ | with_reducible refine Q.drew ?_ | with_reducible refine Q.alloc ?_ _ | with_reducible refine Q.setCell ?_ (by simp) _))⟩
  · have f8 : ¬ (1 : Int) ≤ (lv : Int) := by omega
    have HR : Hid (((decide (1 ≤ lv) && decide (l2 = 2)) && bareB n [] b e l1 0) = false) := by
      show _ = _
      rw [show (decide (1 ≤ lv) && decide (l2 = 2)) = false from by rw [decide_eq_false h, Bool.false_and]]
      exact Bool.false_and _
    generalize ((decide (1 ≤ lv) && decide (l2 = 2)) && bareB n [] b e l1 0) = rr at HR ⊢
    go_enter Tryz.func93, Tryz.ntmps93
    go_wp2_with fail
    go_region
    obtain ⟨w1, hw1⟩ : ∃ w1, w1 = (((W.alloc (.cells #[.int .i64 8, .int .i64 n, .string t, .bool b, .int .i64 e, .slice a1 l1 c1, .slice a2 l2 c2] 26)).alloc (.cells #[.int .i64 8, .int .i64 n, .string t, .bool b, .int .i64 e, .slice a1 l1 c1, .slice a2 l2 c2] 26)).drew) := ⟨_, rfl⟩
    rw [← hw1] at T1 T2 HQ
    rw [← hw1]
    clear hw1
    obtain ⟨g0, g1, g2, g3, g4, g5, g6, _⟩ := T1.out
    obtain ⟨d0, d1, d2, d3, d4, d5, d6, yf⟩ := T2.out
    have y0 := yf 0
    have y1 := yf 1
    have y2 := yf 2
    have y3 := yf 3
    have y4 := yf 4
    have y5 := yf 5
    have y6 := yf 6
    clear yf
    go_wp2_with (first | (go_at_call 125; refine (HM.out _).mono ?_; rintro e8 w2 ⟨rfl, h2⟩; replace h2 := h2.symm; subst h2))
    go_ret
    exact ⟨ret_bool HR.out.symm, (by repeat (first | with_reducible exact QC.out | with_reducible exact HQ.out | with_reducible refine Q.drewN ?_ _ | with_reducible refine Q.drew ?_ | with_reducible refine Q.alloc ?_ _ | with_reducible refine Q.setCell ?_ (by simp) _))⟩
set_option maxRecDepth 100000 in
set_option maxHeartbeats 4000000 in
theorem mn_9 (n : Int) (t : ByteArray) (b : Bool) (e : Int) (a1 : Option Addr) (l1 c1 : Nat) (a2 : Option Addr) (l2 c2 : Nat) (W : World) (hs : t.size ≤ 4000000000) : Calls Tryz.prog 93 #[.agg #[.int .i64 9, .int .i64 n, .string t, .bool b, .int .i64 e, .slice a1 l1 c1, .slice a2 l2 c2]] W fun e' W' => e' = .returned (.bool ((namF t.data.toList && decide (l2 ≤ 30)) && bareB n [] b e l1 0)) ∧ Q W W' := by
  obtain ⟨rb, hrb⟩ : ∃ rb, bareB n [] b e l1 0 = rb := ⟨_, rfl⟩
  have HB := hid (fun W' => bare_b 9 n ⟨#[]⟩ b e a1 l1 c1 none 0 0 rb hrb W')
  obtain ⟨t1, t2⟩ := two_new W (.int .i64 9) (.int .i64 n) (.string t) (.bool b) (.int .i64 e) (.slice a1 l1 c1) (.slice a2 l2 c2)
  have T1 := hid t1
  have T2 := hid t2
  have HQ : Hid (Q W (((W.alloc (.cells #[.int .i64 9, .int .i64 n, .string t, .bool b, .int .i64 e, .slice a1 l1 c1, .slice a2 l2 c2] 26)).alloc (.cells #[.int .i64 9, .int .i64 n, .string t, .bool b, .int .i64 e, .slice a1 l1 c1, .slice a2 l2 c2] 26)).drew)) := hid (((Q.refl _).alloc _).alloc _).drew
  have HRB := hid hrb
  clear hrb t1 t2
  have HM := hid (fun W' => mayname_any t W' hs)
  cases h : namF t.data.toList
  ·
    rw [h] at HM
    have HR : Hid (((false && decide (l2 ≤ 30)) && bareB n [] b e l1 0) = false) := by
      show _ = _
      rw [show (false && decide (l2 ≤ 30)) = false from Bool.false_and _]
      exact Bool.false_and _
    generalize ((false && decide (l2 ≤ 30)) && bareB n [] b e l1 0) = rr at HR ⊢
    go_enter Tryz.func93, Tryz.ntmps93
    go_wp2_with fail
    go_region
    obtain ⟨w1, hw1⟩ : ∃ w1, w1 = (((W.alloc (.cells #[.int .i64 9, .int .i64 n, .string t, .bool b, .int .i64 e, .slice a1 l1 c1, .slice a2 l2 c2] 26)).alloc (.cells #[.int .i64 9, .int .i64 n, .string t, .bool b, .int .i64 e, .slice a1 l1 c1, .slice a2 l2 c2] 26)).drew) := ⟨_, rfl⟩
    rw [← hw1] at T1 T2 HQ
    rw [← hw1]
    clear hw1
    obtain ⟨g0, g1, g2, g3, g4, g5, g6, _⟩ := T1.out
    obtain ⟨d0, d1, d2, d3, d4, d5, d6, yf⟩ := T2.out
    have y0 := yf 0
    have y1 := yf 1
    have y2 := yf 2
    have y3 := yf 3
    have y4 := yf 4
    have y5 := yf 5
    have y6 := yf 6
    clear yf
    go_wp2_with (first | (go_at_call 126; refine (HM.out _).mono ?_; rintro e8 w2 ⟨rfl, h2⟩; replace h2 := h2.symm; subst h2))
    go_ret
    exact ⟨ret_bool HR.out.symm, (by repeat (first | with_reducible exact QC.out | with_reducible exact HQ.out | with_reducible refine Q.drewN ?_ _ | with_reducible refine Q.drew ?_ | with_reducible refine Q.alloc ?_ _ | with_reducible refine Q.setCell ?_ (by simp) _))⟩
  · rw [h] at HM
    by_cases h2 : l2 ≤ 30
    ·
      have f7 : (l2 : Int) ≤ 30 := by omega
      have HR : Hid (((true && decide (l2 ≤ 30)) && bareB n [] b e l1 0) = rb) := by
        show _ = _
        rw [show (true && decide (l2 ≤ 30)) = true from by rw [decide_eq_true h2]; rfl]
        exact (Bool.true_and _).trans HRB.out
      generalize ((true && decide (l2 ≤ 30)) && bareB n [] b e l1 0) = rr at HR ⊢
      go_enter Tryz.func93, Tryz.ntmps93
      go_wp2_with fail
      go_region
      obtain ⟨w1, hw1⟩ : ∃ w1, w1 = (((W.alloc (.cells #[.int .i64 9, .int .i64 n, .string t, .bool b, .int .i64 e, .slice a1 l1 c1, .slice a2 l2 c2] 26)).alloc (.cells #[.int .i64 9, .int .i64 n, .string t, .bool b, .int .i64 e, .slice a1 l1 c1, .slice a2 l2 c2] 26)).drew) := ⟨_, rfl⟩
      rw [← hw1] at T1 T2 HQ
      rw [← hw1]
      clear hw1
      obtain ⟨g0, g1, g2, g3, g4, g5, g6, _⟩ := T1.out
      obtain ⟨d0, d1, d2, d3, d4, d5, d6, yf⟩ := T2.out
      have y0 := yf 0
      have y1 := yf 1
      have y2 := yf 2
      have y3 := yf 3
      have y4 := yf 4
      have y5 := yf 5
      have y6 := yf 6
      clear yf
      go_wp2_with (first | (go_at_call 126; refine (HM.out _).mono ?_; rintro e8 w2 ⟨rfl, h2⟩; replace h2 := h2.symm; subst h2) | (go_at_call 127; refine (HB.out _).mono ?_; rintro e9 w9 ⟨rfl, q9⟩; have Q9 := hid q9; clear q9))
      go_ret
      exact ⟨ret_bool HR.out.symm, Q.trans (by repeat (first | with_reducible exact QC.out | with_reducible exact HQ.out | with_reducible refine Q.drewN ?_ _ | with_reducible refine Q.drew ?_ | with_reducible refine Q.alloc ?_ _ | with_reducible refine Q.setCell ?_ (by simp) _)) Q9.out⟩
    ·
      have f7 : ¬ (l2 : Int) ≤ 30 := by omega
      have HR : Hid (((true && decide (l2 ≤ 30)) && bareB n [] b e l1 0) = false) := by
        show _ = _
        rw [show (true && decide (l2 ≤ 30)) = false from by rw [decide_eq_false h2]; rfl]
        exact Bool.false_and _
      generalize ((true && decide (l2 ≤ 30)) && bareB n [] b e l1 0) = rr at HR ⊢
      go_enter Tryz.func93, Tryz.ntmps93
      go_wp2_with fail
      go_region
      obtain ⟨w1, hw1⟩ : ∃ w1, w1 = (((W.alloc (.cells #[.int .i64 9, .int .i64 n, .string t, .bool b, .int .i64 e, .slice a1 l1 c1, .slice a2 l2 c2] 26)).alloc (.cells #[.int .i64 9, .int .i64 n, .string t, .bool b, .int .i64 e, .slice a1 l1 c1, .slice a2 l2 c2] 26)).drew) := ⟨_, rfl⟩
      rw [← hw1] at T1 T2 HQ
      rw [← hw1]
      clear hw1
      obtain ⟨g0, g1, g2, g3, g4, g5, g6, _⟩ := T1.out
      obtain ⟨d0, d1, d2, d3, d4, d5, d6, yf⟩ := T2.out
      have y0 := yf 0
      have y1 := yf 1
      have y2 := yf 2
      have y3 := yf 3
      have y4 := yf 4
      have y5 := yf 5
      have y6 := yf 6
      clear yf
      go_wp2_with (first | (go_at_call 126; refine (HM.out _).mono ?_; rintro e8 w2 ⟨rfl, h2⟩; replace h2 := h2.symm; subst h2))
      go_ret
      exact ⟨ret_bool HR.out.symm, (by repeat (first | with_reducible exact QC.out | with_reducible exact HQ.out | with_reducible refine Q.drewN ?_ _ | with_reducible refine Q.drew ?_ | with_reducible refine Q.alloc ?_ _ | with_reducible refine Q.setCell ?_ (by simp) _))⟩
set_option maxRecDepth 100000 in
set_option maxHeartbeats 4000000 in
theorem mn_k (k : Int) (n : Int) (t : ByteArray) (b : Bool) (e : Int) (a1 : Option Addr) (l1 c1 : Nat) (a2 : Option Addr) (l2 c2 : Nat) (W : World) (hk : k < 1 ∨ 9 < k) : Calls Tryz.prog 93 #[.agg #[.int .i64 k, .int .i64 n, .string t, .bool b, .int .i64 e, .slice a1 l1 c1, .slice a2 l2 c2]] W fun e' W' => e' = .returned (.bool false) ∧ Q W W' := by
  have k1 : (k == 1) = false := by rw [beq_eq_false_iff_ne]; omega
  have k2 : (k == 2) = false := by rw [beq_eq_false_iff_ne]; omega
  have k3 : (k == 3) = false := by rw [beq_eq_false_iff_ne]; omega
  have k4 : (k == 4) = false := by rw [beq_eq_false_iff_ne]; omega
  have k5 : (k == 5) = false := by rw [beq_eq_false_iff_ne]; omega
  have k6 : (k == 6) = false := by rw [beq_eq_false_iff_ne]; omega
  have k7 : (k == 7) = false := by rw [beq_eq_false_iff_ne]; omega
  have k8 : (k == 8) = false := by rw [beq_eq_false_iff_ne]; omega
  have k9 : (k == 9) = false := by rw [beq_eq_false_iff_ne]; omega
  clear hk
  go_enter Tryz.func93, Tryz.ntmps93
  go_wp2_with fail
  go_region
  go_wp2_with fail
  go_ret
  exact ⟨rfl, (((Q.refl _).alloc _).alloc _).drew⟩
end Go.Proofs.YtgheopdadfnilaaGreatDoor
