/- counterpanelaw7.ParseBinding, walked: the whole. -/
import Derived.Test.YtgheopdadfnilaaDoorMa17
namespace Go.Proofs.YtgheopdadfnilaaDoor
open Go.RowKit
set_option linter.unusedVariables false
set_option linter.unusedSimpArgs false

set_option maxRecDepth 100000 in
set_option maxHeartbeats 8000000 in
theorem binding_any (ao : Option Addr) (kcap : Nat) (K : List Int) (ng : Int) (W : World) (hg : Gd W) (hk : Sl iz 1 W (.slice ao K.length kcap) K) : Calls Tryd.prog 3 #[.slice ao K.length kcap, .int .i64 ng] W fun e W' => e = .returned (.bool true) ∧ Q W W' := by
  have HB := hid (begun_any W hg)
  have HG := hid hg
  have HK := hid hk
  obtain ⟨_, _, hkv, k1, k2⟩ := hk.len
  simp only [Value.slice.injEq, true_and] at hkv
  obtain ⟨rfl, rfl⟩ := hkv
  have k3 : K.length ≤ 9223372036854775807 := by unfold maxLen at k2; omega
  obtain ⟨i9, H9⟩ := inf_of info9
  have H9 := hid H9
  obtain ⟨i3, H3⟩ := inf_of info3
  have H3 := hid H3
  clear hg hk k1 k2
  go_enter Tryd.func3, Tryd.ntmps3
  go_upto_region 6 with (go_at_call 4; refine HB.out.mono ?_; rintro e w1 ⟨rfl, q1⟩; have Q1 := hid q1; clear q1)
  have HT := hid (tab_new w1)
  obtain ⟨w0, hw0⟩ : ∃ w0, w0 = ((w1.alloc (.cells #[.string ⟨#[61]⟩, .string ⟨#[60, 62]⟩, .string ⟨#[60]⟩, .string ⟨#[60, 61]⟩, .string ⟨#[62]⟩, .string ⟨#[62, 61]⟩, .string ⟨#[38]⟩, .string ⟨#[43]⟩, .string ⟨#[45]⟩, .string ⟨#[42]⟩, .string ⟨#[47]⟩] 9)).alloc (.cells #[.int .i64 1, .int .i64 1, .int .i64 1, .int .i64 1, .int .i64 1, .int .i64 1, .int .i64 2, .int .i64 3, .int .i64 3, .int .i64 4, .int .i64 4] 3)) := ⟨_, rfl⟩
  rw [← hw0] at HT

  have HQ0 : Hid (Q W w0) := by rw [hw0]; exact (Q1.out.alloc _).alloc _
  rw [← hw0]
  clear hw0
  generalize w1.heap.size + 1 = bl at HT ⊢
  generalize w1.heap.size = bo at HT ⊢
  go_wp2_with fail
  go_loopw [8, 9, 10, 11] (fun t r s i wr => ∃ (n : Nat) (cs : List Nat) (ps : List (Ex × List UInt8)) (src : List UInt8) (sb : ByteArray), n ≤ 7 ∧ cs.length = n ∧ i = .int .i64 (n : Int) ∧ s = .string sb ∧ Hid (sb.data.toList = src) ∧ Hid (Lp w0 wr t r cs ([65, 49] :: ps.map (·.2))) ∧ Hid (Fs cs ps src)) (fun _ _ _ i _ => 7 - (intOf i).toNat)
  case atStart => exact ⟨0, [], [], [65, 49], ⟨#[65, 49]⟩, by omega, rfl, rfl, rfl, rfl, ⟨own_one w0 [65, 49], own_nil _, (Q.refl _).alloc _⟩, fs_nil⟩
  case round =>
    obtain ⟨n, cs, ps, src, sb, n7, hn, rfl, rfl, hsb, HP, HF⟩ := hrel
    by_cases hlt : n < K.length ∧ n < 7
    · obtain ⟨hlK, hl7⟩ := hlt
      have g1 : (n : Int) < (K.length : Int) := by omega
      have g2 : (n : Int) < 7 := by omega
      obtain ⟨kb, koff, kc', hkv, _, _, hkc⟩ := (HK.out.on (HQ0.out.trans HP.out.q)).at hlK
      simp only [Value.slice.injEq, true_and] at hkv
      obtain ⟨rfl, rfl⟩ := hkv
      have c0 : wr.cell? ⟨kb, koff + n, none⟩ = some (.int .i64 K[n]) := by
        have := hkc 0 _ rfl
        simpa using this
      clear hkc
      have hsl := HF.out.sl
      have hss : sb.size ≤ 37 := by
        rw [← len_data, hsb.out]
        omega
      have hTl : Hid (([65, 49] :: ps.map (·.2) : List (List UInt8)).length = n + 1) := by
        show _ = _
        have := HF.out.len
        simp
        omega
      have hcv := byte_cv wr n hl7 wr.heap.size rfl
      obtain ⟨c, hc⟩ : ∃ c : UInt8, Hid (UInt8.ofNat (49 + n) = c) := ⟨_, rfl⟩
      rw [hc.out] at hcv
      by_cases hb : K[n] < 0
      · by_cases hng : ng = (n : Int)
        · skip
          have b1 : K[n] < 0 := hb
          have hk11 : (7 : Nat) < 11 := by omega
          have ekn : Hid (((7 : Nat) : Int) = 7) := rfl
          have e1 : (ng == (n : Int)) = true := by simpa using hng
          clear hng
          have HF2 := hid (HF.out.snoc hk11 true n hl7)
          have hol := (op_all _ hk11).2.2.1
          obtain ⟨ob, hob⟩ : ∃ ob : ByteArray, Hid (⟨(opB 7).toArray⟩ = ob) := ⟨_, rfl⟩
          have hos : ob.size ≤ 2 := by rw [← hob.out]; exact hol
          obtain ⟨X1, hX1⟩ : ∃ X1 : ByteArray, (⟨#[66]⟩ ++ ⟨#[c]⟩ : ByteArray) = X1 := ⟨_, rfl⟩
          obtain ⟨X2, hX2⟩ : ∃ X2 : ByteArray, (⟨#[45]⟩ ++ X1 : ByteArray) = X2 := ⟨_, rfl⟩
          have hx1s : X1.size = 2 := by rw [← hX1]; rfl
          have hxs : X2.size = 3 := by rw [← hX2, ← hX1]; rfl
          have HXe : Hid ((⟨(aT true n).toArray⟩ : ByteArray) = X2) := by show _ = _; rw [← hX2, ← hX1, ← hc.out]; rfl
          obtain ⟨Y1, hY1⟩ : ∃ Y1 : ByteArray, ob ++ X2 = Y1 := ⟨_, rfl⟩
          have hy1s : Y1.size = ob.size + X2.size := by rw [← hY1]; exact ByteArray.size_append
          obtain ⟨Y2, hY2⟩ : ∃ Y2 : ByteArray, sb ++ Y1 = Y2 := ⟨_, rfl⟩
          have HYe : Hid (Y2.data.toList = src ++ (opB 7 ++ aT true n)) := by
            show _ = _
            rw [← hY2, ← hY1, ← hob.out, ← HXe.out, ← hsb.out]
            simp
          have f1 : ¬ 9223372036854775807 < ob.size + X2.size := by omega
          have f2 : ¬ 9223372036854775807 < sb.size + Y1.size := by omega
          have f3 : ¬ 9223372036854775807 < 1 + X1.size := by omega
          have f4 : ¬ 9223372036854775807 < (⟨#[45]⟩ : ByteArray).size + X1.size := by show ¬ 9223372036854775807 < 1 + X1.size; omega
          go_wp2_with (first | (at_builtin; refine wpList_append_own _ rfl _ _ 22 rfl w0.heap.size 3 i3 (.int .i64 0) 1 8 Tryd.underlying22 H3.out.1 H3.out.2.1 H3.out.2.2.1 H3.out.2.2.2 rfl (by decide) _ _ _ rfl ((HP.out.alloc _).alloc _).r _ 1 1 [.int .i64 7] rfl rfl (news_at _ [.int .i64 7] 3 _ (by simp)) (iz_one 7) (by unfold maxLen; omega) (by omega) (by have := HP.out.q.size; simp; omega) ?_; intro v3 w3 hown3 hgrow3 _; have HP3 := hid (((HP.out.alloc _).alloc _).numbers (k := 7) ekn.out hown3 (by omega) hgrow3); clear hown3 hgrow3) | (at_builtin; refine wpList_append_own _ rfl _ _ 24 rfl w0.heap.size 9 i9 (.string ⟨#[]⟩) 1 16 Tryd.underlying24 H9.out.1 H9.out.2.1 H9.out.2.2.1 H9.out.2.2.2 rfl (by decide) _ _ _ rfl (HP3.out.alloc _).t _ 1 1 [.string X2] rfl rfl (news_at _ [.string X2] 9 _ (by simp)) (st_one X2) (by unfold maxLen; rw [hTl.out]; omega) (by rw [hTl.out]; omega) (by have := HP3.out.q.size; simp; omega) ?_; intro v4 w4 hown4 hgrow4 _; have HP4 := hid ((HP3.out.alloc _).texts HXe.out hown4 rfl hgrow4); clear hown4 hgrow4; have hop : w4.cell? ⟨bo, 7, none⟩ = some (.string ob) := (by rw [← hob.out]; exact (HT.out.on HP4.out.q).o _ hk11)))
          exact ⟨⟨n + 1, cs ++ [7], ps ++ [(aX true n, aT true n)], _, Y2, by omega, by simp; omega, by go_num, rfl, HYe, (by show Lp _ _ _ _ _ _; rw [List.map_append]; exact HP4.out), HF2⟩, by simp [intOf]; omega⟩
        · skip
          have b1 : K[n] < 0 := hb
          have hk11 : (7 : Nat) < 11 := by omega
          have ekn : Hid (((7 : Nat) : Int) = 7) := rfl
          have e1 : (ng == (n : Int)) = false := by simpa using hng
          clear hng
          have HF2 := hid (HF.out.snoc hk11 false n hl7)
          have hol := (op_all _ hk11).2.2.1
          obtain ⟨ob, hob⟩ : ∃ ob : ByteArray, Hid (⟨(opB 7).toArray⟩ = ob) := ⟨_, rfl⟩
          have hos : ob.size ≤ 2 := by rw [← hob.out]; exact hol
          obtain ⟨X1, hX1⟩ : ∃ X1 : ByteArray, (⟨#[66]⟩ ++ ⟨#[c]⟩ : ByteArray) = X1 := ⟨_, rfl⟩
          have hx1s : X1.size = 2 := by rw [← hX1]; rfl
          have hxs : X1.size = 2 := hx1s
          have HXe : Hid ((⟨(aT false n).toArray⟩ : ByteArray) = X1) := by show _ = _; rw [← hX1, ← hc.out]; rfl
          obtain ⟨Y1, hY1⟩ : ∃ Y1 : ByteArray, ob ++ X1 = Y1 := ⟨_, rfl⟩
          have hy1s : Y1.size = ob.size + X1.size := by rw [← hY1]; exact ByteArray.size_append
          obtain ⟨Y2, hY2⟩ : ∃ Y2 : ByteArray, sb ++ Y1 = Y2 := ⟨_, rfl⟩
          have HYe : Hid (Y2.data.toList = src ++ (opB 7 ++ aT false n)) := by
            show _ = _
            rw [← hY2, ← hY1, ← hob.out, ← HXe.out, ← hsb.out]
            simp
          have f1 : ¬ 9223372036854775807 < ob.size + X1.size := by omega
          have f2 : ¬ 9223372036854775807 < sb.size + Y1.size := by omega
          go_wp2_with (first | (at_builtin; refine wpList_append_own _ rfl _ _ 22 rfl w0.heap.size 3 i3 (.int .i64 0) 1 8 Tryd.underlying22 H3.out.1 H3.out.2.1 H3.out.2.2.1 H3.out.2.2.2 rfl (by decide) _ _ _ rfl ((HP.out.alloc _).alloc _).r _ 1 1 [.int .i64 7] rfl rfl (news_at _ [.int .i64 7] 3 _ (by simp)) (iz_one 7) (by unfold maxLen; omega) (by omega) (by have := HP.out.q.size; simp; omega) ?_; intro v3 w3 hown3 hgrow3 _; have HP3 := hid (((HP.out.alloc _).alloc _).numbers (k := 7) ekn.out hown3 (by omega) hgrow3); clear hown3 hgrow3) | (at_builtin; refine wpList_append_own _ rfl _ _ 24 rfl w0.heap.size 9 i9 (.string ⟨#[]⟩) 1 16 Tryd.underlying24 H9.out.1 H9.out.2.1 H9.out.2.2.1 H9.out.2.2.2 rfl (by decide) _ _ _ rfl (HP3.out.alloc _).t _ 1 1 [.string X1] rfl rfl (news_at _ [.string X1] 9 _ (by simp)) (st_one X1) (by unfold maxLen; rw [hTl.out]; omega) (by rw [hTl.out]; omega) (by have := HP3.out.q.size; simp; omega) ?_; intro v4 w4 hown4 hgrow4 _; have HP4 := hid ((HP3.out.alloc _).texts HXe.out hown4 rfl hgrow4); clear hown4 hgrow4; have hop : w4.cell? ⟨bo, 7, none⟩ = some (.string ob) := (by rw [← hob.out]; exact (HT.out.on HP4.out.q).o _ hk11)))
          exact ⟨⟨n + 1, cs ++ [7], ps ++ [(aX false n, aT false n)], _, Y2, by omega, by simp; omega, by go_num, rfl, HYe, (by show Lp _ _ _ _ _ _; rw [List.map_append]; exact HP4.out), HF2⟩, by simp [intOf]; omega⟩
      · by_cases hb2 : 10 < K[n]
        · by_cases hng : ng = (n : Int)
          · skip
            have b1 : ¬ K[n] < 0 := hb
            have b2 : 10 < K[n] := hb2
            have hk11 : (7 : Nat) < 11 := by omega
            have ekn : Hid (((7 : Nat) : Int) = 7) := rfl
            have e1 : (ng == (n : Int)) = true := by simpa using hng
            clear hng
            have HF2 := hid (HF.out.snoc hk11 true n hl7)
            have hol := (op_all _ hk11).2.2.1
            obtain ⟨ob, hob⟩ : ∃ ob : ByteArray, Hid (⟨(opB 7).toArray⟩ = ob) := ⟨_, rfl⟩
            have hos : ob.size ≤ 2 := by rw [← hob.out]; exact hol
            obtain ⟨X1, hX1⟩ : ∃ X1 : ByteArray, (⟨#[66]⟩ ++ ⟨#[c]⟩ : ByteArray) = X1 := ⟨_, rfl⟩
            obtain ⟨X2, hX2⟩ : ∃ X2 : ByteArray, (⟨#[45]⟩ ++ X1 : ByteArray) = X2 := ⟨_, rfl⟩
            have hx1s : X1.size = 2 := by rw [← hX1]; rfl
            have hxs : X2.size = 3 := by rw [← hX2, ← hX1]; rfl
            have HXe : Hid ((⟨(aT true n).toArray⟩ : ByteArray) = X2) := by show _ = _; rw [← hX2, ← hX1, ← hc.out]; rfl
            obtain ⟨Y1, hY1⟩ : ∃ Y1 : ByteArray, ob ++ X2 = Y1 := ⟨_, rfl⟩
            have hy1s : Y1.size = ob.size + X2.size := by rw [← hY1]; exact ByteArray.size_append
            obtain ⟨Y2, hY2⟩ : ∃ Y2 : ByteArray, sb ++ Y1 = Y2 := ⟨_, rfl⟩
            have HYe : Hid (Y2.data.toList = src ++ (opB 7 ++ aT true n)) := by
              show _ = _
              rw [← hY2, ← hY1, ← hob.out, ← HXe.out, ← hsb.out]
              simp
            have f1 : ¬ 9223372036854775807 < ob.size + X2.size := by omega
            have f2 : ¬ 9223372036854775807 < sb.size + Y1.size := by omega
            have f3 : ¬ 9223372036854775807 < 1 + X1.size := by omega
            have f4 : ¬ 9223372036854775807 < (⟨#[45]⟩ : ByteArray).size + X1.size := by show ¬ 9223372036854775807 < 1 + X1.size; omega
            go_wp2_with (first | (at_builtin; refine wpList_append_own _ rfl _ _ 22 rfl w0.heap.size 3 i3 (.int .i64 0) 1 8 Tryd.underlying22 H3.out.1 H3.out.2.1 H3.out.2.2.1 H3.out.2.2.2 rfl (by decide) _ _ _ rfl ((HP.out.alloc _).alloc _).r _ 1 1 [.int .i64 7] rfl rfl (news_at _ [.int .i64 7] 3 _ (by simp)) (iz_one 7) (by unfold maxLen; omega) (by omega) (by have := HP.out.q.size; simp; omega) ?_; intro v3 w3 hown3 hgrow3 _; have HP3 := hid (((HP.out.alloc _).alloc _).numbers (k := 7) ekn.out hown3 (by omega) hgrow3); clear hown3 hgrow3) | (at_builtin; refine wpList_append_own _ rfl _ _ 24 rfl w0.heap.size 9 i9 (.string ⟨#[]⟩) 1 16 Tryd.underlying24 H9.out.1 H9.out.2.1 H9.out.2.2.1 H9.out.2.2.2 rfl (by decide) _ _ _ rfl (HP3.out.alloc _).t _ 1 1 [.string X2] rfl rfl (news_at _ [.string X2] 9 _ (by simp)) (st_one X2) (by unfold maxLen; rw [hTl.out]; omega) (by rw [hTl.out]; omega) (by have := HP3.out.q.size; simp; omega) ?_; intro v4 w4 hown4 hgrow4 _; have HP4 := hid ((HP3.out.alloc _).texts HXe.out hown4 rfl hgrow4); clear hown4 hgrow4; have hop : w4.cell? ⟨bo, 7, none⟩ = some (.string ob) := (by rw [← hob.out]; exact (HT.out.on HP4.out.q).o _ hk11)))
            exact ⟨⟨n + 1, cs ++ [7], ps ++ [(aX true n, aT true n)], _, Y2, by omega, by simp; omega, by go_num, rfl, HYe, (by show Lp _ _ _ _ _ _; rw [List.map_append]; exact HP4.out), HF2⟩, by simp [intOf]; omega⟩
          · skip
            have b1 : ¬ K[n] < 0 := hb
            have b2 : 10 < K[n] := hb2
            have hk11 : (7 : Nat) < 11 := by omega
            have ekn : Hid (((7 : Nat) : Int) = 7) := rfl
            have e1 : (ng == (n : Int)) = false := by simpa using hng
            clear hng
            have HF2 := hid (HF.out.snoc hk11 false n hl7)
            have hol := (op_all _ hk11).2.2.1
            obtain ⟨ob, hob⟩ : ∃ ob : ByteArray, Hid (⟨(opB 7).toArray⟩ = ob) := ⟨_, rfl⟩
            have hos : ob.size ≤ 2 := by rw [← hob.out]; exact hol
            obtain ⟨X1, hX1⟩ : ∃ X1 : ByteArray, (⟨#[66]⟩ ++ ⟨#[c]⟩ : ByteArray) = X1 := ⟨_, rfl⟩
            have hx1s : X1.size = 2 := by rw [← hX1]; rfl
            have hxs : X1.size = 2 := hx1s
            have HXe : Hid ((⟨(aT false n).toArray⟩ : ByteArray) = X1) := by show _ = _; rw [← hX1, ← hc.out]; rfl
            obtain ⟨Y1, hY1⟩ : ∃ Y1 : ByteArray, ob ++ X1 = Y1 := ⟨_, rfl⟩
            have hy1s : Y1.size = ob.size + X1.size := by rw [← hY1]; exact ByteArray.size_append
            obtain ⟨Y2, hY2⟩ : ∃ Y2 : ByteArray, sb ++ Y1 = Y2 := ⟨_, rfl⟩
            have HYe : Hid (Y2.data.toList = src ++ (opB 7 ++ aT false n)) := by
              show _ = _
              rw [← hY2, ← hY1, ← hob.out, ← HXe.out, ← hsb.out]
              simp
            have f1 : ¬ 9223372036854775807 < ob.size + X1.size := by omega
            have f2 : ¬ 9223372036854775807 < sb.size + Y1.size := by omega
            go_wp2_with (first | (at_builtin; refine wpList_append_own _ rfl _ _ 22 rfl w0.heap.size 3 i3 (.int .i64 0) 1 8 Tryd.underlying22 H3.out.1 H3.out.2.1 H3.out.2.2.1 H3.out.2.2.2 rfl (by decide) _ _ _ rfl ((HP.out.alloc _).alloc _).r _ 1 1 [.int .i64 7] rfl rfl (news_at _ [.int .i64 7] 3 _ (by simp)) (iz_one 7) (by unfold maxLen; omega) (by omega) (by have := HP.out.q.size; simp; omega) ?_; intro v3 w3 hown3 hgrow3 _; have HP3 := hid (((HP.out.alloc _).alloc _).numbers (k := 7) ekn.out hown3 (by omega) hgrow3); clear hown3 hgrow3) | (at_builtin; refine wpList_append_own _ rfl _ _ 24 rfl w0.heap.size 9 i9 (.string ⟨#[]⟩) 1 16 Tryd.underlying24 H9.out.1 H9.out.2.1 H9.out.2.2.1 H9.out.2.2.2 rfl (by decide) _ _ _ rfl (HP3.out.alloc _).t _ 1 1 [.string X1] rfl rfl (news_at _ [.string X1] 9 _ (by simp)) (st_one X1) (by unfold maxLen; rw [hTl.out]; omega) (by rw [hTl.out]; omega) (by have := HP3.out.q.size; simp; omega) ?_; intro v4 w4 hown4 hgrow4 _; have HP4 := hid ((HP3.out.alloc _).texts HXe.out hown4 rfl hgrow4); clear hown4 hgrow4; have hop : w4.cell? ⟨bo, 7, none⟩ = some (.string ob) := (by rw [← hob.out]; exact (HT.out.on HP4.out.q).o _ hk11)))
            exact ⟨⟨n + 1, cs ++ [7], ps ++ [(aX false n, aT false n)], _, Y2, by omega, by simp; omega, by go_num, rfl, HYe, (by show Lp _ _ _ _ _ _; rw [List.map_append]; exact HP4.out), HF2⟩, by simp [intOf]; omega⟩
        · by_cases hng : ng = (n : Int)
          · skip
            obtain ⟨kn, hkn⟩ : ∃ kn : Nat, K[n] = (kn : Int) := ⟨K[n].toNat, by omega⟩
            have hk11 : kn < 11 := by omega
            have ekn : Hid ((kn : Int) = (kn : Int)) := rfl
            rw [hkn] at c0 hb hb2
            clear hkn
            have e1 : (ng == (n : Int)) = true := by simpa using hng
            clear hng
            have HF2 := hid (HF.out.snoc hk11 true n hl7)
            have hol := (op_all _ hk11).2.2.1
            obtain ⟨ob, hob⟩ : ∃ ob : ByteArray, Hid (⟨(opB kn).toArray⟩ = ob) := ⟨_, rfl⟩
            have hos : ob.size ≤ 2 := by rw [← hob.out]; exact hol
            obtain ⟨X1, hX1⟩ : ∃ X1 : ByteArray, (⟨#[66]⟩ ++ ⟨#[c]⟩ : ByteArray) = X1 := ⟨_, rfl⟩
            obtain ⟨X2, hX2⟩ : ∃ X2 : ByteArray, (⟨#[45]⟩ ++ X1 : ByteArray) = X2 := ⟨_, rfl⟩
            have hx1s : X1.size = 2 := by rw [← hX1]; rfl
            have hxs : X2.size = 3 := by rw [← hX2, ← hX1]; rfl
            have HXe : Hid ((⟨(aT true n).toArray⟩ : ByteArray) = X2) := by show _ = _; rw [← hX2, ← hX1, ← hc.out]; rfl
            obtain ⟨Y1, hY1⟩ : ∃ Y1 : ByteArray, ob ++ X2 = Y1 := ⟨_, rfl⟩
            have hy1s : Y1.size = ob.size + X2.size := by rw [← hY1]; exact ByteArray.size_append
            obtain ⟨Y2, hY2⟩ : ∃ Y2 : ByteArray, sb ++ Y1 = Y2 := ⟨_, rfl⟩
            have HYe : Hid (Y2.data.toList = src ++ (opB kn ++ aT true n)) := by
              show _ = _
              rw [← hY2, ← hY1, ← hob.out, ← HXe.out, ← hsb.out]
              simp
            have f1 : ¬ 9223372036854775807 < ob.size + X2.size := by omega
            have f2 : ¬ 9223372036854775807 < sb.size + Y1.size := by omega
            have f3 : ¬ 9223372036854775807 < 1 + X1.size := by omega
            have f4 : ¬ 9223372036854775807 < (⟨#[45]⟩ : ByteArray).size + X1.size := by show ¬ 9223372036854775807 < 1 + X1.size; omega
            go_wp2_with (first | (at_builtin; refine wpList_append_own _ rfl _ _ 22 rfl w0.heap.size 3 i3 (.int .i64 0) 1 8 Tryd.underlying22 H3.out.1 H3.out.2.1 H3.out.2.2.1 H3.out.2.2.2 rfl (by decide) _ _ _ rfl ((HP.out.alloc _).alloc _).r _ 1 1 [.int .i64 (kn : Int)] rfl rfl (news_at _ [.int .i64 (kn : Int)] 3 _ (by simp)) (iz_one (kn : Int)) (by unfold maxLen; omega) (by omega) (by have := HP.out.q.size; simp; omega) ?_; intro v3 w3 hown3 hgrow3 _; have HP3 := hid (((HP.out.alloc _).alloc _).numbers (k := kn) ekn.out hown3 (by omega) hgrow3); clear hown3 hgrow3) | (at_builtin; refine wpList_append_own _ rfl _ _ 24 rfl w0.heap.size 9 i9 (.string ⟨#[]⟩) 1 16 Tryd.underlying24 H9.out.1 H9.out.2.1 H9.out.2.2.1 H9.out.2.2.2 rfl (by decide) _ _ _ rfl (HP3.out.alloc _).t _ 1 1 [.string X2] rfl rfl (news_at _ [.string X2] 9 _ (by simp)) (st_one X2) (by unfold maxLen; rw [hTl.out]; omega) (by rw [hTl.out]; omega) (by have := HP3.out.q.size; simp; omega) ?_; intro v4 w4 hown4 hgrow4 _; have HP4 := hid ((HP3.out.alloc _).texts HXe.out hown4 rfl hgrow4); clear hown4 hgrow4; have hop : w4.cell? ⟨bo, kn, none⟩ = some (.string ob) := (by rw [← hob.out]; exact (HT.out.on HP4.out.q).o _ hk11)))
            exact ⟨⟨n + 1, cs ++ [kn], ps ++ [(aX true n, aT true n)], _, Y2, by omega, by simp; omega, by go_num, rfl, HYe, (by show Lp _ _ _ _ _ _; rw [List.map_append]; exact HP4.out), HF2⟩, by simp [intOf]; omega⟩
          · skip
            obtain ⟨kn, hkn⟩ : ∃ kn : Nat, K[n] = (kn : Int) := ⟨K[n].toNat, by omega⟩
            have hk11 : kn < 11 := by omega
            have ekn : Hid ((kn : Int) = (kn : Int)) := rfl
            rw [hkn] at c0 hb hb2
            clear hkn
            have e1 : (ng == (n : Int)) = false := by simpa using hng
            clear hng
            have HF2 := hid (HF.out.snoc hk11 false n hl7)
            have hol := (op_all _ hk11).2.2.1
            obtain ⟨ob, hob⟩ : ∃ ob : ByteArray, Hid (⟨(opB kn).toArray⟩ = ob) := ⟨_, rfl⟩
            have hos : ob.size ≤ 2 := by rw [← hob.out]; exact hol
            obtain ⟨X1, hX1⟩ : ∃ X1 : ByteArray, (⟨#[66]⟩ ++ ⟨#[c]⟩ : ByteArray) = X1 := ⟨_, rfl⟩
            have hx1s : X1.size = 2 := by rw [← hX1]; rfl
            have hxs : X1.size = 2 := hx1s
            have HXe : Hid ((⟨(aT false n).toArray⟩ : ByteArray) = X1) := by show _ = _; rw [← hX1, ← hc.out]; rfl
            obtain ⟨Y1, hY1⟩ : ∃ Y1 : ByteArray, ob ++ X1 = Y1 := ⟨_, rfl⟩
            have hy1s : Y1.size = ob.size + X1.size := by rw [← hY1]; exact ByteArray.size_append
            obtain ⟨Y2, hY2⟩ : ∃ Y2 : ByteArray, sb ++ Y1 = Y2 := ⟨_, rfl⟩
            have HYe : Hid (Y2.data.toList = src ++ (opB kn ++ aT false n)) := by
              show _ = _
              rw [← hY2, ← hY1, ← hob.out, ← HXe.out, ← hsb.out]
              simp
            have f1 : ¬ 9223372036854775807 < ob.size + X1.size := by omega
            have f2 : ¬ 9223372036854775807 < sb.size + Y1.size := by omega
            go_wp2_with (first | (at_builtin; refine wpList_append_own _ rfl _ _ 22 rfl w0.heap.size 3 i3 (.int .i64 0) 1 8 Tryd.underlying22 H3.out.1 H3.out.2.1 H3.out.2.2.1 H3.out.2.2.2 rfl (by decide) _ _ _ rfl ((HP.out.alloc _).alloc _).r _ 1 1 [.int .i64 (kn : Int)] rfl rfl (news_at _ [.int .i64 (kn : Int)] 3 _ (by simp)) (iz_one (kn : Int)) (by unfold maxLen; omega) (by omega) (by have := HP.out.q.size; simp; omega) ?_; intro v3 w3 hown3 hgrow3 _; have HP3 := hid (((HP.out.alloc _).alloc _).numbers (k := kn) ekn.out hown3 (by omega) hgrow3); clear hown3 hgrow3) | (at_builtin; refine wpList_append_own _ rfl _ _ 24 rfl w0.heap.size 9 i9 (.string ⟨#[]⟩) 1 16 Tryd.underlying24 H9.out.1 H9.out.2.1 H9.out.2.2.1 H9.out.2.2.2 rfl (by decide) _ _ _ rfl (HP3.out.alloc _).t _ 1 1 [.string X1] rfl rfl (news_at _ [.string X1] 9 _ (by simp)) (st_one X1) (by unfold maxLen; rw [hTl.out]; omega) (by rw [hTl.out]; omega) (by have := HP3.out.q.size; simp; omega) ?_; intro v4 w4 hown4 hgrow4 _; have HP4 := hid ((HP3.out.alloc _).texts HXe.out hown4 rfl hgrow4); clear hown4 hgrow4; have hop : w4.cell? ⟨bo, kn, none⟩ = some (.string ob) := (by rw [← hob.out]; exact (HT.out.on HP4.out.q).o _ hk11)))
            exact ⟨⟨n + 1, cs ++ [kn], ps ++ [(aX false n, aT false n)], _, Y2, by omega, by simp; omega, by go_num, rfl, HYe, (by show Lp _ _ _ _ _ _; rw [List.map_append]; exact HP4.out), HF2⟩, by simp [intOf]; omega⟩
    · by_cases hlK : n < K.length
      · have g1 : (n : Int) < (K.length : Int) := by omega
        have g2 : ¬ (n : Int) < 7 := by omega
        obtain ⟨X, hX⟩ : ∃ X, top (cs.map opB) (zX :: ps.map (·.1)) = X := ⟨_, rfl⟩
        have HX := hid hX
        have HS0 : Hid (Sn X cs ((zX, [65, 49]) :: ps)) := by show Sn _ _ _; rw [← HX.out]; exact HF.out.sn (by omega)
        have c7 : cs.length ≤ 7 := by omega
        clear hX
        go_wp2_with fail
        go_loopw [8, 9, 14] (fun t r z wr => ∃ (lv : Nat) (cs : List Nat) (ps : List (Ex × List UInt8)), lv ≤ 4 ∧ z = .int .i64 (lv : Int) ∧ Hid (Lp w0 wr t r cs (ps.map (·.2))) ∧ Hid (Sn X cs ps) ∧ Hid (∀ k ∈ cs, lvL.getD k 0 ≤ lv)) (fun _ _ z _ => (intOf z).toNat)
        case atStart => exact ⟨4, cs, (zX, [65, 49]) :: ps, by omega, rfl, HP, HS0, fun k hk => (lvL_le k (HS0.out.c k hk)).1⟩
        case round =>
          clear HS0 HP
          obtain ⟨lv, ds, qs, lv4, rfl, HP, HS, HM⟩ := hrel
          by_cases hlv : 0 < lv
          · have v1 : (0 : Int) < (lv : Int) := by omega
            go_wp2_with fail
            go_loopw [8, 9, 15] (fun t r z wr => ∃ (i : Nat) (ds : List Nat) (qs : List (Ex × List UInt8)), i ≤ ds.length ∧ z = .int .i64 (i : Int) ∧ Hid (Lp w0 wr t r ds (qs.map (·.2))) ∧ Hid (Sn X ds qs) ∧ Hid (∀ k ∈ ds, lvL.getD k 0 ≤ lv) ∧ Hid (∀ j, (h : j < i) → (h' : j < ds.length) → lvL.getD ds[j] 0 < lv)) (fun _ r z _ => 2 * slen r - (intOf z).toNat)
            case atStart => exact ⟨0, ds, qs, by omega, rfl, HP, HS, HM, fun j h _ => absurd h (by omega)⟩
            case round =>
              clear HP HS HM
              obtain ⟨i, ds, qs, hi, rfl, HP, HS, HM, HL⟩ := hrel
              obtain ⟨ar, capr, hrv, cr1, cr2⟩ := (HP.out.r.sl ie_len (by decide)).len
              subst hrv
              have hd8 : ds.length ≤ 12 := by have := HS.out.tl; omega
              by_cases hlt : i < ds.length
              · have g3 : (i : Int) < (ds.length : Int) := by omega
                obtain ⟨gr, cap', hrv, hgr1, hgr2, _, _⟩ := HP.out.r.shape (by omega)
                simp only [Value.slice.injEq, true_and] at hrv
                obtain ⟨rfl, rfl⟩ := hrv
                have hql : (qs.map (·.2)).length = ds.length + 1 := by rw [List.length_map]; exact HS.out.len
                have hqn := HS.out.len
                obtain ⟨gt, capt, htv, hgt1, hgt2, ct1, ct2⟩ := HP.out.t.shape (by omega)
                have hOt := HP.out.t
                rw [htv] at hOt
                obtain ⟨kn, hkn⟩ : ∃ kn, ds[i] = kn := ⟨_, rfl⟩
                have hk11 : kn < 11 := by rw [← hkn]; exact HS.out.c _ (List.getElem_mem _)
                have k11 : (kn : Int) < 11 := by omega
                have cr : wr.cell? ⟨gr, i, none⟩ = some (.int .i64 (kn : Int)) := by
                  have := HP.out.r.cell ie_len hlt 0 _ rfl
                  rw [hkn] at this
                  simpa using this
                have HTr := hid (HT.out.on HP.out.q)
                have cl := HTr.out.l kn hk11
                obtain ⟨l, hl⟩ : ∃ l, lvL.getD kn 0 = l := ⟨_, rfl⟩
                rw [hl] at cl
                have HSt := hid (hOt.sl se_len (by decide))
                have HSr := hid (HP.out.r.sl ie_len (by decide))
                have r9 : (capr : Int) ≤ 9223372036854775807 := by unfold maxLen at cr2; omega
                have t9 : (capt : Int) ≤ 9223372036854775807 := by unfold maxLen at ct2; omega
                by_cases hll : l = lv
                · have e1 : ((l : Int) == (lv : Int)) = true := by rw [hll]; simp
                  have ctA : wr.cell? ⟨gt, i, none⟩ = some (.string ⟨qs[i].2.toArray⟩) := by
                    have := hOt.cell se_len (i := i) (by omega) 0 _ rfl
                    simpa using this
                  have ctB : wr.cell? ⟨gt, i + 1, none⟩ = some (.string ⟨qs[i + 1].2.toArray⟩) := by
                    have := hOt.cell se_len (i := i + 1) (by omega) 0 _ rfl
                    simpa using this
                  have co := HTr.out.o kn hk11
                  have hol := (op_all kn hk11).2.2.1
                  obtain ⟨ob, hob⟩ : ∃ ob : ByteArray, (⟨(opB kn).toArray⟩ : ByteArray) = ob := ⟨_, rfl⟩
                  obtain ⟨tA, htA⟩ : ∃ tA : ByteArray, (⟨qs[i].2.toArray⟩ : ByteArray) = tA := ⟨_, rfl⟩
                  obtain ⟨tB, htB⟩ : ∃ tB : ByteArray, (⟨qs[i + 1].2.toArray⟩ : ByteArray) = tB := ⟨_, rfl⟩
                  have sO : ob.size ≤ 2 := by rw [← hob]; exact hol
                  have sA : tA.size ≤ 51 := by
                    rw [← htA]
                    have := mem_sum (fun p : Ex × List UInt8 => p.2.length) qs qs[i] (List.getElem_mem _)
                    have := HS.out.tl
                    exact Nat.le_trans (by assumption) (by omega)
                  have sB : tB.size ≤ 51 := by
                    rw [← htB]
                    have := mem_sum (fun p : Ex × List UInt8 => p.2.length) qs qs[i + 1] (List.getElem_mem _)
                    have := HS.out.tl
                    exact Nat.le_trans (by assumption) (by omega)
                  rw [hob] at co
                  rw [htA] at ctA
                  rw [htB] at ctB
                  obtain ⟨Z1, hZ1⟩ : ∃ Z1 : ByteArray, (⟨#[40]⟩ ++ tA : ByteArray) = Z1 := ⟨_, rfl⟩
                  obtain ⟨Z2, hZ2⟩ : ∃ Z2 : ByteArray, Z1 ++ ob = Z2 := ⟨_, rfl⟩
                  obtain ⟨Z3, hZ3⟩ : ∃ Z3 : ByteArray, Z2 ++ tB = Z3 := ⟨_, rfl⟩
                  obtain ⟨Z4, hZ4⟩ : ∃ Z4 : ByteArray, Z3 ++ ⟨#[41]⟩ = Z4 := ⟨_, rfl⟩
                  have s1 : Z1.size = 1 + tA.size := by rw [← hZ1]; exact ByteArray.size_append
                  have s2 : Z2.size = Z1.size + ob.size := by rw [← hZ2]; exact ByteArray.size_append
                  have s3 : Z3.size = Z2.size + tB.size := by rw [← hZ3]; exact ByteArray.size_append
                  have HZe : Hid ((⟨(bT qs[i].2 kn qs[i + 1].2).toArray⟩ : ByteArray) = Z4) := by
                    show _ = _
                    rw [← hZ4, ← hZ3, ← hZ2, ← hZ1, ← hob, ← htA, ← htB]
                    apply bytes_eq
                    simp [bT]
                  have f1 : ¬ 9223372036854775807 < 1 + tA.size := by omega
                  have f1' : ¬ 9223372036854775807 < (⟨#[40]⟩ : ByteArray).size + tA.size := f1
                  have f2 : ¬ 9223372036854775807 < Z1.size + ob.size := by omega
                  have f3 : ¬ 9223372036854775807 < Z2.size + tB.size := by omega
                  have f4 : ¬ 9223372036854775807 < Z3.size + 1 := by omega
                  have f4' : ¬ 9223372036854775807 < Z3.size + (⟨#[41]⟩ : ByteArray).size := f4
                  obtain ⟨o1, ho1, hsl1⟩ := tail24 gt (ds.length + 1) capt (i + 2) ((i : Int) + 2) (by omega) (by omega) (by omega) ct2
                  obtain ⟨o2, ho2, hsl2⟩ := tail22 gr ds.length capr (i + 1) ((i : Int) + 1) (by omega) (by omega) (by omega) cr2
                  have hlen : ds.length + 1 - (i + 2) = ds.length - (i + 1) := by omega
                  rw [hlen] at hsl1
                  rw [hql] at htv
                  subst htv
                  have ict : (i : Int) ≤ (capt : Int) := by omega
                  have icr : (i : Int) ≤ (capr : Int) := by omega
                  have g4 : (i : Int) + 1 < ((ds.length : Int) + 1) := by omega
                  have HSn := hid (HS.out.step (i := i) (M := lv) hlt HM.out hlv (by rw [hkn, hl, hll]) (fun j hj => HL.out j hj (by omega)))
                  rw [hkn] at HSn
                  go_wp2_with fail
                  go_quiet (fail)
                  go_wp2_with (first | (at_builtin; refine wpList_append_src rfl _ _ 24 rfl wr.heap.size 9 i9 (.string ⟨#[]⟩) 1 16 Tryd.underlying24 H9.out.1 H9.out.2.1 H9.out.2.2.1 H9.out.2.2.2 rfl (by decide) (.slice none 0 0) 0 [] rfl (World.ownsRow_nil _ _ _ _) (.slice (some ⟨gt, 0, none⟩) i capt) rfl i (flat se ((qs.map (·.2)).take i)) (sl_src (sl_take (HSt.out.on ((Q.refl wr).drewN _)) i (by omega)) (by rw [List.length_take]; omega) se_len (by decide)) (by rw [flat_len se se_len, List.length_take]; omega) (flat_one se se_one) (by unfold maxLen; omega) (by omega) (by simp) ?_; intro v3 w3 hown' hgrow; have HO3 := hid (own_first (enc := se) (L := (qs.map (·.2)).take i) hown' (by rw [List.length_take]; omega)); have HQ3 : Hid (Q wr w3) := (hid (Below.grown ((Q.refl wr).drewN _) hgrow (by simp) (fun k e => by cases e))); clear hown' hgrow) | (at_builtin; refine wpList_append_own _ rfl _ _ 24 rfl wr.heap.size 9 i9 (.string ⟨#[]⟩) 1 16 Tryd.underlying24 H9.out.1 H9.out.2.1 H9.out.2.2.1 H9.out.2.2.2 rfl (by decide) v3 _ _ rfl (HO3.out.alloc _) _ 1 1 [.string Z4] rfl rfl (news_at _ [.string Z4] 9 _ (by simp)) (st_one Z4) (by unfold maxLen; rw [List.length_take]; omega) (by rw [List.length_take]; omega) (by have := HQ3.out.size; simp; omega) ?_; intro v4 w4 hown' hgrow _; have HO4 := hid (own_snoc' (enc := se) (L := (qs.map (·.2)).take i) (x := bT qs[i].2 kn qs[i + 1].2) (by rw [← HZe.out] at hown'; exact hown') rfl); have HQ4 : Hid (Q wr w4) := (hid (Below.grown (HQ3.out.alloc _) hgrow (by have := HQ3.out.size; simp; omega) (HO3.out.blk))); clear hown' hgrow) | (at_builtin; refine wpList_append_src rfl _ _ 24 rfl wr.heap.size 9 i9 (.string ⟨#[]⟩) 1 16 Tryd.underlying24 H9.out.1 H9.out.2.1 H9.out.2.2.1 H9.out.2.2.2 rfl (by decide) v4 _ _ rfl HO4.out _ rfl (ds.length - (i + 1)) (flat se ((qs.map (·.2)).drop (i + 2))) (by have := tail_src (HSt.out.on HQ4.out) se_len hql.symm (by omega) ho1; rw [hlen] at this; exact this) (by rw [flat_len se se_len, List.length_drop, hql]; omega) (flat_one se se_one) (by unfold maxLen; rw [List.length_append, List.length_take]; simp only [List.length_cons, List.length_nil]; omega) (by rw [List.length_append, List.length_take]; simp only [List.length_cons, List.length_nil]; omega) HQ4.out.size ?_; intro v5 w5 hown' hgrow; have HO5 := hid (own_append' (enc := se) (L := (qs.map (·.2)).take i ++ [bT qs[i].2 kn qs[i + 1].2]) (L' := (qs.map (·.2)).drop (i + 2)) hown' (by rw [List.length_drop, hql, hlen])); have HQ5 : Hid (Q wr w5) := (hid (Below.grown HQ4.out hgrow HQ4.out.size (HO4.out.blk))); clear hown' hgrow) | (at_builtin; refine wpList_append_src rfl _ _ 22 rfl w5.heap.size 3 i3 (.int .i64 0) 1 8 Tryd.underlying22 H3.out.1 H3.out.2.1 H3.out.2.2.1 H3.out.2.2.2 rfl (by decide) (.slice none 0 0) 0 [] rfl (World.ownsRow_nil _ _ _ _) (.slice (some ⟨gr, 0, none⟩) i capr) rfl i (flat ie (ds.take i)) (sl_src (sl_take (HSr.out.on HQ5.out) i (by omega)) (by rw [List.length_take]; omega) ie_len (by decide)) (by rw [flat_len ie ie_len, List.length_take]; omega) (flat_one ie ie_one) (by unfold maxLen; omega) (by omega) (Nat.le_refl _) ?_; intro v6 w6 hown' hgrow; have HO6 := hid (own_first (enc := ie) (L := ds.take i) hown' (by rw [List.length_take]; omega)); have HQ6 : Hid (Q w5 w6) := (hid (Below.grown (Q.refl _) hgrow (Nat.le_refl _) (fun k e => by cases e))); clear hown' hgrow) | (at_builtin; refine wpList_append_src rfl _ _ 22 rfl w5.heap.size 3 i3 (.int .i64 0) 1 8 Tryd.underlying22 H3.out.1 H3.out.2.1 H3.out.2.2.1 H3.out.2.2.2 rfl (by decide) v6 _ _ rfl HO6.out _ rfl (ds.length - (i + 1)) (flat ie (ds.drop (i + 1))) (tail_src (HSr.out.on (HQ5.out.trans HQ6.out)) ie_len rfl (by omega) ho2) (by rw [flat_len ie ie_len, List.length_drop]) (flat_one ie ie_one) (by unfold maxLen; rw [List.length_take]; omega) (by rw [List.length_take]; omega) HQ6.out.size ?_; intro v7 w7 hown' hgrow; have HO7 := hid (own_append' (enc := ie) (L := ds.take i) (L' := ds.drop (i + 1)) hown' (by rw [List.length_drop])); have HQ7 : Hid (Q w5 w7) := (hid (Below.grown HQ6.out hgrow HQ6.out.size (HO6.out.blk))); clear hown' hgrow))
                  have hsz : w0.heap.size ≤ wr.heap.size := HP.out.q.size
                  have hsz5 : wr.heap.size ≤ w5.heap.size := HQ5.out.size
                  have hcl : (ds.take i ++ ds.drop (i + 1)).length = ds.length - 1 := by simp only [List.length_append, List.length_take, List.length_drop]; omega
                  have hPn : Lp w0 w7 v5 v7 (ds.take i ++ ds.drop (i + 1)) ((qs.take i ++ (binE (opB kn) qs[i].1 qs[i + 1].1, bT qs[i].2 kn qs[i + 1].2) :: qs.drop (i + 2)).map (·.2)) :=
                    ⟨own_eq ((HO5.out.on HQ7.out).mono hsz) (by simp [List.map_take, List.map_drop]), HO7.out.mono (Nat.le_trans hsz hsz5), (HP.out.q.trans HQ5.out).trans HQ7.out⟩
                  have hme := own_slen hPn.r
                  refine ⟨⟨i, _, _, by rw [hcl]; omega, rfl, hPn, HSn, ?_, ?_⟩, ?_⟩
                  · intro k hk
                    rcases List.mem_append.1 hk with hk | hk
                    · exact HM.out k (List.mem_of_mem_take hk)
                    · exact HM.out k (List.mem_of_mem_drop hk)
                  · intro j hj hj'
                    rw [List.getElem_append_left (by rw [List.length_take]; omega), List.getElem_take]
                    exact HL.out j hj (by omega)
                  · rw [hme, hcl]
                    simp only [slen, intOf]
                    omega
                · have e1 : ((l : Int) == (lv : Int)) = false := by rw [beq_eq_false_iff_ne]; omega
                  rw [hql] at htv
                  subst htv
                  have HL2 : Hid (∀ j, (h : j < i + 1) → (h' : j < ds.length) → lvL.getD ds[j] 0 < lv) := by
                    intro j hj hj'
                    by_cases hji : j = i
                    · subst hji
                      have := HM.out _ (List.getElem_mem hj')
                      rw [hkn, hl] at this ⊢
                      omega
                    · exact HL.out j (by omega) hj'
                  go_wp2_with fail
                  exact ⟨⟨i + 1, ds, qs, by omega, by go_num, HP, HS, HM, HL2⟩, by simp [slen, intOf]; omega⟩
              · have g3 : ¬ (i : Int) < (ds.length : Int) := by omega
                have HM2 : Hid (∀ k ∈ ds, lvL.getD k 0 ≤ lv - 1) := by
                  intro k hk
                  obtain ⟨j, hj, rfl⟩ := List.getElem_of_mem hk
                  have := HL.out j (by omega) hj
                  omega
                go_wp2_with fail
                exact ⟨⟨lv - 1, ds, qs, by omega, by go_num, HP, HS, HM2⟩, by simp [intOf]; omega⟩
          · have v1 : ¬ (0 : Int) < (lv : Int) := by omega
            have hds : ds = [] := by
              cases ds with
              | nil => rfl
              | cons k ds =>
                have h1 := HM.out k (by simp)
                have h2 := (lvL_le k (HS.out.c k (by simp))).2
                omega
            subst hds
            obtain ⟨T, hqs, hT1, hT2, ws, hTx⟩ := HS.out.fin
            subst hqs
            obtain ⟨gt, capt, htv, hgt1, hgt2, ct1, ct2⟩ := HP.out.t.shape (by simp)
            have hOt := HP.out.t
            rw [htv] at hOt
            have ct0 : wr.cell? ⟨gt, 0, none⟩ = some (.string ⟨T.toArray⟩) := by
              have := hOt.cell se_len (i := 0) (by simp) 0 _ rfl
              simpa using this
            have htv' : _ = Value.slice (some ⟨gt, 0, none⟩) 1 capt := htv
            subst htv'
            obtain ⟨tb, htb⟩ : ∃ tb : ByteArray, (⟨T.toArray⟩ : ByteArray) = tb := ⟨_, rfl⟩
            rw [htb] at ct0
            have HA := hid (fun W' (g : Std W') => parse_fs HF.out c7 HX.out (by omega) sb hsb.out W' g)
            have HBp := hid (fun W' (g : Std W') => parse_tx hTx (by omega) (by omega) tb (by rw [← htb]) W' g)
            have HGr := hid (HG.out.on (HQ0.out.trans HP.out.q))
            have HQr := hid (HQ0.out.trans HP.out.q)
            clear htb hTx hOt HS HM HP HF hsb HX
            go_upto_region 35 with (go_at_call 5; refine (HA.out _ HGr.out.1).mono ?_; rintro e w3 ⟨v, rfl, hr, q3⟩; obtain ⟨k, m, t, b, e1, a1, l1, c1, a2, l2, c2, rfl⟩ := hr.shape; have R3 := hid hr; have Q3 := hid q3; clear hr q3)
            have HX := hid (Bx.start w3 (.int .i64 k) (.int .i64 m) (.string t) (.bool b) (.int .i64 e1) (.slice a1 l1 c1) (.slice a2 l2 c2) 30)
            obtain ⟨w4, hw4⟩ : ∃ w4, w4 = w3.alloc (.cells #[.int .i64 k, .int .i64 m, .string t, .bool b, .int .i64 e1, .slice a1 l1 c1, .slice a2 l2 c2] 30) := ⟨_, rfl⟩
            rw [← hw4] at HX
            have HQ4 : Hid (Q w3 w4) := by rw [hw4]; exact (Q.refl _).alloc _
            rw [← hw4]
            clear hw4
            have ct4 := ((Q3.out.trans HQ4.out).cell (World.block_lt_of_cell? _ _ ct0)).trans ct0
            have HGr4 := hid (HGr.out.on (Q3.out.trans HQ4.out))
            go_upto_region 36 with (go_at_call 5; refine (HBp.out _ HGr4.out.1).mono ?_; rintro e w5 ⟨v, rfl, hr, q5⟩; obtain ⟨k', m', t', b', e1', a1', l1', c1', a2', l2', c2', rfl⟩ := hr.shape; have R5 := hid hr; have X5 := hid (HX.out.on q5); have Q5 := hid q5; clear hr q5)
            have HY := hid (Bx.start w5 (.int .i64 k') (.int .i64 m') (.string t') (.bool b') (.int .i64 e1') (.slice a1' l1' c1') (.slice a2' l2' c2') 30)
            obtain ⟨w6, hw6⟩ : ∃ w6, w6 = w5.alloc (.cells #[.int .i64 k', .int .i64 m', .string t', .bool b', .int .i64 e1', .slice a1' l1' c1', .slice a2' l2' c2'] 30) := ⟨_, rfl⟩
            rw [← hw6] at HY
            have HQ6 : Hid (Q w5 w6) := by rw [hw6]; exact (Q.refl _).alloc _
            have X6 := hid (X5.out.on HQ6.out)
            rw [← hw6]
            clear hw6
            have HE := hid ((eqexpr_any (SizeOf.sizeOf X) X X _ _ w6 (Nat.le_refl _) (Rd.on (HQ4.out.trans (Q5.out.trans HQ6.out)) _ _ R3.out) (Rd.on HQ6.out _ _ R5.out)).mono fun e w h => (⟨h.1.t rfl, h.2⟩ : e = .returned (.bool true) ∧ Q w6 w))
            obtain ⟨_, _, g0, g1', g2', g3, g4, g5, g6⟩ := X6.out
            obtain ⟨_, _, d0, d1, d2, d3, d4, d5, d6⟩ := HY.out
            go_wp2_with (go_at_call 6; refine HE.out.mono ?_; rintro e w7 ⟨rfl, q7⟩; have Q7 := hid q7; clear q7)
            go_ret
            exact ⟨rfl, ((((HQr.out.trans Q3.out).trans HQ4.out).trans Q5.out).trans HQ6.out).trans Q7.out⟩
      · have g1 : ¬ (n : Int) < (K.length : Int) := by omega
        obtain ⟨X, hX⟩ : ∃ X, top (cs.map opB) (zX :: ps.map (·.1)) = X := ⟨_, rfl⟩
        have HX := hid hX
        have HS0 : Hid (Sn X cs ((zX, [65, 49]) :: ps)) := by show Sn _ _ _; rw [← HX.out]; exact HF.out.sn (by omega)
        have c7 : cs.length ≤ 7 := by omega
        clear hX
        go_wp2_with fail
        go_loopw [8, 9, 14] (fun t r z wr => ∃ (lv : Nat) (cs : List Nat) (ps : List (Ex × List UInt8)), lv ≤ 4 ∧ z = .int .i64 (lv : Int) ∧ Hid (Lp w0 wr t r cs (ps.map (·.2))) ∧ Hid (Sn X cs ps) ∧ Hid (∀ k ∈ cs, lvL.getD k 0 ≤ lv)) (fun _ _ z _ => (intOf z).toNat)
        case atStart => exact ⟨4, cs, (zX, [65, 49]) :: ps, by omega, rfl, HP, HS0, fun k hk => (lvL_le k (HS0.out.c k hk)).1⟩
        case round =>
          clear HS0 HP
          obtain ⟨lv, ds, qs, lv4, rfl, HP, HS, HM⟩ := hrel
          by_cases hlv : 0 < lv
          · have v1 : (0 : Int) < (lv : Int) := by omega
            go_wp2_with fail
            go_loopw [8, 9, 15] (fun t r z wr => ∃ (i : Nat) (ds : List Nat) (qs : List (Ex × List UInt8)), i ≤ ds.length ∧ z = .int .i64 (i : Int) ∧ Hid (Lp w0 wr t r ds (qs.map (·.2))) ∧ Hid (Sn X ds qs) ∧ Hid (∀ k ∈ ds, lvL.getD k 0 ≤ lv) ∧ Hid (∀ j, (h : j < i) → (h' : j < ds.length) → lvL.getD ds[j] 0 < lv)) (fun _ r z _ => 2 * slen r - (intOf z).toNat)
            case atStart => exact ⟨0, ds, qs, by omega, rfl, HP, HS, HM, fun j h _ => absurd h (by omega)⟩
            case round =>
              clear HP HS HM
              obtain ⟨i, ds, qs, hi, rfl, HP, HS, HM, HL⟩ := hrel
              obtain ⟨ar, capr, hrv, cr1, cr2⟩ := (HP.out.r.sl ie_len (by decide)).len
              subst hrv
              have hd8 : ds.length ≤ 12 := by have := HS.out.tl; omega
              by_cases hlt : i < ds.length
              · have g3 : (i : Int) < (ds.length : Int) := by omega
                obtain ⟨gr, cap', hrv, hgr1, hgr2, _, _⟩ := HP.out.r.shape (by omega)
                simp only [Value.slice.injEq, true_and] at hrv
                obtain ⟨rfl, rfl⟩ := hrv
                have hql : (qs.map (·.2)).length = ds.length + 1 := by rw [List.length_map]; exact HS.out.len
                have hqn := HS.out.len
                obtain ⟨gt, capt, htv, hgt1, hgt2, ct1, ct2⟩ := HP.out.t.shape (by omega)
                have hOt := HP.out.t
                rw [htv] at hOt
                obtain ⟨kn, hkn⟩ : ∃ kn, ds[i] = kn := ⟨_, rfl⟩
                have hk11 : kn < 11 := by rw [← hkn]; exact HS.out.c _ (List.getElem_mem _)
                have k11 : (kn : Int) < 11 := by omega
                have cr : wr.cell? ⟨gr, i, none⟩ = some (.int .i64 (kn : Int)) := by
                  have := HP.out.r.cell ie_len hlt 0 _ rfl
                  rw [hkn] at this
                  simpa using this
                have HTr := hid (HT.out.on HP.out.q)
                have cl := HTr.out.l kn hk11
                obtain ⟨l, hl⟩ : ∃ l, lvL.getD kn 0 = l := ⟨_, rfl⟩
                rw [hl] at cl
                have HSt := hid (hOt.sl se_len (by decide))
                have HSr := hid (HP.out.r.sl ie_len (by decide))
                have r9 : (capr : Int) ≤ 9223372036854775807 := by unfold maxLen at cr2; omega
                have t9 : (capt : Int) ≤ 9223372036854775807 := by unfold maxLen at ct2; omega
                by_cases hll : l = lv
                · have e1 : ((l : Int) == (lv : Int)) = true := by rw [hll]; simp
                  have ctA : wr.cell? ⟨gt, i, none⟩ = some (.string ⟨qs[i].2.toArray⟩) := by
                    have := hOt.cell se_len (i := i) (by omega) 0 _ rfl
                    simpa using this
                  have ctB : wr.cell? ⟨gt, i + 1, none⟩ = some (.string ⟨qs[i + 1].2.toArray⟩) := by
                    have := hOt.cell se_len (i := i + 1) (by omega) 0 _ rfl
                    simpa using this
                  have co := HTr.out.o kn hk11
                  have hol := (op_all kn hk11).2.2.1
                  obtain ⟨ob, hob⟩ : ∃ ob : ByteArray, (⟨(opB kn).toArray⟩ : ByteArray) = ob := ⟨_, rfl⟩
                  obtain ⟨tA, htA⟩ : ∃ tA : ByteArray, (⟨qs[i].2.toArray⟩ : ByteArray) = tA := ⟨_, rfl⟩
                  obtain ⟨tB, htB⟩ : ∃ tB : ByteArray, (⟨qs[i + 1].2.toArray⟩ : ByteArray) = tB := ⟨_, rfl⟩
                  have sO : ob.size ≤ 2 := by rw [← hob]; exact hol
                  have sA : tA.size ≤ 51 := by
                    rw [← htA]
                    have := mem_sum (fun p : Ex × List UInt8 => p.2.length) qs qs[i] (List.getElem_mem _)
                    have := HS.out.tl
                    exact Nat.le_trans (by assumption) (by omega)
                  have sB : tB.size ≤ 51 := by
                    rw [← htB]
                    have := mem_sum (fun p : Ex × List UInt8 => p.2.length) qs qs[i + 1] (List.getElem_mem _)
                    have := HS.out.tl
                    exact Nat.le_trans (by assumption) (by omega)
                  rw [hob] at co
                  rw [htA] at ctA
                  rw [htB] at ctB
                  obtain ⟨Z1, hZ1⟩ : ∃ Z1 : ByteArray, (⟨#[40]⟩ ++ tA : ByteArray) = Z1 := ⟨_, rfl⟩
                  obtain ⟨Z2, hZ2⟩ : ∃ Z2 : ByteArray, Z1 ++ ob = Z2 := ⟨_, rfl⟩
                  obtain ⟨Z3, hZ3⟩ : ∃ Z3 : ByteArray, Z2 ++ tB = Z3 := ⟨_, rfl⟩
                  obtain ⟨Z4, hZ4⟩ : ∃ Z4 : ByteArray, Z3 ++ ⟨#[41]⟩ = Z4 := ⟨_, rfl⟩
                  have s1 : Z1.size = 1 + tA.size := by rw [← hZ1]; exact ByteArray.size_append
                  have s2 : Z2.size = Z1.size + ob.size := by rw [← hZ2]; exact ByteArray.size_append
                  have s3 : Z3.size = Z2.size + tB.size := by rw [← hZ3]; exact ByteArray.size_append
                  have HZe : Hid ((⟨(bT qs[i].2 kn qs[i + 1].2).toArray⟩ : ByteArray) = Z4) := by
                    show _ = _
                    rw [← hZ4, ← hZ3, ← hZ2, ← hZ1, ← hob, ← htA, ← htB]
                    apply bytes_eq
                    simp [bT]
                  have f1 : ¬ 9223372036854775807 < 1 + tA.size := by omega
                  have f1' : ¬ 9223372036854775807 < (⟨#[40]⟩ : ByteArray).size + tA.size := f1
                  have f2 : ¬ 9223372036854775807 < Z1.size + ob.size := by omega
                  have f3 : ¬ 9223372036854775807 < Z2.size + tB.size := by omega
                  have f4 : ¬ 9223372036854775807 < Z3.size + 1 := by omega
                  have f4' : ¬ 9223372036854775807 < Z3.size + (⟨#[41]⟩ : ByteArray).size := f4
                  obtain ⟨o1, ho1, hsl1⟩ := tail24 gt (ds.length + 1) capt (i + 2) ((i : Int) + 2) (by omega) (by omega) (by omega) ct2
                  obtain ⟨o2, ho2, hsl2⟩ := tail22 gr ds.length capr (i + 1) ((i : Int) + 1) (by omega) (by omega) (by omega) cr2
                  have hlen : ds.length + 1 - (i + 2) = ds.length - (i + 1) := by omega
                  rw [hlen] at hsl1
                  rw [hql] at htv
                  subst htv
                  have ict : (i : Int) ≤ (capt : Int) := by omega
                  have icr : (i : Int) ≤ (capr : Int) := by omega
                  have g4 : (i : Int) + 1 < ((ds.length : Int) + 1) := by omega
                  have HSn := hid (HS.out.step (i := i) (M := lv) hlt HM.out hlv (by rw [hkn, hl, hll]) (fun j hj => HL.out j hj (by omega)))
                  rw [hkn] at HSn
                  go_wp2_with fail
                  go_quiet (fail)
                  go_wp2_with (first | (at_builtin; refine wpList_append_src rfl _ _ 24 rfl wr.heap.size 9 i9 (.string ⟨#[]⟩) 1 16 Tryd.underlying24 H9.out.1 H9.out.2.1 H9.out.2.2.1 H9.out.2.2.2 rfl (by decide) (.slice none 0 0) 0 [] rfl (World.ownsRow_nil _ _ _ _) (.slice (some ⟨gt, 0, none⟩) i capt) rfl i (flat se ((qs.map (·.2)).take i)) (sl_src (sl_take (HSt.out.on ((Q.refl wr).drewN _)) i (by omega)) (by rw [List.length_take]; omega) se_len (by decide)) (by rw [flat_len se se_len, List.length_take]; omega) (flat_one se se_one) (by unfold maxLen; omega) (by omega) (by simp) ?_; intro v3 w3 hown' hgrow; have HO3 := hid (own_first (enc := se) (L := (qs.map (·.2)).take i) hown' (by rw [List.length_take]; omega)); have HQ3 : Hid (Q wr w3) := (hid (Below.grown ((Q.refl wr).drewN _) hgrow (by simp) (fun k e => by cases e))); clear hown' hgrow) | (at_builtin; refine wpList_append_own _ rfl _ _ 24 rfl wr.heap.size 9 i9 (.string ⟨#[]⟩) 1 16 Tryd.underlying24 H9.out.1 H9.out.2.1 H9.out.2.2.1 H9.out.2.2.2 rfl (by decide) v3 _ _ rfl (HO3.out.alloc _) _ 1 1 [.string Z4] rfl rfl (news_at _ [.string Z4] 9 _ (by simp)) (st_one Z4) (by unfold maxLen; rw [List.length_take]; omega) (by rw [List.length_take]; omega) (by have := HQ3.out.size; simp; omega) ?_; intro v4 w4 hown' hgrow _; have HO4 := hid (own_snoc' (enc := se) (L := (qs.map (·.2)).take i) (x := bT qs[i].2 kn qs[i + 1].2) (by rw [← HZe.out] at hown'; exact hown') rfl); have HQ4 : Hid (Q wr w4) := (hid (Below.grown (HQ3.out.alloc _) hgrow (by have := HQ3.out.size; simp; omega) (HO3.out.blk))); clear hown' hgrow) | (at_builtin; refine wpList_append_src rfl _ _ 24 rfl wr.heap.size 9 i9 (.string ⟨#[]⟩) 1 16 Tryd.underlying24 H9.out.1 H9.out.2.1 H9.out.2.2.1 H9.out.2.2.2 rfl (by decide) v4 _ _ rfl HO4.out _ rfl (ds.length - (i + 1)) (flat se ((qs.map (·.2)).drop (i + 2))) (by have := tail_src (HSt.out.on HQ4.out) se_len hql.symm (by omega) ho1; rw [hlen] at this; exact this) (by rw [flat_len se se_len, List.length_drop, hql]; omega) (flat_one se se_one) (by unfold maxLen; rw [List.length_append, List.length_take]; simp only [List.length_cons, List.length_nil]; omega) (by rw [List.length_append, List.length_take]; simp only [List.length_cons, List.length_nil]; omega) HQ4.out.size ?_; intro v5 w5 hown' hgrow; have HO5 := hid (own_append' (enc := se) (L := (qs.map (·.2)).take i ++ [bT qs[i].2 kn qs[i + 1].2]) (L' := (qs.map (·.2)).drop (i + 2)) hown' (by rw [List.length_drop, hql, hlen])); have HQ5 : Hid (Q wr w5) := (hid (Below.grown HQ4.out hgrow HQ4.out.size (HO4.out.blk))); clear hown' hgrow) | (at_builtin; refine wpList_append_src rfl _ _ 22 rfl w5.heap.size 3 i3 (.int .i64 0) 1 8 Tryd.underlying22 H3.out.1 H3.out.2.1 H3.out.2.2.1 H3.out.2.2.2 rfl (by decide) (.slice none 0 0) 0 [] rfl (World.ownsRow_nil _ _ _ _) (.slice (some ⟨gr, 0, none⟩) i capr) rfl i (flat ie (ds.take i)) (sl_src (sl_take (HSr.out.on HQ5.out) i (by omega)) (by rw [List.length_take]; omega) ie_len (by decide)) (by rw [flat_len ie ie_len, List.length_take]; omega) (flat_one ie ie_one) (by unfold maxLen; omega) (by omega) (Nat.le_refl _) ?_; intro v6 w6 hown' hgrow; have HO6 := hid (own_first (enc := ie) (L := ds.take i) hown' (by rw [List.length_take]; omega)); have HQ6 : Hid (Q w5 w6) := (hid (Below.grown (Q.refl _) hgrow (Nat.le_refl _) (fun k e => by cases e))); clear hown' hgrow) | (at_builtin; refine wpList_append_src rfl _ _ 22 rfl w5.heap.size 3 i3 (.int .i64 0) 1 8 Tryd.underlying22 H3.out.1 H3.out.2.1 H3.out.2.2.1 H3.out.2.2.2 rfl (by decide) v6 _ _ rfl HO6.out _ rfl (ds.length - (i + 1)) (flat ie (ds.drop (i + 1))) (tail_src (HSr.out.on (HQ5.out.trans HQ6.out)) ie_len rfl (by omega) ho2) (by rw [flat_len ie ie_len, List.length_drop]) (flat_one ie ie_one) (by unfold maxLen; rw [List.length_take]; omega) (by rw [List.length_take]; omega) HQ6.out.size ?_; intro v7 w7 hown' hgrow; have HO7 := hid (own_append' (enc := ie) (L := ds.take i) (L' := ds.drop (i + 1)) hown' (by rw [List.length_drop])); have HQ7 : Hid (Q w5 w7) := (hid (Below.grown HQ6.out hgrow HQ6.out.size (HO6.out.blk))); clear hown' hgrow))
                  have hsz : w0.heap.size ≤ wr.heap.size := HP.out.q.size
                  have hsz5 : wr.heap.size ≤ w5.heap.size := HQ5.out.size
                  have hcl : (ds.take i ++ ds.drop (i + 1)).length = ds.length - 1 := by simp only [List.length_append, List.length_take, List.length_drop]; omega
                  have hPn : Lp w0 w7 v5 v7 (ds.take i ++ ds.drop (i + 1)) ((qs.take i ++ (binE (opB kn) qs[i].1 qs[i + 1].1, bT qs[i].2 kn qs[i + 1].2) :: qs.drop (i + 2)).map (·.2)) :=
                    ⟨own_eq ((HO5.out.on HQ7.out).mono hsz) (by simp [List.map_take, List.map_drop]), HO7.out.mono (Nat.le_trans hsz hsz5), (HP.out.q.trans HQ5.out).trans HQ7.out⟩
                  have hme := own_slen hPn.r
                  refine ⟨⟨i, _, _, by rw [hcl]; omega, rfl, hPn, HSn, ?_, ?_⟩, ?_⟩
                  · intro k hk
                    rcases List.mem_append.1 hk with hk | hk
                    · exact HM.out k (List.mem_of_mem_take hk)
                    · exact HM.out k (List.mem_of_mem_drop hk)
                  · intro j hj hj'
                    rw [List.getElem_append_left (by rw [List.length_take]; omega), List.getElem_take]
                    exact HL.out j hj (by omega)
                  · rw [hme, hcl]
                    simp only [slen, intOf]
                    omega
                · have e1 : ((l : Int) == (lv : Int)) = false := by rw [beq_eq_false_iff_ne]; omega
                  rw [hql] at htv
                  subst htv
                  have HL2 : Hid (∀ j, (h : j < i + 1) → (h' : j < ds.length) → lvL.getD ds[j] 0 < lv) := by
                    intro j hj hj'
                    by_cases hji : j = i
                    · subst hji
                      have := HM.out _ (List.getElem_mem hj')
                      rw [hkn, hl] at this ⊢
                      omega
                    · exact HL.out j (by omega) hj'
                  go_wp2_with fail
                  exact ⟨⟨i + 1, ds, qs, by omega, by go_num, HP, HS, HM, HL2⟩, by simp [slen, intOf]; omega⟩
              · have g3 : ¬ (i : Int) < (ds.length : Int) := by omega
                have HM2 : Hid (∀ k ∈ ds, lvL.getD k 0 ≤ lv - 1) := by
                  intro k hk
                  obtain ⟨j, hj, rfl⟩ := List.getElem_of_mem hk
                  have := HL.out j (by omega) hj
                  omega
                go_wp2_with fail
                exact ⟨⟨lv - 1, ds, qs, by omega, by go_num, HP, HS, HM2⟩, by simp [intOf]; omega⟩
          · have v1 : ¬ (0 : Int) < (lv : Int) := by omega
            have hds : ds = [] := by
              cases ds with
              | nil => rfl
              | cons k ds =>
                have h1 := HM.out k (by simp)
                have h2 := (lvL_le k (HS.out.c k (by simp))).2
                omega
            subst hds
            obtain ⟨T, hqs, hT1, hT2, ws, hTx⟩ := HS.out.fin
            subst hqs
            obtain ⟨gt, capt, htv, hgt1, hgt2, ct1, ct2⟩ := HP.out.t.shape (by simp)
            have hOt := HP.out.t
            rw [htv] at hOt
            have ct0 : wr.cell? ⟨gt, 0, none⟩ = some (.string ⟨T.toArray⟩) := by
              have := hOt.cell se_len (i := 0) (by simp) 0 _ rfl
              simpa using this
            have htv' : _ = Value.slice (some ⟨gt, 0, none⟩) 1 capt := htv
            subst htv'
            obtain ⟨tb, htb⟩ : ∃ tb : ByteArray, (⟨T.toArray⟩ : ByteArray) = tb := ⟨_, rfl⟩
            rw [htb] at ct0
            have HA := hid (fun W' (g : Std W') => parse_fs HF.out c7 HX.out (by omega) sb hsb.out W' g)
            have HBp := hid (fun W' (g : Std W') => parse_tx hTx (by omega) (by omega) tb (by rw [← htb]) W' g)
            have HGr := hid (HG.out.on (HQ0.out.trans HP.out.q))
            have HQr := hid (HQ0.out.trans HP.out.q)
            clear htb hTx hOt HS HM HP HF hsb HX
            go_upto_region 35 with (go_at_call 5; refine (HA.out _ HGr.out.1).mono ?_; rintro e w3 ⟨v, rfl, hr, q3⟩; obtain ⟨k, m, t, b, e1, a1, l1, c1, a2, l2, c2, rfl⟩ := hr.shape; have R3 := hid hr; have Q3 := hid q3; clear hr q3)
            have HX := hid (Bx.start w3 (.int .i64 k) (.int .i64 m) (.string t) (.bool b) (.int .i64 e1) (.slice a1 l1 c1) (.slice a2 l2 c2) 30)
            obtain ⟨w4, hw4⟩ : ∃ w4, w4 = w3.alloc (.cells #[.int .i64 k, .int .i64 m, .string t, .bool b, .int .i64 e1, .slice a1 l1 c1, .slice a2 l2 c2] 30) := ⟨_, rfl⟩
            rw [← hw4] at HX
            have HQ4 : Hid (Q w3 w4) := by rw [hw4]; exact (Q.refl _).alloc _
            rw [← hw4]
            clear hw4
            have ct4 := ((Q3.out.trans HQ4.out).cell (World.block_lt_of_cell? _ _ ct0)).trans ct0
            have HGr4 := hid (HGr.out.on (Q3.out.trans HQ4.out))
            go_upto_region 36 with (go_at_call 5; refine (HBp.out _ HGr4.out.1).mono ?_; rintro e w5 ⟨v, rfl, hr, q5⟩; obtain ⟨k', m', t', b', e1', a1', l1', c1', a2', l2', c2', rfl⟩ := hr.shape; have R5 := hid hr; have X5 := hid (HX.out.on q5); have Q5 := hid q5; clear hr q5)
            have HY := hid (Bx.start w5 (.int .i64 k') (.int .i64 m') (.string t') (.bool b') (.int .i64 e1') (.slice a1' l1' c1') (.slice a2' l2' c2') 30)
            obtain ⟨w6, hw6⟩ : ∃ w6, w6 = w5.alloc (.cells #[.int .i64 k', .int .i64 m', .string t', .bool b', .int .i64 e1', .slice a1' l1' c1', .slice a2' l2' c2'] 30) := ⟨_, rfl⟩
            rw [← hw6] at HY
            have HQ6 : Hid (Q w5 w6) := by rw [hw6]; exact (Q.refl _).alloc _
            have X6 := hid (X5.out.on HQ6.out)
            rw [← hw6]
            clear hw6
            have HE := hid ((eqexpr_any (SizeOf.sizeOf X) X X _ _ w6 (Nat.le_refl _) (Rd.on (HQ4.out.trans (Q5.out.trans HQ6.out)) _ _ R3.out) (Rd.on HQ6.out _ _ R5.out)).mono fun e w h => (⟨h.1.t rfl, h.2⟩ : e = .returned (.bool true) ∧ Q w6 w))
            obtain ⟨_, _, g0, g1', g2', g3, g4, g5, g6⟩ := X6.out
            obtain ⟨_, _, d0, d1, d2, d3, d4, d5, d6⟩ := HY.out
            go_wp2_with (go_at_call 6; refine HE.out.mono ?_; rintro e w7 ⟨rfl, q7⟩; have Q7 := hid q7; clear q7)
            go_ret
            exact ⟨rfl, ((((HQr.out.trans Q3.out).trans HQ4.out).trans Q5.out).trans HQ6.out).trans Q7.out⟩
end Go.Proofs.YtgheopdadfnilaaDoor
