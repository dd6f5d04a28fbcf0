/- The reference's numbers, sums and frames. -/
import Derived.Test.YtcefpjjefokjjaaDoorFj
namespace Go.Proofs.YtcefpjjefokjjaaDoor
open Go.RowKit
set_option linter.unusedVariables false
set_option linter.unusedSimpArgs false

set_option maxRecDepth 100000 in
set_option maxHeartbeats 2000000 in
theorem four_any (n : Nat) (w : World) (hn : n < 4294967296) : Calls Tryd.prog 14 #[.int .u32 n] w fun e W' => ∃ g, e = .returned (.slice (some ⟨g, 0, none⟩) 4 4) ∧ Sb W' (.slice (some ⟨g, 0, none⟩) 4 4) (le4 n) ∧ Q w W' := by
  unfold le4
  have e0 : (n : Int) % 256 = ((UInt8.ofNat n).toNat : Int) := by rw [UInt8.toNat_ofNat']; omega
  have e1 : (n : Int) / 256 % 256 = ((UInt8.ofNat (n / 256)).toNat : Int) := by rw [UInt8.toNat_ofNat']; omega
  have e2 : (n : Int) / 65536 % 256 = ((UInt8.ofNat (n / 65536)).toNat : Int) := by rw [UInt8.toNat_ofNat']; omega
  have e3 : (n : Int) / 16777216 = ((UInt8.ofNat (n / 16777216)).toNat : Int) := by rw [UInt8.toNat_ofNat']; omega
  generalize UInt8.ofNat n = a0 at e0 ⊢
  generalize UInt8.ofNat (n / 256) = a1 at e1 ⊢
  generalize UInt8.ofNat (n / 65536) = a2 at e2 ⊢
  generalize UInt8.ofNat (n / 16777216) = a3 at e3 ⊢
  have HL := hid (sl_lit (W := w) [a0, a1, a2, a3] (by simp))
  have HQ : Hid (Q w (w.alloc (.cells (flat eb [a0, a1, a2, a3]).toArray 5))) := hid ((Q.refl w).alloc _)
  go_enter Tryd.func14, Tryd.ntmps14
  go_wp2_with fail
  go_ret
  exact ⟨_, rfl, HL.out, HQ.out⟩
set_option maxRecDepth 100000 in
set_option maxHeartbeats 4000000 in
theorem rsum_any (r : Nat) (v : Value) (L : List UInt8) (w : World) (hr : r < 4294967296) (hv : Sl eb 1 w v L) : Calls Tryd.prog 15 #[.int .u32 r, v] w fun e W' => e = .returned (.int .u32 (cr r L)) ∧ W' = w := by
  have HV := hid hv
  obtain ⟨ao, cap, rfl, hc1, hc2⟩ := hv.len
  clear hv
  have hm : L.length ≤ 9223372036854775807 := by unfold maxLen at hc2; omega
  go_enter Tryd.func15, Tryd.ntmps15
  go_wp2_with fail
  go_loop [0, 5] (fun a i => ∃ n : Nat, n ≤ L.length ∧ i = .int .i64 n ∧ a = .int .u32 (cr r (L.take n))) (fun _ i => L.length - (intOf i).toNat)
  case atStart => exact ⟨0, by omega, rfl, rfl⟩
  case round =>
    obtain ⟨n, hn, rfl, rfl⟩ := hrel
    have hX : cr r (L.take n) < 4294967296 := cr_lt _ _ hr
    by_cases hlt : n < L.length
    · obtain ⟨g, o, cap', e, hd⟩ := sl_cell HV.out (by omega)
      cases e
      have d0 := hd n hlt
      clear hd
      have HN : Hid (cr r (L.take (n + 1)) = btn 8 (cr r (L.take n) ^^^ (L[n]).toNat)) := hid (by rw [cr_take r L n hlt, bt8]; rfl)
      have hb := L[n].toNat_lt
      have hx := xb_lt (cr r (L.take n)) L[n] hX
      generalize cr r (L.take n) = X at hX HN hx ⊢
      generalize L[n] = bb at hx HN hb d0
      generalize bb.toNat = b at hx HN hb d0
      have e1 : bits .xor .u32 (X : Int) (b : Int) = ((X ^^^ b : Nat) : Int) := bits_xor hX (by omega)
      generalize X ^^^ b = x at e1 hx HN
      go_wp2_with fail
      go_loop [0, 6] (fun a i => ∃ m : Nat, m ≤ 8 ∧ i = .int .i64 m ∧ a = .int .u32 (btn m x)) (fun _ i => 8 - (intOf i).toNat)
      case atStart => exact ⟨0, by omega, rfl, rfl⟩
      case round =>
        obtain ⟨m, hm', rfl, rfl⟩ := hrel
        have hy := btn_lt m x hx
        by_cases hlt2 : m < 8
        · have HB : Hid (btn (m + 1) x = bt (btn m x)) := hid rfl
          generalize btn m x = y at hy HB ⊢
          by_cases hodd : y % 2 = 1
          · have f1 : (y : Int) / 2 = ((y / 2 : Nat) : Int) := by omega
            have f0 : (y : Int) % 2 = 1 := by omega
            have HB2 : Hid (btn (m + 1) x = (y / 2) ^^^ 3988292384) := hid (by rw [HB.out]; unfold bt; rw [if_pos hodd])
            have f2 : bits .xor .u32 ((y / 2 : Nat) : Int) 3988292384 = (((y / 2) ^^^ 3988292384 : Nat) : Int) := bits_xor (b := 3988292384) (by omega) (by omega)
            clear HB hodd
            generalize (y / 2) ^^^ 3988292384 = z at f2 HB2
            generalize y / 2 = q at f1 f2
            go_wp2_with fail
            go_round
            case rel => exact ⟨m + 1, by omega, by go_num, by rw [HB2.out]⟩
            case measure => simp [intOf]; omega
          · have f1 : (y : Int) / 2 = ((y / 2 : Nat) : Int) := by omega
            have f0 : (y : Int) % 2 = 0 := by omega
            have HB2 : Hid (btn (m + 1) x = (y / 2)) := hid (by rw [HB.out]; unfold bt; rw [if_neg hodd])
            clear HB hodd
            generalize y / 2 = q at f1 HB2
            go_wp2_with fail
            go_round
            case rel => exact ⟨m + 1, by omega, by go_num, by rw [HB2.out]⟩
            case measure => simp [intOf]; omega
        · have HR : Hid (btn m x = cr r (L.take (n + 1))) := hid (by rw [HN.out, show m = 8 by omega])
          generalize btn m x = y at HR hy ⊢
          go_wp2_with fail
          go_round
          case rel => exact ⟨n + 1, by omega, by go_num, by rw [HR.out]⟩
          case measure => simp [intOf]; omega
    · have HR : Hid (cr r (L.take n) = cr r L) := hid (by rw [List.take_of_length_le (by omega)])
      generalize cr r (L.take n) = X at hX HR ⊢
      go_wp2_with fail
      go_ret
      exact ⟨ret_int (by rw [HR.out]), rfl⟩
set_option maxRecDepth 100000 in
set_option maxHeartbeats 4000000 in
theorem rframe_any (v : Value) (L : List UInt8) (w : World) (hv : Sb w v L) (hl : L.length ≤ 4194304) :
    Calls Tryd.prog 9 #[v] w fun e W' => ∃ v', e = .returned v' ∧ Own eb 5 1 w.heap.size W' v' (frm L) ∧ Q w W' := by
  have HV := hid hv
  obtain ⟨ao, cap, rfl, h1, h2⟩ := hv.s.len
  have e32 : (L.length : Int) % 4294967296 = (L.length : Int) := by omega
  have HF := hid (four_any L.length w (by omega))
  clear hv
  have HM : Hid (frm L = le4 L.length ++ (le4 (sm (le4 L.length ++ L)) ++ L)) := hid rfl
  have HS : Hid (sm (le4 L.length ++ L) = 4294967295 - cr (cr 4294967295 (le4 L.length)) L) := hid (by unfold sm; rw [cr_app])
  have hM : (le4 L.length).length = 4 := rfl
  go_enter Tryd.func9, Tryd.ntmps9
  go_upto_region 2 with (go_at_call 14; refine HF.out.mono ?_; rintro e9 w1 ⟨g1, rfl, hs9, hq9⟩; have HQ1 : Hid (Q w w1) := hid hq9; have HM1 := hid hs9; clear hs9 hq9)
  generalize le4 L.length = M at HM HS hM HM1
  have HA : Hid (Calls Tryd.prog 15 #[.int .u32 4294967295, .slice (some ⟨g1, 0, none⟩) 4 4] w1 fun e W' => e = .returned (.int .u32 (cr 4294967295 M : Nat)) ∧ W' = w1) := hid (rsum_any 4294967295 _ M w1 (by omega) HM1.out.s)
  have hX := cr_lt M 4294967295 (by omega)
  generalize cr 4294967295 M = X at HA HS hX
  have HB := hid (rsum_any X _ L w1 hX (HV.out.on HQ1.out).s)
  have hY := cr_lt L X hX
  generalize cr X L = Y at HB HS hY
  have e4 : bits .xor .u32 IntKind.u32.max (Y : Int) = ((4294967295 - Y : Nat) : Int) := xor_all hY
  rw [HS.out] at HM
  have hZ : 4294967295 - Y < 4294967296 := by omega
  generalize 4294967295 - Y = Z at e4 HM hZ
  clear HF HS
  go_upto_region 3 with (first
    | (go_at_call 15; with_reducible refine HA.out.mono ?_; rintro e9 w9 ⟨rfl, h9⟩; replace h9 := h9.symm; subst h9)
    | (go_at_call 15; with_reducible refine HB.out.mono ?_; rintro e9 w9 ⟨rfl, h9⟩; replace h9 := h9.symm; subst h9))
  clear HA HB
  have hz : (le4 Z).length = 4 := rfl
  go_wp2_with (first
    | (at_builtin; (refine wpl_appb rfl _ _ rfl w.heap.size (.slice none 0 0) [] rfl (own_nil _) _ rfl M HM1.out (by rw [hM]; decide) HQ1.out.size ?_; intro v2 w2 hown hg; have HO2 : Hid (Own eb 5 1 w.heap.size w2 v2 M) := hid hown; have HQ2 : Hid (Q w w2) := hid (own_q HQ1.out (own_nil (enc := eb) (e := 5) (k := 1) _) hg); clear hown hg; have HF2 := hid (four_any Z w2 hZ))))
  refine HF2.out.mono ?_
  rintro e9 w3 ⟨g3, rfl, hs9, hq9⟩
  have HQ3 : Hid (Q w w3) := hid (HQ2.out.trans hq9)
  have HZ3 := hid hs9
  have HO3 := hid (HO2.out.on hq9)
  clear hs9 hq9
  generalize le4 Z = N at hz HZ3 HM
  go_wp2_with (at_builtin; refine wpl_appb rfl _ _ rfl w.heap.size v2 M rfl HO3.out _ rfl N HZ3.out (by omega) HQ3.out.size ?_; intro v4 w4 hown hg; have HO4 := hid hown; have HQ4 : Hid (Q w w4) := hid (own_q HQ3.out HO3.out hg); clear hown hg; go_wp2_with (at_builtin; refine wpl_appb rfl _ _ rfl w.heap.size v4 (M ++ N) rfl HO4.out _ rfl L (HV.out.on HQ4.out) (by rw [List.length_append]; omega) HQ4.out.size ?_; intro v5 w5 hown hg; have HO5 : Hid (Own eb 5 1 w.heap.size w5 v5 (frm L)) := hid (by rw [HM.out, ← List.append_assoc]; exact hown); have HQ5 : Hid (Q w w5) := hid (own_q HQ4.out HO4.out hg); clear hown hg); go_ret; exact ⟨_, rfl, HO5.out, HQ5.out⟩)
end Go.Proofs.YtcefpjjefokjjaaDoor
