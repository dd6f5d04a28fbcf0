/- What the statements of layer 19 begin with; shortening. -/
import Derived.Test.YtcefpjjefokjjaaDoorFg
import Derived.Lib.SlBytesConst
namespace Go.Proofs.YtcefpjjefokjjaaDoor
open Go.RowKit
set_option linter.unusedVariables false
set_option linter.unusedSimpArgs false

theorem fst_short {D : List UInt8} (h : D.length < 8) : fst1 D = none := by unfold fst1; rw [if_pos h]
theorem scn_ab : scn (frm [97, 98] ++ [7]) = ([[97, 98]], 10) := by
  rw [scn_frm _ _ (by simp), scn_none (fst_short (by simp))]
  rfl
theorem sb_conv {W : World} {ao : Option Addr} {n cap : Nat} {D : List UInt8} (h : Sl eb 1 W (.slice ao n cap) D) : ∀ V, Q W V → (convert 23 9 (.slice ao n cap)).run Tryd.prog V = .ok (.string ⟨D.toArray⟩) V := fun V q => sl_conv (h.on q)
theorem ab_mark {W : World} (fr : Nat × Nat) : Sb (W.alloc (.cells #[.int .u8 97, .int .u8 98] 5 fr)) (.slice (some ⟨W.heap.size, 0, none⟩) 2 2) [97, 98] := by
  refine ⟨⟨some ⟨W.heap.size, 0, none⟩, 2, rfl, by simp, by unfold maxLen; omega, fun _ => ⟨W.heap.size, 0, rfl, fun i hi j u hu => ?_⟩⟩, fun m c e => by cases e⟩
  rw [World.cell?_alloc_mark]
  rcases (by simp at hi; omega : i = 0 ∨ i = 1) with rfl | rfl
  · cases j with
    | zero => exact hu
    | succ j => simp [eb] at hu
  · cases j with
    | zero => exact hu
    | succ j => simp [eb] at hu
set_option maxRecDepth 100000 in
set_option maxHeartbeats 4000000 in
theorem begun_any (w : World) (ht : Tab w) : Calls Tryd.prog 6 #[] w fun e W' => e = .returned (.bool true) ∧ Q w W' := by
  have HT := hid ht
  have HQ1 : Hid (Q w (w.alloc (.cells #[.int .u8 97, .int .u8 98] 5 (2, 3)))) := hid ((Q.refl w).alloc _)
  have hcv := Lib.run_convert_bytes_const (P := Tryd.prog) w 23 5 #[.int .u8 97, .int .u8 98] 2 2 Tryd.underlying23 (by kernel_rfl)
  have HF := hid (frame_any (.slice (some ⟨w.heap.size, 0, none⟩) 2 2) [97, 98] _ (ht.on HQ1.out) (ab_mark _) (by simp))
  have HFL : Hid ((frm [97, 98]).length = 10 ∧ ∃ R, frm [97, 98] = 2 :: R) := hid ⟨frm_len _, _, rfl⟩
  have HSC := hid scn_ab
  generalize frm [97, 98] = F at HF HFL HSC
  clear ht
  go_enter Tryd.func6, Tryd.ntmps6
  go_upto_region 2 with (go_at_call 8; refine HF.out.mono ?_; rintro e9 w1 ⟨v1, rfl, ho9, hq9⟩; have HV := hid (own_sb (e := 5) ho9); have HQ2 := hid (HQ1.out.trans hq9); clear ho9 hq9)
  have hln := HFL.out.1
  obtain ⟨a1, c1, rfl, _, _⟩ := HV.out.s.len
  have hla : F.length ≤ 10 := by omega
  have hlb : 10 ≤ F.length := by omega
  clear hln
  go_upto_region 3 with (first
    | (at_builtin; refine wpl_appb rfl _ _ rfl w1.heap.size (.slice none 0 0) [] rfl (own_nil _) _ rfl F HV.out (by simp; omega) (Nat.le_refl _) ?_; intro v2 w2 hown hg; have HO2 : Hid (Own eb 5 1 w1.heap.size w2 v2 F) := hid hown; have HQ3 : Hid (Q w1 w2) := hid ((Below.refl _ w1).grown hg (Nat.le_refl _) (fun k hk => by cases hk)); clear hown hg)
    | (at_builtin; refine wpl_appb rfl _ _ rfl w1.heap.size v2 F rfl (HO2.out.alloc _) _ rfl [7] (sl_lit (W := w2) [7] (by simp)) (by simp; omega) ((HQ3.out.alloc _).size) ?_; intro v3 w3 hown hg; have HO3 : Hid (Own eb 5 1 w1.heap.size w3 v3 (F ++ [7])) := hid hown; have HQ4 : Hid (Q w1 w3) := hid (Below.trans (HQ3.out.alloc _) (below_grown (HO2.out.alloc _) hg (HQ3.out.alloc _).size)); clear hown hg; have HS := hid (scan_any v3 (F ++ [7]) w3 (HT.out.on (HQ2.out.trans HQ4.out)) (own_sb (e := 5) HO3.out) (by rw [List.length_append]; simp; omega)); rw [HSC.out] at HS)
    | (go_at_call 10; refine HS.out.mono ?_; rintro e9 w4 ⟨v4, rfl, hr9, hq9⟩; have HR := hid hr9; have HQ5 := hid ((HQ2.out.trans HQ4.out).trans hq9); have HV5 := hid (HV.out.on (HQ4.out.trans hq9)); clear hr9 hq9))
  obtain ⟨R, hR⟩ := HFL.out.2
  obtain ⟨g, o, cap, e, hc⟩ := sl_cell HV5.out.s (by omega)
  cases e
  have c0 : w4.cell? ⟨g, o, none⟩ = some (.int .u8 2) := by
    have := hc 0 (by omega)
    subst hR
    exact this
  obtain ⟨vs, hv1, hv2, hv3⟩ := HR.out
  obtain ⟨x, rfl⟩ : ∃ x, vs = [x] := by
    rcases vs with _ | ⟨x, _ | ⟨y, l⟩⟩
    · simp at hv1
    · exact ⟨x, rfl⟩
    · simp at hv1
  have hx := hv3 0 (by simp) (by simp)
  simp only [List.getElem_cons_zero] at hx
  obtain ⟨a5, c5, rfl, _, _⟩ := hx.len
  obtain ⟨g6, o6, c6, e, hd⟩ := ev_cell hv2 (by simp)
  cases e
  have d0 : w4.cell? ⟨g6, o6, none⟩ = some (.slice a5 2 c5) := hd 0 (by simp)
  have hcv5 : (convert 23 9 (.slice a5 2 c5)).run Tryd.prog w4 = .ok (.string ⟨#[97, 98]⟩) w4 := sl_conv hx
  have HQ6 : Hid (Q w w4) := hid HQ5.out
  clear hR hc hv1 hv2 hv3 hx hd HR HS HFL HSC HV HV5 HF hcv
  go_wp2_with fail
  go_ret
  exact ⟨rfl, HQ6.out⟩
end Go.Proofs.YtcefpjjefokjjaaDoor
