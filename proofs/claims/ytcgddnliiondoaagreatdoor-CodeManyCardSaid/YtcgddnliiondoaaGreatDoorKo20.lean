/- CodeMany, walked. -/
import Derived.Test.YtcgddnliiondoaaGreatDoorKo19
set_option linter.unusedVariables false
set_option linter.unusedSimpArgs false
set_option maxRecDepth 100000
set_option maxHeartbeats 8000000
namespace Go.Proofs.YtcgddnliiondoaaGreatDoor
open Go.RowKit
def many (n : Nat) : List Rv := (List.range n).map xSet
theorem many_len (n : Nat) : (many n).length = n := by simp [many]
theorem many_snoc (n : Nat) : many (n + 1) = many n ++ [xSet n] := by simp [many, List.range_succ]
theorem many_mem {n : Nat} {x : Rv} (h : x ∈ many n) : ∃ i, i < n ∧ x = xSet i := by
  simp only [many, List.mem_map, List.mem_range] at h
  obtain ⟨i, hi, rfl⟩ := h
  exact ⟨i, hi, rfl⟩
theorem many_t {n : Nat} (hn : n ≤ 128) (w : World) (hg : Gd w) : ∀ x ∈ many n, OpT w x (mb x) (ob x) := fun x hx => by
  obtain ⟨i, hi, rfl⟩ := many_mem hx
  exact opt_set i (by omega) w hg
theorem many_all (n : Nat) : (many n).all mb = true := List.all_eq_true.2 fun x hx => by
  obtain ⟨i, hi, rfl⟩ := many_mem hx
  rfl
theorem many_take {n m : Nat} (h : m ≤ n) : (many n).take m = many m := by
  unfold many
  rw [← List.map_take, List.take_range, Nat.min_eq_left h]
theorem many_at (n i : Nat) (h : i < n) : (many n)[i]'(by rw [many_len]; exact h) = xSet i := by simp [many]
theorem run_to22 (W : World) (ao : Option Addr) (n cap k : Nat) (hk : k ≤ n) (hn : n ≤ cap) (hc : cap ≤ maxLen) : (Instr.sliceAt 22 (.slice ao n cap) none (some (.int .i64 k)) none).run Tryz.prog W = .ok (.slice (if cap = 0 then ao else ao.map (·.add 0)) k cap) W := by
  have u22 := Tryz.underlying22
  have h1 : (cap : Int) ≤ 9223372036854775807 := by unfold maxLen at hc; omega
  have h2 : (k : Int) ≤ (n : Int) := by omega
  have h3 : (n : Int) ≤ (cap : Int) := by omega
  have h4 : (k : Int) ≤ (cap : Int) := by omega
  go_simp
theorem cut_to22 {w0 : World} {ao : Option Addr} {n cap : Nat} {D : List Rv} (h : Sl Rv.L 23 w0 (.slice ao n cap) D) (k : Nat) (hk : k ≤ D.length) : Sl Rv.L 23 w0 (.slice (if cap = 0 then ao else ao.map (·.add 0)) k cap) (D.take k) := by
  obtain ⟨ao', cap', hv, h1, h2, h⟩ := h
  cases hv
  refine ⟨_, _, by rw [List.length_take]; congr 1; omega, by rw [List.length_take]; omega, h2, fun hl => ?_⟩
  rw [List.length_take] at hl
  obtain ⟨g, o, rfl, hc⟩ := h (by omega)
  refine ⟨g, o, ?_, fun i hi => ?_⟩
  · rw [if_neg (by omega)]
    show some ((⟨g, o, none⟩ : Addr).add 0) = _
    rw [add_lit]
    rfl
  · rw [List.length_take] at hi
    rw [List.getElem_take]
    exact hc i (by omega)
set_option maxHeartbeats 8000000 in
theorem codemany_any (w : World) (hg : Gd w) : Calls Tryz.prog 7 #[] w fun e V' => e = .returned (.bool true) ∧ Q w V' := by
  obtain ⟨i0, HI⟩ := inf_of info35y
  have HI := hid HI
  have HG := hid hg
  clear hg
  go_enter Tryz.func7, Tryz.ntmps7
  go_wp2_with fail
  go_loopw [1, 2] (fun o s W => ∃ (n : Nat), n ≤ 33 ∧ s = .int .i64 n ∧ Hid (Own Rv.L 54 23 w.heap.size W o (many n)) ∧ Hid (Q w W)) (fun _ s _ => 33 - (intOf s).toNat)
  case atStart => exact ⟨0, by omega, rfl, hid (own_nil _), hid (Q.refl _)⟩
  case round =>
    obtain ⟨n, hn, rfl, hown, hq⟩ := hrel
    have HOW := hown
    have HQ := hq
    clear hown hq
    by_cases hlt : n < 33
    · have hlt' : (n : Int) < 33 := by omega
      have HLN : Hid ((many n).length = n) := hid (many_len n)
      go_wp2_with (first
        | (with_reducible refine wpl_buildt 54 _ (by with_unfolding_all rfl) (by with_unfolding_all rfl) (xSet n).L.toArray (by kernel_rfl) ?_)
        | (with_reducible refine wpl_bsl 1 _ (by with_unfolding_all rfl) (by with_unfolding_all rfl) [xSet n] (by decide) (by kernel_rfl) ?_)
        | (at_builtin; refine wpList_append_own (w := wr.alloc (.cells (flat Rv.L [xSet n]).toArray 54)) rfl _ _ 22 rfl w.heap.size 54 i0 (.agg zero23) 23 264 Tryz.underlying22 HI.out.1 HI.out.2.1 HI.out.2.2.1 HI.out.2.2.2 rfl (by decide) _ _ _ rfl (HOW.out.alloc _) _ 1 1 (xSet n).L rfl rfl ?c1 ?c2 ?c3 ?c4 ?c5 ?_))
      case c1 => rw [flat_y]; exact news_new wr (xSet n).L 54
      case c2 => exact (xSet n).ones
      case c3 => unfold maxLen; have := HLN.out; omega
      case c4 => have := HLN.out; omega
      case c5 => have := HQ.out.size; simp; omega
      intro v3 w3 hown3 hgrow _
      have HO3 := hid (own_snoc' (enc := Rv.L) (x := xSet n) hown3 (by have := HLN.out; omega))
      have HQ3 : Hid (Q w w3) := hid (Below.grown (HQ.out.alloc _) hgrow (by have := HQ.out.size; simp; omega) (HOW.out.blk))
      clear hown3 hgrow HOW HQ
      go_wp2_with fail
      go_roundw
      case rel => exact ⟨n + 1, by omega, by go_num, hid (by rw [many_snoc]; exact HO3.out), HQ3⟩
      case measure => simp [intOf]; omega
    · obtain rfl : n = 33 := by omega
      have HS : Hid (Sl Rv.L 23 wr u1 (many 33)) := hid (HOW.out.sl Rv.len (by decide))
      clear HOW
      obtain ⟨ao, cap, rfl, h1, h2⟩ := HS.out.len
      rw [many_len] at h1 HS ⊢
      have HS32 := hid (cut_to22 HS.out 32 (by rw [many_len]; decide))
      rw [many_take (by decide)] at HS32
      have hT : ∀ W, (Instr.sliceAt 22 (.slice ao 33 cap) none (some (.int .i64 32)) none).run Tryz.prog W = .ok (.slice (if cap = 0 then ao else ao.map (·.add 0)) 32 cap) W := fun W => run_to22 W ao 33 cap 32 (by decide) h1 h2
      generalize (if cap = 0 then ao else ao.map (·.add 0)) = a2 at HS32 hT
      clear h1 h2
      have HE1 := hid (encode_t _ (many 32) mb ob wr HS32.out (many_t (by decide) wr (HG.out.on HQ.out)))
      rw [many_len, many_all] at HE1
      go_upto_region 7 with (go_at_call 10; refine HE1.out.mono ?_; rintro e9 w2 ⟨hq9, he9, _⟩; obtain ⟨vb, rfl, hs9⟩ := he9 rfl; have Q2 := hid (HQ.out.trans hq9); have VB := hid hs9; have S2 := hid (HS.out.on hq9); clear hq9 he9 hs9)
      clear HE1 HS HS32 hT HQ
      have HD1 := hid (decode_any vb (many 32) mb ob w2 (by rw [many_len]; decide) (many_all 32) (many_t (by decide) w2 (HG.out.on Q2.out)) (by rw [many_len]; exact VB.out))
      go_upto_region 8 with (go_at_call 12; refine HD1.out.mono ?_; rintro e9 w3 ⟨hq9, vd, rfl, hs9⟩; have Q3 := hid (Q2.out.trans hq9); have VD := hid hs9; have S3 := hid (S2.out.on hq9); clear hq9 hs9)
      clear HD1 VB S2 Q2
      have HE2 := hid (encode_t _ (many 33) mb ob w3 S3.out (many_t (by decide) w3 (HG.out.on Q3.out)))
      rw [many_len, many_all] at HE2
      go_upto_region 9 with (go_at_call 10; refine HE2.out.mono ?_; rintro e9 w4 ⟨hq9, _, he9⟩; have hh := he9 rfl; subst hh; have Q4 := hid (Q3.out.trans hq9); have VD4 := hid (VD.out.on hq9); clear hq9 he9)
      clear HE2 VD S3 Q3
      have HE3 := hid (encode_t (.slice none 0 0) [] mb ob w4 (sl_nil w4) (fun x hx => absurd hx (by simp)))
      go_upto_region 10 with (go_at_call 10; refine HE3.out.mono ?_; rintro e9 w5 ⟨hq9, he9, _⟩; obtain ⟨vc, rfl, hs9⟩ := he9 rfl; have Q5 := hid (Q4.out.trans hq9); have VC := hid hs9; have VD5 := hid (VD4.out.on hq9); clear hq9 he9 hs9)
      clear HE3 VD4 Q4
      have HD2 := hid (decode_any vc [] mb ob w5 (by decide) rfl (fun x hx => absurd hx (by simp)) VC.out)
      go_upto_region 11 with (go_at_call 12; refine HD2.out.mono ?_; rintro e9 w6 ⟨hq9, ve, rfl, hs9⟩; have Q6 := hid (Q5.out.trans hq9); have VE := hid hs9; have VD6 := hid (VD5.out.on hq9); clear hq9 hs9)
      clear HD2 VC VD5 Q5
      obtain ⟨ae, ce, rfl, _, _⟩ := VE.out.len
      clear VE
      obtain ⟨g, off, cd, e, _, _, hc⟩ := VD6.out.at (i := 31) (by rw [many_len]; decide)
      cases e
      have HA : Hid (∀ V, Q w6 V → V.cell? ⟨g, off + 715, none⟩ = some (.int .i64 31)) := hid (fun V q => by
        have h9 := (hc.on q) 2 (.int .i64 31) (by rw [many_at 32 31 (by decide)]; rfl)
        simpa using h9)
      clear hc VD6
      rw [many_len] at *
      go_wp2_with (go_at_call 8; refine (begun_any _ (HG.out.on Q6.out)).mono ?_; rintro e9 w7 ⟨rfl, hq9⟩; have d1 := HA.out _ hq9; have Q7 := hid (Q6.out.trans hq9); clear hq9)
      go_ret
      exact ⟨rfl, Q7.out⟩
end Go.Proofs.YtcgddnliiondoaaGreatDoor
