/- begun: one file is cut. -/
import Derived.Test.YtbknbffmpnomlaaDn
import Derived.Test.YtbknbffmpnomlaaDp
import Derived.Lib.SlBytesConst
namespace Go.Proofs.Ytbknbffmpnomlaa
open Go.RowKit
set_option linter.unusedVariables false
set_option linter.unusedSimpArgs false

/-- all that has been made since -/
def Since (w W : World) : Nat → Prop := fun i => w.heap.size ≤ i ∧ i < W.heap.size
theorem since_lt (w W : World) : Lt (Since w W) W := fun i hi => hi.2
theorem since_new {w W1 W2 W3 : World} (h : w.heap.size ≤ W2.heap.size) (h12 : W1.heap.size ≤ W2.heap.size) (h23 : W2.heap.size ≤ W3.heap.size) : ∀ i, New (Since w W1) W2 W3 i → Since w W3 i := fun i hi => by
  rcases hi with hi | hi
  · exact ⟨hi.1, by have := hi.2; omega⟩
  · exact ⟨by omega, hi.2⟩
theorem Ds.since {w W1 W2 W3 : World} {p n : Nat} {P : Pd} (h : Ds (New (Since w W1) W2 W3) W3 p n P) (h0 : Q w W2) (h12 : Q W1 W2) (q : Qp (Since w W1) W2 W3) : Ds (Since w W3) W3 p n P := h.more (since_new h0.size h12.size q.size)
theorem q_since {w W1 W2 W3 : World} (h0 : Q w W2) (q : Qp (Since w W1) W2 W3) : Q w W3 := q_qp h0 q (fun i hi => hi.1)
theorem conv30 (w : World) (C : Array Value) (n c : Nat) : (convert 30 30 (.slice (some ⟨w.heap.size, 0, none⟩) n c)).run Try.prog (w.alloc (.cells C 5)) = .ok (.slice (some ⟨w.heap.size, 0, none⟩) n c) (w.alloc (.cells C 5 (C.size, C.size + 1))) := Lib.run_convert_bytes_const (P := Try.prog) w 30 5 C n c Try.underlying30 (by kernel_rfl)
theorem sb_lit (w : World) (a b c : UInt8) : Sb (w.alloc (.cells #[.int .u8 a.toNat, .int .u8 b.toNat, .int .u8 c.toNat] 5 (3, 4))) (.slice (some ⟨w.heap.size, 0, none⟩) 3 3) [a, b, c] := by
  have hb := heap_alloc_new w (.cells #[.int .u8 a.toNat, .int .u8 b.toNat, .int .u8 c.toNat] 5 (3, 4))
  refine ⟨⟨_, 3, rfl, Nat.le_refl _, by unfold maxLen; omega, fun _ => ⟨_, 0, rfl, fun i hi => ?_⟩⟩, fun m c h => by cases h⟩
  intro j u hu
  have hj : j = 0 := by
    have := (List.getElem?_eq_some_iff.1 hu).1
    rw [eb_len] at this
    omega
  subst hj
  rw [cell_of_row _ _ _ _ _ _ hb]
  match i, hi with
  | 0, _ => exact hu
  | 1, _ => exact hu
  | 2, _ => exact hu
set_option maxRecDepth 100000 in
set_option maxHeartbeats 4000000 in
theorem begun_any (w : World) : Calls Try.prog 6 #[] w fun e W' => e = .returned (.bool true) ∧ Q w W' := by
  have HNEW := hid (new_any w)
  have hcv := conv30
  go_enter Try.func6, Try.ntmps6
  go_upto_region 2 with (go_at_call 7; refine HNEW.out.mono ?_; rintro e9 w1 ⟨rfl, hd1, hq1, hl1⟩; have HD1 := hid (hd1.more (S' := Since w w1) (fun i hi => by rw [hi]; exact ⟨Nat.le_refl _, hl1⟩)); have HQ1 := hid hq1; clear hd1 hq1 hl1 HNEW)
  have HW1 := hid ((Q.refl w1).alloc (.cells #[.int .u8 120, .int .u8 121, .int .u8 122] 5 (3, 4)))
  have HA := hid (append_any (HD1.out.on (since_lt w w1) HW1.out) (fun i hi => HW1.out.lt (since_lt w w1 i hi)) xa (by decide) ⟨some ⟨w1.heap.size, 0, none⟩, 3, 3⟩ xyz (sb_lit w1 120 121 122) (fun g hg => by cases hg; exact ⟨by simp, fun h => Nat.lt_irrefl _ h.2⟩) (by decide) (by decide) (by decide) (by decide) (by have := bd_new.f xa; omega))
  go_wp2_with (first
    | (go_at_call 9; refine HA.out.mono ?_; rintro e9 w2 ⟨⟨v9, rfl⟩, hd, hq⟩
       have HQA := hid (HQ1.out.trans (Q.trans (Q.refl w1) HW1.out))
       have HD2 : Hid (Ds (Since w w2) w2 w.heap.size 1 P1) := hid (hd.since HQA.out HW1.out hq)
       have HQ2 : Hid (Q w w2) := hid (q_since HQA.out hq)
       clear hd hq HA
       have HR := hid (rename_any HD2.out (since_lt w w2) xa (by decide) xb (by decide) (by rw [p1_ms.1]; decide) (by rw [p1_ms.2]; decide) (by decide)))
    | (go_at_call 11; refine HR.out.mono ?_; rintro e9 w3 ⟨⟨v9, rfl⟩, hd, hq⟩
       have HD3 : Hid (Ds (Since w w3) w3 w.heap.size 2 P2) := hid (hd.since HQ2.out (Q.refl _) hq)
       have HQ3 : Hid (Q w w3) := hid (q_since HQ2.out hq)
       clear hd hq HR
       have HC := hid (cut_any HD3.out (since_lt w w3) p2_wf 2 (by decide) (by decide) (by rw [p2_ms.1]; decide) (by decide) (by rw [p2_ms.2]; decide) (fun x => Nat.le_trans (p2_bd.f x) (by decide)) (fun m hm => Nat.le_trans (p2_bd.m m hm) (by decide))))
    | (go_at_call 15; refine HC.out.mono ?_; rintro e9 w4 ⟨q, n4, rfl, hd, hn4, hq⟩
       have HD4 : Hid (Ds (Since w w3) w4 w.heap.size 2 P2) := hid (HD3.out.on (since_lt w w3) hq)
       have HE4 : Hid (Ds (Since w3 w4) w4 q n4 P3) := hid hd
       have HQ4 : Hid (Q w w4) := hid (HQ3.out.trans (Q.trans (Q.refl _) hq))
       have HL4 : Hid (w3.heap.size ≤ w4.heap.size) := hid hq.size
       clear hd hq HC
       have HRB := hid (read_any HD4.out xb (by decide) (Nat.le_trans (p2_bd.f xb) (by decide)))
       have hpb : (P2.f xb).isSome = true := by rw [p2_b]; rfl
       have hpg : gd P2.f xb = xyz := by unfold gd; rw [p2_b]; rfl
       rw [hpb, hpg] at HRB
       clear hpb hpg)
    | (go_at_call 18; refine HRB.out.mono ?_; rintro e9 w5 ⟨⟨va, vn, vc⟩, rfl, hsb, hgb, hq⟩
       have HD5 : Hid (Ds (Since w w3) w5 w.heap.size 2 P2) := hid (HD4.out.on (fun i hi => Nat.lt_of_lt_of_le hi.2 HL4.out) hq)
       have HE5 : Hid (Ds (Since w3 w4) w5 q n4 P3) := hid (HE4.out.on (since_lt w3 w4) hq)
       have HQ5 : Hid (Q w w5) := hid (HQ4.out.trans (Q.trans (Q.refl _) hq))
       have HS5 : Hid (Sb w5 (sv ⟨va, vn, vc⟩) xyz) := hid hsb
       have HL5 : Hid (w4.heap.size ≤ w5.heap.size) := hid hq.size
       clear hsb hgb hq HRB
       have HRA := hid (read_any HE5.out xa (by decide) (Nat.le_trans (p3_bd.f xa) (by decide)))
       have hpb : (P3.f xa).isSome = true := by rw [p3_a]; rfl
       have hpg : gd P3.f xa = [120, 121] := by unfold gd; rw [p3_a]; rfl
       rw [hpb, hpg] at HRA
       clear hpb hpg
       unfold sv)
    | (go_at_call 18; refine HRA.out.mono ?_; rintro e9 w6 ⟨⟨ua, un, uc⟩, rfl, hsb, hgb, hq⟩
       have HQ6 : Hid (Q w w6) := hid (HQ5.out.trans (Q.trans (Q.refl _) hq))
       have hc5 := sl_conv (HS5.out.on hq).s
       have hc6 := sl_conv hsb.s
       have HU1 := hid (units_any (HD5.out.on (fun i hi => Nat.lt_of_lt_of_le hi.2 (Nat.le_trans HL4.out HL5.out)) hq))
       have HU2 := hid (units_any (HE5.out.on (fun i hi => Nat.lt_of_lt_of_le hi.2 HL5.out) hq))
       rw [p2_ms.2] at HU1
       rw [p3_u] at HU2
       clear hsb hgb hq HRA
       unfold sv)
    | (go_at_call 19; refine HU1.out.mono ?_; rintro e9 w7 ⟨rfl, rfl⟩)
    | (go_at_call 19; refine HU2.out.mono ?_; rintro e9 w7 ⟨rfl, rfl⟩))
  go_ret
  exact ⟨rfl, HQ6.out⟩
end Go.Proofs.Ytbknbffmpnomlaa
