/- DiskPrefix, walked: what is asked. -/
import Derived.Test.YtbknbffmpnomlaaDv
namespace Go.Proofs.Ytbknbffmpnomlaa
open Go.RowKit
set_option linter.unusedVariables false
set_option linter.unusedSimpArgs false

theorem mk_any (n : Nat) (hn : n ≤ 10000000) (W : World) : ∃ W1, (Instr.makeSlice 30 (.int .i64 (n : Int)) (.int .i64 (n : Int))).run Try.prog W = .ok (.slice (some ⟨W.heap.size, 0, none⟩) n n) W1 ∧ Sb W1 (sv ⟨some ⟨W.heap.size, 0, none⟩, n, n⟩) (Z n) ∧ Q W W1 ∧ W.heap.size < W1.heap.size := by
  obtain ⟨i0, hi, hz0, hz1, hz2⟩ := inf_of info5
  obtain ⟨W1, h1, h2, h3⟩ := run_make_full (P := Try.prog) W W.heap.size 30 5 i0 (.int .u8 0) 1 Try.underlying30 hi hz0 hz1 .i64 .i64 n (by rw [hz2]; omega) (by unfold maxLen; omega) (Nat.le_refl _)
  have e : (madeCells (Value.int .u8 0).cells (n * 1)).toList = flat eb (List.replicate n 0) := by
    show (madeCells #[Value.int .u8 0] (n * 1)).toList = _
    rw [toList_madeCells_one, flat_eb, Nat.mul_one]
    unfold bc
    rw [List.map_replicate]
    rfl
  have ho : Own eb 5 1 W.heap.size W1 (.slice (some ⟨W.heap.size, 0, none⟩) n n) (Z n) := by
    rw [e] at h2
    unfold Own Z
    rw [List.length_replicate]
    exact h2
  exact ⟨W1, h1, own_sb (e := 5) (B := W.heap.size) ho, (Below.refl _ W).grown h3 (Nat.le_refl _) (fun k hk => by cases hk), ho.lt _ rfl⟩
theorem read_len {S : Nat → Prop} {w : World} {p n : Nat} {P : Pd} (h : Ds S w p n P) (hl : Lt S w) (x : ByteArray) (hx : x.size ≤ maxLen) (hL : (gd P.f x).length ≤ 1000000000) (o : Option (List UInt8)) (ho : P.f x = o) (l : Nat) (hlo : (o.getD []).length = l) :
    Calls Try.prog 18 #[.pointer (some ⟨p, 0, none⟩), .string x] w fun e W' => ∃ a c, e = .returned (.tuple #[.slice a l c, .bool o.isSome]) ∧ Q w W' := by
  refine (read_any h x hx hL).mono ?_
  rintro e W' ⟨⟨va, vn, vc⟩, rfl, hsb, _, hq⟩
  obtain ⟨ao, cap, e, _, _⟩ := hsb.s.len
  have e : Value.slice va vn vc = .slice ao _ cap := e
  injection e with e1 e2 e3
  subst e1 e2 e3
  have e5 : (gd P.f x).length = l := by unfold gd; rw [ho]; exact hlo
  unfold sv
  rw [ho, e5]
  exact ⟨_, _, rfl, hq⟩
set_option maxRecDepth 100000 in
set_option maxHeartbeats 8000000 in
theorem prefix_in (a b c : Nat) (ha1 : 1 ≤ a) (ha2 : a ≤ 40) (hb1 : 1 ≤ b) (hb2 : b ≤ 40) (hc : (c : Int) ≤ 9223372036854775807) (w : World) : Calls Try.prog 5 #[.int .i64 a, .int .i64 b, .int .i64 c] w fun e W' => e = .returned (.bool true) ∧ Q w W' := by
  have HB := hid (begun_any w)
  have i1 : ¬ (a : Int) < 1 := by omega
  have i2 : ¬ (a : Int) > 40 := by omega
  have i3 : ¬ (b : Int) < 1 := by omega
  have i4 : ¬ (b : Int) > 40 := by omega
  have i5 : ¬ (c : Int) < 0 := by omega
  go_enter Try.func5, Try.ntmps5
  go_upto_region 5 with (go_at_call 6; refine HB.out.mono ?_; rintro e9 w1 ⟨rfl, hq⟩; have HQ1 := hid hq; clear hq)
  clear i1 i2 i3 i4 i5
  have HNEW := hid (new_any w1)
  go_upto_region 7 with (go_at_call 7; refine HNEW.out.mono ?_; rintro e9 w2 ⟨rfl, hd1, hq1, hl1⟩; have HD2 := hid (hd1.more (S' := Since w w2) (fun i hi => by rw [hi]; exact ⟨HQ1.out.size, hl1⟩)); have HQ2 := hid (HQ1.out.trans (Q.trans (Q.refl _) hq1)); clear hd1 hq1 hl1 HNEW)
  obtain ⟨W2, hm2, hs2, hq2, hl2⟩ := mk_any a (by omega) w2
  have HW2 := hid hq2
  have HA := hid (append_any (HD2.out.on (since_lt w w2) hq2) (fun i hi => hq2.lt (since_lt w w2 i hi)) xf (by decide) ⟨some ⟨w2.heap.size, 0, none⟩, a, a⟩ (Z a) hs2 (fun g hg => by cases hg; exact ⟨hl2, fun h => Nat.lt_irrefl _ h.2⟩) (by decide) (by decide) (by decide) (by rw [Z_len]; omega) (Nat.le_trans (bd_new.f xf) (by decide)))
  clear hs2 hq2 hl2
  go_upto_region 8 with (go_at_call 9; refine HA.out.mono ?_; rintro e9 w3 ⟨⟨v9, rfl⟩, hd, hq⟩
                         have HQA := hid (HQ2.out.trans (Q.trans (Q.refl w2) HW2.out))
                         have HD3 : Hid (Ds (Since w w3) w3 w1.heap.size 1 (G1 a)) := hid (hd.since HQA.out HW2.out hq)
                         have HQ3 : Hid (Q w w3) := hid (q_since HQA.out hq)
                         clear hd hq HA)
  clear hm2
  have HSY := hid (sync_any HD3.out)
  go_upto_region 9 with (go_at_call 13; refine HSY.out.mono ?_; rintro e9 w4 ⟨⟨v9, rfl⟩, hd, hq⟩
                         have HD4 : Hid (Ds (Since w w4) w4 w1.heap.size 1 (G2 a)) := hid (hd.more (fun i hi => ⟨hi.1, Nat.lt_of_lt_of_le hi.2 hq.size⟩))
                         have HQ4 : Hid (Q w w4) := hid (q_since HQ3.out hq)
                         clear hd hq HSY)
  have e2 : (G2 a).ms.length = 0 ∧ (G2 a).u = a := by rw [g2 a ha1]; exact ⟨rfl, rfl⟩
  have HCR := hid (create_any HD4.out (since_lt w w4) xg (by decide) (by omega) (by omega) (by decide))
  clear e2
  go_upto_region 10 with (go_at_call 10; refine HCR.out.mono ?_; rintro e9 w5 ⟨⟨v9, rfl⟩, hd, hq⟩
                          have HD5 : Hid (Ds (Since w w5) w5 w1.heap.size 2 (G3 a)) := hid (hd.since HQ4.out (Q.refl _) hq)
                          have HQ5 : Hid (Q w w5) := hid (q_since HQ4.out hq)
                          clear hd hq HCR)
  obtain ⟨W5, hm5, hs5, hq5, hl5⟩ := mk_any b (by omega) w5
  have HW5 := hid hq5
  have e3 : (G3 a).ms.length = 1 ∧ (G3 a).u = a + 1 := by rw [g3 a ha1]; exact ⟨rfl, rfl⟩
  have HA := hid (append_any (HD5.out.on (since_lt w w5) hq5) (fun i hi => hq5.lt (since_lt w w5 i hi)) xg (by decide) ⟨some ⟨w5.heap.size, 0, none⟩, b, b⟩ (Z b) hs5 (fun g hg => by cases hg; exact ⟨hl5, fun h => Nat.lt_irrefl _ h.2⟩) (by omega) (by omega) (by decide) (by rw [Z_len]; omega) (Nat.le_trans ((g3_bd a).f xg) (by omega)))
  clear hs5 hq5 hl5 e3
  go_upto_region 11 with (go_at_call 9; refine HA.out.mono ?_; rintro e9 w6 ⟨⟨v9, rfl⟩, hd, hq⟩
                          have HQA := hid (HQ5.out.trans (Q.trans (Q.refl w5) HW5.out))
                          have HD6 : Hid (Ds (Since w w6) w6 w1.heap.size 3 (G4 a b)) := hid (hd.since HQA.out HW5.out hq)
                          have HQ6 : Hid (Q w w6) := hid (q_since HQA.out hq)
                          clear hd hq HA)
  clear hm5
  have e4 : (G4 a b).ms.length = 2 ∧ (G4 a b).u = a + 1 + b := by rw [g4 a b ha1 hb1]; exact ⟨rfl, rfl⟩
  have HR := hid (rename_any HD6.out (since_lt w w6) xg (by decide) xf (by decide) (by omega) (by omega) (by decide))
  clear e4
  go_upto_region 12 with (go_at_call 11; refine HR.out.mono ?_; rintro e9 w7 ⟨⟨v9, rfl⟩, hd, hq⟩
                          have HD7 : Hid (Ds (Since w w7) w7 w1.heap.size 4 (G5 a b)) := hid (hd.since HQ6.out (Q.refl _) hq)
                          have HQ7 : Hid (Q w w7) := hid (q_since HQ6.out hq)
                          clear hd hq HR)
  have HU := hid (units_any HD7.out)
  have e5 : (G5 a b).u = a + b + 2 ∧ (G5 a b).s = a ∧ (G5 a b).ms.length = 4 := by rw [g5 a b ha1 hb1]; exact ⟨rfl, rfl, rfl⟩
  rw [e5.1] at HU
  have E5 := hid e5
  go_wp2_with (go_at_call 19; refine HU.out.mono ?_; rintro e9 w8 ⟨rfl, rfl⟩)
  obtain ⟨m, hm⟩ : ∃ m : Nat, m = c % (a + b + 2 + 1) := ⟨_, rfl⟩
  have hml : m ≤ a + b + 2 := by have := Nat.mod_lt c (show 0 < a + b + 2 + 1 by omega); omega
  have hmod : (c : Int) % ((a : Int) + b + 2 + 1) = (m : Int) := by rw [hm]; push_cast; rfl
  rw [hmod]
  have HM := hid hmod
  have hnear : (G5 a b).near (m : Int) = max m a := by unfold Pd.near; rw [E5.out.1, E5.out.2.1]; omega
  have hcf : ((G5 a b).cut (m : Int)).f = (G5 a b).at (max m a) := by unfold Pd.cut; rw [hnear]
  obtain ⟨k, hk⟩ : ∃ k : Nat, max m a = a + k := ⟨max m a - a, by omega⟩
  rw [hk] at hcf
  have hk2 : k ≤ b + 2 := by omega
  have hmax : max (m : Int) (a : Int) = (a : Int) + k := by omega
  have HC := hid (cut_any HD7.out (since_lt w w8) (g_wf a b) (m : Int) (by omega) (by omega) (by omega) (by decide) (by omega) (fun x => Nat.le_trans ((g5_bd a b).f x) (by omega)) (fun m hm => Nat.le_trans ((g5_bd a b).m m hm) (by omega)))
  obtain ⟨hA, hB⟩ := g_cut a b ha1 hb1 (a + k) (by omega) (by omega)
  rw [← hcf] at hA hB
  by_cases h1 : k = b + 2
  · obtain ⟨f1, f2⟩ := hA (by omega)
    have F0 : Hid (((G5 a b).cut (m : Int)).f xf = some (Z b) ∧ ((G5 a b).cut (m : Int)).f xg = none ∧ (Z b).length = b ∧ ([] : List UInt8).length = 0) := hid ⟨f1, f2, Z_len b, rfl⟩
    have hsub : (a : Int) + k - a = (b : Int) + 2 := by omega
    clear hA hB f1 f2 hcf hk hnear hml hm
    rw [show k = b + 2 from h1] at hmax
    have hmax' : max (m : Int) (a : Int) = (a : Int) + ((b : Int) + 2) := by rw [hmax]; push_cast; rfl
    have hsub' : (a : Int) + ((b : Int) + 2) - a = (b : Int) + 2 := by omega
    clear hmax hsub h1 hk2
    go_wp2_with (first
      | (go_at_call 15; refine HC.out.mono ?_; rintro e9 w9 ⟨q, n9, rfl, hd, hn9, hq⟩
         have HSZ := hid hq.size
         have HD9 := hid hd
         have HD8 := hid (HD7.out.on (since_lt w w8) hq)
         have HQ9 := hid (HQ7.out.trans (Q.trans (Q.refl _) hq))
         clear hd hq HC
         have HRF := hid (read_len HD9.out (fun i hi => hi.2) xf (by decide) (Nat.le_trans (((g5_bd a b).cut (m : Int)).f xf) (by omega)) (some (Z b)) F0.out.1 b (by rw [Option.getD_some]; exact F0.out.2.2.1)))
      | (go_at_call 18; refine HRF.out.mono ?_; rintro e9 w10 ⟨va, vc, rfl, hq⟩
         have HD10 := hid (HD9.out.on (fun i hi => hi.2) hq)
         have HD8b := hid (HD8.out.on (fun i hi => Nat.lt_of_lt_of_le hi.2 HSZ.out) hq)
         have HSZ1 := hid (Nat.le_trans HSZ.out hq.size)
         have HQ10 := hid (HQ9.out.trans (Q.trans (Q.refl _) hq))
         have HRG := hid (read_len HD10.out (fun i hi => Nat.lt_of_lt_of_le hi.2 hq.size) xg (by decide) (Nat.le_trans (((g5_bd a b).cut (m : Int)).f xg) (by omega)) (none) F0.out.2.1 0 F0.out.2.2.2)
         clear hq HRF)
      | (go_at_call 18; refine HRG.out.mono ?_; rintro e9 w11 ⟨ua, uc, rfl, hq⟩
         have HU2 := hid (units_any (HD8b.out.on (fun i hi => Nat.lt_of_lt_of_le hi.2 HSZ1.out) hq))
         rw [E5.out.1] at HU2
         have HQ11 := hid (HQ10.out.trans (Q.trans (Q.refl _) hq))
         clear hq HRG)
      | (go_at_call 19; refine HU2.out.mono ?_; rintro e9 w12 ⟨rfl, rfl⟩))
    go_ret
    exact ⟨rfl, HQ11.out⟩
  by_cases h2 : k = 0
  · obtain ⟨f1, f2, _⟩ := hB (by omega)
    have f2 := f2 (by omega)
    have F0 : Hid (((G5 a b).cut (m : Int)).f xf = some (Z a) ∧ ((G5 a b).cut (m : Int)).f xg = none ∧ (Z a).length = a ∧ ([] : List UInt8).length = 0) := hid ⟨f1, f2, Z_len a, rfl⟩
    have hmax' : max (m : Int) (a : Int) = (a : Int) := by omega
    have hn1 : ¬ (0 : Int) = (b : Int) + 2 := by omega
    clear hA hB f1 f2 hcf hk hnear hml hm hmax h1 h2 hk2
    go_wp2_with (first
      | (go_at_call 15; refine HC.out.mono ?_; rintro e9 w9 ⟨q, n9, rfl, hd, hn9, hq⟩
         have HSZ := hid hq.size
         have HD9 := hid hd
         have HD8 := hid (HD7.out.on (since_lt w w8) hq)
         have HQ9 := hid (HQ7.out.trans (Q.trans (Q.refl _) hq))
         clear hd hq HC
         have HRF := hid (read_len HD9.out (fun i hi => hi.2) xf (by decide) (Nat.le_trans (((g5_bd a b).cut (m : Int)).f xf) (by omega)) (some (Z a)) F0.out.1 a (by rw [Option.getD_some]; exact F0.out.2.2.1)))
      | (go_at_call 18; refine HRF.out.mono ?_; rintro e9 w10 ⟨va, vc, rfl, hq⟩
         have HD10 := hid (HD9.out.on (fun i hi => hi.2) hq)
         have HD8b := hid (HD8.out.on (fun i hi => Nat.lt_of_lt_of_le hi.2 HSZ.out) hq)
         have HSZ1 := hid (Nat.le_trans HSZ.out hq.size)
         have HQ10 := hid (HQ9.out.trans (Q.trans (Q.refl _) hq))
         have HRG := hid (read_len HD10.out (fun i hi => Nat.lt_of_lt_of_le hi.2 hq.size) xg (by decide) (Nat.le_trans (((g5_bd a b).cut (m : Int)).f xg) (by omega)) (none) F0.out.2.1 0 F0.out.2.2.2)
         clear hq HRF)
      | (go_at_call 18; refine HRG.out.mono ?_; rintro e9 w11 ⟨ua, uc, rfl, hq⟩
         have HU2 := hid (units_any (HD8b.out.on (fun i hi => Nat.lt_of_lt_of_le hi.2 HSZ1.out) hq))
         rw [E5.out.1] at HU2
         have HQ11 := hid (HQ10.out.trans (Q.trans (Q.refl _) hq))
         clear hq HRG)
      | (go_at_call 19; refine HU2.out.mono ?_; rintro e9 w12 ⟨rfl, rfl⟩))
    go_ret
    exact ⟨rfl, HQ11.out⟩
  obtain ⟨j, rfl⟩ : ∃ j, k = j + 1 := ⟨k - 1, by omega⟩
  obtain ⟨f1, _, f2⟩ := hB (by omega)
  obtain ⟨L, f2, f3⟩ := f2 (by omega)
  have F0 : Hid (((G5 a b).cut (m : Int)).f xf = some (Z a) ∧ ((G5 a b).cut (m : Int)).f xg = some L ∧ (Z a).length = a ∧ L.length = j) := hid ⟨f1, f2, Z_len a, by omega⟩
  have hmax' : max (m : Int) (a : Int) = (a : Int) + ((j : Int) + 1) := by omega
  have hsub' : (a : Int) + ((j : Int) + 1) - a = (j : Int) + 1 := by omega
  have hn1 : ¬ (j : Int) + 1 = (b : Int) + 2 := by omega
  have hn2 : (0 : Int) < (j : Int) + 1 := by omega
  have hn3 : max (j : Int) 0 = (j : Int) := by omega
  have hj : (j : Int) ≤ 100 := by omega
  clear hA hB f1 f2 f3 hcf hk hnear hml hm hmax h1 h2 hk2
  go_wp2_with (first
    | (go_at_call 15; refine HC.out.mono ?_; rintro e9 w9 ⟨q, n9, rfl, hd, hn9, hq⟩
       have HSZ := hid hq.size
       have HD9 := hid hd
       have HD8 := hid (HD7.out.on (since_lt w w8) hq)
       have HQ9 := hid (HQ7.out.trans (Q.trans (Q.refl _) hq))
       clear hd hq HC
       have HRF := hid (read_len HD9.out (fun i hi => hi.2) xf (by decide) (Nat.le_trans (((g5_bd a b).cut (m : Int)).f xf) (by omega)) (some (Z a)) F0.out.1 a (by rw [Option.getD_some]; exact F0.out.2.2.1)))
    | (go_at_call 18; refine HRF.out.mono ?_; rintro e9 w10 ⟨va, vc, rfl, hq⟩
       have HD10 := hid (HD9.out.on (fun i hi => hi.2) hq)
       have HD8b := hid (HD8.out.on (fun i hi => Nat.lt_of_lt_of_le hi.2 HSZ.out) hq)
       have HSZ1 := hid (Nat.le_trans HSZ.out hq.size)
       have HQ10 := hid (HQ9.out.trans (Q.trans (Q.refl _) hq))
       have HRG := hid (read_len HD10.out (fun i hi => Nat.lt_of_lt_of_le hi.2 hq.size) xg (by decide) (Nat.le_trans (((g5_bd a b).cut (m : Int)).f xg) (by omega)) (some L) F0.out.2.1 j F0.out.2.2.2)
       clear hq HRF)
    | (go_at_call 18; refine HRG.out.mono ?_; rintro e9 w11 ⟨ua, uc, rfl, hq⟩
       have HU2 := hid (units_any (HD8b.out.on (fun i hi => Nat.lt_of_lt_of_le hi.2 HSZ1.out) hq))
       rw [E5.out.1] at HU2
       have HQ11 := hid (HQ10.out.trans (Q.trans (Q.refl _) hq))
       clear hq HRG)
    | (go_at_call 19; refine HU2.out.mono ?_; rintro e9 w12 ⟨rfl, rfl⟩))
  go_ret
  exact ⟨rfl, HQ11.out⟩
end Go.Proofs.Ytbknbffmpnomlaa
