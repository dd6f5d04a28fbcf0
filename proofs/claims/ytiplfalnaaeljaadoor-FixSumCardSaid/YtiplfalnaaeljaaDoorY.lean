/- The law FixSum, walked: it returns true for every slice of numbers. -/
import Derived.Test.YtiplfalnaaeljaaDoorY0
namespace Go.Proofs.YtiplfalnaaeljaaDoor
open Go.RowKit
set_option linter.unusedVariables false

theorem dg_zero : Dg 0 0 0 0 0 0 0 := ⟨by omega, by omega, by omega, by omega, by omega, by omega, by omega, by omega, by omega, by omega, by omega, by omega, by omega⟩

set_option maxHeartbeats 1000000 in
theorem rsum_nil (w : World) :
    Calls Tryd.prog 19 #[.slice none 0 0] w fun e w' => e = .returned (.tuple #[.int .i64 0, .bool true]) ∧ Q w w' := by
  have L := hid (fun W => less_any 0 0 0 0 0 0 0 0 0 0 0 0 0 0 W dg_zero dg_zero)
  have M := hid (fun W => minus_any 0 0 0 0 0 0 0 0 0 0 0 0 0 0 W dg_zero dg_zero (by omega))
  have ed : decide ((0 : Int) < 0) = false := rfl
  rw [ed] at L
  have RU : ∀ o, Row ((w.alloc (.cells #[.int .u64 0, .int .u64 0, .int .u64 0, .int .u64 0, .int .u64 0, .int .u64 0] 45)).alloc o) w.heap.size 0 0 0 0 0 0 := fun o => (row_new w 45 0 0 0 0 0 0).on ((Q.refl _).alloc _)
  have RV : Row ((w.alloc (.cells #[.int .u64 0, .int .u64 0, .int .u64 0, .int .u64 0, .int .u64 0, .int .u64 0] 45)).alloc (.cells #[.int .u64 0, .int .u64 0, .int .u64 0, .int .u64 0, .int .u64 0, .int .u64 0] 45)) (w.heap.size + 1) 0 0 0 0 0 0 := by
    have h := row_new (w.alloc (.cells #[.int .u64 0, .int .u64 0, .int .u64 0, .int .u64 0, .int .u64 0, .int .u64 0] 45)) 45 0 0 0 0 0 0
    simp only [World.size_alloc] at h
    exact h
  have R1 := hid (RU (.cells #[.int .u64 0, .int .u64 0, .int .u64 0, .int .u64 0, .int .u64 0, .int .u64 0] 45))
  have R2 := hid RV
  clear RU RV ed
  go_enter Tryd.func19, Tryd.ntmps19
  go_wp2
  refine wp_loop_rounds 1 ?_
  rw [rounds_succ]
  go_wp2_with (first
    | (go_at_call 36; refine (L.out _).mono ?_; rintro e w5 ⟨rfl, q5⟩; have j1 := R1.out.on q5; have j2 := R2.out.on q5; have x0 := j1.c0; have x1 := j1.c1; have x2 := j1.c2; have x3 := j1.c3; have x4 := j1.c4; have x5 := j1.c5; have y0 := j2.c0; have y1 := j2.c1; have y2 := j2.c2; have y3 := j2.c3; have y4 := j2.c4; have y5 := j2.c5)
    | (go_at_call 37; refine (M.out _).mono ?_; rintro e w6 ⟨⟨t0, t1, t2, t3, t4, t5, rfl, dt⟩, q6⟩)
    | (go_at_call 28; refine (fix_any t0 t1 t2 t3 t4 t5 _ false _ dt).mono ?_; rintro e w7 ⟨rfl, q7⟩))
  go_ret2
  exact ⟨ret_two (by decide +kernel) (by decide +kernel), ((((Q.refl w).alloc _).alloc _).trans q5).trans (q6.trans q7)⟩

theorem info22 : (Tryd.prog.info? 22).map (fun i => (i.zero, i.size, i.bytes)) = some (some (.int .i64 0), 1, 8) := by kernel_rfl

theorem own_block {W : World} {B n : Nat} {v : Value} {xs : List Value} (h : W.ownsRow B 22 1 v n xs) : ∀ k, v.ownBlock = some k → B ≤ k := by
  intro k hk
  obtain ⟨_, h⟩ := h
  rcases h with ⟨hv, _⟩ | ⟨g, cap, cur, hv, hg, _⟩
  · rw [hv] at hk; cases hk
  · rw [hv] at hk
    cases hk
    exact hg

set_option maxHeartbeats 2000000 in
theorem fsum_nil (w : World) (hw : Std w) :
    Calls Tryd.prog 4 #[.slice none 0 0] w fun e w' => e = .returned (.bool true) ∧ Q w w' := by
  go_enter Tryd.func4, Tryd.ntmps4
  go_wp2_with (go_at_call 9; refine (begun_any _ hw).mono ?_; rintro e w1 ⟨rfl, q1⟩)
  refine wp_loop_rounds 1 ?_
  rw [rounds_succ]
  go_wp2_with fail
  refine (sum_nil _).mono ?_
  rintro e w2 ⟨rfl, q2⟩
  go_wp2_with fail
  refine (sum_nil _).mono ?_
  rintro e w3 ⟨rfl, q3⟩
  go_wp2_with fail
  refine (rsum_nil _).mono ?_
  rintro e w4 ⟨rfl, q4⟩
  go_wp2
  go_ret
  exact ⟨rfl, ((q1.trans q2).trans q3).trans q4⟩

set_option maxHeartbeats 4000000 in
set_option maxRecDepth 100000 in
theorem fsum_row (b off len cap n : Nat) (zs : List Int) (w : World) (hw : Std w) (hlen : (len ≤ 40 ∧ n = len) ∨ (40 < len ∧ n = 40)) (hcap : len ≤ cap) (hm : cap ≤ 9223372036854775807) (hl : zs.length = n) (hf : ∀ i, i < n → Fx (zs.getD i 0))
    (hc : ∀ i, i < n → w.cell? ⟨b, off + i, none⟩ = some (.int .i64 (zs.getD i 0))) :
    Calls Tryd.prog 4 #[.slice (some ⟨b, off, none⟩) len cap] w fun e w' => e = .returned (.bool true) ∧ Q w w' := by
  have HC := hid hc
  have HF := hid hf
  have HL := hid hl
  have hn40 : n ≤ 40 := by omega
  clear hc hf hl
  obtain ⟨i0, hi, hz⟩ := Option.map_eq_some_iff.1 info22
  simp only [Prod.mk.injEq] at hz
  obtain ⟨hz0, hz1, hz2⟩ := hz
  have HI := hid hi
  have HZ := hid (And.intro hz0 (And.intro hz1 hz2))
  clear hi hz0 hz1 hz2
  rcases hlen with ⟨hle, rfl⟩ | ⟨hgt, rfl⟩
  · have hdec : decide ((40 : Int) < (n : Int)) = false := by simp; omega
    go_enter Tryd.func4, Tryd.ntmps4
    go_wp2_with (go_at_call 9; refine (begun_any _ hw).mono ?_; rintro e w1 ⟨rfl, q1⟩)
    go_loopw [4, 5] (fun v i W => ∃ j : Nat, j ≤ n ∧ i = .int .i64 ((j : Int) - 1) ∧ W.ownsRow w1.heap.size 22 1 v (n - j) ((zs.drop j).reverse.map (Value.int .i64)) ∧ Q w1 W) (fun _ i _ => (intOf i + 1).toNat)
    case atStart =>
      refine ⟨n, Nat.le_refl _, by simp, ?_, Q.refl _⟩
      rw [List.drop_of_length_le (by have := HL.out; omega), Nat.sub_self]
      exact World.ownsRow_nil _ _ _ _
    case round =>
      obtain ⟨j, hj, rfl, hown, hq⟩ := hrel
      rcases j with _ | i
      · have hS : Hid (zs.reverse.sum = zs.sum) := sum_rev zs
        have hz : ((0 : Nat) : Int) - 1 < 0 := by omega
        have HOW : Hid (wr.ownsRow w1.heap.size 22 1 u4 n (zs.reverse.map (Value.int .i64))) := by
          have h := hown
          rw [List.drop_zero, Nat.sub_zero] at h
          exact h
        have hQ := q1.trans hq
        have FR : Hid (∀ i, i < n → Fx (zs.reverse.getD i 0)) := by
          intro i hi
          have hl := HL.out
          have e : zs.reverse.getD i 0 = zs.getD (n - 1 - i) 0 := by
            simp only [List.getD_eq_getElem?_getD]
            rw [List.getElem?_reverse (by omega), hl]
          rw [e]
          exact HF.out _ (by omega)
        clear hown
        by_cases hn0 : n = 0
        · subst hn0
          have hzs : zs = [] := List.eq_nil_of_length_eq_zero HL.out
          subst hzs
          have ez : keep ([] : List Int).sum = 0 := by decide +kernel
          have ef : fitB ([] : List Int).sum = true := by decide +kernel
          have CL : ∀ W : World, ∀ i, i < 0 → W.cell? ⟨b, off + i, none⟩ = some (.int .i64 (([] : List Int).getD i 0)) := fun W i hi => absurd hi (by omega)
          have FN : ∀ i, i < 0 → Fx (([] : List Int).getD i 0) := fun i hi => absurd hi (by omega)
          have A1 := hid (fun W => sum_row b off 0 cap [] W rfl (by omega) FN (CL W))
          have A3 := hid (fun W => rsum_row b off 0 cap [] W rfl (by omega) FN (CL W))
          rw [ez, ef] at A1 A3
          have A2 : Hid (∀ W, Calls Tryd.prog 18 #[u4] W fun e w' => e = .returned (.tuple #[.int .i64 0, .bool true]) ∧ Q W w') := by
            intro W
            obtain ⟨_, h⟩ := HOW.out
            rcases h with ⟨hv, _⟩ | ⟨g, cp, cur, hv, _⟩
            · rw [hv]; exact sum_nil W
            · rw [hv]
              have h := sum_row g 0 0 cp [] W rfl (by omega) FN (fun i hi => absurd hi (by omega))
              rw [ez, ef] at h
              exact h
          clear CL FN ez ef
          go_wp2_with fail
          refine (A1.out _).mono ?_
          rintro e w2 ⟨rfl, q2⟩
          go_wp2_with fail
          refine (A2.out _).mono ?_
          rintro e w3 ⟨rfl, q3⟩
          go_wp2_with fail
          refine (A3.out _).mono ?_
          rintro e w4 ⟨rfl, q4⟩
          go_wp2
          go_ret
          exact ⟨rfl, ((hQ.trans q2).trans q3).trans q4⟩
        · obtain ⟨g, cp, hv, hgc⟩ := own_slice HOW.out (by rw [List.length_reverse]; exact HL.out) (by omega)
          have HG := hid hgc
          have hbw : b < w.heap.size := World.block_lt_of_cell? w ⟨b, off + 0, none⟩ (HC.out 0 (by omega))
          have hgw : g < wr.heap.size := World.block_lt_of_cell? wr ⟨g, 0 + 0, none⟩ (hgc 0 (by omega))
          have CL : Hid (∀ W, Q w W → ∀ i, i < n → W.cell? ⟨b, off + i, none⟩ = some (.int .i64 (zs.getD i 0))) := fun W q i hi => by rw [q.cell hbw]; exact HC.out i hi
          have CM : Hid (∀ W, Q wr W → ∀ i, i < n → W.cell? ⟨g, 0 + i, none⟩ = some (.int .i64 (zs.reverse.getD i 0))) := fun W q i hi => by rw [q.cell hgw]; exact HG.out i hi
          clear hgc
          rw [hv]
          clear hv
          have A1 := hid (fun W q => sum_row b off n cap zs W HL.out (by omega) HF.out (CL.out W q))
          have A2 := hid (fun W q => sum_row g 0 n cp zs.reverse W (by rw [List.length_reverse]; exact HL.out) (by omega) FR.out (CM.out W q))
          have A3 := hid (fun W q => rsum_row b off n cap zs W HL.out (by omega) HF.out (CL.out W q))
          rw [hS.out] at A2
          generalize keep zs.sum = s at *
          generalize fitB zs.sum = f at *
          go_wp2_with fail
          refine (A1.out _ hQ).mono ?_
          rintro e w2 ⟨rfl, q2⟩
          go_wp2_with fail
          refine (A2.out _ q2).mono ?_
          rintro e w3 ⟨rfl, q3⟩
          go_wp2_with fail
          refine (A3.out _ ((hQ.trans q2).trans q3)).mono ?_
          rintro e w4 ⟨rfl, q4⟩
          go_wp2
          go_ret
          exact ⟨rfl, ((hQ.trans q2).trans q3).trans q4⟩
      · rw [show ((i + 1 : Nat) : Int) - 1 = (i : Int) by omega]
        have hiL : i < n := by omega
        have hcw := HC.out i hiL
        have hbw : b < w.heap.size := World.block_lt_of_cell? w ⟨b, off + i, none⟩ hcw
        have hQ := q1.trans hq
        have hcx : wr.cell? ⟨b, off + i, none⟩ = some (.int .i64 (zs.getD i 0)) := by rw [hQ.cell hbw]; exact hcw
        obtain ⟨xs, hxs⟩ : ∃ xs, xs = (zs.drop (i + 1)).reverse.map (Value.int .i64) := ⟨_, rfl⟩
        have hD : Hid ((zs.drop i).reverse.map (Value.int .i64) = xs ++ [.int .i64 (zs.getD i 0)]) := by
          show _ = _
          rw [drop_rev zs i (by have := HL.out; omega), List.map_append, hxs]
          rfl
        rw [← hxs] at hown
        clear hcw hxs
        generalize zs.getD i 0 = z at *
        have HOW := hid hown
        have HQ := hid hq
        clear hown hq hQ
        go_wp2_with (at_builtin; refine wpList_append_own _ rfl _ _ 27 rfl w1.heap.size 22 i0 (.int .i64 0) 1 8 Tryd.underlying27 HI.out HZ.out.1 HZ.out.2.1 HZ.out.2.2 rfl (by decide) _ _ _ rfl (HOW.out.alloc _) ⟨wr.heap.size, 0, none⟩ 1 1 [.int .i64 z] rfl rfl ?c1 ?c2 ?c3 ?c4 ?c5 ?_)
        case c1 =>
          intro k u hk
          match k, hk with
          | 0, hk => simp at hk; subst hk; simp [Addr.add]
        case c2 => intro u hu; simp at hu; subst hu; rfl
        case c3 => unfold maxLen; omega
        case c4 => omega
        case c5 => have := HQ.out.size; simp; omega
        · intro v' w2 hown' hgrow _
          have HO2 : Hid (w2.ownsRow w1.heap.size 22 1 v' (n - i) ((zs.drop i).reverse.map (Value.int .i64))) := by
            show World.ownsRow _ _ _ _ _ _ _
            rw [hD.out]
            have h := hown'
            rw [show n - (i + 1) + 1 = n - i by omega] at h
            exact h
          have HQ2 : Hid (Q w1 w2) := Below.grown ((HQ.out).alloc _) hgrow (by have := HQ.out.size; simp; omega) (own_block HOW.out)
          clear hown' hgrow
          go_wp2
          go_roundw
          case rel => exact ⟨i, by omega, by go_num, HO2.out, HQ2.out⟩
          case measure => simp [intOf]
  · have hdec : decide ((40 : Int) < (len : Int)) = true := by simp; omega
    go_enter Tryd.func4, Tryd.ntmps4
    go_wp2_with (go_at_call 9; refine (begun_any _ hw).mono ?_; rintro e w1 ⟨rfl, q1⟩)
    go_loopw [4, 5] (fun v i W => ∃ j : Nat, j ≤ 40 ∧ i = .int .i64 ((j : Int) - 1) ∧ W.ownsRow w1.heap.size 22 1 v (40 - j) ((zs.drop j).reverse.map (Value.int .i64)) ∧ Q w1 W) (fun _ i _ => (intOf i + 1).toNat)
    case atStart =>
      refine ⟨40, Nat.le_refl _, by simp, ?_, Q.refl _⟩
      rw [List.drop_of_length_le (by have := HL.out; omega), Nat.sub_self]
      exact World.ownsRow_nil _ _ _ _
    case round =>
      obtain ⟨j, hj, rfl, hown, hq⟩ := hrel
      rcases j with _ | i
      · have hS : Hid (zs.reverse.sum = zs.sum) := sum_rev zs
        have hz : ((0 : Nat) : Int) - 1 < 0 := by omega
        have HOW : Hid (wr.ownsRow w1.heap.size 22 1 u4 40 (zs.reverse.map (Value.int .i64))) := by
          have h := hown
          rw [List.drop_zero, Nat.sub_zero] at h
          exact h
        have hQ := q1.trans hq
        have FR : Hid (∀ i, i < 40 → Fx (zs.reverse.getD i 0)) := by
          intro i hi
          have hl := HL.out
          have e : zs.reverse.getD i 0 = zs.getD (40 - 1 - i) 0 := by
            simp only [List.getD_eq_getElem?_getD]
            rw [List.getElem?_reverse (by omega), hl]
          rw [e]
          exact HF.out _ (by omega)
        clear hown
        by_cases hn0 : 40 = 0
        · exact absurd hn0 (by decide)
        · obtain ⟨g, cp, hv, hgc⟩ := own_slice HOW.out (by rw [List.length_reverse]; exact HL.out) (by omega)
          have HG := hid hgc
          have hbw : b < w.heap.size := World.block_lt_of_cell? w ⟨b, off + 0, none⟩ (HC.out 0 (by omega))
          have hgw : g < wr.heap.size := World.block_lt_of_cell? wr ⟨g, 0 + 0, none⟩ (hgc 0 (by omega))
          have CL : Hid (∀ W, Q w W → ∀ i, i < 40 → W.cell? ⟨b, off + i, none⟩ = some (.int .i64 (zs.getD i 0))) := fun W q i hi => by rw [q.cell hbw]; exact HC.out i hi
          have CM : Hid (∀ W, Q wr W → ∀ i, i < 40 → W.cell? ⟨g, 0 + i, none⟩ = some (.int .i64 (zs.reverse.getD i 0))) := fun W q i hi => by rw [q.cell hgw]; exact HG.out i hi
          clear hgc
          rw [hv]
          clear hv
          have A1 := hid (fun W q => sum_row b off 40 cap zs W HL.out (by omega) HF.out (CL.out W q))
          have A2 := hid (fun W q => sum_row g 0 40 cp zs.reverse W (by rw [List.length_reverse]; exact HL.out) (by omega) FR.out (CM.out W q))
          have A3 := hid (fun W q => rsum_row b off 40 cap zs W HL.out (by omega) HF.out (CL.out W q))
          rw [hS.out] at A2
          generalize keep zs.sum = s at *
          generalize fitB zs.sum = f at *
          go_wp2_with fail
          refine (A1.out _ hQ).mono ?_
          rintro e w2 ⟨rfl, q2⟩
          go_wp2_with fail
          refine (A2.out _ q2).mono ?_
          rintro e w3 ⟨rfl, q3⟩
          go_wp2_with fail
          refine (A3.out _ ((hQ.trans q2).trans q3)).mono ?_
          rintro e w4 ⟨rfl, q4⟩
          go_wp2
          go_ret
          exact ⟨rfl, ((hQ.trans q2).trans q3).trans q4⟩
      · rw [show ((i + 1 : Nat) : Int) - 1 = (i : Int) by omega]
        have hiL : i < 40 := by omega
        have hcw := HC.out i hiL
        have hbw : b < w.heap.size := World.block_lt_of_cell? w ⟨b, off + i, none⟩ hcw
        have hQ := q1.trans hq
        have hcx : wr.cell? ⟨b, off + i, none⟩ = some (.int .i64 (zs.getD i 0)) := by rw [hQ.cell hbw]; exact hcw
        obtain ⟨xs, hxs⟩ : ∃ xs, xs = (zs.drop (i + 1)).reverse.map (Value.int .i64) := ⟨_, rfl⟩
        have hD : Hid ((zs.drop i).reverse.map (Value.int .i64) = xs ++ [.int .i64 (zs.getD i 0)]) := by
          show _ = _
          rw [drop_rev zs i (by have := HL.out; omega), List.map_append, hxs]
          rfl
        rw [← hxs] at hown
        clear hcw hxs
        generalize zs.getD i 0 = z at *
        have HOW := hid hown
        have HQ := hid hq
        clear hown hq hQ
        go_wp2_with (at_builtin; refine wpList_append_own _ rfl _ _ 27 rfl w1.heap.size 22 i0 (.int .i64 0) 1 8 Tryd.underlying27 HI.out HZ.out.1 HZ.out.2.1 HZ.out.2.2 rfl (by decide) _ _ _ rfl (HOW.out.alloc _) ⟨wr.heap.size, 0, none⟩ 1 1 [.int .i64 z] rfl rfl ?c1 ?c2 ?c3 ?c4 ?c5 ?_)
        case c1 =>
          intro k u hk
          match k, hk with
          | 0, hk => simp at hk; subst hk; simp [Addr.add]
        case c2 => intro u hu; simp at hu; subst hu; rfl
        case c3 => unfold maxLen; omega
        case c4 => omega
        case c5 => have := HQ.out.size; simp; omega
        · intro v' w2 hown' hgrow _
          have HO2 : Hid (w2.ownsRow w1.heap.size 22 1 v' (40 - i) ((zs.drop i).reverse.map (Value.int .i64))) := by
            show World.ownsRow _ _ _ _ _ _ _
            rw [hD.out]
            have h := hown'
            rw [show 39 - i + 1 = 40 - i by omega] at h
            exact h
          have HQ2 : Hid (Q w1 w2) := Below.grown ((HQ.out).alloc _) hgrow (by have := HQ.out.size; simp; omega) (own_block HOW.out)
          clear hown' hgrow
          go_wp2
          go_roundw
          case rel => exact ⟨i, by omega, by go_num, HO2.out, HQ2.out⟩
          case measure => simp [intOf]
end Go.Proofs.YtiplfalnaaeljaaDoor
