/- Package builtin: the numbers among arguments. -/
import Derived.Test.YtfjpdopmojfchaaGreatDoorBf
namespace Go.Proofs.YtfjpdopmojfchaaGreatDoor
open Go.RowKit
set_option linter.unusedVariables false
set_option linter.unusedSimpArgs false
theorem info22 : (Tryz.prog.info? 35).map (fun i => (i.zero, i.size, i.bytes)) = some (some (.int .i64 0), 1, 8) := by kernel_rfl
def encN (n : Int) : List Value := [.int .i64 n]
theorem encN_len (n : Int) : (encN n).length = 1 := rfl
/-- the number that a value is -/
def nf (x : Cv) : Option Int := if x.k = 1 ∧ x.may = true then some x.n else none
def nums (l : List Cv) : List Int := l.filterMap nf
theorem nums_append (l m : List Cv) : nums (l ++ m) = nums l ++ nums m := by simp [nums]
theorem nums_step (l : List Cv) (j : Nat) (hj : j < l.length) : nums (l.take (j + 1)) = nums (l.take j) ++ nums [l[j]] := by
  rw [List.take_succ_eq_append_getElem hj, nums_append]
theorem nums_one (x : Cv) (h : x.k = 1) (hm : x.may = true) : nums [x] = [x.n] := by simp [nums, nf, h, hm]
theorem nums_none (x : Cv) (h : x.k ≠ 1 ∨ x.may = false) : nums [x] = [] := by
  have : nf x = none := by unfold nf; rw [if_neg]; rintro ⟨h1, h2⟩; rcases h with h | h; exact h h1; rw [h] at h2; cases h2
  simp [nums, this]
set_option maxRecDepth 100000 in
set_option maxHeartbeats 4000000 in
theorem numbers_any (A : List Ag) (v : Value) (w : World) (hw : Std2 w) (h : Args w v A) (hm : A.length ≤ 1000) (hs : ∀ a ∈ A, a.l.length ≤ 1000 ∧ ∀ x ∈ a.l, x.sm) :
    Calls Tryz.prog 105 #[v] w fun e w' => ∃ s, e = .returned s ∧ Sl encN 1 w' s (nums (A.flatMap (·.l))) ∧ Q w w' := by
  obtain ⟨⟨ao, cap, rfl, h1, h2, h3⟩, hvs⟩ := h
  obtain ⟨n, hn⟩ : ∃ n, A.length = n := ⟨_, rfl⟩
  have HP := hid hn
  obtain ⟨i0, hi, hz0, hz1, hz2⟩ := inf_of info22
  have HC : Hid (0 < n → ∃ b off, ao = some ⟨b, off, none⟩ ∧ ∀ i (hp : i < A.length), At2 w b (off + i * 2) A[i] ∧ Sl Cv.cells 5 w A[i].s A[i].l ∧ A[i].l.length ≤ 1000 ∧ ∀ x ∈ A[i].l, x.sm) := by
    intro h0
    obtain ⟨b, off, ha, hc⟩ := h3 (by omega)
    exact ⟨b, off, ha, fun i hp => ⟨at2_of (hc i hp), hvs _ (List.getElem_mem hp), hs _ (List.getElem_mem hp)⟩⟩
  have HW := hid hw
  obtain ⟨T, hT⟩ : ∃ T, nums (A.flatMap (·.l)) = T := ⟨_, rfl⟩
  have HT := hid hT
  rw [hn] at h1 hm ⊢
  rw [hT]
  clear hw hs h3 hvs hn hT
  go_enter Tryz.func105, Tryz.ntmps105
  go_wp2
  go_loopw [3, 10] (fun s i W => ∃ (k : Nat) (L : List Int), k ≤ n ∧ i = .int .i64 k ∧ Own encN 35 1 w.heap.size W s L ∧ L.length ≤ k * 1000 ∧ Hid (L = nums ((A.take k).flatMap (·.l))) ∧ Q w W) (fun _ i _ => n - (intOf i).toNat)
  case atStart => exact ⟨0, [], Nat.zero_le _, rfl, own_nil _, Nat.zero_le _, (by show _ = _; simp [nums]), Q.refl _⟩
  case round =>
    obtain ⟨k, L, hk, rfl, hown, hLk, hLw, hq⟩ := hrel
    by_cases hlt : k < n
    · obtain ⟨b, off, rfl, hc⟩ := HC.out (by omega)
      have hkp : k < A.length := by have := HP.out; omega
      obtain ⟨⟨c0, c1⟩, hsl, hl1, hl2⟩ := hc k hkp
      have hF : Hid (nums ((A.take (k + 1)).flatMap (·.l)) = L ++ nums A[k].l) := by
        show _ = _
        rw [hLw.out, List.take_succ_eq_append_getElem hkp, List.flatMap_append, nums_append]
        simp
      have c0' := (hq.cell (World.block_lt_of_cell? w _ c0)).trans c0
      have c1' := (hq.cell (World.block_lt_of_cell? w _ c1)).trans c1
      have HLL := hid hl2
      obtain ⟨ao', cap', hsv, g1, g2, g3⟩ := hsl
      have HG3 := hid g3
      rw [hsv] at c1'
      clear hsv c0 c1 hc g3 hl2 hLw
      generalize A[k].r = rr at c0'
      generalize A[k].l = l at *
      generalize hln : l.length = ln at c1' hl1 g1
      have HLn := hid hln
      clear hln
      have hkl : (k : Int) < (n : Int) := by omega
      have HOW := hid hown
      have HQ := hid hq
      clear hown hq
      obtain ⟨w1, rfl⟩ : ∃ w1, w1 = wr := ⟨wr, rfl⟩
      go_upto_region 6 with fail
      go_loopw [3, 17] (fun s i W => ∃ (j : Nat) (M : List Int), j ≤ ln ∧ i = .int .i64 j ∧ Own encN 35 1 w.heap.size W s M ∧ M.length ≤ k * 1000 + j ∧ Hid (M = L ++ nums (l.take j)) ∧ Q w W) (fun _ i _ => ln - (intOf i).toNat)
      case atStart => exact ⟨0, L, Nat.zero_le _, rfl, Own.alloc HOW.out _, by omega, (by show _ = _; simp [nums]), HQ.out.alloc _⟩
      case round =>
        obtain ⟨j, M, hj, rfl, hown, hMk, hMw, hq⟩ := hrel
        by_cases hjl : j < ln
        · have hjp : j < l.length := by have := HLn.out; omega
          obtain ⟨b', off', rfl, hcc⟩ := HG3.out (by omega)
          have a5 := (at5_of (hcc j hjp)).on hq
          have hsm := HLL.out _ (List.getElem_mem hjp)
          have hst : Hid (M ++ nums [l[j]] = L ++ nums (l.take (j + 1))) := by
            show _ = _
            rw [hMw.out, nums_step l j hjp, List.append_assoc]
          clear hcc hMw
          generalize l[j] = x at *
          have HM := hid (fun W (q : Q w W) => may_any x.k x.n x.t x.b x.e W (HW.out.on q) hsm)
          have hjl' : (j : Int) < (ln : Int) := by omega
          have HOW2 := hid hown
          have HQ2 := hid hq
          clear hown hq
          by_cases hk1 : x.k = 1
          · cases hA : mayB x.k x.n x.t.toList x.b x.e with
            | false =>
              rw [hA] at HM
              have HZ : Hid (M = L ++ nums (l.take (j + 1))) := by show _ = _; rw [← hst.out, nums_none x (.inr hA)]; simp
              obtain ⟨xk, xn, xt, xb, xe⟩ := x
              obtain ⟨d0, d1, d2, d3, d4⟩ := a5
              simp only at d0 d1 d2 d3 d4 hk1 HM
              subst hk1
              simp only [vv] at HM
              clear hA hst hsm
              go_wp2_with (go_at_call 80; refine (HM.out _ (HQ2.out.alloc _)).mono ?_; rintro x w2 ⟨rfl, q1⟩)
              go_roundw
              case rel => exact ⟨j + 1, M, by omega, by go_num, HOW2.out.on (q1a q1), by omega, HZ, HQ2.out.trans (q1a q1)⟩
              case measure => simp [intOf]; omega
            | true =>
              rw [hA] at HM
              have HZ : Hid (M ++ [x.n] = L ++ nums (l.take (j + 1))) := by show _ = _; rw [← hst.out, nums_one x hk1 hA]
              obtain ⟨xk, xn, xt, xb, xe⟩ := x
              obtain ⟨d0, d1, d2, d3, d4⟩ := a5
              simp only at d0 d1 d2 d3 d4 hk1 HM HZ
              subst hk1
              simp only [vv] at HM
              clear hA hst hsm
              go_wp2_with (first
                | (go_at_call 80; refine (HM.out _ (HQ2.out.alloc _)).mono ?_; rintro x w2 ⟨rfl, q1⟩; obtain ⟨g0, g1, g2, g3, g4⟩ := box0 q1; have Q2 := hid (q1a q1); clear q1)
                | (at_builtin; refine wpList_append_own _ rfl _ _ 89 rfl w.heap.size 35 i0 (.int .i64 0) 1 8 Tryz.underlying89 hi hz0 hz1 hz2 rfl (by decide) _ _ _ rfl (World.ownsRow.alloc (Own.on HOW2.out Q2.out) _) ⟨w2.heap.size, 0, none⟩ 1 1 [.int .i64 xn] rfl rfl ?c1 ?c2 ?c3 ?c4 ?c5 ?_))
              case c1 => exact news_new w2 [.int .i64 xn] 35
              case c2 =>
                intro u hu
                simp at hu
                subst hu
                rfl
              case c3 => unfold maxLen; omega
              case c4 => omega
              case c5 => have := (HQ2.out.trans Q2.out).size; simp; omega
              · intro v' w3 hown' hgrow _
                have HO3 : Hid (Own encN 35 1 w.heap.size w3 v' (M ++ [xn])) := own_snoc' (x := xn) hown' rfl
                have HQ3 : Hid (Q w w3) := Below.grown ((HQ2.out.trans Q2.out).alloc _) hgrow (by have := (HQ2.out.trans Q2.out).size; simp; omega) (Own.blk HOW2.out)
                clear hown' hgrow
                go_wp2
                go_roundw
                case rel => exact ⟨j + 1, M ++ [xn], by omega, by go_num, HO3.out, by simp; omega, HZ, HQ3.out⟩
                case measure => simp [intOf]; omega
          · have HZ : Hid (M = L ++ nums (l.take (j + 1))) := by show _ = _; rw [← hst.out, nums_none x (.inl hk1)]; simp
            obtain ⟨xk, xn, xt, xb, xe⟩ := x
            obtain ⟨d0, d1, d2, d3, d4⟩ := a5
            simp only at d0 d1 d2 d3 d4 hk1
            have hkb : (xk == 1) = false := beq_eq_false_iff_ne.2 hk1
            clear hst hsm HM
            go_wp2_with fail
            go_roundw
            case rel => exact ⟨j + 1, M, by omega, by go_num, HOW2.out.alloc _, by omega, HZ, HQ2.out.alloc _⟩
            case measure => simp [intOf]; omega
        · have hjn : j = ln := by omega
          subst hjn
          have hMF : Hid (M = nums ((A.take (k + 1)).flatMap (·.l))) := by
            show _ = _
            have h1 := hMw.out
            rw [List.take_of_length_le (by have := HLn.out; omega)] at h1
            rw [h1, hF.out]
          have hjl' : ¬ (j : Int) < (j : Int) := by omega
          have HOW2 := hid hown
          have HQ2 := hid hq
          clear hown hq hMw
          go_wp2
          go_roundw
          case rel => exact ⟨k + 1, M, by omega, by go_num, HOW2.out, by omega, hMF, HQ2.out⟩
          case measure => simp [intOf]; omega
    · have hkn : k = n := by omega
      subst hkn
      have HE : Hid (L = T) := by
        show _ = _
        have h1 := hLw.out
        rw [List.take_of_length_le (by have := HP.out; omega)] at h1
        exact h1.trans HT.out
      have HOW : Hid (Sl encN 1 wr u3 T) := by
        show Sl _ _ _ _ _
        rw [← HE.out]
        exact hown.sl encN_len (by omega)
      have HQ := hid hq
      clear hown hLw hq
      have hkl : ¬ (k : Int) < (k : Int) := by omega
      go_wp2
      go_ret
      exact ⟨_, rfl, HOW.out, HQ.out⟩
end Go.Proofs.YtfjpdopmojfchaaGreatDoor
