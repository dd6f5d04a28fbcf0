/- BuiltinErrors: the walk; BuiltinErrors: the walk. -/
import Derived.Test.YtfjpdopmojfchaaGreatDoorKr34
set_option linter.unusedVariables false
set_option linter.unusedSimpArgs false
namespace Go.Proofs.YtfjpdopmojfchaaGreatDoor
open Go.RowKit
set_option maxRecDepth 100000 in
set_option maxHeartbeats 8000000 in
theorem err_walk_2 (k : Int) (X0 : List Cv) (n : Nat) (hn : (X0.length ≤ 5 ∧ n = X0.length) ∨ (5 < X0.length ∧ n = 5)) (v : Value) (w : World) (hw : Std2 w) (h : Sl Cv.cells 5 w v X0) (hF : ∀ x ∈ X0, Fx x.n) : Calls Tryz.prog 8 #[v, .int .i64 2] w fun r w' => r = .returned (.bool true) ∧ Q w w' := by
  have HBg := hid (fun W (q : Q w W) => bbegun_any W (hw.on q))
  have HCA := hid (fun W (q : Q w W) => cutAll_any 5 n X0 v W (h.on q) (by omega) hn)
  have HW := hid hw
  obtain ⟨X, hX⟩ : ∃ X, (X0.take n).map Cv.cut = X := ⟨_, rfl⟩
  rw [hX] at HCA
  have hXl : X.length ≤ 5 := by rw [← hX]; simp; omega
  have HXs : Hid (∀ x ∈ X, x.sl) := by
    intro x hx
    rw [← hX] at hx
    obtain ⟨y, hy, rfl⟩ := List.mem_map.1 hx
    exact cut_sl y (hF y (List.mem_of_mem_take hy))
  obtain ⟨ao0, cap0, rfl, _, _⟩ := h.len
  obtain ⟨lx, hlx⟩ : ∃ lx, X.length = lx := ⟨_, rfl⟩
  have HLX := hid hlx
  rw [hlx] at hXl
  obtain ⟨i0, hi, hz0, hz1, hz2⟩ := inf_of infoA
  clear hX h hw hn hlx hF
  generalize X0.length = len0 at *
  go_enter Tryz.func8, Tryz.ntmps8
  go_wp2_with (first
    | (go_at_call 9; refine (HBg.out _ (Q.refl w)).mono ?_; rintro e w1 ⟨rfl, q1⟩; have Q1 := hid q1; clear q1)
    | (go_at_call 11; refine (HCA.out _ (Q1.out.alloc _)).mono ?_; rintro e w2 ⟨s0, rfl, own0, q2⟩; have Q2 := hid ((Q1.out.alloc _).trans q2); have N2 : Hid (∀ W, Q w2 W → W.heap[w1.heap.size]? = some (.cells #[.string ⟨#[65, 78, 68]⟩, .string ⟨#[79, 82]⟩, .string ⟨#[67, 79, 78, 67, 65, 84]⟩, .string ⟨#[78, 79, 84]⟩, .string ⟨#[65, 66, 83]⟩, .string ⟨#[76, 69, 78]⟩] 9 (0, 0))) := hid (fun W g => by rw [Q.block (q2.trans g) (by simp)]; exact hp_new _ _ _ rfl); have S0 := hid (own0.sl Cv.len (by omega)); clear own0 q2; obtain ⟨ao1, cap1, hs0, hcap1, hcap2⟩ := S0.out.len; rw [HLX.out] at hs0 hcap1; subst hs0))
  have SY := S0
  have HYl := HLX
  have HYs := HXs
  obtain ⟨Y, hY⟩ : ∃ Y, X = Y := ⟨_, rfl⟩
  rw [hY] at SY HYl HYs
  clear hY S0 HXs HLX HCA HBg
  go_loopw [4, 7, 8] (fun r s i W => ∃ (j : Nat) (P : List (Value × Cv)), j ≤ lx ∧ i = .int .i64 j ∧ r = .bool false ∧ Ao w2.heap.size W s P ∧ P.map (·.2) = Y.take j ∧ (∀ p ∈ P, p.2.may = true) ∧ Q w2 W) (fun _ _ i _ => lx - (intOf i).toNat)
  case atStart => exact ⟨0, [], Nat.zero_le _, rfl, rfl, ⟨own_nil _, by simp⟩, by simp, by simp, Q.refl _⟩
  case round =>
    obtain ⟨j, P, hj, rfl, rfl, hao, hPY, hPm, hq⟩ := hrel
    by_cases hlt : j < lx
    · have hjp : j < Y.length := by have := HYl.out; omega
      have hjl : (j : Int) < (lx : Int) := by omega
      obtain ⟨b, off, cap', hv, _, _, hat⟩ := SY.out.at hjp
      simp only [Value.slice.injEq] at hv
      obtain ⟨rfl, hyx, rfl⟩ := hv
      clear hyx
      have a5 := (at5_of hat).on hq
      have hsm := (HYs.out _ (List.getElem_mem hjp)).sm
      have hst : Hid (Y.take (j + 1) = Y.take j ++ [Y[j]]) := by show _ = _; rw [List.take_succ_eq_append_getElem hjp]
      have hPl : (sg P).length = j := by rw [sg_length]; have := congrArg List.length hPY; simp at this; omega
      clear hat
      generalize Y[j] = x at *
      have HM := hid (fun W => rmayv_any x W hsm)
      have HO := hid (fun W => arg1_ob x W)
      have HA5 := hid (fun W (q : Q wr W) => a5.on q)
      have HAO := hid hao
      have HQ := hid hq
      have HPP := hid (And.intro hPY hPm)
      have HPl := hid hPl
      clear hao hq hPY hPm hPl
      cases hA : x.may
      · rw [hA] at HM
        obtain ⟨xk, xn, xt, xb, xe⟩ := x
        obtain ⟨c0, c1, c2, c3, c4⟩ := a5
        simp only [Cv.v, vv] at HM c0 c1 c2 c3 c4
        clear hA hsm HO HA5
        go_wp2_with (go_at_call 23; refine (HM.out _).mono ?_; rintro r w3 ⟨rfl, q3⟩; have Q3 := hid (HQ.out.trans q3); clear q3)
        go_ret
        exact ⟨rfl, Q2.out.trans Q3.out⟩
      · rw [hA] at HM
        have hA' := hid hA
        clear hA
        by_cases hk2 : x.k = 2
        · obtain ⟨xk, xn, xt, xb, xe⟩ := x
          simp only at hk2
          subst hk2
          obtain ⟨c0, c1, c2, c3, c4⟩ := a5
          simp only [Cv.v, vv] at HM HO c0 c1 c2 c3 c4
          clear hsm
          go_wp2_with (first
            | (go_at_call 23; refine (HM.out _).mono ?_; rintro r w3 ⟨rfl, q3⟩; have Q3 := hid q3; obtain ⟨e0, e1, e2, e3, e4⟩ := HA5.out _ q3; simp only at e0 e1 e2 e3 e4; clear q3)
            | (go_at_call 24; refine (HO.out _).mono ?_; rintro r w4 ⟨u, rfl, ob, q4⟩; have Q4 := hid (Q3.out.trans q4); have OB := hid ob; obtain ⟨g, hu, _⟩ := ob; subst hu; clear q4)
            | (at_builtin; refine wpList_append_own _ rfl _ _ 25 rfl w2.heap.size 32 i0 (.agg #[.bool false, .slice none 0 0]) 2 32 Tryz.underlying25 hi hz0 hz1 hz2 rfl (by decide) _ _ _ rfl (World.ownsRow.alloc ((HAO.out.on Q4.out).own) _) ⟨w4.heap.size, 0, none⟩ 1 1 [.bool false, .slice (some ⟨g, 0, none⟩) 1 1] rfl rfl ?c1 ?c2 ?c3 ?c4 ?c5 ?_))
          case c1 => exact news_new w4 [.bool false, .slice (some ⟨g, 0, none⟩) 1 1] 32
          case c2 =>
            intro u hu
            simp at hu
            rcases hu with rfl | rfl <;> rfl
          case c3 => have := HPl.out; unfold maxLen; omega
          case c4 => have := HPl.out; omega
          case c5 => have := (HQ.out.trans Q4.out).size; simp; omega
          · intro v' w5 hown' hgrow _
            have HO2 : Hid (Ao w2.heap.size w5 v' (P ++ [(.slice (some ⟨g, 0, none⟩) 1 1, ⟨2, xn, xt, xb, xe⟩)])) := hid (Ao.snoc ((HAO.out.on Q4.out).on ((Q.refl _).alloc _)) (OB.out.on ((Q.refl _).alloc _)) hown' hgrow)
            have HQ2 : Hid (Q w2 w5) := Below.grown ((HQ.out.trans Q4.out).alloc _) hgrow (by have := (HQ.out.trans Q4.out).size; simp; omega) (Own.blk HAO.out.own)
            have HP2 : Hid ((P ++ [(Value.slice (some ⟨g, 0, none⟩) 1 1, (⟨2, xn, xt, xb, xe⟩ : Cv))]).map (·.2) = Y.take (j + 1) ∧ ∀ p ∈ P ++ [(Value.slice (some ⟨g, 0, none⟩) 1 1, (⟨2, xn, xt, xb, xe⟩ : Cv))], p.2.may = true) := by
              refine ⟨?_, fun p hp => ?_⟩
              · rw [hst.out, List.map_append, HPP.out.1]; rfl
              · rcases List.mem_append.1 hp with hp | hp
                · exact HPP.out.2 p hp
                · simp at hp; subst hp; exact hA'.out
            clear hown' hgrow
            go_wp2
            go_roundw
            case rel => exact ⟨j + 1, _, by omega, by go_num, rfl, HO2.out, HP2.out.1, HP2.out.2, HQ2.out⟩
            case measure => simp [intOf]; omega
        · obtain ⟨xk, xn, xt, xb, xe⟩ := x
          simp only at hk2
          have hk2b : (xk == 2) = false := beq_eq_false_iff_ne.2 hk2
          obtain ⟨c0, c1, c2, c3, c4⟩ := a5
          simp only [Cv.v, vv] at HM HO c0 c1 c2 c3 c4
          clear hsm
          go_wp2_with (first
            | (go_at_call 23; refine (HM.out _).mono ?_; rintro r w3 ⟨rfl, q3⟩; have Q3 := hid q3; obtain ⟨e0, e1, e2, e3, e4⟩ := HA5.out _ q3; simp only at e0 e1 e2 e3 e4; clear q3)
            | (go_at_call 24; refine (HO.out _).mono ?_; rintro r w4 ⟨u, rfl, ob, q4⟩; have Q4 := hid (Q3.out.trans q4); have OB := hid ob; obtain ⟨g, hu, _⟩ := ob; subst hu; clear q4)
            | (at_builtin; refine wpList_append_own _ rfl _ _ 25 rfl w2.heap.size 32 i0 (.agg #[.bool false, .slice none 0 0]) 2 32 Tryz.underlying25 hi hz0 hz1 hz2 rfl (by decide) _ _ _ rfl (World.ownsRow.alloc ((HAO.out.on Q4.out).own) _) ⟨w4.heap.size, 0, none⟩ 1 1 [.bool false, .slice (some ⟨g, 0, none⟩) 1 1] rfl rfl ?c1 ?c2 ?c3 ?c4 ?c5 ?_))
          case c1 => exact news_new w4 [.bool false, .slice (some ⟨g, 0, none⟩) 1 1] 32
          case c2 =>
            intro u hu
            simp at hu
            rcases hu with rfl | rfl <;> rfl
          case c3 => have := HPl.out; unfold maxLen; omega
          case c4 => have := HPl.out; omega
          case c5 => have := (HQ.out.trans Q4.out).size; simp; omega
          · intro v' w5 hown' hgrow _
            have HO2 : Hid (Ao w2.heap.size w5 v' (P ++ [(.slice (some ⟨g, 0, none⟩) 1 1, ⟨xk, xn, xt, xb, xe⟩)])) := hid (Ao.snoc ((HAO.out.on Q4.out).on ((Q.refl _).alloc _)) (OB.out.on ((Q.refl _).alloc _)) hown' hgrow)
            have HQ2 : Hid (Q w2 w5) := Below.grown ((HQ.out.trans Q4.out).alloc _) hgrow (by have := (HQ.out.trans Q4.out).size; simp; omega) (Own.blk HAO.out.own)
            have HP2 : Hid ((P ++ [(Value.slice (some ⟨g, 0, none⟩) 1 1, (⟨xk, xn, xt, xb, xe⟩ : Cv))]).map (·.2) = Y.take (j + 1) ∧ ∀ p ∈ P ++ [(Value.slice (some ⟨g, 0, none⟩) 1 1, (⟨xk, xn, xt, xb, xe⟩ : Cv))], p.2.may = true) := by
              refine ⟨?_, fun p hp => ?_⟩
              · rw [hst.out, List.map_append, HPP.out.1]; rfl
              · rcases List.mem_append.1 hp with hp | hp
                · exact HPP.out.2 p hp
                · simp at hp; subst hp; exact hA'.out
            clear hown' hgrow
            go_wp2
            go_roundw
            case rel => exact ⟨j + 1, _, by omega, by go_num, rfl, HO2.out, HP2.out.1, HP2.out.2, HQ2.out⟩
            case measure => simp [intOf]; omega
    · have hjn : j = lx := by omega
      subst hjn
      have hPY' : P.map (·.2) = Y := by rw [hPY, List.take_of_length_le (by have := HYl.out; omega)]
      have HR := hid (fun W (q : Q w2 W) => rworst_sl Y _ W (SY.out.on q) (by have := HYl.out; omega) (fun x hx => (HYs.out x hx).sm))
      obtain ⟨e, he⟩ : ∃ e, worst Y = e := ⟨_, rfl⟩
      have hlo := worst_lo Y
      rw [he] at HR hlo
      have HAO := hid hao
      have HQ := hid hq
      have hjl : ¬ (j : Int) < (j : Int) := by omega
      by_cases hz : e = 0
      · subst hz
        clear hao hq hPY hPm
        go_wp2_with (go_at_call 22; refine (HR.out _ HQ.out).mono ?_; rintro r w5 ⟨rfl, q5⟩; have Q5' := hid (HQ.out.trans q5); clear q5)
        go_ret
        exact ⟨rfl, Q2.out.trans Q5'.out⟩
      · have hzb : (e == 0) = false := beq_eq_false_iff_ne.2 hz
        have hPlen : P.length = j := by have := congrArg List.length hPY'; simp at this; have := HYl.out; omega
        have hpos : 0 < j := by
          rcases Nat.eq_zero_or_pos j with h0 | h0
          · exfalso
            have h1 : Y = [] := List.eq_nil_of_length_eq_zero (by have := HYl.out; omega)
            subst h1
            exact hz he.symm
          · exact h0
        obtain ⟨g7, c7, hu7, _, _, _, _⟩ := Own.shape hao.own (by rw [sg_length]; omega)
        rw [sg_length, hPlen] at hu7
        subst hu7
        have HC1 : Hid (∀ W, Q wr W → Calls Tryz.prog 13 #[.string ⟨#[67, 79, 78, 67, 65, 84]⟩, .slice (some ⟨g7, 0, none⟩) j c7] W fun r W' => r = .returned (er e).v ∧ Q W W') := hid (fun W q => by
          have h := scall_concat P (some ⟨g7, 0, none⟩) j c7 W (HW.out.on (Q2.out.trans (HQ.out.trans q))) (HAO.out.on q).args hPlen (by omega) (by omega) (by omega) (fun p hp => HYs.out _ (by rw [← hPY']; exact List.mem_map.2 ⟨p, hp, rfl⟩)) hPm (by rw [hPY', he]; exact hz)
          rw [hPY', he] at h
          exact h)
        have HC2 := hid (fun (s : Value) (V : World) (q : Q w V) (hs : Sl Cv.cells 5 V s [er e]) => iscall e (by omega) (by omega) s V (HW.out.on q) hs)
        have HER := hid (fun W => err_any e W)
        have HO := hid (fun W => arg1_ob (er e) W)
        have T0 : Hid True := trivial
        clear hao hq hPY hPm hPY' HAO he
        simp only [Cv.v, vv, er, bo] at HC1 HC2 HER HO
        go_wp2_with (first
          | (go_at_call 22; refine (HR.out _ HQ.out).mono ?_; rintro r w5 ⟨rfl, q5⟩; have Q5' := hid (HQ.out.trans q5); have R5 := hid q5; have cN := Lib.cell_of_heap (N2.out _ (HQ.out.trans q5)) 2; simp at cN; clear q5)
          | (go_at_call 13; clear T0; refine (HC1.out _ R5.out).mono ?_; rintro r w6 ⟨rfl, q6⟩; have Q6 := hid (Q2.out.trans (Q5'.out.trans q6)); have X6 := hid (bx_new w6 (.int .i64 4) (.int .i64 0) (.string ⟨#[]⟩) (.bool false) (.int .i64 e)); clear q6)
          | (go_at_call 26; refine (HER.out _).mono ?_; rintro r w7 ⟨rfl, q7⟩; have Q7 := hid ((Q6.out.alloc _).trans q7); have X7 := hid (X6.out.on q7); clear q7)
          | (go_at_call 24; refine (HO.out _).mono ?_; rintro r w8 ⟨u, rfl, ob, q8⟩; have Q8 := hid (Q7.out.trans q8); have X8 := hid (X7.out.on q8); have OB := hid ob; obtain ⟨g8, hu8, _⟩ := ob; subst hu8; clear q8)
          | (go_at_call 13; refine (HC2.out _ _ Q8.out OB.out.sl).mono ?_; rintro r w9 ⟨rfl, q9⟩; have Q9 := hid (Q8.out.trans q9); obtain ⟨x0, x1, x2, x3, x4, _, _, _, _, _, xl⟩ := X8.out.on q9; clear q9))
        go_ret
        exact ⟨rfl, by first | exact Q9.out.alloc _ | exact Q9.out⟩
set_option maxRecDepth 100000 in
set_option maxHeartbeats 8000000 in
theorem err_walk_4p (k : Int) (X0 : List Cv) (n : Nat) (hn : (X0.length ≤ 5 ∧ n = X0.length) ∨ (5 < X0.length ∧ n = 5)) (hX1 : ((X0.take n).map Cv.cut).length ≤ 1) (v : Value) (w : World) (hw : Std2 w) (h : Sl Cv.cells 5 w v X0) (hF : ∀ x ∈ X0, Fx x.n) : Calls Tryz.prog 8 #[v, .int .i64 4] w fun r w' => r = .returned (.bool true) ∧ Q w w' := by
  have HBg := hid (fun W (q : Q w W) => bbegun_any W (hw.on q))
  have HCA := hid (fun W (q : Q w W) => cutAll_any 5 n X0 v W (h.on q) (by omega) hn)
  have HW := hid hw
  obtain ⟨X, hX⟩ : ∃ X, (X0.take n).map Cv.cut = X := ⟨_, rfl⟩
  rw [hX] at HCA hX1
  have hXl : X.length ≤ 5 := by rw [← hX]; simp; omega
  have HXs : Hid (∀ x ∈ X, x.sl) := by
    intro x hx
    rw [← hX] at hx
    obtain ⟨y, hy, rfl⟩ := List.mem_map.1 hx
    exact cut_sl y (hF y (List.mem_of_mem_take hy))
  obtain ⟨ao0, cap0, rfl, _, _⟩ := h.len
  obtain ⟨lx, hlx⟩ : ∃ lx, X.length = lx := ⟨_, rfl⟩
  have HLX := hid hlx
  rw [hlx] at hXl hX1
  obtain ⟨i0, hi, hz0, hz1, hz2⟩ := inf_of infoA
  clear hX h hw hn hlx hF
  generalize X0.length = len0 at *
  go_enter Tryz.func8, Tryz.ntmps8
  go_wp2_with (first
    | (go_at_call 9; refine (HBg.out _ (Q.refl w)).mono ?_; rintro e w1 ⟨rfl, q1⟩; have Q1 := hid q1; clear q1)
    | (go_at_call 11; refine (HCA.out _ (Q1.out.alloc _)).mono ?_; rintro e w2 ⟨s0, rfl, own0, q2⟩; have Q2 := hid ((Q1.out.alloc _).trans q2); have N2 : Hid (∀ W, Q w2 W → W.heap[w1.heap.size]? = some (.cells #[.string ⟨#[65, 78, 68]⟩, .string ⟨#[79, 82]⟩, .string ⟨#[67, 79, 78, 67, 65, 84]⟩, .string ⟨#[78, 79, 84]⟩, .string ⟨#[65, 66, 83]⟩, .string ⟨#[76, 69, 78]⟩] 9 (0, 0))) := hid (fun W g => by rw [Q.block (q2.trans g) (by simp)]; exact hp_new _ _ _ rfl); have S0 := hid (own0.sl Cv.len (by omega)); clear own0 q2; obtain ⟨ao1, cap1, hs0, hcap1, hcap2⟩ := S0.out.len; rw [HLX.out] at hs0 hcap1; subst hs0; have hl1 : ¬ (1 : Int) < (lx : Int) := (by omega)))
  have SY := S0
  have HYl := HLX
  have HYs := HXs
  obtain ⟨Y, hY⟩ : ∃ Y, X = Y := ⟨_, rfl⟩
  rw [hY] at SY HYl HYs
  clear hY S0 HXs HLX HCA HBg
  go_loopw [4, 7, 8] (fun r s i W => ∃ (j : Nat) (P : List (Value × Cv)), j ≤ lx ∧ i = .int .i64 j ∧ r = .bool false ∧ Ao w2.heap.size W s P ∧ P.map (·.2) = Y.take j ∧ (∀ p ∈ P, p.2.may = true ∧ p.2.k ≠ 2) ∧ Q w2 W) (fun _ _ i _ => lx - (intOf i).toNat)
  case atStart => exact ⟨0, [], Nat.zero_le _, rfl, rfl, ⟨own_nil _, by simp⟩, by simp, by simp, Q.refl _⟩
  case round =>
    obtain ⟨j, P, hj, rfl, rfl, hao, hPY, hPm, hq⟩ := hrel
    by_cases hlt : j < lx
    · have hjp : j < Y.length := by have := HYl.out; omega
      have hjl : (j : Int) < (lx : Int) := by omega
      obtain ⟨b, off, cap', hv, _, _, hat⟩ := SY.out.at hjp
      simp only [Value.slice.injEq] at hv
      obtain ⟨rfl, hyx, rfl⟩ := hv
      clear hyx
      have a5 := (at5_of hat).on hq
      have hsm := (HYs.out _ (List.getElem_mem hjp)).sm
      have hst : Hid (Y.take (j + 1) = Y.take j ++ [Y[j]]) := by show _ = _; rw [List.take_succ_eq_append_getElem hjp]
      have hPl : (sg P).length = j := by rw [sg_length]; have := congrArg List.length hPY; simp at this; omega
      clear hat
      generalize Y[j] = x at *
      have HM := hid (fun W => rmayv_any x W hsm)
      have HO := hid (fun W => arg1_ob x W)
      have HA5 := hid (fun W (q : Q wr W) => a5.on q)
      have HAO := hid hao
      have HQ := hid hq
      have HPP := hid (And.intro hPY hPm)
      have HPl := hid hPl
      clear hao hq hPY hPm hPl
      cases hA : x.may
      · rw [hA] at HM
        obtain ⟨xk, xn, xt, xb, xe⟩ := x
        obtain ⟨c0, c1, c2, c3, c4⟩ := a5
        simp only [Cv.v, vv] at HM c0 c1 c2 c3 c4
        clear hA hsm HO HA5
        go_wp2_with (go_at_call 23; refine (HM.out _).mono ?_; rintro r w3 ⟨rfl, q3⟩; have Q3 := hid (HQ.out.trans q3); clear q3)
        go_ret
        exact ⟨rfl, Q2.out.trans Q3.out⟩
      · rw [hA] at HM
        have hA' := hid hA
        clear hA
        by_cases hk2 : x.k = 2
        · obtain ⟨xk, xn, xt, xb, xe⟩ := x
          simp only at hk2
          subst hk2
          obtain ⟨c0, c1, c2, c3, c4⟩ := a5
          simp only [Cv.v, vv] at HM c0 c1 c2 c3 c4
          clear hsm HO
          go_wp2_with (go_at_call 23; refine (HM.out _).mono ?_; rintro r w3 ⟨rfl, q3⟩; have Q3 := hid (HQ.out.trans q3); obtain ⟨e0, e1, e2, e3, e4⟩ := HA5.out _ q3; simp only at e0 e1 e2 e3 e4; clear q3)
          go_ret
          exact ⟨rfl, Q2.out.trans Q3.out⟩
        · obtain ⟨xk, xn, xt, xb, xe⟩ := x
          simp only at hk2
          have hk2b : (xk == 2) = false := beq_eq_false_iff_ne.2 hk2
          obtain ⟨c0, c1, c2, c3, c4⟩ := a5
          simp only [Cv.v, vv] at HM HO c0 c1 c2 c3 c4
          clear hsm
          go_wp2_with (first
            | (go_at_call 23; refine (HM.out _).mono ?_; rintro r w3 ⟨rfl, q3⟩; have Q3 := hid q3; obtain ⟨e0, e1, e2, e3, e4⟩ := HA5.out _ q3; simp only at e0 e1 e2 e3 e4; clear q3)
            | (go_at_call 24; refine (HO.out _).mono ?_; rintro r w4 ⟨u, rfl, ob, q4⟩; have Q4 := hid (Q3.out.trans q4); have OB := hid ob; obtain ⟨g, hu, _⟩ := ob; subst hu; clear q4)
            | (at_builtin; refine wpList_append_own _ rfl _ _ 25 rfl w2.heap.size 32 i0 (.agg #[.bool false, .slice none 0 0]) 2 32 Tryz.underlying25 hi hz0 hz1 hz2 rfl (by decide) _ _ _ rfl (World.ownsRow.alloc ((HAO.out.on Q4.out).own) _) ⟨w4.heap.size, 0, none⟩ 1 1 [.bool false, .slice (some ⟨g, 0, none⟩) 1 1] rfl rfl ?c1 ?c2 ?c3 ?c4 ?c5 ?_))
          case c1 => exact news_new w4 [.bool false, .slice (some ⟨g, 0, none⟩) 1 1] 32
          case c2 =>
            intro u hu
            simp at hu
            rcases hu with rfl | rfl <;> rfl
          case c3 => have := HPl.out; unfold maxLen; omega
          case c4 => have := HPl.out; omega
          case c5 => have := (HQ.out.trans Q4.out).size; simp; omega
          · intro v' w5 hown' hgrow _
            have HO2 : Hid (Ao w2.heap.size w5 v' (P ++ [(.slice (some ⟨g, 0, none⟩) 1 1, ⟨xk, xn, xt, xb, xe⟩)])) := hid (Ao.snoc ((HAO.out.on Q4.out).on ((Q.refl _).alloc _)) (OB.out.on ((Q.refl _).alloc _)) hown' hgrow)
            have HQ2 : Hid (Q w2 w5) := Below.grown ((HQ.out.trans Q4.out).alloc _) hgrow (by have := (HQ.out.trans Q4.out).size; simp; omega) (Own.blk HAO.out.own)
            have HP2 : Hid ((P ++ [(Value.slice (some ⟨g, 0, none⟩) 1 1, (⟨xk, xn, xt, xb, xe⟩ : Cv))]).map (·.2) = Y.take (j + 1) ∧ ∀ p ∈ P ++ [(Value.slice (some ⟨g, 0, none⟩) 1 1, (⟨xk, xn, xt, xb, xe⟩ : Cv))], p.2.may = true ∧ p.2.k ≠ 2) := by
              refine ⟨?_, fun p hp => ?_⟩
              · rw [hst.out, List.map_append, HPP.out.1]; rfl
              · rcases List.mem_append.1 hp with hp | hp
                · exact HPP.out.2 p hp
                · simp at hp; subst hp; exact ⟨hA'.out, hk2⟩
            clear hown' hgrow
            go_wp2
            go_roundw
            case rel => exact ⟨j + 1, _, by omega, by go_num, rfl, HO2.out, HP2.out.1, HP2.out.2, HQ2.out⟩
            case measure => simp [intOf]; omega
    · have hjn : j = lx := by omega
      subst hjn
      have hPY' : P.map (·.2) = Y := by rw [hPY, List.take_of_length_le (by have := HYl.out; omega)]
      have HR := hid (fun W (q : Q w2 W) => rworst_sl Y _ W (SY.out.on q) (by have := HYl.out; omega) (fun x hx => (HYs.out x hx).sm))
      obtain ⟨e, he⟩ : ∃ e, worst Y = e := ⟨_, rfl⟩
      have hlo := worst_lo Y
      rw [he] at HR hlo
      have HAO := hid hao
      have HQ := hid hq
      have hjl : ¬ (j : Int) < (j : Int) := by omega
      by_cases hz : e = 0
      · subst hz
        clear hao hq hPY hPm
        go_wp2_with (go_at_call 22; refine (HR.out _ HQ.out).mono ?_; rintro r w5 ⟨rfl, q5⟩; have Q5' := hid (HQ.out.trans q5); clear q5)
        go_ret
        exact ⟨rfl, Q2.out.trans Q5'.out⟩
      · have hzb : (e == 0) = false := beq_eq_false_iff_ne.2 hz
        have hPlen : P.length = j := by have := congrArg List.length hPY'; simp at this; have := HYl.out; omega
        have hpos : 0 < j := by
          rcases Nat.eq_zero_or_pos j with h0 | h0
          · exfalso
            have h1 : Y = [] := List.eq_nil_of_length_eq_zero (by have := HYl.out; omega)
            subst h1
            exact hz he.symm
          · exact h0
        obtain ⟨g7, c7, hu7, _, _, _, _⟩ := Own.shape hao.own (by rw [sg_length]; omega)
        rw [sg_length, hPlen] at hu7
        subst hu7
        have HC1 : Hid (∀ W, Q wr W → Calls Tryz.prog 13 #[.string ⟨#[65, 66, 83]⟩, .slice (some ⟨g7, 0, none⟩) j c7] W fun r W' => r = .returned (er e).v ∧ Q W W') := hid (fun W q => by
          have h := scall_abs P (some ⟨g7, 0, none⟩) j c7 W (HW.out.on (Q2.out.trans (HQ.out.trans q))) (HAO.out.on q).args hPlen (by omega) (by omega) (by omega) (fun p hp => HYs.out _ (by rw [← hPY']; exact List.mem_map.2 ⟨p, hp, rfl⟩)) hPm (by rw [hPY', he]; exact hz)
          rw [hPY', he] at h
          exact h)
        have HC2 := hid (fun (s : Value) (V : World) (q : Q w V) (hs : Sl Cv.cells 5 V s [er e]) => iscall e (by omega) (by omega) s V (HW.out.on q) hs)
        have HER := hid (fun W => err_any e W)
        have HO := hid (fun W => arg1_ob (er e) W)
        have T0 : Hid True := trivial
        clear hao hq hPY hPm hPY' HAO he
        simp only [Cv.v, vv, er, bo] at HC1 HC2 HER HO
        go_wp2_with (first
          | (go_at_call 22; refine (HR.out _ HQ.out).mono ?_; rintro r w5 ⟨rfl, q5⟩; have Q5' := hid (HQ.out.trans q5); have R5 := hid q5; have cN := Lib.cell_of_heap (N2.out _ (HQ.out.trans q5)) 4; simp at cN; clear q5)
          | (go_at_call 13; clear T0; refine (HC1.out _ R5.out).mono ?_; rintro r w6 ⟨rfl, q6⟩; have Q6 := hid (Q2.out.trans (Q5'.out.trans q6)); have X6 := hid (bx_new w6 (.int .i64 4) (.int .i64 0) (.string ⟨#[]⟩) (.bool false) (.int .i64 e)); clear q6)
          | (go_at_call 26; refine (HER.out _).mono ?_; rintro r w7 ⟨rfl, q7⟩; have Q7 := hid ((Q6.out.alloc _).trans q7); have X7 := hid (X6.out.on q7); clear q7)
          | (go_at_call 24; refine (HO.out _).mono ?_; rintro r w8 ⟨u, rfl, ob, q8⟩; have Q8 := hid (Q7.out.trans q8); have X8 := hid (X7.out.on q8); have OB := hid ob; obtain ⟨g8, hu8, _⟩ := ob; subst hu8; clear q8)
          | (go_at_call 13; refine (HC2.out _ _ Q8.out OB.out.sl).mono ?_; rintro r w9 ⟨rfl, q9⟩; have Q9 := hid (Q8.out.trans q9); obtain ⟨x0, x1, x2, x3, x4, _, _, _, _, _, xl⟩ := X8.out.on q9; clear q9))
        go_ret
        exact ⟨rfl, by first | exact Q9.out.alloc _ | exact Q9.out⟩
end Go.Proofs.YtfjpdopmojfchaaGreatDoor
