/- Package builtin: the closure o. -/
import Derived.Test.YtfjpdopmojfchaaGreatDoorKc17
set_option linter.unusedVariables false
set_option linter.unusedSimpArgs false
set_option maxRecDepth 100000
set_option maxHeartbeats 8000000
namespace Go.Proofs.YtfjpdopmojfchaaGreatDoor
open Go.RowKit
set_option maxHeartbeats 2000000 in
theorem taken_abs (L : List Cv) (te : Cv → Int) (tf : Cv → Int) (v : Value) (y : Cv) (p q : Nat) (w : World) (hw : Std2 w) (h : Sl Cv.cells 5 w v L) (hm : L.length ≤ 1000)
    (hp : w.cell? ⟨p, 0, none⟩ = some (.func (.func 71) #[] #[])) (hq : w.cell? ⟨q, 0, none⟩ = some (.func (.func 72) #[] #[]))
    (hte : ∀ x ∈ L, 0 ≤ te x ∧ te x ≤ 7)
    (HA : ∀ x ∈ L, ∀ W, Q w W → Calls Tryz.prog 71 #[x.v] W fun r W' => r = .returned (.tuple #[.int .i64 (tf x), .int .i64 (te x)]) ∧ Q W W')
    (HG : tw te L = 0 → ∀ W s, Q w W → Sl encN 1 W s (oks te tf L) → Calls Tryz.prog 72 #[s] W fun r W' => r = .returned y.v ∧ Q W W') :
    Calls Tryz.prog 115 #[v, .pointer (some ⟨p, 0, none⟩), .pointer (some ⟨q, 0, none⟩)] w fun r w' => r = .returned (if tw te L = 0 then y else er (tw te L)).v ∧ Q w w' := by
  obtain ⟨ao, cap, rfl, h1, h2, h3⟩ := h
  obtain ⟨n, hn⟩ : ∃ n, L.length = n := ⟨_, rfl⟩
  have HP := hid hn
  obtain ⟨i0, hi, hz0, hz1, hz2⟩ := inf_of info37
  obtain ⟨i1, hj, hy0, hy1, hy2⟩ := inf_of info35
  have HC : Hid (0 < n → ∃ b off, ao = some ⟨b, off, none⟩ ∧ ∀ i (hp : i < L.length), At5 w b (off + i * 5) L[i]) := by
    intro h0
    obtain ⟨b, off, ha, hc⟩ := h3 (by omega)
    exact ⟨b, off, ha, fun i hp => at5_of (hc i hp)⟩
  have HW := hid hw
  have hbz : i1.bytes = 8 := hy2
  obtain ⟨T, hT⟩ : ∃ T, tw te L = T := ⟨_, rfl⟩
  have HT := hid hT
  have HTE := hid hte
  have HA' := hid HA
  have HG' := hid HG
  have HCP := hid (fun W (g : Q w W) => fcell hp g)
  have HCQ := hid (fun W (g : Q w W) => fcell hq g)
  rw [hn] at h1 hm ⊢
  rw [hT]
  obtain ⟨Y, hY⟩ : ∃ Y, (if T = 0 then y else er T) = Y := ⟨_, rfl⟩
  have HY := hid hY
  rw [hY]
  obtain ⟨yk, yn, yt, yb, ye⟩ := Y
  clear hw h3 hn hT hte HA HG hp hq hY
  simp only [Cv.v, vv]
  have hls : (w.alloc (.cells #[.int .i64 0, .int .i64 0, .string ⟨#[]⟩, .bool false, .int .i64 0] 37)).heap.size = w.heap.size + 1 := World.size_alloc _ _
  go_enter Tryz.func115, Tryz.ntmps115
  go_wp2_with (at_make; refine wpList_make_own _ rfl _ _ 89 rfl (w.heap.size + 1) 35 i1 (.int .i64 0) 1 Tryz.underlying89 hj hy0 hy1 .i64 .i64 _ n rfl rfl (by omega) (by rw [hbz]; omega) (by unfold maxLen; omega) (by rw [hls]; exact Nat.le_refl _) ?_; intro w0 hown0 hgrow0)
  have HQ0 : Hid (Q (w.alloc (.cells #[.int .i64 0, .int .i64 0, .string ⟨#[]⟩, .bool false, .int .i64 0] 37)) w0) := Below.grown (Q.refl _) hgrow0 (Nat.le_refl _) (fun k hk => by cases hk)
  have HO0 : Hid (Own encN 35 1 (w.heap.size + 1) w0 (.slice (some ⟨w.heap.size + 1, 0, none⟩) 0 n) []) := by show Own _ _ _ _ _ _ _; rw [hls] at hown0; exact hown0
  clear hown0 hgrow0
  go_wp2
  go_loopw [5, 6, 17] (fun s f i W => ∃ (k : Nat) (M : List Int) (E : List Int), k ≤ n ∧ i = .int .i64 k ∧ Own encN 35 1 (w.heap.size + 1) W s M ∧ Own Cv.cells 37 5 (w.heap.size + 1) W f (E.map er) ∧ M.length ≤ k ∧ E.length ≤ k ∧ Hid (M = oks te tf (L.take k)) ∧ Hid (E = fs te (L.take k)) ∧ Q (w.alloc (.cells #[.int .i64 0, .int .i64 0, .string ⟨#[]⟩, .bool false, .int .i64 0] 37)) W) (fun _ _ i _ => n - (intOf i).toNat)
  case atStart => exact ⟨0, [], [], Nat.zero_le _, rfl, HO0.out, own_nil _, Nat.zero_le _, Nat.zero_le _, (by show _ = _; simp [oks]), (by show _ = _; simp [fs]), HQ0.out⟩
  case round =>
    obtain ⟨k, M, E, hk, rfl, hown, howf, hMk, hEk, hMw, hEw, hq⟩ := hrel
    by_cases hlt : k < n
    · obtain ⟨b, off, rfl, hc⟩ := HC.out (by omega)
      have hkp : k < L.length := by have := HP.out; omega
      have a5 := (hc k hkp).on (bz_q hq)
      have hM1 := hid (oks_step te tf L k hkp)
      have hE1 := hid (fs_step te L k hkp)
      have HU := hid (HA'.out L[k] (List.getElem_mem hkp))
      have cp := HCP.out wr (bz_q hq)
      have hpb := World.block_lt_of_cell? wr _ cp
      clear hc
      generalize L[k] = x at *
      obtain ⟨e, he⟩ : ∃ e, te x = e := ⟨_, rfl⟩
      obtain ⟨t, ht⟩ : ∃ t, tf x = t := ⟨_, rfl⟩
      rw [he] at hM1 hE1 HU
      rw [ht] at hM1 HU
      clear he ht
      obtain ⟨xk, xn, xt, xb, xe⟩ := x
      obtain ⟨d0, d1, d2, d3, d4⟩ := a5
      simp only [Cv.v, vv] at HU d0 d1 d2 d3 d4
      have hb1 := World.block_lt_of_cell? wr _ d0
      have hkl : (k : Int) < (n : Int) := by omega
      have HOW := hid hown
      have HOF := hid howf
      have HQ := hid hq
      have HB1 := hid (bx_new wr (.int .i64 xk) (.int .i64 xn) (.string xt) (.bool xb) (.int .i64 xe))
      have hnp : p ≠ wr.heap.size := Nat.ne_of_lt hpb
      clear hown howf hq
      by_cases hz : e = 0
      · subst hz
        have hM2 : Hid (M ++ [t] = oks te tf (L.take (k + 1))) := by show _ = _; rw [hM1.out, ← hMw.out]; simp
        have hE2 : Hid (E = fs te (L.take (k + 1))) := by show _ = _; rw [hE1.out, ← hEw.out]; simp
        clear hM1 hE1 hMw hEw
        go_wp2_with (first
          | (go_at_call 71; refine (HU.out _ ((bz_q HQ.out).alloc _)).mono ?_; rintro r w2 ⟨rfl, q2⟩; have Q2 := hid (((Q.refl wr).alloc _).trans q2); clear q2)
          | (at_builtin; refine wpList_append_own _ rfl _ _ 89 rfl (w.heap.size + 1) 35 i1 (.int .i64 0) 1 8 Tryz.underlying89 hj hy0 hy1 hy2 rfl (by decide) _ _ _ rfl (World.ownsRow.alloc (Own.on HOW.out Q2.out) _) ⟨w2.heap.size, 0, none⟩ 1 1 [.int .i64 t] rfl rfl ?c1 ?c2 ?c3 ?c4 ?c5 ?_))
        case c1 => exact news_new w2 [.int .i64 t] 35
        case c2 =>
          intro u hu
          simp at hu
          subst hu
          rfl
        case c3 => unfold maxLen; omega
        case c4 => omega
        case c5 => have := (HQ.out.trans Q2.out).size; simp at this ⊢; omega
        · intro v' w3 hown' hgrow _
          have HO3 : Hid (Own encN 35 1 (w.heap.size + 1) w3 v' (M ++ [t])) := own_snoc' (x := t) hown' rfl
          have HQ3 : Hid (Q (w.alloc (.cells #[.int .i64 0, .int .i64 0, .string ⟨#[]⟩, .bool false, .int .i64 0] 37)) w3) := Below.grown ((HQ.out.trans Q2.out).alloc _) hgrow (by have := (HQ.out.trans Q2.out).size; simp at this ⊢; omega) (by rw [hls]; exact Own.blk HOW.out)
          have HF3 : Hid (Own Cv.cells 37 5 (w.heap.size + 1) w3 u6 (E.map er)) := Own.grown ((HOF.out.on Q2.out).alloc _) hgrow (own_ne HOF.out HOW.out (by decide))
          clear hown' hgrow
          go_wp2
          go_roundw
          case rel => exact ⟨k + 1, M ++ [t], E, by omega, by go_num, HO3.out, HF3.out, by simp; omega, by omega, hM2, hE2, HQ3.out⟩
          case measure => simp [intOf]; omega
      · have hz' : (e != 0) = true := bne_iff_ne.2 hz
        have HFa := hid (fun W => failure_any e W)
        simp only [Cv.v, vv, er] at HFa
        have hM2 : Hid (M = oks te tf (L.take (k + 1))) := by show _ = _; rw [hM1.out, ← hMw.out]; simp [hz]
        have hE2 : Hid (E ++ [e] = fs te (L.take (k + 1))) := by show _ = _; rw [hE1.out, ← hEw.out]; simp [hz]
        have hel : (E.map er).length = E.length := List.length_map ..
        clear hM1 hE1 hMw hEw
        go_wp2_with (first
          | (go_at_call 71; refine (HU.out _ ((bz_q HQ.out).alloc _)).mono ?_; rintro r w2 ⟨rfl, q2⟩; have Q2 := hid (((Q.refl wr).alloc _).trans q2); clear q2)
          | (go_at_call 30; refine (HFa.out _).mono ?_; rintro r w3 ⟨rfl, q3⟩; have Q3 := hid (Q2.out.trans q3); clear q3)
          | (at_builtin; refine wpList_append_own _ rfl _ _ 27 rfl (w.heap.size + 1) 37 i0 (.agg #[.int .i64 0, .int .i64 0, .string ⟨#[]⟩, .bool false, .int .i64 0]) 5 48 Tryz.underlying27 hi hz0 hz1 hz2 rfl (by decide) _ _ _ rfl (World.ownsRow.alloc (Own.on HOF.out Q3.out) _) ⟨w3.heap.size, 0, none⟩ 1 1 [.int .i64 4, .int .i64 0, .string ⟨#[]⟩, .bool false, .int .i64 e] rfl rfl ?c1 ?c2 ?c3 ?c4 ?c5 ?_))
        case c1 => exact news_new w3 [.int .i64 4, .int .i64 0, .string ⟨#[]⟩, .bool false, .int .i64 e] 37
        case c2 =>
          intro u hu
          simp at hu
          rcases hu with rfl | rfl | rfl | rfl | rfl <;> rfl
        case c3 => unfold maxLen; omega
        case c4 => omega
        case c5 => have := (HQ.out.trans Q3.out).size; simp at this ⊢; omega
        · intro v' w4 hown' hgrow _
          have HF4 : Hid (Own Cv.cells 37 5 (w.heap.size + 1) w4 v' ((E ++ [e]).map er)) := by show Own _ _ _ _ _ _ _; rw [List.map_append]; exact own_snoc' (x := er e) hown' (by rw [hel])
          have HQ4 : Hid (Q (w.alloc (.cells #[.int .i64 0, .int .i64 0, .string ⟨#[]⟩, .bool false, .int .i64 0] 37)) w4) := Below.grown ((HQ.out.trans Q3.out).alloc _) hgrow (by have := (HQ.out.trans Q3.out).size; simp at this ⊢; omega) (by rw [hls]; exact Own.blk HOF.out)
          have HO4 : Hid (Own encN 35 1 (w.heap.size + 1) w4 u5 M) := Own.grown ((HOW.out.on Q3.out).alloc _) hgrow (own_ne HOW.out HOF.out (by decide))
          clear hown' hgrow
          go_wp2
          go_roundw
          case rel => exact ⟨k + 1, M, E ++ [e], by omega, by go_num, HO4.out, HF4.out, by omega, by simp; omega, hM2, hE2, HQ4.out⟩
          case measure => simp [intOf]; omega
    · have hkn : k = n := by omega
      subst hkn
      have ht : L.take k = L := List.take_of_length_le (by have := HP.out; omega)
      rw [ht] at hMw hEw
      have hME := hMw.out
      have hEE := hEw.out
      have HE : Hid (worst (E.map er) = T) := by show _ = _; rw [hEE]; exact HT.out
      have HOW : Hid (Sl encN 1 wr u5 (oks te tf L)) := by show Sl _ _ _ _ _; rw [← hME]; exact hown.sl encN_len (by omega)
      have HU := hid (fun W (g : Q w W) (s : Sl Cv.cells 5 W u6 (E.map er)) => worst_sl (E.map er) u6 W (HW.out.on g) s (by rw [List.length_map]; omega) (fs_sm E))
      rw [HE.out] at HU
      have HOF : Hid (Sl Cv.cells 5 wr u6 (E.map er)) := howf.sl Cv.len (by omega)
      have HQ := hid hq
      have hkl : ¬ (k : Int) < (k : Int) := by omega
      clear hown howf hMw hEw hME hEE hq hMk hEk HE ht
      by_cases hz : T = 0
      · subst hz
        have hY := HY.out
        rw [if_pos rfl] at hY
        have HG2 := hid (HG'.out HT.out)
        rw [hY] at HG2
        simp only [Cv.v, vv] at HG2
        clear hY
        go_wp2_with (first
          | (go_at_call 38; refine (HU.out _ (bz_q HQ.out) HOF.out).mono ?_; rintro r w2 ⟨rfl, q2⟩; have Q2 := hid (HQ.out.trans q2); have SO := hid (HOW.out.on q2); have cq := HCQ.out _ (bz_q Q2.out); clear q2)
          | (go_at_call 72; refine (HG2.out _ _ (bz_q Q2.out) SO.out).mono ?_; rintro r w3 ⟨rfl, q3⟩; have Q3 := hid (Q2.out.trans q3); clear q3; obtain ⟨d0, d1, d2, d3, d4, y0, y1, y2, y3, y4, _⟩ := bz_on Q3.out))
        exact bodyPost_ret (v := .agg #[.int .i64 yk, .int .i64 yn, .string yt, .bool yb, .int .i64 ye]) (by simp [results, Tryz.results115, go_sem, d0, d1, d2, d3, d4]) rfl ⟨rfl, Q5 (bz_q Q3.out) (Nat.le_refl _)⟩
      · have hY := HY.out
        rw [if_neg hz] at hY
        have hz' : (T != 0) = true := bne_iff_ne.2 hz
        have HFa := hid (fun W => failure_any T W)
        rw [hY] at HFa
        simp only [Cv.v, vv] at HFa
        clear hY
        go_wp2_with (first
          | (go_at_call 38; refine (HU.out _ (bz_q HQ.out) HOF.out).mono ?_; rintro r w2 ⟨rfl, q2⟩; have Q2 := hid (HQ.out.trans q2); clear q2)
          | (go_at_call 30; refine (HFa.out _).mono ?_; rintro r w3 ⟨rfl, q3⟩; have Q3 := hid (Q2.out.trans q3); clear q3; obtain ⟨d0, d1, d2, d3, d4, y0, y1, y2, y3, y4, _⟩ := bz_on Q3.out))
        exact bodyPost_ret (v := .agg #[.int .i64 yk, .int .i64 yn, .string yt, .bool yb, .int .i64 ye]) (by simp [results, Tryz.results115, go_sem, d0, d1, d2, d3, d4]) rfl ⟨rfl, Q5 (bz_q Q3.out) (Nat.le_refl _)⟩
end Go.Proofs.YtfjpdopmojfchaaGreatDoor
