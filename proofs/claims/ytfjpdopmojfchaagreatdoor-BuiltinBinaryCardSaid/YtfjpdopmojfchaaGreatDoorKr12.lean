/- Package builtin: functions of single values; Package builtin: calls of functions of single values. -/
import Derived.Test.YtfjpdopmojfchaaGreatDoorKr11
set_option linter.unusedVariables false
set_option linter.unusedSimpArgs false
namespace Go.Proofs.YtfjpdopmojfchaaGreatDoor
open Go.RowKit
theorem info24 : (Tryz.prog.info? 37).map (fun i => (i.zero, i.size, i.bytes)) = some (some (.agg #[.int .i64 0, .int .i64 0, .string ⟨#[]⟩, .bool false, .int .i64 0]), 5, 48) := by kernel_rfl
/-- an argument's cells -/
structure At2 (w : World) (b o : Nat) (a : Ag) : Prop where
  c0 : w.cell? ⟨b, o, none⟩ = some (.bool a.r)
  c1 : w.cell? ⟨b, o + 1, none⟩ = some a.s
theorem at2_of {W : World} {b o : Nat} {x : Ag} (h : Ats Ag.cells W b o x) : At2 W b o x := ⟨h 0 _ rfl, h 1 _ rfl⟩
/-- arguments of one value each -/
def sg (P : List (Value × Cv)) : List Ag := P.map fun p => ⟨false, p.1, [p.2]⟩
theorem sg_at {P : List (Value × Cv)} {i : Nat} (hi : i < (sg P).length) (hp : i < P.length) : (sg P)[i] = ⟨false, P[i].1, [P[i].2]⟩ := by simp [sg]
theorem single_sl {W : World} {s : Value} {x : Cv} (h : Sl Cv.cells 5 W s [x]) : ∃ b off cap, s = .slice (some ⟨b, off, none⟩) 1 cap ∧ At5 W b off x := by
  obtain ⟨b, off, cap, hv, _, _, ha⟩ := h.at (i := 0) (by simp)
  refine ⟨b, off, cap, hv, ?_⟩
  have := at5_of ha
  simpa using this
theorem sg_snoc (P : List (Value × Cv)) (k : Nat) (hk : k < P.length) : (P.take (k + 1)).map (fun p => ctd p.2) = (P.take k).map (fun p => ctd p.2) ++ [ctd P[k].2] := by
  rw [List.take_succ_eq_append_getElem hk, List.map_append]
  rfl
theorem sg_len (P : List (Value × Cv)) (k : Nat) (hk : k ≤ P.length) : ((P.take k).map (fun p => ctd p.2)).length = k := by simp; omega
set_option maxRecDepth 100000 in
set_option maxHeartbeats 4000000 in
theorem singles_yes (P : List (Value × Cv)) (v : Value) (w : World) (hw : Std2 w) (h : Args w v (sg P)) (hm : P.length ≤ 1000) (hs : ∀ p ∈ P, p.2.sm) :
    Calls Tryz.prog 111 #[v] w fun e w' => ∃ s, e = .returned (.tuple #[s, .bool true]) ∧ Sl Cv.cells 5 w' s (P.map fun p => ctd p.2) ∧ Q w w' := by
  obtain ⟨⟨ao, cap, rfl, h1, h2, h3⟩, hvs⟩ := h
  have hlen : (sg P).length = P.length := by simp [sg]
  rw [hlen] at h1 ⊢
  obtain ⟨n, hn⟩ : ∃ n, P.length = n := ⟨_, rfl⟩
  have HP := hid hn
  obtain ⟨i0, hi, hz0, hz1, hz2⟩ := inf_of info24
  have HC : Hid (0 < n → ∃ b off, ao = some ⟨b, off, none⟩ ∧ ∀ i (hp : i < P.length), At2 w b (off + i * 2) ⟨false, P[i].1, [P[i].2]⟩ ∧ Sl Cv.cells 5 w P[i].1 [P[i].2]) := by
    intro h0
    rw [← hn] at h0
    obtain ⟨b, off, ha, hc⟩ := h3 (by rw [hlen]; exact h0)
    refine ⟨b, off, ha, fun i hp => ⟨?_, ?_⟩⟩
    · have := at2_of (hc i (by rw [hlen]; exact hp))
      rw [sg_at _ hp] at this
      exact this
    · exact hvs ⟨false, P[i].1, [P[i].2]⟩ (by simp only [sg, List.mem_map]; exact ⟨P[i], List.getElem_mem hp, rfl⟩)
  have HS := hid hs
  have HW := hid hw
  have hbz : i0.bytes = 48 := hz2
  rw [hn] at h1 hm ⊢
  clear hw hs h3 hvs hlen hn
  go_enter Tryz.func111, Tryz.ntmps111
  go_wp2_with (at_make; refine wpList_make_own _ rfl _ _ 27 rfl w.heap.size 37 i0 (.agg #[.int .i64 0, .int .i64 0, .string ⟨#[]⟩, .bool false, .int .i64 0]) 5 Tryz.underlying27 hi hz0 hz1 .i64 .i64 _ n rfl rfl (by omega) (by rw [hbz]; omega) (by unfold maxLen; omega) (Nat.le_refl _) ?_; intro w0 hown0 hgrow0)
  have HQ0 : Hid (Q w w0) := Below.grown (Q.refl w) hgrow0 (Nat.le_refl _) (fun k hk => by cases hk)
  have HO0 : Hid (Own Cv.cells 37 5 w.heap.size w0 (.slice (some ⟨w.heap.size, 0, none⟩) 0 n) []) := hown0
  clear hown0 hgrow0
  go_wp2
  go_loopw [2, 3, 4, 12] (fun r2 r3 s i W => ∃ k : Nat, k ≤ n ∧ i = .int .i64 k ∧ r2 = .slice none 0 0 ∧ r3 = .bool false ∧ Own Cv.cells 37 5 w.heap.size W s ((P.take k).map fun p => ctd p.2) ∧ Q w W) (fun _ _ _ i _ => n - (intOf i).toNat)
  case atStart => exact ⟨0, Nat.zero_le _, rfl, rfl, rfl, HO0.out, HQ0.out⟩
  case round =>
    obtain ⟨k, hk, rfl, rfl, rfl, hown, hq⟩ := hrel
    by_cases hlt : k < n
    · obtain ⟨b, off, rfl, hc⟩ := HC.out (by omega)
      have hkp : k < P.length := by have := HP.out; omega
      obtain ⟨⟨c0, c1⟩, hsl⟩ := hc k hkp
      have hF := hid (sg_snoc P k hkp)
      have hL := hid (sg_len P k (by omega))
      have hsm := HS.out P[k] (List.getElem_mem hkp)
      have c0' := (hq.cell (World.block_lt_of_cell? w _ c0)).trans c0
      have c1' := (hq.cell (World.block_lt_of_cell? w _ c1)).trans c1
      have hsl' := hsl.on hq
      simp only at c0' c1' hsl'
      clear c0 c1 hsl hc
      generalize P[k] = p at *
      obtain ⟨s, x⟩ := p
      simp only at c0' c1' hsl' hsm
      obtain ⟨b', off', cap', rfl, a5⟩ := single_sl hsl'
      have HU := hid (fun W (q : Q w W) => counted_any x W (HW.out.on q) hsm)
      have HA5 := hid a5
      obtain ⟨xk, xn, xt, xb, xe⟩ := x
      have hcx : ∃ y, ctd ⟨xk, xn, xt, xb, xe⟩ = y := ⟨_, rfl⟩
      obtain ⟨y, hy⟩ := hcx
      rw [hy] at HU
      have hF' : Hid ((P.take (k + 1)).map (fun p => ctd p.2) = (P.take k).map (fun p => ctd p.2) ++ [y]) := by
        show _ = _
        rw [hF.out, hy]
      obtain ⟨yk, yn, yt, yb, ye⟩ := y
      obtain ⟨d0, d1, d2, d3, d4⟩ := a5
      simp only [Cv.v, vv] at HU d0 d1 d2 d3 d4
      generalize (P.take k).map (fun p => ctd p.2) = L at hown hF' hL
      have HOW := hid hown
      have HQ := hid hq
      have hb1 := World.block_lt_of_cell? wr _ d0
      have hkl : (k : Int) < (n : Int) := by omega
      clear hown hq hy hF hsl'
      go_wp2_with (first
        | (go_at_call 37; refine (HU.out _ ((HQ.out).alloc _)).mono ?_; rintro r w2 ⟨rfl, q2⟩; have Q2 := hid (((Q.refl wr).alloc _).trans q2); clear q2)
        | (at_builtin; refine wpList_append_own _ rfl _ _ 27 rfl w.heap.size 37 i0 (.agg #[.int .i64 0, .int .i64 0, .string ⟨#[]⟩, .bool false, .int .i64 0]) 5 48 Tryz.underlying27 hi hz0 hz1 hz2 rfl (by decide) _ _ _ rfl (World.ownsRow.alloc (Own.on HOW.out Q2.out) _) ⟨w2.heap.size, 0, none⟩ 1 1 [.int .i64 yk, .int .i64 yn, .string yt, .bool yb, .int .i64 ye] rfl rfl ?c1 ?c2 ?c3 ?c4 ?c5 ?_))
      case c1 => exact news_new w2 [.int .i64 yk, .int .i64 yn, .string yt, .bool yb, .int .i64 ye] 37
      case c2 =>
        intro u hu
        simp at hu
        rcases hu with rfl | rfl | rfl | rfl | rfl <;> rfl
      case c3 => have := hL.out; unfold maxLen; omega
      case c4 => have := hL.out; omega
      case c5 => have := (HQ.out.trans Q2.out).size; simp; omega
      · intro v' w3 hown' hgrow _
        have HO2 : Hid (Own Cv.cells 37 5 w.heap.size w3 v' ((P.take (k + 1)).map fun p => ctd p.2)) := by
          show Own _ _ _ _ _ _ _
          rw [hF'.out]
          exact own_snoc' (x := (⟨yk, yn, yt, yb, ye⟩ : Cv)) hown' rfl
        have HQ2 : Hid (Q w w3) := Below.grown ((HQ.out.trans Q2.out).alloc _) hgrow (by have := (HQ.out.trans Q2.out).size; simp; omega) (Own.blk HOW.out)
        clear hown' hgrow
        go_wp2
        go_roundw
        case rel => exact ⟨k + 1, by omega, by go_num, rfl, rfl, HO2.out, HQ2.out⟩
        case measure => simp [intOf]; omega
    · have hkn : k = n := by omega
      subst hkn
      have HOW : Hid (Sl Cv.cells 5 wr u4 (P.map fun p => ctd p.2)) := by
        show Sl _ _ _ _ _
        rw [List.take_of_length_le (by have := HP.out; omega)] at hown
        exact hown.sl Cv.len (by omega)
      clear hown
      have hkl : ¬ (k : Int) < (k : Int) := by omega
      go_wp2
      go_ret2
      exact ⟨_, rfl, HOW.out, hq⟩
set_option maxHeartbeats 1000000 in
theorem sing75 (P : List (Value × Cv)) (v : Value) (y : Cv) (p : Nat)  (w : World) (hw : Std2 w) (h : Args w v (sg P)) (hm : P.length ≤ 1000) (hs : ∀ p ∈ P, p.2.sm) (hp : w.cell? ⟨p, 0, none⟩ = some (.func (.func 64) #[] #[]))
    (HG : ∀ W s, Q w W → Sl Cv.cells 5 W s (P.map fun p => ctd p.2) → Calls Tryz.prog 64 #[s] W fun r W' => r = .returned y.v ∧ Q W W') :
    Calls Tryz.prog 110 #[v, .pointer (some ⟨p, 0, none⟩)] w fun r w' => r = .returned y.v ∧ Q w w' := by
  have HB := hid (bxz w)
  have HS := hid (fun W (g : Q w W) => singles_yes P v W (hw.on g) (h.on g) hm hs)
  have HG' := hid HG
  have hpl := World.block_lt_of_cell? w _ hp
  have HP := hid (fun W (g : Q w W) => fcell hp g)
  obtain ⟨yk, yn, yt, yb, ye⟩ := y
  clear hw h hm hs hp HG
  simp only [Cv.v, vv] at *
  go_enter Tryz.func110, Tryz.ntmps110
  go_wp2_with (first
    | (go_at_call 111; refine (HS.out _ ((Q.refl _).alloc _)).mono ?_; rintro x w1 ⟨s, rfl, S1, q1⟩; have B1 := HB.out.on q1; have Q1 : Hid (Q w w1) := hid (((Q.refl _).alloc _).trans q1); clear q1; have cp := HP.out _ Q1.out; have S2 := hid S1; clear S1)
    | (go_at_call 64; refine (HG'.out _ _ Q1.out S2.out).mono ?_; rintro x w2 ⟨rfl, q1⟩; have B2 := B1.on q1; have Q2 : Hid (Q w w2) := hid (Q1.out.trans q1); clear q1; obtain ⟨d0, d1, d2, d3, d4, y0, y1, y2, y3, y4, _⟩ := B2))
  exact bodyPost_ret (v := .agg #[.int .i64 yk, .int .i64 yn, .string yt, .bool yb, .int .i64 ye]) (by simp [results, Tryz.results110, go_sem, d0, d1, d2, d3, d4]) rfl ⟨rfl, Q5 Q2.out (Nat.le_refl _)⟩
set_option maxHeartbeats 1000000 in
theorem sing82 (P : List (Value × Cv)) (v : Value) (y : Cv) (p : Nat)  (w : World) (hw : Std2 w) (h : Args w v (sg P)) (hm : P.length ≤ 1000) (hs : ∀ p ∈ P, p.2.sm) (hp : w.cell? ⟨p, 0, none⟩ = some (.func (.func 74) #[] #[]))
    (HG : ∀ W s, Q w W → Sl Cv.cells 5 W s (P.map fun p => ctd p.2) → Calls Tryz.prog 74 #[s] W fun r W' => r = .returned y.v ∧ Q W W') :
    Calls Tryz.prog 110 #[v, .pointer (some ⟨p, 0, none⟩)] w fun r w' => r = .returned y.v ∧ Q w w' := by
  have HB := hid (bxz w)
  have HS := hid (fun W (g : Q w W) => singles_yes P v W (hw.on g) (h.on g) hm hs)
  have HG' := hid HG
  have hpl := World.block_lt_of_cell? w _ hp
  have HP := hid (fun W (g : Q w W) => fcell hp g)
  obtain ⟨yk, yn, yt, yb, ye⟩ := y
  clear hw h hm hs hp HG
  simp only [Cv.v, vv] at *
  go_enter Tryz.func110, Tryz.ntmps110
  go_wp2_with (first
    | (go_at_call 111; refine (HS.out _ ((Q.refl _).alloc _)).mono ?_; rintro x w1 ⟨s, rfl, S1, q1⟩; have B1 := HB.out.on q1; have Q1 : Hid (Q w w1) := hid (((Q.refl _).alloc _).trans q1); clear q1; have cp := HP.out _ Q1.out; have S2 := hid S1; clear S1)
    | (go_at_call 74; refine (HG'.out _ _ Q1.out S2.out).mono ?_; rintro x w2 ⟨rfl, q1⟩; have B2 := B1.on q1; have Q2 : Hid (Q w w2) := hid (Q1.out.trans q1); clear q1; obtain ⟨d0, d1, d2, d3, d4, y0, y1, y2, y3, y4, _⟩ := B2))
  exact bodyPost_ret (v := .agg #[.int .i64 yk, .int .i64 yn, .string yt, .bool yb, .int .i64 ye]) (by simp [results, Tryz.results110, go_sem, d0, d1, d2, d3, d4]) rfl ⟨rfl, Q5 Q2.out (Nat.le_refl _)⟩
set_option maxHeartbeats 1000000 in
theorem iserr_any (x : Cv) (v : Value) (w : World) (h : Sl Cv.cells 5 w v [x]) : Calls Tryz.prog 74 #[v] w fun r w' => r = .returned (bo (x.k == 4)).v ∧ Q w w' := by
  obtain ⟨b, off, cap, rfl, a5⟩ := single_sl h
  clear h
  have HB := hid (bxz w)
  have HT := hid (fun W => btruth_any (x.k == 4) W)
  obtain ⟨k, n, t, bb, e⟩ := x
  have hlt := World.block_lt_of_cell? w _ a5.c0
  obtain ⟨c0, c1, c2, c3, c4⟩ := a5
  simp only [Cv.v, vv, bo] at *
  go_enter Tryz.func74, Tryz.ntmps74
  go_wp2_with (go_at_call 43; refine (HT.out _).mono ?_; rintro x w2 ⟨rfl, q1⟩; have B2 := HB.out.on q1; have Q2 : Hid (Q w w2) := hid (((Q.refl _).alloc _).trans q1); clear q1; obtain ⟨d0, d1, d2, d3, d4, y0, y1, y2, y3, y4, _⟩ := B2)
  exact bodyPost_ret (v := .agg #[.int .i64 3, .int .i64 0, .string ⟨#[]⟩, .bool (k == 4), .int .i64 0]) (by simp [results, Tryz.results74, go_sem, d0, d1, d2, d3, d4]) rfl ⟨rfl, Q5 Q2.out (Nat.le_refl _)⟩
end Go.Proofs.YtfjpdopmojfchaaGreatDoor
