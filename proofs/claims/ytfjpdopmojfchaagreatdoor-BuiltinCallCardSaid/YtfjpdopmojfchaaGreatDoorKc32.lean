/- The reference's Call. -/
import Derived.Test.YtfjpdopmojfchaaGreatDoorKc31
import Derived.Test.YtfjpdopmojfchaaGreatDoorKc30
import Derived.Test.YtfjpdopmojfchaaGreatDoorKc26
import Derived.Deep.CutBlock
set_option linter.unusedVariables false
set_option linter.unusedSimpArgs false
set_option maxRecDepth 100000
set_option maxHeartbeats 8000000
namespace Go.Proofs.YtfjpdopmojfchaaGreatDoor
open Go.RowKit
def Pl (s : ByteArray) (k : Int) : Prop := ∀ W, Calls Tryz.prog 31 #[.string s] W fun e w' => e = .returned (.int .i64 k) ∧ Q W w'
def Tk (k lo hi : Int) : Prop := ∀ W, Calls Tryz.prog 33 #[.int .i64 k] W fun e w' => e = .returned (.tuple #[.int .i64 lo, .int .i64 hi]) ∧ w' = W
theorem rknown_pl (s : ByteArray) (k : Int) (h : Pl s k) (w : World) : Calls Tryz.prog 16 #[.string s] w fun e w' => e = .returned (.bool (decide (0 ≤ k))) ∧ Q w w' := by
  have HP := hid h
  clear h
  go_enter Tryz.func16, Tryz.ntmps16
  go_wp2_with (go_at_call 31; refine (HP.out _).mono ?_; rintro x w1 ⟨rfl, q1⟩)
  go_ret
  exact ⟨rfl, q1⟩
set_option maxHeartbeats 1000000 in
theorem rcall_none (s : ByteArray) (v : Value) (w : World) (h : Pl s (-1)) : Calls Tryz.prog 14 #[.string s, v] w fun r w' => r = .returned (er 6).v ∧ Q w w' := by
  have HP := hid h
  have HE := hid (fun W => err_any 6 W)
  clear h
  simp only [Cv.v, vv, er] at *
  go_enter Tryz.func14, Tryz.ntmps14
  go_wp2_with (first
    | (go_at_call 31; refine (HP.out _).mono ?_; rintro x w1 ⟨rfl, q1⟩; have Q1 := hid q1; clear q1)
    | (go_at_call 26; refine (HE.out _).mono ?_; rintro x w2 ⟨rfl, q1⟩; have Q2 := hid (Q1.out.trans q1); clear q1; obtain ⟨d0, d1, d2, d3, d4, y0, y1, y2, y3, y4, _⟩ := bz_on Q2.out))
  exact bodyPost_ret (v := .agg #[.int .i64 4, .int .i64 0, .string ⟨#[]⟩, .bool false, .int .i64 6]) (by simp [results, Tryz.results14, go_sem, d0, d1, d2, d3, d4]) rfl ⟨rfl, Q5 (bz_q Q2.out) (Nat.le_refl _)⟩
set_option maxHeartbeats 1000000 in
theorem rcall_agg (s : ByteArray) (K : Nat) (hK : K < 5) (v : Value) (y : Cv) (w : World) (h : Pl s K) (HG : ∀ W, Q w W → Calls Tryz.prog 32 #[.int .i64 K, v] W fun r w' => r = .returned y.v ∧ Q W w') : Calls Tryz.prog 14 #[.string s, v] w fun r w' => r = .returned y.v ∧ Q w w' := by
  have HP := hid h
  have HG' := hid HG
  have hk0 : ¬ (K : Int) < 0 := by omega
  have hk5 : (K : Int) < 5 := by omega
  clear h HG
  obtain ⟨yk, yn, yt, yb, ye⟩ := y
  simp only [Cv.v, vv] at *
  go_enter Tryz.func14, Tryz.ntmps14
  go_wp2_with (first
    | (go_at_call 31; refine (HP.out _).mono ?_; rintro x w1 ⟨rfl, q1⟩; have Q1 := hid q1; clear q1)
    | (go_at_call 32; refine (HG'.out _ (bz_q Q1.out)).mono ?_; rintro x w2 ⟨rfl, q1⟩; have Q2 := hid (Q1.out.trans q1); clear q1; obtain ⟨d0, d1, d2, d3, d4, y0, y1, y2, y3, y4, _⟩ := bz_on Q2.out))
  exact bodyPost_ret (v := .agg #[.int .i64 yk, .int .i64 yn, .string yt, .bool yb, .int .i64 ye]) (by simp [results, Tryz.results14, go_sem, d0, d1, d2, d3, d4]) rfl ⟨rfl, Q5 (bz_q Q2.out) (Nat.le_refl _)⟩
set_option maxHeartbeats 1000000 in
theorem rcall_lo (s : ByteArray) (k lo hi : Int) (hk : 5 ≤ k) (ao : Option Addr) (n cap : Nat) (w : World) (h : Pl s k) (ht : Tk k lo hi) (hn : (n : Int) < lo) : Calls Tryz.prog 14 #[.string s, .slice ao n cap] w fun r w' => r = .returned (er 5).v ∧ Q w w' := by
  have HP := hid h
  have HT := hid ht
  have HE := hid (fun W => err_any 5 W)
  have hk0 : ¬ k < 0 := by omega
  have hk5 : ¬ k < 5 := by omega
  clear h ht hk
  simp only [Cv.v, vv, er] at *
  go_enter Tryz.func14, Tryz.ntmps14
  go_wp2_with (first
    | (go_at_call 31; refine (HP.out _).mono ?_; rintro x w1 ⟨rfl, q1⟩; have Q1 := hid q1; clear q1)
    | (go_at_call 33; refine (HT.out _).mono ?_; rintro x w1' ⟨rfl, rfl⟩)
    | (go_at_call 26; refine (HE.out _).mono ?_; rintro x w2 ⟨rfl, q1⟩; have Q2 := hid (Q1.out.trans q1); clear q1; obtain ⟨d0, d1, d2, d3, d4, y0, y1, y2, y3, y4, _⟩ := bz_on Q2.out))
  exact bodyPost_ret (v := .agg #[.int .i64 4, .int .i64 0, .string ⟨#[]⟩, .bool false, .int .i64 5]) (by simp [results, Tryz.results14, go_sem, d0, d1, d2, d3, d4]) rfl ⟨rfl, Q5 (bz_q Q2.out) (Nat.le_refl _)⟩
set_option maxHeartbeats 1000000 in
theorem rcall_hi (s : ByteArray) (k lo hi : Int) (hk : 5 ≤ k) (ao : Option Addr) (n cap : Nat) (w : World) (h : Pl s k) (ht : Tk k lo hi) (hn : ¬ (n : Int) < lo ∧ hi < (n : Int)) : Calls Tryz.prog 14 #[.string s, .slice ao n cap] w fun r w' => r = .returned (er 5).v ∧ Q w w' := by
  have HP := hid h
  have HT := hid ht
  have HE := hid (fun W => err_any 5 W)
  have hk0 : ¬ k < 0 := by omega
  have hk5 : ¬ k < 5 := by omega
  obtain ⟨hn0, hn1⟩ := hn
  clear h ht hk
  simp only [Cv.v, vv, er] at *
  go_enter Tryz.func14, Tryz.ntmps14
  go_wp2_with (first
    | (go_at_call 31; refine (HP.out _).mono ?_; rintro x w1 ⟨rfl, q1⟩; have Q1 := hid q1; clear q1)
    | (go_at_call 33; refine (HT.out _).mono ?_; rintro x w1' ⟨rfl, rfl⟩)
    | (go_at_call 26; refine (HE.out _).mono ?_; rintro x w2 ⟨rfl, q1⟩; have Q2 := hid (Q1.out.trans q1); clear q1; obtain ⟨d0, d1, d2, d3, d4, y0, y1, y2, y3, y4, _⟩ := bz_on Q2.out))
  exact bodyPost_ret (v := .agg #[.int .i64 4, .int .i64 0, .string ⟨#[]⟩, .bool false, .int .i64 5]) (by simp [results, Tryz.results14, go_sem, d0, d1, d2, d3, d4]) rfl ⟨rfl, Q5 (bz_q Q2.out) (Nat.le_refl _)⟩
set_option maxHeartbeats 4000000 in
theorem rcall_bad (s : ByteArray) (k lo hi : Int) (hk : 5 ≤ k) (P : List (Value × Cv)) (a : Ag) (R : List Ag) (ao : Option Addr) (n cap : Nat) (w : World) (h : Pl s k) (ht : Tk k lo hi) (hA : Args w (.slice ao n cap) (sg P ++ a :: R)) (hm : n ≤ 1000) (hn0 : lo ≤ (n : Int)) (hn1 : (n : Int) ≤ hi) (ha : a.r = true ∨ a.l.length ≠ 1) :
    Calls Tryz.prog 14 #[.string s, .slice ao n cap] w fun r w' => r = .returned (er 5).v ∧ Q w w' := by
  have HP := hid h
  have HT := hid ht
  have HE := hid (fun W => err_any 5 W)
  have hk0 : ¬ k < 0 := by omega
  have hk5 : ¬ k < 5 := by omega
  obtain ⟨⟨ao1, cap1, hv, h1, h2, h3⟩, hvs⟩ := hA
  simp only [Value.slice.injEq] at hv
  obtain ⟨rfl, hnn, rfl⟩ := hv
  have hml : P.length < (sg P ++ a :: R).length := by simp [sg]
  have hmid := two_mid P a R hml
  have HA : Hid (∃ b off, ao = some ⟨b, off, none⟩ ∧ At2 w b (off + P.length * 2) a ∧ Sl Cv.cells 5 w a.s a.l) := by
    obtain ⟨b, off, e, hc⟩ := h3 (by omega)
    refine ⟨b, off, e, ?_, hvs a (by simp)⟩
    have := at2_of (hc P.length hml)
    rw [hmid] at this
    exact this
  obtain ⟨m, hmm⟩ : ∃ m, P.length = m := ⟨_, rfl⟩
  have HPn := hid hmm
  have HC : Hid (0 < n → ∃ b off, ao = some ⟨b, off, none⟩ ∧ ∀ i (hp : i < P.length), At2 w b (off + i * 2) ⟨false, P[i].1, [P[i].2]⟩ ∧ Sl Cv.cells 5 w P[i].1 [P[i].2]) := by
    intro _
    obtain ⟨b, off, e, hc⟩ := h3 (by omega)
    refine ⟨b, off, e, fun i hp => ?_⟩
    have hi' : i < (sg P ++ a :: R).length := by omega
    refine ⟨?_, ?_⟩
    · have := at2_of (hc i hi')
      rw [two_apart P a R hp hi'] at this
      exact this
    · exact hvs ⟨false, P[i].1, [P[i].2]⟩ (by rw [List.mem_append]; left; simp only [sg, List.mem_map]; exact ⟨P[i], List.getElem_mem hp, rfl⟩)
  have HAR := hid ha
  have hmn : m < n := by omega
  rw [hmm] at HA
  have hx0 : ¬ (n : Int) < lo := by omega
  have hx1 : ¬ hi < (n : Int) := by omega
  have hls : (w.alloc (.cells #[.int .i64 0, .int .i64 0, .string ⟨#[]⟩, .bool false, .int .i64 0] 37)).heap.size = w.heap.size + 1 := World.size_alloc _ _
  clear h ht h1 h3 hvs ha hmid hmm hml hnn hn0 hn1 hk
  simp only [Cv.v, vv, er] at *
  obtain ⟨i0, hi0, hz0, hz1, hz2⟩ := inf_of info24
  go_enter Tryz.func14, Tryz.ntmps14
  go_wp2_with (first
    | (go_at_call 31; refine (HP.out _).mono ?_; rintro x w1 ⟨rfl, q1⟩; have Q1 := hid q1; clear q1)
    | (go_at_call 33; refine (HT.out _).mono ?_; rintro x w1' ⟨rfl, rfl⟩))
  go_loopw [8, 9] (fun s i W => ∃ j : Nat, j ≤ m ∧ i = .int .i64 j ∧ Own Cv.cells 37 5 (w.heap.size + 1) W s ((P.take j).map (·.2)) ∧ Q (w.alloc (.cells #[.int .i64 0, .int .i64 0, .string ⟨#[]⟩, .bool false, .int .i64 0] 37)) W) (fun _ i _ => n - (intOf i).toNat)
  case atStart => exact ⟨0, Nat.zero_le _, rfl, own_nil _, Q1.out⟩
  case round =>
    obtain ⟨j, hj, rfl, hown, hq⟩ := hrel
    by_cases hlt : j < m
    · obtain ⟨b, off, rfl, hc⟩ := HC.out (by omega)
      have hkp : j < P.length := by have := HPn.out; omega
      obtain ⟨⟨c0, c1⟩, hsl⟩ := hc j hkp
      have hF : Hid ((P.take (j + 1)).map (·.2) = (P.take j).map (·.2) ++ [P[j].2]) := by
        show _ = _
        rw [List.take_succ_eq_append_getElem hkp, List.map_append]
        rfl
      have hL : Hid (((P.take j).map (·.2)).length = j) := by show _ = _; simp; omega
      have hq0 := bz_q hq
      have c0' := (hq0.cell (World.block_lt_of_cell? w _ c0)).trans c0
      have c1' := (hq0.cell (World.block_lt_of_cell? w _ c1)).trans c1
      have hsl' := hsl.on hq0
      simp only at c0' c1' hsl'
      clear c0 c1 hsl hc
      generalize P[j] = p at *
      obtain ⟨u, x⟩ := p
      simp only at c0' c1' hsl'
      obtain ⟨b', off', cap', rfl, a5⟩ := single_sl hsl'
      obtain ⟨xk, xn, xt, xb, xe⟩ := x
      obtain ⟨d0, d1, d2, d3, d4⟩ := a5
      simp only at d0 d1 d2 d3 d4 hF
      generalize (P.take j).map (·.2) = L0 at hown hF hL
      have HOW := hid hown
      have HQ := hid hq
      have hb1 := World.block_lt_of_cell? wr _ d0
      have hkl : (j : Int) < (n : Int) := by omega
      clear hown hq hsl' hq0
      go_wp2_with (at_builtin; refine wpList_append_own _ rfl _ _ 27 rfl (w.heap.size + 1) 37 i0 (.agg #[.int .i64 0, .int .i64 0, .string ⟨#[]⟩, .bool false, .int .i64 0]) 5 48 Tryz.underlying27 hi0 hz0 hz1 hz2 rfl (by decide) _ _ _ rfl (World.ownsRow.alloc HOW.out _) ⟨wr.heap.size, 0, none⟩ 1 1 [.int .i64 xk, .int .i64 xn, .string xt, .bool xb, .int .i64 xe] rfl rfl ?c1 ?c2 ?c3 ?c4 ?c5 ?_)
      try (case c1 => exact news_new wr [.int .i64 xk, .int .i64 xn, .string xt, .bool xb, .int .i64 xe] 37)
      case c2 => exact ⟨rfl, rfl, rfl, rfl, rfl⟩
      case c3 => have := hL.out; unfold maxLen; omega
      case c4 => have := hL.out; omega
      case c5 => have := HQ.out.size; rw [hls] at this; omega
      · intro v' w3 hown' hgrow _
        have HO2 : Hid (Own Cv.cells 37 5 (w.heap.size + 1) w3 v' ((P.take (j + 1)).map (·.2))) := by
          show Own _ _ _ _ _ _ _
          rw [hF.out]
          exact own_snoc' (x := (⟨xk, xn, xt, xb, xe⟩ : Cv)) hown' rfl
        have HQ2 : Hid (Q (w.alloc (.cells #[.int .i64 0, .int .i64 0, .string ⟨#[]⟩, .bool false, .int .i64 0] 37)) w3) := Below.grown (HQ.out.alloc _) hgrow (by have := HQ.out.size; simp; omega) (by rw [hls]; exact Own.blk HOW.out)
        clear hown' hgrow
        go_wp2
        go_roundw
        case rel => exact ⟨j + 1, by omega, by go_num, HO2.out, HQ2.out⟩
        case measure => simp [intOf]; omega
    · have hkm : j = m := by omega
      subst hkm
      clear hown
      obtain ⟨b, off, rfl, ⟨c0, c1⟩, hsl⟩ := HA.out
      have hq0 := bz_q hq
      have c0' := (hq0.cell (World.block_lt_of_cell? w _ c0)).trans c0
      have c1' := (hq0.cell (World.block_lt_of_cell? w _ c1)).trans c1
      obtain ⟨ao', cap', hsv⟩ := len_run hsl
      have HAR' := HAR.out
      obtain ⟨ar, asv, al⟩ := a
      simp only at c0' c1' hsv HAR'
      subst hsv
      clear c0 c1 hsl hq0
      obtain ⟨q, hql⟩ : ∃ q, al.length = q := ⟨_, rfl⟩
      rw [hql] at HAR' c1'
      have hkl : (j : Int) < (n : Int) := by omega
      have HQ := hid hq
      clear hq hql HA HC HAR
      cases ar
      · have hne : ((q : Int) == 1) = false := by rcases HAR' with h | h; cases h; simpa using (by omega : (q : Int) ≠ 1)
        clear HAR'
        go_wp2_with (go_at_call 26; refine (HE.out _).mono ?_; rintro x w2 ⟨rfl, q1⟩; have Q2 := hid (HQ.out.trans q1); clear q1; obtain ⟨d0, d1, d2, d3, d4, y0, y1, y2, y3, y4, _⟩ := bz_on Q2.out)
        exact bodyPost_ret (v := .agg #[.int .i64 4, .int .i64 0, .string ⟨#[]⟩, .bool false, .int .i64 5]) (by simp [results, Tryz.results14, go_sem, d0, d1, d2, d3, d4]) rfl ⟨rfl, Q5 (bz_q Q2.out) (Nat.le_refl _)⟩
      · clear HAR'
        go_wp2_with (go_at_call 26; refine (HE.out _).mono ?_; rintro x w2 ⟨rfl, q1⟩; have Q2 := hid (HQ.out.trans q1); clear q1; obtain ⟨d0, d1, d2, d3, d4, y0, y1, y2, y3, y4, _⟩ := bz_on Q2.out)
        exact bodyPost_ret (v := .agg #[.int .i64 4, .int .i64 0, .string ⟨#[]⟩, .bool false, .int .i64 5]) (by simp [results, Tryz.results14, go_sem, d0, d1, d2, d3, d4]) rfl ⟨rfl, Q5 (bz_q Q2.out) (Nat.le_refl _)⟩
structure Ans (k : Int) (L : List Cv) (Y : Cv) : Prop where
  a5 : k = 5 → ∀ W u, Sl Cv.cells 5 W u L → Calls Tryz.prog 34 #[u] W fun r W' => r = .returned Y.v ∧ Q W W'
  a12 : k = 12 → ∃ x, L = [x] ∧ x.sl ∧ Y = bo ((x.k == 4) || !x.may)
  a13 : k = 13 → Y = er 7
  aT : 6 ≤ k → k ≤ 11 → (∀ x ∈ L, x.sl) ∧ ((tw (trE k) (L.map ctd) ≠ 0 ∧ Y = er (tw (trE k) (L.map ctd))) ∨ (tw (trE k) (L.map ctd) = 0 ∧ ∀ W u, Sl Cv.cells 5 W u L → Calls Tryz.prog 36 #[.int .i64 k, u] W fun r W' => r = .returned Y.v ∧ Q W W'))
set_option maxHeartbeats 8000000 in
theorem rcall_sing (s : ByteArray) (k lo hi : Int) (hk : 5 ≤ k) (hk13 : k ≤ 13) (P : List (Value × Cv)) (Y : Cv) (ao : Option Addr) (n cap : Nat) (w : World) (h : Pl s k) (ht : Tk k lo hi) (hA : Args w (.slice ao n cap) (sg P)) (hm : n ≤ 1000) (hn0 : lo ≤ (n : Int)) (hn1 : (n : Int) ≤ hi) (hY : Ans k (P.map (·.2)) Y) :
    Calls Tryz.prog 14 #[.string s, .slice ao n cap] w fun r w' => r = .returned Y.v ∧ Q w w' := by
  have HP := hid h
  have HT := hid ht
  have HE := hid (fun W => err_any 5 W)
  have hk0 : ¬ k < 0 := by omega
  have hk5 : ¬ k < 5 := by omega
  obtain ⟨⟨ao1, cap1, hv, h1, h2, h3⟩, hvs⟩ := hA
  simp only [Value.slice.injEq] at hv
  obtain ⟨rfl, hnn, rfl⟩ := hv
  have hlen : (sg P).length = P.length := by simp [sg]
  have HPn : Hid (P.length = n) := by show _ = _; omega
  have HC : Hid (0 < n → ∃ b off, ao = some ⟨b, off, none⟩ ∧ ∀ i (hp : i < P.length), At2 w b (off + i * 2) ⟨false, P[i].1, [P[i].2]⟩ ∧ Sl Cv.cells 5 w P[i].1 [P[i].2]) := by
    intro _
    obtain ⟨b, off, e, hc⟩ := h3 (by omega)
    refine ⟨b, off, e, fun i hp => ⟨?_, ?_⟩⟩
    · have := at2_of (hc i (by rw [hlen]; exact hp))
      rw [sg_at _ hp] at this
      exact this
    · exact hvs ⟨false, P[i].1, [P[i].2]⟩ (by simp only [sg, List.mem_map]; exact ⟨P[i], List.getElem_mem hp, rfl⟩)
  have HAN := hid hY
  have hx0 : ¬ (n : Int) < lo := by omega
  have hx1 : ¬ hi < (n : Int) := by omega
  have hls : (w.alloc (.cells #[.int .i64 0, .int .i64 0, .string ⟨#[]⟩, .bool false, .int .i64 0] 37)).heap.size = w.heap.size + 1 := World.size_alloc _ _
  have HKK : Hid (5 ≤ k ∧ k ≤ 13) := ⟨hk, hk13⟩
  obtain ⟨yk, yn, yt, yb, ye⟩ := Y
  clear h ht h1 h3 hvs hnn hn0 hn1 hlen hY hk hk13
  simp only [Cv.v, vv] at *
  obtain ⟨i0, hi0, hz0, hz1, hz2⟩ := inf_of info24
  go_enter Tryz.func14, Tryz.ntmps14
  go_wp2_with (first
    | (go_at_call 31; refine (HP.out _).mono ?_; rintro x w1 ⟨rfl, q1⟩; have Q1 := hid q1; clear q1)
    | (go_at_call 33; refine (HT.out _).mono ?_; rintro x w1' ⟨rfl, rfl⟩))
  go_loopw [8, 9] (fun s i W => ∃ j : Nat, j ≤ n ∧ i = .int .i64 j ∧ Own Cv.cells 37 5 (w.heap.size + 1) W s ((P.take j).map (·.2)) ∧ Q (w.alloc (.cells #[.int .i64 0, .int .i64 0, .string ⟨#[]⟩, .bool false, .int .i64 0] 37)) W) (fun _ i _ => n - (intOf i).toNat)
  case atStart => exact ⟨0, Nat.zero_le _, rfl, own_nil _, Q1.out⟩
  case round =>
    obtain ⟨j, hj, rfl, hown, hq⟩ := hrel
    by_cases hlt : j < n
    · obtain ⟨b, off, rfl, hc⟩ := HC.out (by omega)
      have hkp : j < P.length := by have := HPn.out; omega
      obtain ⟨⟨c0, c1⟩, hsl⟩ := hc j hkp
      have hF : Hid ((P.take (j + 1)).map (·.2) = (P.take j).map (·.2) ++ [P[j].2]) := by
        show _ = _
        rw [List.take_succ_eq_append_getElem hkp, List.map_append]
        rfl
      have hL : Hid (((P.take j).map (·.2)).length = j) := by show _ = _; simp; omega
      have hq0 := bz_q hq
      have c0' := (hq0.cell (World.block_lt_of_cell? w _ c0)).trans c0
      have c1' := (hq0.cell (World.block_lt_of_cell? w _ c1)).trans c1
      have hsl' := hsl.on hq0
      simp only at c0' c1' hsl'
      clear c0 c1 hsl hc
      generalize P[j] = p at *
      obtain ⟨u, x⟩ := p
      simp only at c0' c1' hsl'
      obtain ⟨b', off', cap', rfl, a5⟩ := single_sl hsl'
      obtain ⟨xk, xn, xt, xb, xe⟩ := x
      obtain ⟨d0, d1, d2, d3, d4⟩ := a5
      simp only at d0 d1 d2 d3 d4 hF
      generalize (P.take j).map (·.2) = L0 at hown hF hL
      have HOW := hid hown
      have HQ := hid hq
      have hb1 := World.block_lt_of_cell? wr _ d0
      have hkl : (j : Int) < (n : Int) := by omega
      clear hown hq hsl' hq0
      go_wp2_with (at_builtin; refine wpList_append_own _ rfl _ _ 27 rfl (w.heap.size + 1) 37 i0 (.agg #[.int .i64 0, .int .i64 0, .string ⟨#[]⟩, .bool false, .int .i64 0]) 5 48 Tryz.underlying27 hi0 hz0 hz1 hz2 rfl (by decide) _ _ _ rfl (World.ownsRow.alloc HOW.out _) ⟨wr.heap.size, 0, none⟩ 1 1 [.int .i64 xk, .int .i64 xn, .string xt, .bool xb, .int .i64 xe] rfl rfl ?c1 ?c2 ?c3 ?c4 ?c5 ?_)
      try (case c1 => exact news_new wr [.int .i64 xk, .int .i64 xn, .string xt, .bool xb, .int .i64 xe] 37)
      case c2 => exact ⟨rfl, rfl, rfl, rfl, rfl⟩
      case c3 => have := hL.out; unfold maxLen; omega
      case c4 => have := hL.out; omega
      case c5 => have := HQ.out.size; rw [hls] at this; omega
      · intro v' w3 hown' hgrow _
        have HO2 : Hid (Own Cv.cells 37 5 (w.heap.size + 1) w3 v' ((P.take (j + 1)).map (·.2))) := by
          show Own _ _ _ _ _ _ _
          rw [hF.out]
          exact own_snoc' (x := (⟨xk, xn, xt, xb, xe⟩ : Cv)) hown' rfl
        have HQ2 : Hid (Q (w.alloc (.cells #[.int .i64 0, .int .i64 0, .string ⟨#[]⟩, .bool false, .int .i64 0] 37)) w3) := Below.grown (HQ.out.alloc _) hgrow (by have := HQ.out.size; simp; omega) (by rw [hls]; exact Own.blk HOW.out)
        clear hown' hgrow
        go_wp2
        go_roundw
        case rel => exact ⟨j + 1, by omega, by go_num, HO2.out, HQ2.out⟩
        case measure => simp [intOf]; omega
    · have hkn : j = n := by omega
      subst hkn
      have hPL : (P.take j).map (·.2) = P.map (·.2) := by rw [List.take_of_length_le (by have := HPn.out; omega)]
      rw [hPL] at hown
      have HLn : Hid ((P.map (·.2)).length = j) := by show _ = _; simp; exact HPn.out
      have HSL : Hid (Sl Cv.cells 5 wr u8 (P.map (·.2))) := hown.sl Cv.len (by omega)
      have HQ := hid hq
      clear hown hq hPL
      generalize P.map (·.2) = L at HSL HAN HLn
      have hkl : ¬ (j : Int) < (j : Int) := by omega
      have hkk := HKK.out
      by_cases k5 : k = 5
      · subst k5
        have HG := hid (HAN.out.a5 rfl)
        simp only [Cv.v, vv] at HG
        clear HAN hkk hk5 hk0 HKK HC
        go_wp2_with (go_at_call 34; refine (HG.out _ _ HSL.out).mono ?_; rintro x w2 ⟨rfl, q1⟩; have Q2 := hid (HQ.out.trans q1); clear q1; obtain ⟨d0, d1, d2, d3, d4, y0, y1, y2, y3, y4, _⟩ := bz_on Q2.out)
        exact bodyPost_ret (v := .agg #[.int .i64 yk, .int .i64 yn, .string yt, .bool yb, .int .i64 ye]) (by simp [results, Tryz.results14, go_sem, d0, d1, d2, d3, d4]) rfl ⟨rfl, Q5 (bz_q Q2.out) (Nat.le_refl _)⟩
      by_cases k12 : k = 12
      · subst k12
        obtain ⟨x, rfl, hxs, hY⟩ := HAN.out.a12 rfl
        have hj1 : j = 1 := HLn.out.symm
        subst hj1
        obtain ⟨b, off, cap', rfl, a5⟩ := single_sl HSL.out
        have HM := hid (fun W => rmayv_any x W hxs.sm)
        have HB := hid (fun W => boo_any ((x.k == 4) || !x.may) W)
        have HR : Hid (Ending.returned (vv 3 0 ⟨#[]⟩ ((x.k == 4) || !x.may) 0) = .returned (vv yk yn yt yb ye)) := by show _ = _; simp only [bo, Cv.mk.injEq] at hY; obtain ⟨rfl, rfl, rfl, rfl, rfl⟩ := hY; rfl
        have hb5 := World.block_lt_of_cell? wr _ a5.c0
        obtain ⟨xk, xn, xt, xb, xe⟩ := x
        obtain ⟨c0, c1, c2, c3, c4⟩ := a5
        clear HAN hkk hk5 hk0 HKK HC hY HSL hxs HLn k5
        by_cases hx4 : xk = 4
        · subst hx4
          have e4 : (((4 : Int) == 4) || !(Cv.may ⟨4, xn, xt, xb, xe⟩)) = true := rfl
          simp only [Cv.v, vv, e4] at HB HR
          clear e4 HM
          go_wp2_with (go_at_call 25; refine (HB.out _).mono ?_; rintro x w2 ⟨rfl, q1⟩; have Q2 := hid (HQ.out.trans q1); clear q1; obtain ⟨d0, d1, d2, d3, d4, y0, y1, y2, y3, y4, _⟩ := bz_on Q2.out)
          exact bodyPost_ret (v := .agg #[.int .i64 3, .int .i64 0, .string ⟨#[]⟩, .bool true, .int .i64 0]) (by simp [results, Tryz.results14, go_sem, d0, d1, d2, d3, d4]) rfl ⟨HR.out, Q5 (bz_q Q2.out) (Nat.le_refl _)⟩
        · have hx4b : (xk == 4) = false := by simpa using hx4
          generalize Cv.may ⟨xk, xn, xt, xb, xe⟩ = mb at HM HB HR
          simp only [Cv.v, vv, hx4b, Bool.false_or] at HB HR HM
          go_wp2_with (first
            | (go_at_call 23; refine (HM.out _).mono ?_; rintro x w3 ⟨rfl, q1⟩; have Q3 := hid (HQ.out.trans q1); clear q1)
            | (go_at_call 25; refine (HB.out _).mono ?_; rintro x w2 ⟨rfl, q1⟩; have Q2 := hid (Q3.out.trans q1); clear q1; obtain ⟨d0, d1, d2, d3, d4, y0, y1, y2, y3, y4, _⟩ := bz_on Q2.out))
          exact bodyPost_ret (v := .agg #[.int .i64 3, .int .i64 0, .string ⟨#[]⟩, .bool (!mb), .int .i64 0]) (by simp [results, Tryz.results14, go_sem, d0, d1, d2, d3, d4]) rfl ⟨HR.out, Q5 (bz_q Q2.out) (Nat.le_refl _)⟩
      by_cases k13 : k = 13
      · subst k13
        have hY := HAN.out.a13 rfl
        have HB := hid (fun W => err_any 7 W)
        have HR : Hid (Ending.returned (vv 4 0 ⟨#[]⟩ false 7) = .returned (vv yk yn yt yb ye)) := by show _ = _; simp only [er, Cv.mk.injEq] at hY; obtain ⟨rfl, rfl, rfl, rfl, rfl⟩ := hY; rfl
        simp only [vv] at HB HR
        clear HAN hkk hk5 hk0 HKK HC hY HSL HLn k5 k12
        go_wp2_with (go_at_call 26; refine (HB.out _).mono ?_; rintro x w2 ⟨rfl, q1⟩; have Q2 := hid (HQ.out.trans q1); clear q1; obtain ⟨d0, d1, d2, d3, d4, y0, y1, y2, y3, y4, _⟩ := bz_on Q2.out)
        exact bodyPost_ret (v := .agg #[.int .i64 4, .int .i64 0, .string ⟨#[]⟩, .bool false, .int .i64 7]) (by simp [results, Tryz.results14, go_sem, d0, d1, d2, d3, d4]) rfl ⟨HR.out, Q5 (bz_q Q2.out) (Nat.le_refl _)⟩
      have k5b : (k == 5) = false := by simpa using k5
      have k12b : (k == 12) = false := by simpa using k12
      have k13b : (k == 13) = false := by simpa using k13
      have HK6 : Hid (6 ≤ k ∧ k ≤ 11) := by show _ ∧ _; omega
      obtain ⟨hsl, hz⟩ := HAN.out.aT HK6.out.1 HK6.out.2
      have HSS := hid hsl
      have HZ := hid hz
      obtain ⟨ao2, cap2, hu8, g1, g2, g3⟩ := HSL.out
      have HG3 := hid g3
      rw [HLn.out] at hu8 g1
      subst hu8
      clear hsl hz HAN hkk HKK g3 k5 k12 k13 HC
      go_wp2_with fail
      obtain ⟨w5, hw5⟩ : ∃ w5, w5 = wr := ⟨wr, rfl⟩
      rw [← hw5] at HQ HSL HG3
      go_loopw [10, 11] (fun t i W => ∃ (i' : Nat) (T : Int), i' ≤ j ∧ i = .int .i64 i' ∧ t = .int .i64 T ∧ 0 ≤ T ∧ Hid (T = tw (trE k) ((L.take i').map ctd)) ∧ Q w5 W) (fun _ i _ => j - (intOf i).toNat)
      case atStart => exact ⟨0, 0, Nat.zero_le _, rfl, rfl, Int.le_refl _, rfl, by rw [hw5]; exact Q.refl _⟩
      case round =>
        obtain ⟨i, T, hi', rfl, rfl, hT0, hTw, hq⟩ := hrel
        by_cases hlt : i < j
        · have hip : i < L.length := by have := HLn.out; omega
          obtain ⟨b, off, rfl, hc⟩ := HG3.out (by omega)
          have a5 := (at5_of (hc i hip)).on hq
          have HU := hid (fun W => trouble_d k L[i] W (HSS.out _ (List.getElem_mem hip)) HK6.out)
          have hE := trE_lo k (ctd_may' L[i])
          have hW : Hid (mn T (trE k (ctd L[i])) = tw (trE k) ((L.take (i + 1)).map ctd)) := by
            show _ = _
            rw [List.take_succ_eq_append_getElem hip, List.map_append, List.map_cons, List.map_nil, tw_snoc _ _ _ hE, hTw.out]
          clear hc hTw
          generalize trE k (ctd L[i]) = E at HU hE hW
          generalize L[i] = x at a5 HU
          obtain ⟨xk, xn, xt, xb, xe⟩ := x
          obtain ⟨c0, c1, c2, c3, c4⟩ := a5
          simp only [Cv.v, vv] at HU c0 c1 c2 c3 c4
          have hb1 := World.block_lt_of_cell? wr _ c0
          have hkl2 : (i : Int) < (j : Int) := by omega
          have HQr := hid hq
          have hE0 := hE.1
          clear hq hE
          go_upto_region 28 with (go_at_call 35; refine (HU.out _).mono ?_; rintro e w2 ⟨rfl, q2⟩; have HQ2 := hid (HQr.out.trans q2); clear q2)
          go_cut [115] from 105 to 114 (fun c W => c = .bool (decide (0 < E ∧ (T = 0 ∨ E < T))) ∧ w2 = W)
          case first =>
            by_cases e1 : 0 < E
            · by_cases e2 : T = 0
              · subst e2
                have e3 : Hid (decide (0 < E ∧ ((0 : Int) = 0 ∨ E < 0)) = true) := decide_eq_true ⟨e1, .inl rfl⟩
                go_wp2_with fail
                go_meet
                case rel => exact ⟨congrArg Value.bool e3.out.symm, rfl⟩
              · have e2b : (T == 0) = false := by simpa using e2
                have e3 : Hid (decide (0 < E ∧ (T = 0 ∨ E < T)) = decide (E < T)) := by show _ = _; simp [e1, e2]
                go_wp2_with fail
                go_meet
                case rel => exact ⟨congrArg Value.bool e3.out.symm, rfl⟩
            · have e3 : Hid (decide (0 < E ∧ (T = 0 ∨ E < T)) = false) := decide_eq_false (fun h => e1 h.1)
              go_wp2_with fail
              go_meet
              case rel => exact ⟨congrArg Value.bool e3.out.symm, rfl⟩
          case rest =>
            obtain ⟨rfl, rfl⟩ := hcut
            by_cases e1 : 0 < E ∧ (T = 0 ∨ E < T)
            · have e3 : Hid (decide (0 < E ∧ (T = 0 ∨ E < T)) = true) := decide_eq_true e1
              have e4 : mn T E = E := by unfold mn; rw [if_neg (by omega), if_pos e1.2]
              rw [e4] at hW
              clear e3 e4
              go_wp2_with fail
              go_roundw
              case rel => exact ⟨i + 1, E, by omega, by go_num, rfl, hE0, hW, HQ2.out⟩
              case measure => simp [intOf]; omega
            · have e3 : Hid (decide (0 < E ∧ (T = 0 ∨ E < T)) = false) := decide_eq_false e1
              have e4 : mn T E = T := by
                unfold mn
                by_cases e5 : E = 0
                · rw [if_pos e5]
                · rw [if_neg e5, if_neg (fun h => e1 ⟨by omega, h⟩)]
              rw [e4] at hW
              clear e3 e4
              go_wp2_with fail
              go_roundw
              case rel => exact ⟨i + 1, T, by omega, by go_num, rfl, hT0, hW, HQ2.out⟩
              case measure => simp [intOf]; omega
        · have hin : i = j := by omega
          subst hin
          have hT2 : T = tw (trE k) (L.map ctd) := by
            have := hTw.out
            rw [List.take_of_length_le (by have := HLn.out; omega)] at this
            exact this
          have hkl2 : ¬ (i : Int) < (i : Int) := by omega
          have HQr := hid (HQ.out.trans hq)
          have HSr := hid (HSL.out.on hq)
          clear hq hTw
          rw [← hT2] at HZ
          clear hT2
          rcases HZ.out with ⟨hne, hY⟩ | ⟨he, hG⟩
          · have hTp : 0 < T := by omega
            have HB := hid (fun W => err_any T W)
            have HR : Hid (Ending.returned (vv 4 0 ⟨#[]⟩ false T) = .returned (vv yk yn yt yb ye)) := by show _ = _; simp only [er, Cv.mk.injEq] at hY; obtain ⟨rfl, rfl, rfl, rfl, rfl⟩ := hY; rfl
            simp only [vv] at HB HR
            clear HZ hY hne HSr HSL HG3
            go_wp2_with (go_at_call 26; refine (HB.out _).mono ?_; rintro x w2 ⟨rfl, q1⟩; have Q2 := hid (HQr.out.trans q1); clear q1; obtain ⟨d0, d1, d2, d3, d4, y0, y1, y2, y3, y4, _⟩ := bz_on Q2.out)
            exact bodyPost_ret (v := .agg #[.int .i64 4, .int .i64 0, .string ⟨#[]⟩, .bool false, .int .i64 T]) (by simp [results, Tryz.results14, go_sem, d0, d1, d2, d3, d4]) rfl ⟨HR.out, Q5 (bz_q Q2.out) (Nat.le_refl _)⟩
          · subst he
            have HG := hid hG
            simp only [Cv.v, vv] at HG
            clear HZ hG HSL HG3
            go_wp2_with (go_at_call 36; refine (HG.out _ _ HSr.out).mono ?_; rintro x w2 ⟨rfl, q1⟩; have Q2 := hid (HQr.out.trans q1); clear q1; obtain ⟨d0, d1, d2, d3, d4, y0, y1, y2, y3, y4, _⟩ := bz_on Q2.out)
            exact bodyPost_ret (v := .agg #[.int .i64 yk, .int .i64 yn, .string yt, .bool yb, .int .i64 ye]) (by simp [results, Tryz.results14, go_sem, d0, d1, d2, d3, d4]) rfl ⟨rfl, Q5 (bz_q Q2.out) (Nat.le_refl _)⟩
end Go.Proofs.YtfjpdopmojfchaaGreatDoor
