/- Package builtin: a call by nam. -/
import Derived.Test.YtfjpdopmojfchaaGreatDoorKc30
set_option linter.unusedVariables false
set_option linter.unusedSimpArgs false
set_option maxRecDepth 100000
set_option maxHeartbeats 8000000
namespace Go.Proofs.YtfjpdopmojfchaaGreatDoor
open Go.RowKit
structure NoFn (s : ByteArray) : Prop where
  h0 : (s.toList == [83, 85, 77]) = false
  h1 : (s.toList == [77, 73, 78]) = false
  h2 : (s.toList == [77, 65, 88]) = false
  h3 : (s.toList == [67, 79, 85, 78, 84]) = false
  h4 : (s.toList == [65, 86, 69, 82, 65, 71, 69]) = false
  h5 : (s.toList == [73, 70]) = false
  h6 : (s.toList == [65, 78, 68]) = false
  h7 : (s.toList == [79, 82]) = false
  h8 : (s.toList == [78, 79, 84]) = false
  h9 : (s.toList == [65, 66, 83]) = false
  h10 : (s.toList == [76, 69, 78]) = false
  h11 : (s.toList == [67, 79, 78, 67, 65, 84]) = false
  h12 : (s.toList == [73, 83, 69, 82, 82, 79, 82]) = false
  h13 : (s.toList == [78, 65]) = false
set_option maxHeartbeats 1000000 in
theorem find_none (s : ByteArray) (h : NoFn s) (w : World) : Calls Tryz.prog 29 #[.string s] w fun e w' => e = .returned (.tuple #[.agg #[.int .i64 0, .int .i64 0, .nilFunc], .bool false]) ∧ Q w w' := by
  obtain ⟨h0, h1, h2, h3, h4, h5, h6, h7, h8, h9, h10, h11, h12, h13⟩ := h
  go_enter Tryz.func29, Tryz.ntmps29
  go_wp2
  exact bodyPost_ret (v := .tuple #[.agg #[.int .i64 0, .int .i64 0, .nilFunc], .bool false]) (by simp [results, Tryz.results29, go_sem]) rfl ⟨rfl, (Q.refl _).alloc _⟩
theorem known_none (s : ByteArray) (h : NoFn s) (w : World) : Calls Tryz.prog 15 #[.string s] w fun e w' => e = .returned (.bool false) ∧ Q w w' := by
  have HF := hid (fun W => find_none s h W)
  clear h
  go_enter Tryz.func15, Tryz.ntmps15
  go_wp2_with (go_at_call 29; refine (HF.out _).mono ?_; rintro x w1 ⟨rfl, q1⟩)
  go_ret
  exact ⟨rfl, q1.alloc _⟩
def Fd (s : ByteArray) (lo hi : Int) (F : Nat) : Prop := ∀ W, Calls Tryz.prog 29 #[.string s] W fun e w' => ∃ p, e = .returned (.tuple #[.agg #[.int .i64 lo, .int .i64 hi, .func (.func F) #[] #[.pointer (some ⟨p, 0, none⟩)]], .bool true]) ∧ Q W w'
theorem known_fd (s : ByteArray) (lo hi : Int) (F : Nat) (h : Fd s lo hi F) (w : World) : Calls Tryz.prog 15 #[.string s] w fun e w' => e = .returned (.bool true) ∧ Q w w' := by
  have HF := hid h
  clear h
  go_enter Tryz.func15, Tryz.ntmps15
  go_wp2_with (go_at_call 29; refine (HF.out _).mono ?_; rintro x w1 ⟨p, rfl, q1⟩)
  go_ret
  exact ⟨rfl, q1.alloc _⟩
set_option maxHeartbeats 1000000 in
theorem call_none (s : ByteArray) (v : Value) (w : World) (h : NoFn s) : Calls Tryz.prog 13 #[.string s, v] w fun r w' => r = .returned (er 6).v ∧ Q w w' := by
  have HF := hid (fun W => find_none s h W)
  have HE := hid (fun W => failure_any 6 W)
  clear h
  simp only [Cv.v, vv, er] at *
  go_enter Tryz.func13, Tryz.ntmps13
  go_wp2_with (first
    | (go_at_call 29; refine (HF.out _).mono ?_; rintro x w1 ⟨rfl, q1⟩; have Q1 := hid q1; clear q1)
    | (go_at_call 30; refine (HE.out _).mono ?_; rintro x w2 ⟨rfl, q2⟩; have Q2 := hid ((Q1.out.alloc _).trans q2); clear q2; obtain ⟨d0, d1, d2, d3, d4, y0, y1, y2, y3, y4, _⟩ := bz_on Q2.out))
  exact bodyPost_ret (v := .agg #[.int .i64 4, .int .i64 0, .string ⟨#[]⟩, .bool false, .int .i64 6]) (by simp [results, Tryz.results13, go_sem, d0, d1, d2, d3, d4]) rfl ⟨rfl, Q5 (bz_q Q2.out) (Nat.le_refl _)⟩
set_option maxHeartbeats 1000000 in
theorem call_lo (s : ByteArray) (lo hi : Int) (F : Nat) (ao : Option Addr) (n cap : Nat) (w : World) (h : Fd s lo hi F) (hn : (n : Int) < lo) : Calls Tryz.prog 13 #[.string s, .slice ao n cap] w fun r w' => r = .returned (er 5).v ∧ Q w w' := by
  have HF := hid h
  have HE := hid (fun W => failure_any 5 W)
  clear h
  simp only [Cv.v, vv, er] at *
  go_enter Tryz.func13, Tryz.ntmps13
  go_wp2_with (first
    | (go_at_call 29; refine (HF.out _).mono ?_; rintro x w1 ⟨p, rfl, q1⟩; have Q1 := hid q1; clear q1)
    | (go_at_call 30; refine (HE.out _).mono ?_; rintro x w2 ⟨rfl, q2⟩; have Q2 := hid ((Q1.out.alloc _).trans q2); clear q2; obtain ⟨d0, d1, d2, d3, d4, y0, y1, y2, y3, y4, _⟩ := bz_on Q2.out))
  exact bodyPost_ret (v := .agg #[.int .i64 4, .int .i64 0, .string ⟨#[]⟩, .bool false, .int .i64 5]) (by simp [results, Tryz.results13, go_sem, d0, d1, d2, d3, d4]) rfl ⟨rfl, Q5 (bz_q Q2.out) (Nat.le_refl _)⟩
set_option maxHeartbeats 1000000 in
theorem call_hi (s : ByteArray) (lo hi : Int) (F : Nat) (ao : Option Addr) (n cap : Nat) (w : World) (h : Fd s lo hi F) (hn : ¬ (n : Int) < lo ∧ hi < (n : Int)) : Calls Tryz.prog 13 #[.string s, .slice ao n cap] w fun r w' => r = .returned (er 5).v ∧ Q w w' := by
  have HF := hid h
  have HE := hid (fun W => failure_any 5 W)
  clear h
  obtain ⟨hn0, hn1⟩ := hn
  simp only [Cv.v, vv, er] at *
  go_enter Tryz.func13, Tryz.ntmps13
  go_wp2_with (first
    | (go_at_call 29; refine (HF.out _).mono ?_; rintro x w1 ⟨p, rfl, q1⟩; have Q1 := hid q1; clear q1)
    | (go_at_call 30; refine (HE.out _).mono ?_; rintro x w2 ⟨rfl, q2⟩; have Q2 := hid ((Q1.out.alloc _).trans q2); clear q2; obtain ⟨d0, d1, d2, d3, d4, y0, y1, y2, y3, y4, _⟩ := bz_on Q2.out))
  exact bodyPost_ret (v := .agg #[.int .i64 4, .int .i64 0, .string ⟨#[]⟩, .bool false, .int .i64 5]) (by simp [results, Tryz.results13, go_sem, d0, d1, d2, d3, d4]) rfl ⟨rfl, Q5 (bz_q Q2.out) (Nat.le_refl _)⟩
set_option maxHeartbeats 1000000 in
theorem call_fd (s : ByteArray) (lo hi : Int) (ao : Option Addr) (n cap : Nat) (y : Cv) (w : World) (h : Fd s lo hi 110) (h0 : lo ≤ (n : Int)) (h1 : (n : Int) ≤ hi)
    (HG : ∀ W p, Q w W → Calls Tryz.prog 110 #[.slice ao n cap, .pointer (some ⟨p, 0, none⟩)] W fun r W' => r = .returned y.v ∧ Q W W') :
    Calls Tryz.prog 13 #[.string s, .slice ao n cap] w fun r w' => r = .returned y.v ∧ Q w w' := by
  have HF := hid h
  have HG' := hid HG
  have hn0 : ¬ (n : Int) < lo := by omega
  have hn1 : ¬ hi < (n : Int) := by omega
  obtain ⟨yk, yn, yt, yb, ye⟩ := y
  clear h HG h0 h1
  simp only [Cv.v, vv] at *
  go_enter Tryz.func13, Tryz.ntmps13
  go_wp2_with (first
    | (go_at_call 29; refine (HF.out _).mono ?_; rintro x w1 ⟨p, rfl, q1⟩; have Q1 := hid q1; clear q1)
    | (go_at_call 110; refine (HG'.out _ _ ((bz_q Q1.out).alloc _)).mono ?_; rintro x w2 ⟨rfl, q2⟩; have Q2 := hid ((Q1.out.alloc _).trans q2); clear q2; obtain ⟨d0, d1, d2, d3, d4, y0, y1, y2, y3, y4, _⟩ := bz_on Q2.out))
  exact bodyPost_ret (v := .agg #[.int .i64 yk, .int .i64 yn, .string yt, .bool yb, .int .i64 ye]) (by simp [results, Tryz.results13, go_sem, d0, d1, d2, d3, d4]) rfl ⟨rfl, Q5 (bz_q Q2.out) (Nat.le_refl _)⟩
theorem two_apart (P : List (Value × Cv)) (a : Ag) (R : List Ag) {i : Nat} (hi : i < P.length) (hi' : i < (sg P ++ a :: R).length) : (sg P ++ a :: R)[i] = ⟨false, P[i].1, [P[i].2]⟩ := by
  rw [List.getElem_append_left (by simp [sg]; exact hi)]
  exact sg_at _ hi
theorem two_mid (P : List (Value × Cv)) (a : Ag) (R : List Ag) (hi' : P.length < (sg P ++ a :: R).length) : (sg P ++ a :: R)[P.length] = a := by
  rw [List.getElem_append_right (by simp [sg])]
  simp [sg]
theorem len_run {α : Type} {enc : α → List Value} {k : Nat} {W : World} {v : Value} {L : List α} (h : Sl enc k W v L) : ∃ ao cap, v = .slice ao L.length cap := by
  obtain ⟨ao, cap, hv, _⟩ := h.len
  exact ⟨ao, cap, hv⟩
set_option maxHeartbeats 4000000 in
theorem singles_no (P : List (Value × Cv)) (a : Ag) (R : List Ag) (v : Value) (w : World) (hw : Std2 w) (h : Args w v (sg P ++ a :: R)) (hm : (sg P ++ a :: R).length ≤ 1000) (hs : ∀ p ∈ P, p.2.sm) (ha : a.r = true ∨ a.l.length ≠ 1) :
    Calls Tryz.prog 111 #[v] w fun e w' => e = .returned (.tuple #[.slice none 0 0, .bool false]) ∧ Q w w' := by
  obtain ⟨⟨ao, cap, rfl, h1, h2, h3⟩, hvs⟩ := h
  have hml : P.length < (sg P ++ a :: R).length := by simp [sg]
  have hmid := two_mid P a R hml
  have HA : Hid (∃ b off, ao = some ⟨b, off, none⟩ ∧ At2 w b (off + P.length * 2) a ∧ Sl Cv.cells 5 w a.s a.l) := by
    obtain ⟨b, off, e, hc⟩ := h3 (by omega)
    refine ⟨b, off, e, ?_, hvs a (by simp)⟩
    have := at2_of (hc P.length hml)
    rw [hmid] at this
    exact this
  have HC : Hid (∀ b off, ao = some ⟨b, off, none⟩ → ∀ i (hp : i < P.length), At2 w b (off + i * 2) ⟨false, P[i].1, [P[i].2]⟩ ∧ Sl Cv.cells 5 w P[i].1 [P[i].2]) := by
    intro b off e i hp
    obtain ⟨b', off', e', hc⟩ := h3 (by omega)
    rw [e] at e'
    simp only [Option.some.injEq, Addr.mk.injEq] at e'
    obtain ⟨rfl, rfl, _⟩ := e'
    have hi' : i < (sg P ++ a :: R).length := by omega
    refine ⟨?_, ?_⟩
    · have := at2_of (hc i hi')
      rw [two_apart P a R hp hi'] at this
      exact this
    · exact hvs ⟨false, P[i].1, [P[i].2]⟩ (by rw [List.mem_append]; left; simp only [sg, List.mem_map]; exact ⟨P[i], List.getElem_mem hp, rfl⟩)
  obtain ⟨n, hn⟩ : ∃ n, (sg P ++ a :: R).length = n := ⟨_, rfl⟩
  obtain ⟨m, hmm⟩ : ∃ m, P.length = m := ⟨_, rfl⟩
  have HP := hid hmm
  obtain ⟨i0, hi, hz0, hz1, hz2⟩ := inf_of info24
  have HS := hid hs
  have HW := hid hw
  have HAR := hid ha
  have hbz : i0.bytes = 48 := hz2
  rw [hn] at h1 hm hml ⊢
  rw [hmm] at hml HA
  clear hw hs h3 hvs hn ha hmid hmm
  go_enter Tryz.func111, Tryz.ntmps111
  go_wp2_with (at_make; refine wpList_make_own _ rfl _ _ 27 rfl w.heap.size 37 i0 (.agg #[.int .i64 0, .int .i64 0, .string ⟨#[]⟩, .bool false, .int .i64 0]) 5 Tryz.underlying27 hi hz0 hz1 .i64 .i64 _ n rfl rfl (by omega) (by rw [hbz]; omega) (by unfold maxLen; omega) (Nat.le_refl _) ?_; intro w0 hown0 hgrow0)
  have HQ0 : Hid (Q w w0) := Below.grown (Q.refl w) hgrow0 (Nat.le_refl _) (fun k hk => by cases hk)
  have HO0 : Hid (Own Cv.cells 37 5 w.heap.size w0 (.slice (some ⟨w.heap.size, 0, none⟩) 0 n) []) := hown0
  clear hown0 hgrow0
  go_wp2
  go_loopw [2, 3, 4, 12] (fun r2 r3 s i W => ∃ k : Nat, k ≤ m ∧ i = .int .i64 k ∧ r2 = .slice none 0 0 ∧ r3 = .bool false ∧ Own Cv.cells 37 5 w.heap.size W s ((P.take k).map fun p => ctd p.2) ∧ Q w W) (fun _ _ _ i _ => n - (intOf i).toNat)
  case atStart => exact ⟨0, Nat.zero_le _, rfl, rfl, rfl, HO0.out, HQ0.out⟩
  case round =>
    obtain ⟨k, hk, rfl, rfl, rfl, hown, hq⟩ := hrel
    by_cases hlt : k < m
    · obtain ⟨b, off, rfl, _, _⟩ := HA.out
      have hkp : k < P.length := by have := HP.out; omega
      obtain ⟨⟨c0, c1⟩, hsl⟩ := HC.out b off rfl k hkp
      have hF := hid (sg_snoc P k hkp)
      have hL := hid (sg_len P k (by omega))
      have hsm := HS.out P[k] (List.getElem_mem hkp)
      have c0' := (hq.cell (World.block_lt_of_cell? w _ c0)).trans c0
      have c1' := (hq.cell (World.block_lt_of_cell? w _ c1)).trans c1
      have hsl' := hsl.on hq
      simp only at c0' c1' hsl'
      clear c0 c1 hsl
      generalize P[k] = p at *
      obtain ⟨s, x⟩ := p
      simp only at c0' c1' hsl' hsm
      obtain ⟨b', off', cap', rfl, a5⟩ := single_sl hsl'
      have HU := hid (fun W (q : Q w W) => counted_any x W (HW.out.on q) hsm)
      have HA5 := hid a5
      obtain ⟨xk, xn, xt, xb, xe⟩ := x
      have hcx : ∃ y, ctd ⟨xk, xn, xt, xb, xe⟩ = y := ⟨_, rfl⟩
      obtain ⟨y, hy⟩ := hcx
      rw [hy] at HU
      have hF' : Hid ((P.take (k + 1)).map (fun p => ctd p.2) = (P.take k).map (fun p => ctd p.2) ++ [y]) := by
        show _ = _
        rw [hF.out, hy]
      obtain ⟨yk, yn, yt, yb, ye⟩ := y
      obtain ⟨d0, d1, d2, d3, d4⟩ := a5
      simp only [Cv.v, vv] at HU d0 d1 d2 d3 d4
      generalize (P.take k).map (fun p => ctd p.2) = L at hown hF' hL
      have HOW := hid hown
      have HQ := hid hq
      have hb1 := World.block_lt_of_cell? wr _ d0
      have hkl : (k : Int) < (n : Int) := by omega
      clear hown hq hy hF hsl'
      go_wp2_with (first
        | (go_at_call 37; refine (HU.out _ ((HQ.out).alloc _)).mono ?_; rintro r w2 ⟨rfl, q2⟩; have Q2 := hid (((Q.refl wr).alloc _).trans q2); clear q2)
        | (at_builtin; refine wpList_append_own _ rfl _ _ 27 rfl w.heap.size 37 i0 (.agg #[.int .i64 0, .int .i64 0, .string ⟨#[]⟩, .bool false, .int .i64 0]) 5 48 Tryz.underlying27 hi hz0 hz1 hz2 rfl (by decide) _ _ _ rfl (World.ownsRow.alloc (Own.on HOW.out Q2.out) _) ⟨w2.heap.size, 0, none⟩ 1 1 [.int .i64 yk, .int .i64 yn, .string yt, .bool yb, .int .i64 ye] rfl rfl ?c1 ?c2 ?c3 ?c4 ?c5 ?_))
      case c1 => exact news_new w2 [.int .i64 yk, .int .i64 yn, .string yt, .bool yb, .int .i64 ye] 37
      case c2 =>
        intro u hu
        simp at hu
        rcases hu with rfl | rfl | rfl | rfl | rfl <;> rfl
      case c3 => have := hL.out; unfold maxLen; omega
      case c4 => have := hL.out; omega
      case c5 => have := (HQ.out.trans Q2.out).size; simp; omega
      · intro v' w3 hown' hgrow _
        have HO2 : Hid (Own Cv.cells 37 5 w.heap.size w3 v' ((P.take (k + 1)).map fun p => ctd p.2)) := by
          show Own _ _ _ _ _ _ _
          rw [hF'.out]
          exact own_snoc' (x := (⟨yk, yn, yt, yb, ye⟩ : Cv)) hown' rfl
        have HQ2 : Hid (Q w w3) := Below.grown ((HQ.out.trans Q2.out).alloc _) hgrow (by have := (HQ.out.trans Q2.out).size; simp; omega) (Own.blk HOW.out)
        clear hown' hgrow
        go_wp2
        go_roundw
        case rel => exact ⟨k + 1, by omega, by go_num, rfl, rfl, HO2.out, HQ2.out⟩
        case measure => simp [intOf]; omega
    · have hkm : k = m := by omega
      subst hkm
      clear hown
      obtain ⟨b, off, rfl, ⟨c0, c1⟩, hsl⟩ := HA.out
      have c0' := (hq.cell (World.block_lt_of_cell? w _ c0)).trans c0
      have c1' := (hq.cell (World.block_lt_of_cell? w _ c1)).trans c1
      obtain ⟨ao', cap', hsv⟩ := len_run hsl
      have HAR' := HAR.out
      obtain ⟨ar, asv, al⟩ := a
      simp only at c0' c1' hsv HAR'
      subst hsv
      clear c0 c1 hsl
      obtain ⟨q, hql⟩ : ∃ q, al.length = q := ⟨_, rfl⟩
      rw [hql] at HAR' c1'
      have hkl : (k : Int) < (n : Int) := by omega
      have HQ := hid hq
      clear hq hql HA HC HAR
      cases ar
      · have hne : ((q : Int) == 1) = false := by rcases HAR' with h | h; cases h; simpa using (by omega : (q : Int) ≠ 1)
        clear HAR'
        go_wp2
        go_ret2
        exact ⟨rfl, by first | exact HQ.out | exact HQ.out.alloc _⟩
      · clear HAR'
        go_wp2
        go_ret2
        exact ⟨rfl, by first | exact HQ.out | exact HQ.out.alloc _⟩
set_option maxHeartbeats 1000000 in
theorem sing_no (P : List (Value × Cv)) (a : Ag) (R : List Ag) (v : Value) (p : Nat) (w : World) (hw : Std2 w) (h : Args w v (sg P ++ a :: R)) (hm : (sg P ++ a :: R).length ≤ 1000) (hs : ∀ p ∈ P, p.2.sm) (ha : a.r = true ∨ a.l.length ≠ 1) :
    Calls Tryz.prog 110 #[v, .pointer (some ⟨p, 0, none⟩)] w fun r w' => r = .returned (er 5).v ∧ Q w w' := by
  have HS := hid (fun W (g : Q w W) => singles_no P a R v W (hw.on g) (h.on g) hm hs ha)
  have HE := hid (fun W => failure_any 5 W)
  clear hw h hm hs ha
  simp only [Cv.v, vv, er] at *
  go_enter Tryz.func110, Tryz.ntmps110
  go_wp2_with (first
    | (go_at_call 111; refine (HS.out _ ((Q.refl _).alloc _)).mono ?_; rintro x w1 ⟨rfl, q1⟩; have Q1 := hid q1; clear q1)
    | (go_at_call 30; refine (HE.out _).mono ?_; rintro x w2 ⟨rfl, q2⟩; have Q2 := hid (Q1.out.trans q2); clear q2; obtain ⟨d0, d1, d2, d3, d4, y0, y1, y2, y3, y4, _⟩ := bz_on Q2.out))
  exact bodyPost_ret (v := .agg #[.int .i64 4, .int .i64 0, .string ⟨#[]⟩, .bool false, .int .i64 5]) (by simp [results, Tryz.results110, go_sem, d0, d1, d2, d3, d4]) rfl ⟨rfl, Q5 (bz_q Q2.out) (Nat.le_refl _)⟩
end Go.Proofs.YtfjpdopmojfchaaGreatDoor
