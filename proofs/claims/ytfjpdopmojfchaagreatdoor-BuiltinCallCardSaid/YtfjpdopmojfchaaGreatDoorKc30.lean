/- What is wrong of single values. -/
import Derived.Test.YtfjpdopmojfchaaGreatDoorKc28
import Derived.Test.YtfjpdopmojfchaaGreatDoorKc13
import Derived.Deep.CutBlock
import Derived.Test.YtfjpdopmojfchaaGreatDoorKc24
import Derived.Test.YtfjpdopmojfchaaGreatDoorKc29
import Derived.Test.YtfjpdopmojfchaaGreatDoorKc15
set_option linter.unusedVariables false
set_option linter.unusedSimpArgs false
set_option maxRecDepth 100000
set_option maxHeartbeats 8000000
namespace Go.Proofs.YtfjpdopmojfchaaGreatDoor
open Go.RowKit
theorem tw_snoc (te : Cv → Int) (L : List Cv) (x : Cv) (h : 0 ≤ te x ∧ te x ≤ 7) : tw te (L ++ [x]) = mn (tw te L) (te x) := by
  unfold tw fs
  rw [List.map_append, List.filter_append, List.map_append, worst_append]
  by_cases h0 : te x = 0
  · have e : List.map er (List.filter (fun e => e != 0) (List.map te [x])) = [] := by simp [h0]
    rw [e, h0, mn_zero]
    exact mn_zero _
  · have e : List.map er (List.filter (fun e => e != 0) (List.map te [x])) = [er (te x)] := by simp [h0]
    rw [e, worst_er _ (by omega) h.2]
theorem tw_zero {te : Cv → Int} {L : List Cv} (hl : ∀ x ∈ L, 0 ≤ te x ∧ te x ≤ 7) (h : tw te L = 0) : ∀ x ∈ L, te x = 0 := by
  intro x hx
  obtain ⟨s, t, rfl⟩ := List.append_of_mem hx
  have hx7 := hl x hx
  rcases Int.lt_or_eq_of_le hx7.1 with hp | hp
  · exfalso
    unfold tw fs at h
    have e : List.map er (List.filter (fun e => e != 0) (List.map te (s ++ x :: t))) = List.map er (List.filter (fun e => e != 0) (List.map te s)) ++ ([er (te x)] ++ List.map er (List.filter (fun e => e != 0) (List.map te t))) := by
      have hne : te x ≠ 0 := by omega
      simp [List.filter_append, List.filter_cons, hne]
    rw [e, worst_append, worst_append, worst_er _ hp hx7.2] at h
    have h1 := mn_pos (worst_lo _).1 (mn_lo (by omega) (worst_lo _).1) h
    have h2 := mn_pos (by omega) (worst_lo _).1 h1.2
    omega
  · exact hp.symm
theorem oks_all {T : Type} (te : Cv → Int) (tf : Cv → T) : ∀ (L : List Cv), (∀ x ∈ L, te x = 0) → oks te tf L = L.map tf := by
  intro L h
  unfold oks
  have e : L.filter (fun x => te x == 0) = L := List.filter_eq_self.2 (fun x hx => by simp [h x hx])
  rw [e]
theorem rE_ctd {f : Cv → Int} (h5 : f (er 5) = 5) (x : Cv) : rE f x = f (ctd x) := by
  unfold rE ctd
  split
  · rfl
  · exact h5.symm
theorem bE5 : (er 5).bE = 5 := rfl
theorem nE5 : (er 5).nE = 5 := rfl
theorem tE5 : (er 5).tE = 5 := rfl
theorem tB_ctd (x : Cv) : (if x.may = true then x.tB else false) = (ctd x).tB := by
  unfold ctd
  split <;> rfl
theorem nN_ctd (x : Cv) : (if x.may = true then x.nN else 0) = (ctd x).nN := by
  unfold ctd
  split <;> rfl
theorem tT_ctd (x : Cv) : (if x.may = true then x.tT else ⟨#[]⟩) = (ctd x).tT := by
  unfold ctd
  split <;> rfl
theorem rnum_d (x : Cv) (w : World) (hs : x.sl) : Calls Tryz.prog 49 #[x.v] w fun r w' => r = .returned (.tuple #[.int .i64 (ctd x).nN, .int .i64 (ctd x).nE]) ∧ Q w w' := by
  have h := rnumr_c x w hs
  rw [nN_ctd, rE_ctd nE5] at h
  exact h
theorem rtxt_d (x : Cv) (w : World) (hs : x.sl) : Calls Tryz.prog 46 #[x.v] w fun r w' => r = .returned (.tuple #[.string (ctd x).tT, .int .i64 (ctd x).tE]) ∧ Q w w' := by
  have h := rtxtr_c x w hs
  rw [tT_ctd, rE_ctd tE5] at h
  exact h
theorem rtru_d (x : Cv) (w : World) (hs : x.sl) : Calls Tryz.prog 79 #[x.v] w fun r w' => r = .returned (.tuple #[.bool (ctd x).tB, .int .i64 (ctd x).bE]) ∧ Q w w' := by
  have h := rtrur_c x w hs
  rw [tB_ctd, rE_ctd bE5] at h
  exact h
def trE (k : Int) : Cv → Int := if k = 6 ∨ k = 7 ∨ k = 8 then Cv.bE else if k = 9 then Cv.nE else Cv.tE
theorem trouble_d (k : Int) (x : Cv) (w : World) (hs : x.sl) (hk : 6 ≤ k ∧ k ≤ 11) : Calls Tryz.prog 35 #[.int .i64 k, x.v] w fun r w' => r = .returned (.int .i64 (trE k (ctd x))) ∧ Q w w' := by
  have h : k = 6 ∨ k = 7 ∨ k = 8 ∨ k = 9 ∨ k = 10 ∨ k = 11 := by omega
  rcases h with h | h | h | h | h | h <;> subst h
  · have h := trouble_b6 6 x w hs rfl; rw [rE_ctd bE5] at h; exact h
  · have h := trouble_b7 7 x w hs rfl; rw [rE_ctd bE5] at h; exact h
  · have h := trouble_b8 8 x w hs rfl; rw [rE_ctd bE5] at h; exact h
  · have h := trouble_n 9 x w hs rfl; rw [rE_ctd nE5] at h; exact h
  · have h := trouble_t10 10 x w hs rfl; rw [rE_ctd tE5] at h; exact h
  · have h := trouble_t11 11 x w hs rfl; rw [rE_ctd tE5] at h; exact h
theorem trE_lo (k : Int) {x : Cv} (hm : x.may = true) : 0 ≤ trE k x ∧ trE k x ≤ 7 := by
  unfold trE
  split
  · exact bE_lo hm
  · split
    · exact nE_lo hm
    · exact tE_lo hm
def Con (i : Int) (l : List Bool) (c : Bool) : Prop := decide (0 ≤ i) = l.contains c
theorem encB_at {W : World} {b o : Nat} {x : Bool} (h : Ats encB W b o x) : W.cell? ⟨b, o, none⟩ = some (.bool x) := h 0 _ rfl
set_option maxHeartbeats 1000000 in
theorem index_any (l : List Bool) (c : Bool) (v : Value) (w : World) (h : Sl encB 1 w v l) (hm : l.length ≤ 1000) :
    Calls Tryz.prog 139 #[v, .bool c] w fun e w' => ∃ i : Int, e = .returned (.int .i64 i) ∧ Con i l c ∧ w' = w := by
  obtain ⟨ao, cap, rfl, h1, h2, h3⟩ := h
  obtain ⟨n, hn⟩ : ∃ n, l.length = n := ⟨_, rfl⟩
  have HL := hid hn
  have H3 := hid h3
  rw [hn] at h1 hm ⊢
  clear h3 hn
  go_enter Tryz.func139, Tryz.ntmps139
  go_wp2
  go_loopw [4, 8] (fun r i W => ∃ k : Nat, k ≤ n ∧ i = .int .i64 k ∧ r = .int .i64 0 ∧ Hid ((l.take k).contains c = false) ∧ W = w) (fun _ i _ => n - (intOf i).toNat)
  case atStart => exact ⟨0, Nat.zero_le _, rfl, rfl, rfl, rfl⟩
  case round =>
    obtain ⟨k, hk, rfl, rfl, hp, rfl⟩ := hrel
    by_cases hlt : k < n
    · have hkx : k < l.length := by have := HL.out; omega
      obtain ⟨b, off, rfl, hc⟩ := H3.out (by omega)
      have c0 := encB_at (hc k hkx)
      have hlt' : (k : Int) < (n : Int) := by omega
      have hk0 : (0 : Int) ≤ (k : Int) := by omega
      have hst : Hid ((l.take (k + 1)).contains c = ((l.take k).contains c || l[k] == c)) := by
        show _ = _
        rw [List.take_succ_eq_append_getElem hkx, List.contains_eq_any_beq, List.contains_eq_any_beq, List.any_append]
        simp [BEq.comm]
      have hall : Hid (l[k] = c → l.contains c = true) := by
        intro e
        rw [← e]
        simp
      clear hc
      rw [Nat.mul_one] at c0
      generalize l[k] = x at c0 hst hall
      by_cases he : x = c
      · subst he
        have HR2 := hid (hall.out rfl)
        go_wp2_with fail
        go_ret
        exact ⟨k, rfl, by unfold Con; rw [HR2.out]; exact decide_eq_true (by omega), rfl⟩
      · have hb : (c == x) = false := by simpa using fun e => he e.symm
        have hb2 : (x == c) = false := by simpa using he
        have HR : Hid ((l.take (k + 1)).contains c = false) := by show _ = _; rw [hst.out, hp.out, hb2]; rfl
        clear hb2 he hall hst
        go_wp2_with fail
        go_roundw
        case rel => exact ⟨k + 1, by omega, by go_num, rfl, HR, by first | rfl | trivial⟩
        case measure => simp [intOf]; omega
    · have hkn : k = n := by omega
      subst hkn
      have HR : Hid (l.contains c = false) := by
        show _ = _
        have := hp.out
        rw [List.take_of_length_le (by have := HL.out; omega)] at this
        exact this
      have hl : ¬ (k : Int) < (k : Int) := by omega
      go_wp2_with fail
      go_ret
      exact ⟨-1, rfl, by unfold Con; rw [HR.out]; rfl, rfl⟩
theorem contains_any (l : List Bool) (c : Bool) (v : Value) (w : World) (h : Sl encB 1 w v l) (hm : l.length ≤ 1000) :
    Calls Tryz.prog 114 #[v, .bool c] w fun e w' => e = .returned (.bool (l.contains c)) ∧ w' = w := by
  have HI := hid (index_any l c v w h hm)
  clear h hm
  go_enter Tryz.func114, Tryz.ntmps114
  go_wp2_with (go_at_call 139; refine (HI.out).mono ?_; rintro e w1 ⟨i, rfl, hd, rfl⟩; have HD := hid hd; clear hd)
  go_ret
  have hcon : decide (0 ≤ i) = l.contains c := HD.out
  exact ⟨by rw [← hcon]; rfl, rfl⟩
set_option maxHeartbeats 1000000 in
theorem alltrue_any (l : List Bool) (v : Value) (w : World) (h : Sl encB 1 w v l) (hm : l.length ≤ 1000) :
    Calls Tryz.prog 67 #[v] w fun r w' => r = .returned (bo (!(l.contains false))).v ∧ Q w w' := by
  have HC := hid (contains_any l false v _ (h.on ((Q.refl w).alloc (.cells #[.int .i64 0, .int .i64 0, .string ⟨#[]⟩, .bool false, .int .i64 0] 37))) hm)
  have HT := hid (fun W => btruth_any (!(l.contains false)) W)
  generalize l.contains false = d at HC HT ⊢
  clear h hm
  simp only [Cv.v, vv, bo] at *
  go_enter Tryz.func67, Tryz.ntmps67
  go_wp2_with (first
    | (go_at_call 114; refine (HC.out).mono ?_; rintro e w1 ⟨rfl, rfl⟩)
    | (go_at_call 43; refine (HT.out _).mono ?_; rintro e w2 ⟨rfl, q1⟩; have Q2 := hid q1; clear q1; obtain ⟨d0, d1, d2, d3, d4, y0, y1, y2, y3, y4, _⟩ := bz_on Q2.out))
  exact bodyPost_ret (v := .agg #[.int .i64 3, .int .i64 0, .string ⟨#[]⟩, .bool !d, .int .i64 0]) (by simp [results, Tryz.results67, go_sem, d0, d1, d2, d3, d4]) rfl ⟨rfl, Q5 (bz_q Q2.out) (Nat.le_refl _)⟩
set_option maxHeartbeats 1000000 in
theorem sometrue_any (l : List Bool) (v : Value) (w : World) (h : Sl encB 1 w v l) (hm : l.length ≤ 1000) :
    Calls Tryz.prog 68 #[v] w fun r w' => r = .returned (bo (l.contains true)).v ∧ Q w w' := by
  have HC := hid (contains_any l true v _ (h.on ((Q.refl w).alloc (.cells #[.int .i64 0, .int .i64 0, .string ⟨#[]⟩, .bool false, .int .i64 0] 37))) hm)
  have HT := hid (fun W => btruth_any (l.contains true) W)
  generalize l.contains true = d at HC HT ⊢
  clear h hm
  simp only [Cv.v, vv, bo] at *
  go_enter Tryz.func68, Tryz.ntmps68
  go_wp2_with (first
    | (go_at_call 114; refine (HC.out).mono ?_; rintro e w1 ⟨rfl, rfl⟩)
    | (go_at_call 43; refine (HT.out _).mono ?_; rintro e w2 ⟨rfl, q1⟩; have Q2 := hid q1; clear q1; obtain ⟨d0, d1, d2, d3, d4, y0, y1, y2, y3, y4, _⟩ := bz_on Q2.out))
  exact bodyPost_ret (v := .agg #[.int .i64 3, .int .i64 0, .string ⟨#[]⟩, .bool d, .int .i64 0]) (by simp [results, Tryz.results68, go_sem, d0, d1, d2, d3, d4]) rfl ⟨rfl, Q5 (bz_q Q2.out) (Nat.le_refl _)⟩
theorem one_sl {α : Type} {enc : α → List Value} {W : World} {v : Value} {x : α} {u : Value} (h : Sl enc 1 W v [x]) (hu : enc x = [u]) : ∃ b off cap, v = .slice (some ⟨b, off, none⟩) 1 cap ∧ W.cell? ⟨b, off, none⟩ = some u := by
  obtain ⟨b, off, cap, hv, _, _, ha⟩ := h.at (i := 0) (by simp)
  refine ⟨b, off, cap, hv, ?_⟩
  have := ha 0 u (by simp [hu])
  simpa using this
set_option maxHeartbeats 1000000 in
theorem not_any (x : Bool) (v : Value) (w : World) (h : Sl encB 1 w v [x]) :
    Calls Tryz.prog 69 #[v] w fun r w' => r = .returned (bo (!x)).v ∧ Q w w' := by
  obtain ⟨b, off, cap, rfl, c0⟩ := one_sl h (u := .bool x) rfl
  have hb := World.block_lt_of_cell? w _ c0
  have HT := hid (fun W => btruth_any (!x) W)
  clear h
  simp only [Cv.v, vv, bo] at *
  go_enter Tryz.func69, Tryz.ntmps69
  go_wp2_with (first
    | (go_at_call 43; refine (HT.out _).mono ?_; rintro e w2 ⟨rfl, q1⟩; have Q2 := hid q1; clear q1; obtain ⟨d0, d1, d2, d3, d4, y0, y1, y2, y3, y4, _⟩ := bz_on Q2.out))
  exact bodyPost_ret (v := .agg #[.int .i64 3, .int .i64 0, .string ⟨#[]⟩, .bool !x, .int .i64 0]) (by simp [results, Tryz.results69, go_sem, d0, d1, d2, d3, d4]) rfl ⟨rfl, Q5 (bz_q Q2.out) (Nat.le_refl _)⟩
set_option maxHeartbeats 1000000 in
theorem length_any (t : ByteArray) (v : Value) (w : World) (h : Sl encS 1 w v [t]) (ht : t.size ≤ 100000) :
    Calls Tryz.prog 73 #[v] w fun r w' => r = .returned (nu ((t.size : Int) * 10000)).v ∧ Q w w' := by
  obtain ⟨b, off, cap, rfl, c0⟩ := one_sl h (u := .string t) rfl
  have hb := World.block_lt_of_cell? w _ c0
  have HT := hid (fun W => whole_any (t.size : Int) W ⟨by omega, by omega⟩)
  rw [resV_yes ⟨by omega, by omega⟩] at HT
  clear h
  simp only [Cv.v, vv, nu] at *
  go_enter Tryz.func73, Tryz.ntmps73
  go_wp2_with (first
    | (go_at_call 109; refine (HT.out _).mono ?_; rintro e w2 ⟨rfl, q1⟩; have Q2 := hid q1; clear q1; obtain ⟨d0, d1, d2, d3, d4, y0, y1, y2, y3, y4, _⟩ := bz_on Q2.out))
  exact bodyPost_ret (v := .agg #[.int .i64 1, .int .i64 ((t.size : Int) * 10000), .string ⟨#[]⟩, .bool false, .int .i64 0]) (by simp [results, Tryz.results73, go_sem, d0, d1, d2, d3, d4]) rfl ⟨rfl, Q5 (bz_q Q2.out) (Nat.le_refl _)⟩
set_option maxHeartbeats 1000000 in
theorem notthere_any (v : Value) (w : World) :
    Calls Tryz.prog 75 #[v] w fun r w' => r = .returned (er 7).v ∧ Q w w' := by
  have HT := hid (fun W => failure_any 7 W)
  simp only [Cv.v, vv, er] at *
  go_enter Tryz.func75, Tryz.ntmps75
  go_wp2_with (first
    | (go_at_call 30; refine (HT.out _).mono ?_; rintro e w2 ⟨rfl, q1⟩; have Q2 := hid q1; clear q1; obtain ⟨d0, d1, d2, d3, d4, y0, y1, y2, y3, y4, _⟩ := bz_on Q2.out))
  exact bodyPost_ret (v := .agg #[.int .i64 4, .int .i64 0, .string ⟨#[]⟩, .bool false, .int .i64 7]) (by simp [results, Tryz.results75, go_sem, d0, d1, d2, d3, d4]) rfl ⟨rfl, Q5 (bz_q Q2.out) (Nat.le_refl _)⟩
set_option maxHeartbeats 1000000 in
theorem abs_pos (x : Int) (v : Value) (w : World) (h : Sl encN 1 w v [x]) (hx : ¬ x < 0) :
    Calls Tryz.prog 72 #[v] w fun r w' => r = .returned (nu x).v ∧ Q w w' := by
  obtain ⟨b, off, cap, rfl, c0⟩ := one_sl h (u := .int .i64 x) rfl
  have hb := World.block_lt_of_cell? w _ c0
  have HT := hid (fun W => number_any x W)
  clear h
  simp only [Cv.v, vv, nu] at *
  go_enter Tryz.func72, Tryz.ntmps72
  go_wp2_with (first
    | (go_at_call 55; refine (HT.out _).mono ?_; rintro e w2 ⟨rfl, q1⟩; have Q2 := hid q1; clear q1; obtain ⟨d0, d1, d2, d3, d4, y0, y1, y2, y3, y4, _⟩ := bz_on Q2.out))
  exact bodyPost_ret (v := .agg #[.int .i64 1, .int .i64 x, .string ⟨#[]⟩, .bool false, .int .i64 0]) (by simp [results, Tryz.results72, go_sem, d0, d1, d2, d3, d4]) rfl ⟨rfl, Q5 (bz_q Q2.out) (Nat.le_refl _)⟩
set_option maxHeartbeats 1000000 in
theorem abs_neg (x : Int) (y : Cv) (v : Value) (w : World) (h : Sl encN 1 w v [x]) (hx : x < 0) (HB : ∀ W, Q w W → Calls Tryz.prog 18 #[.string ⟨#[45]⟩, (nu 0).v, (nu x).v] W fun r W' => r = .returned y.v ∧ Q W W') :
    Calls Tryz.prog 72 #[v] w fun r w' => r = .returned y.v ∧ Q w w' := by
  obtain ⟨b, off, cap, rfl, c0⟩ := one_sl h (u := .int .i64 x) rfl
  have hb := World.block_lt_of_cell? w _ c0
  have HT := hid (fun W => number_any x W)
  have HN := hid (fun W (q : Q w W) => neg_any (nu x) y W (fun W' g => HB W' (q.trans g)))
  clear h HB
  obtain ⟨yk, yn, yt, yb, ye⟩ := y
  simp only [Cv.v, vv, nu] at *
  go_enter Tryz.func72, Tryz.ntmps72
  go_wp2_with (first
    | (go_at_call 55; refine (HT.out _).mono ?_; rintro e w1 ⟨rfl, q1⟩; have Q1 := hid q1; clear q1)
    | (go_at_call 20; refine (HN.out _ (bz_q Q1.out)).mono ?_; rintro e w2 ⟨rfl, q1⟩; have Q2 := hid (Q1.out.trans q1); clear q1; obtain ⟨d0, d1, d2, d3, d4, y0, y1, y2, y3, y4, _⟩ := bz_on Q2.out))
  exact bodyPost_ret (v := .agg #[.int .i64 yk, .int .i64 yn, .string yt, .bool yb, .int .i64 ye]) (by simp [results, Tryz.results72, go_sem, d0, d1, d2, d3, d4]) rfl ⟨rfl, Q5 (bz_q Q2.out) (Nat.le_refl _)⟩
set_option maxHeartbeats 1000000 in
theorem ch2_e (x a b : Cv) (tb : Bool) (te : Int) (v : Value) (w : World) (h : Sl Cv.cells 5 w v [x, a]) (HT : ∀ W, Q w W → Calls Tryz.prog 66 #[x.v] W fun r W' => r = .returned (.tuple #[.bool tb, .int .i64 te]) ∧ Q W W') (hp : te ≠ 0) :
    Calls Tryz.prog 64 #[v] w fun r w' => r = .returned (er te).v ∧ Q w w' := by
  obtain ⟨g, off, cap, rfl, a5, b5⟩ := two_sl h
  clear h
  have HB := hid (bxz w)
  have HT' := hid HT
  have HZ := hid (fun W => btruth_any false W)
  have HE := hid (fun W => failure_any te W)
  have hlt := World.block_lt_of_cell? w _ a5.c0
  have HB5 := hid (fun W (q : Q w W) => b5.on q)
  obtain ⟨xk, xn, xt, xb, xe⟩ := x
  obtain ⟨ak, an, at', ab, ae⟩ := a
  obtain ⟨bk, bn, bt, bb, be⟩ := b
  obtain ⟨c0, c1, c2, c3, c4⟩ := a5
  clear HT b5
  simp only [Cv.v, vv, bo, er] at *
  go_enter Tryz.func64, Tryz.ntmps64
  go_wp2_with (first
    | (go_at_call 66; refine (HT'.out _ ((Q.refl _).alloc _)).mono ?_; rintro x w1 ⟨rfl, q1⟩; have B1 := HB.out.on q1; have Q1 : Hid (Q w w1) := hid (((Q.refl _).alloc _).trans q1); clear q1)
    | (go_at_call 30; refine (HE.out _).mono ?_; rintro x w2 ⟨rfl, q1⟩; have B2 := B1.on q1; have Q2 : Hid (Q w w2) := hid (Q1.out.trans q1); clear q1; obtain ⟨d0, d1, d2, d3, d4, y0, y1, y2, y3, y4, _⟩ := B2))
  exact bodyPost_ret (v := .agg #[.int .i64 4, .int .i64 0, .string ⟨#[]⟩, .bool false, .int .i64 te]) (by simp [results, Tryz.results64, go_sem, d0, d1, d2, d3, d4]) rfl ⟨rfl, Q5 Q2.out (Nat.le_refl _)⟩
set_option maxHeartbeats 1000000 in
theorem ch3_e (x a b : Cv) (tb : Bool) (te : Int) (v : Value) (w : World) (h : Sl Cv.cells 5 w v [x, a, b]) (HT : ∀ W, Q w W → Calls Tryz.prog 66 #[x.v] W fun r W' => r = .returned (.tuple #[.bool tb, .int .i64 te]) ∧ Q W W') (hp : te ≠ 0) :
    Calls Tryz.prog 64 #[v] w fun r w' => r = .returned (er te).v ∧ Q w w' := by
  obtain ⟨g, off, cap, rfl, a5, b5, z5⟩ := three_sl h
  clear h
  have HB := hid (bxz w)
  have HT' := hid HT
  have HZ := hid (fun W => btruth_any false W)
  have HE := hid (fun W => failure_any te W)
  have hlt := World.block_lt_of_cell? w _ a5.c0
  have HB5 := hid (fun W (q : Q w W) => b5.on q)
  have HZ5 := hid (fun W (q : Q w W) => z5.on q)
  obtain ⟨xk, xn, xt, xb, xe⟩ := x
  obtain ⟨ak, an, at', ab, ae⟩ := a
  obtain ⟨bk, bn, bt, bb, be⟩ := b
  obtain ⟨c0, c1, c2, c3, c4⟩ := a5
  clear HT b5 z5
  simp only [Cv.v, vv, bo, er] at *
  go_enter Tryz.func64, Tryz.ntmps64
  go_wp2_with (first
    | (go_at_call 66; refine (HT'.out _ ((Q.refl _).alloc _)).mono ?_; rintro x w1 ⟨rfl, q1⟩; have B1 := HB.out.on q1; have Q1 : Hid (Q w w1) := hid (((Q.refl _).alloc _).trans q1); clear q1)
    | (go_at_call 30; refine (HE.out _).mono ?_; rintro x w2 ⟨rfl, q1⟩; have B2 := B1.on q1; have Q2 : Hid (Q w w2) := hid (Q1.out.trans q1); clear q1; obtain ⟨d0, d1, d2, d3, d4, y0, y1, y2, y3, y4, _⟩ := B2))
  exact bodyPost_ret (v := .agg #[.int .i64 4, .int .i64 0, .string ⟨#[]⟩, .bool false, .int .i64 te]) (by simp [results, Tryz.results64, go_sem, d0, d1, d2, d3, d4]) rfl ⟨rfl, Q5 Q2.out (Nat.le_refl _)⟩
set_option maxHeartbeats 1000000 in
theorem ch2_t (x a b : Cv) (tb : Bool) (te : Int) (v : Value) (w : World) (h : Sl Cv.cells 5 w v [x, a]) (HT : ∀ W, Q w W → Calls Tryz.prog 66 #[x.v] W fun r W' => r = .returned (.tuple #[.bool tb, .int .i64 te]) ∧ Q W W') (hp : te = 0 ∧ tb = true) :
    Calls Tryz.prog 64 #[v] w fun r w' => r = .returned (a).v ∧ Q w w' := by
  obtain ⟨g, off, cap, rfl, a5, b5⟩ := two_sl h
  clear h
  have HB := hid (bxz w)
  have HT' := hid HT
  have HZ := hid (fun W => btruth_any false W)
  have HE := hid (fun W => failure_any te W)
  have hlt := World.block_lt_of_cell? w _ a5.c0
  have HB5 := hid (fun W (q : Q w W) => b5.on q)
  obtain ⟨xk, xn, xt, xb, xe⟩ := x
  obtain ⟨ak, an, at', ab, ae⟩ := a
  obtain ⟨bk, bn, bt, bb, be⟩ := b
  obtain ⟨c0, c1, c2, c3, c4⟩ := a5
  clear HT b5
  obtain ⟨rfl, rfl⟩ := hp
  simp only [Cv.v, vv, bo, er] at *
  go_enter Tryz.func64, Tryz.ntmps64
  go_wp2_with (go_at_call 66; refine (HT'.out _ ((Q.refl _).alloc _)).mono ?_; rintro x w1 ⟨rfl, q1⟩; have B1 := HB.out.on q1; have Q1 : Hid (Q w w1) := hid (((Q.refl _).alloc _).trans q1); clear q1; obtain ⟨p0, p1, p2, p3, p4⟩ := HB5.out _ Q1.out; simp only at p0 p1 p2 p3 p4; obtain ⟨d0, d1, d2, d3, d4, y0, y1, y2, y3, y4, l1⟩ := B1)
  exact bodyPost_ret (v := .agg #[.int .i64 ak, .int .i64 an, .string at', .bool ab, .int .i64 ae]) (by simp [results, Tryz.results64, go_sem, d0, d1, d2, d3, d4]) rfl ⟨rfl, Q5 Q1.out (Nat.le_refl _)⟩
set_option maxHeartbeats 1000000 in
theorem ch3_t (x a b : Cv) (tb : Bool) (te : Int) (v : Value) (w : World) (h : Sl Cv.cells 5 w v [x, a, b]) (HT : ∀ W, Q w W → Calls Tryz.prog 66 #[x.v] W fun r W' => r = .returned (.tuple #[.bool tb, .int .i64 te]) ∧ Q W W') (hp : te = 0 ∧ tb = true) :
    Calls Tryz.prog 64 #[v] w fun r w' => r = .returned (a).v ∧ Q w w' := by
  obtain ⟨g, off, cap, rfl, a5, b5, z5⟩ := three_sl h
  clear h
  have HB := hid (bxz w)
  have HT' := hid HT
  have HZ := hid (fun W => btruth_any false W)
  have HE := hid (fun W => failure_any te W)
  have hlt := World.block_lt_of_cell? w _ a5.c0
  have HB5 := hid (fun W (q : Q w W) => b5.on q)
  have HZ5 := hid (fun W (q : Q w W) => z5.on q)
  obtain ⟨xk, xn, xt, xb, xe⟩ := x
  obtain ⟨ak, an, at', ab, ae⟩ := a
  obtain ⟨bk, bn, bt, bb, be⟩ := b
  obtain ⟨c0, c1, c2, c3, c4⟩ := a5
  clear HT b5 z5
  obtain ⟨rfl, rfl⟩ := hp
  simp only [Cv.v, vv, bo, er] at *
  go_enter Tryz.func64, Tryz.ntmps64
  go_wp2_with (go_at_call 66; refine (HT'.out _ ((Q.refl _).alloc _)).mono ?_; rintro x w1 ⟨rfl, q1⟩; have B1 := HB.out.on q1; have Q1 : Hid (Q w w1) := hid (((Q.refl _).alloc _).trans q1); clear q1; obtain ⟨p0, p1, p2, p3, p4⟩ := HB5.out _ Q1.out; obtain ⟨z0, z1, z2, z3, z4⟩ := HZ5.out _ Q1.out; simp only at p0 p1 p2 p3 p4 z0 z1 z2 z3 z4; obtain ⟨d0, d1, d2, d3, d4, y0, y1, y2, y3, y4, l1⟩ := B1)
  exact bodyPost_ret (v := .agg #[.int .i64 ak, .int .i64 an, .string at', .bool ab, .int .i64 ae]) (by simp [results, Tryz.results64, go_sem, d0, d1, d2, d3, d4]) rfl ⟨rfl, Q5 Q1.out (Nat.le_refl _)⟩
set_option maxHeartbeats 1000000 in
theorem ch2_f (x a b : Cv) (tb : Bool) (te : Int) (v : Value) (w : World) (h : Sl Cv.cells 5 w v [x, a]) (HT : ∀ W, Q w W → Calls Tryz.prog 66 #[x.v] W fun r W' => r = .returned (.tuple #[.bool tb, .int .i64 te]) ∧ Q W W') (hp : te = 0 ∧ tb = false) :
    Calls Tryz.prog 64 #[v] w fun r w' => r = .returned (bo false).v ∧ Q w w' := by
  obtain ⟨g, off, cap, rfl, a5, b5⟩ := two_sl h
  clear h
  have HB := hid (bxz w)
  have HT' := hid HT
  have HZ := hid (fun W => btruth_any false W)
  have HE := hid (fun W => failure_any te W)
  have hlt := World.block_lt_of_cell? w _ a5.c0
  have HB5 := hid (fun W (q : Q w W) => b5.on q)
  obtain ⟨xk, xn, xt, xb, xe⟩ := x
  obtain ⟨ak, an, at', ab, ae⟩ := a
  obtain ⟨bk, bn, bt, bb, be⟩ := b
  obtain ⟨c0, c1, c2, c3, c4⟩ := a5
  clear HT b5
  obtain ⟨rfl, rfl⟩ := hp
  simp only [Cv.v, vv, bo, er] at *
  go_enter Tryz.func64, Tryz.ntmps64
  go_wp2_with (first
    | (go_at_call 66; refine (HT'.out _ ((Q.refl _).alloc _)).mono ?_; rintro x w1 ⟨rfl, q1⟩; have B1 := HB.out.on q1; have Q1 : Hid (Q w w1) := hid (((Q.refl _).alloc _).trans q1); clear q1)
    | (go_at_call 43; refine (HZ.out _).mono ?_; rintro x w2 ⟨rfl, q1⟩; have B2 := B1.on q1; have Q2 : Hid (Q w w2) := hid (Q1.out.trans q1); clear q1; obtain ⟨d0, d1, d2, d3, d4, y0, y1, y2, y3, y4, _⟩ := B2))
  exact bodyPost_ret (v := .agg #[.int .i64 3, .int .i64 0, .string ⟨#[]⟩, .bool false, .int .i64 0]) (by simp [results, Tryz.results64, go_sem, d0, d1, d2, d3, d4]) rfl ⟨rfl, Q5 Q2.out (Nat.le_refl _)⟩
set_option maxHeartbeats 1000000 in
theorem ch3_f (x a b : Cv) (tb : Bool) (te : Int) (v : Value) (w : World) (h : Sl Cv.cells 5 w v [x, a, b]) (HT : ∀ W, Q w W → Calls Tryz.prog 66 #[x.v] W fun r W' => r = .returned (.tuple #[.bool tb, .int .i64 te]) ∧ Q W W') (hp : te = 0 ∧ tb = false) :
    Calls Tryz.prog 64 #[v] w fun r w' => r = .returned (b).v ∧ Q w w' := by
  obtain ⟨g, off, cap, rfl, a5, b5, z5⟩ := three_sl h
  clear h
  have HB := hid (bxz w)
  have HT' := hid HT
  have HZ := hid (fun W => btruth_any false W)
  have HE := hid (fun W => failure_any te W)
  have hlt := World.block_lt_of_cell? w _ a5.c0
  have HB5 := hid (fun W (q : Q w W) => b5.on q)
  have HZ5 := hid (fun W (q : Q w W) => z5.on q)
  obtain ⟨xk, xn, xt, xb, xe⟩ := x
  obtain ⟨ak, an, at', ab, ae⟩ := a
  obtain ⟨bk, bn, bt, bb, be⟩ := b
  obtain ⟨c0, c1, c2, c3, c4⟩ := a5
  clear HT b5 z5
  obtain ⟨rfl, rfl⟩ := hp
  simp only [Cv.v, vv, bo, er] at *
  go_enter Tryz.func64, Tryz.ntmps64
  go_wp2_with (go_at_call 66; refine (HT'.out _ ((Q.refl _).alloc _)).mono ?_; rintro x w1 ⟨rfl, q1⟩; have B1 := HB.out.on q1; have Q1 : Hid (Q w w1) := hid (((Q.refl _).alloc _).trans q1); clear q1; obtain ⟨p0, p1, p2, p3, p4⟩ := HB5.out _ Q1.out; obtain ⟨z0, z1, z2, z3, z4⟩ := HZ5.out _ Q1.out; simp only at p0 p1 p2 p3 p4 z0 z1 z2 z3 z4; obtain ⟨d0, d1, d2, d3, d4, y0, y1, y2, y3, y4, l1⟩ := B1)
  exact bodyPost_ret (v := .agg #[.int .i64 bk, .int .i64 bn, .string bt, .bool bb, .int .i64 be]) (by simp [results, Tryz.results64, go_sem, d0, d1, d2, d3, d4]) rfl ⟨rfl, Q5 Q1.out (Nat.le_refl _)⟩
def chV (x a b : Cv) : Cv := if x.bE = 0 then (if x.tB = true then a else b) else er x.bE
theorem choose2_any (x a : Cv) (v : Value) (w : World) (h : Sl Cv.cells 5 w v [x, a]) (HT : ∀ W, Q w W → Calls Tryz.prog 66 #[x.v] W fun r W' => r = .returned (.tuple #[.bool x.tB, .int .i64 x.bE]) ∧ Q W W') :
    Calls Tryz.prog 64 #[v] w fun r w' => r = .returned (chV x a (bo false)).v ∧ Q w w' := by
  unfold chV
  by_cases he : x.bE = 0
  · rw [if_pos he]
    cases ht : x.tB
    · exact ch2_f x a a x.tB x.bE v w h HT ⟨he, ht⟩
    · exact ch2_t x a a x.tB x.bE v w h HT ⟨he, ht⟩
  · rw [if_neg he]
    exact ch2_e x a a x.tB x.bE v w h HT he
theorem choose3_any (x a b : Cv) (v : Value) (w : World) (h : Sl Cv.cells 5 w v [x, a, b]) (HT : ∀ W, Q w W → Calls Tryz.prog 66 #[x.v] W fun r W' => r = .returned (.tuple #[.bool x.tB, .int .i64 x.bE]) ∧ Q W W') :
    Calls Tryz.prog 64 #[v] w fun r w' => r = .returned (chV x a b).v ∧ Q w w' := by
  unfold chV
  by_cases he : x.bE = 0
  · rw [if_pos he]
    cases ht : x.tB
    · exact ch3_f x a b x.tB x.bE v w h HT ⟨he, ht⟩
    · exact ch3_t x a b x.tB x.bE v w h HT ⟨he, ht⟩
  · rw [if_neg he]
    exact ch3_e x a b x.tB x.bE v w h HT he
def allB (l : List Cv) : Bool := l.all fun x => (ctd x).tB
def anyB (l : List Cv) : Bool := l.any fun x => (ctd x).tB
theorem allB_step (l : List Cv) (k : Nat) (hk : k < l.length) : allB (l.take (k + 1)) = (allB (l.take k) && (ctd l[k]).tB) := by
  unfold allB
  rw [List.take_succ_eq_append_getElem hk, List.all_append]
  simp
theorem anyB_step (l : List Cv) (k : Nat) (hk : k < l.length) : anyB (l.take (k + 1)) = (anyB (l.take k) || (ctd l[k]).tB) := by
  unfold anyB
  rw [List.take_succ_eq_append_getElem hk, List.any_append]
  simp
set_option maxHeartbeats 2000000 in
theorem single_6 (l : List Cv) (v : Value) (w : World) (h : Sl Cv.cells 5 w v l) (hm : l.length ≤ 1000) (hs : ∀ x ∈ l, x.sl) :
    Calls Tryz.prog 36 #[.int .i64 6, v] w fun r w' => r = .returned (bo (allB l)).v ∧ Q w w' := by
  obtain ⟨ao, cap, rfl, h1, h2, h3⟩ := h
  obtain ⟨n, hn⟩ : ∃ n, l.length = n := ⟨_, rfl⟩
  have HL := hid hn
  have HS := hid hs
  have HC : Hid (0 < n → ∃ b off, ao = some ⟨b, off, none⟩ ∧ ∀ i (hp : i < l.length), At5 w b (off + i * 5) l[i]) := by
    intro h0
    obtain ⟨b, off, ha, hc⟩ := h3 (by omega)
    exact ⟨b, off, ha, fun i hp => at5_of (hc i hp)⟩
  rw [hn] at h1 hm ⊢
  obtain ⟨Y, hY⟩ : ∃ Y, (allB l) = Y := ⟨_, rfl⟩
  have HY := hid hY
  rw [hY]
  have HT := hid (fun W => boo_any Y W)
  clear h3 hn hs hY
  simp only [Cv.v, vv, bo] at *
  go_enter Tryz.func36, Tryz.ntmps36
  go_wp2
  go_loopw [5, 6, 7] (fun a s i W => ∃ (k : Nat) (A S : Bool), k ≤ n ∧ i = .int .i64 k ∧ a = .bool A ∧ s = .bool S ∧ Hid (allB (l.take k) = A ∧ anyB (l.take k) = S) ∧ Q (w.alloc (.cells #[.int .i64 0, .int .i64 0, .string ⟨#[]⟩, .bool false, .int .i64 0] 37)) W) (fun _ _ i _ => n - (intOf i).toNat)
  case atStart => exact ⟨0, true, false, Nat.zero_le _, rfl, rfl, rfl, ⟨rfl, rfl⟩, Q.refl _⟩
  case round =>
    obtain ⟨k, A, S, hk, rfl, rfl, rfl, hAS, hq⟩ := hrel
    by_cases hlt : k < n
    · obtain ⟨b, off, rfl, hc⟩ := HC.out (by omega)
      have hkp : k < l.length := by have := HL.out; omega
      have a5 := (hc k hkp).on (bz_q hq)
      have HU := hid (fun W => rtru_d l[k] W (HS.out _ (List.getElem_mem hkp)))
      have hA1 : Hid (allB (l.take (k + 1)) = (A && (ctd l[k]).tB) ∧ anyB (l.take (k + 1)) = (S || (ctd l[k]).tB)) := by
        show _ ∧ _
        rw [allB_step l k hkp, anyB_step l k hkp, hAS.out.1, hAS.out.2]
        exact ⟨rfl, rfl⟩
      clear hc hAS
      generalize (ctd l[k]).tB = T at HU hA1
      generalize (ctd l[k]).bE = E at HU
      generalize l[k] = x at a5 HU
      obtain ⟨xk, xn, xt, xb, xe⟩ := x
      obtain ⟨c0, c1, c2, c3, c4⟩ := a5
      simp only [Cv.v, vv] at HU c0 c1 c2 c3 c4
      have hb1 := World.block_lt_of_cell? wr _ c0
      have hkl : (k : Int) < (n : Int) := by omega
      have HQ := hid hq
      clear hq
      cases A
      · cases S
        · go_wp2_with (go_at_call 79; refine (HU.out _).mono ?_; rintro r w2 ⟨rfl, q2⟩; have Q2 := hid (HQ.out.trans q2); clear q2)
          go_roundw
          case rel => exact ⟨k + 1, false, T, by omega, by go_num, rfl, rfl, by show _ ∧ _; have := hA1.out; simpa using this, Q2.out⟩
          case measure => simp [intOf]; omega
        · go_wp2_with (go_at_call 79; refine (HU.out _).mono ?_; rintro r w2 ⟨rfl, q2⟩; have Q2 := hid (HQ.out.trans q2); clear q2)
          go_roundw
          case rel => exact ⟨k + 1, false, true, by omega, by go_num, rfl, rfl, by show _ ∧ _; have := hA1.out; simpa using this, Q2.out⟩
          case measure => simp [intOf]; omega
      · cases S
        · go_wp2_with (go_at_call 79; refine (HU.out _).mono ?_; rintro r w2 ⟨rfl, q2⟩; have Q2 := hid (HQ.out.trans q2); clear q2)
          go_roundw
          case rel => exact ⟨k + 1, T, T, by omega, by go_num, rfl, rfl, by show _ ∧ _; have := hA1.out; simpa using this, Q2.out⟩
          case measure => simp [intOf]; omega
        · go_wp2_with (go_at_call 79; refine (HU.out _).mono ?_; rintro r w2 ⟨rfl, q2⟩; have Q2 := hid (HQ.out.trans q2); clear q2)
          go_roundw
          case rel => exact ⟨k + 1, T, true, by omega, by go_num, rfl, rfl, by show _ ∧ _; have := hA1.out; simpa using this, Q2.out⟩
          case measure => simp [intOf]; omega
    · have hkn : k = n := by omega
      subst hkn
      have HR : Hid ((A) = Y) := by
        show _ = _
        have := hAS.out
        rw [List.take_of_length_le (by have := HL.out; omega)] at this
        rw [← HY.out, this.1]
      have hkl : ¬ (k : Int) < (k : Int) := by omega
      have HQ := hid hq
      clear hq hAS
      have HT2 : Hid (∀ W, Calls Tryz.prog 25 #[.bool (A)] W fun x w' => x = .returned (vv 3 0 ⟨#[]⟩ Y 0) ∧ Q W w') := by
        intro W
        rw [HR.out]
        exact HT.out W
      simp only [vv] at HT2
      go_wp2_with (go_at_call 25; refine (HT2.out _).mono ?_; rintro e w2 ⟨rfl, q1⟩; have Q2 := hid ((HQ.out.alloc _).trans q1); clear q1; obtain ⟨d0, d1, d2, d3, d4, y0, y1, y2, y3, y4, _⟩ := bz_on Q2.out)
      exact bodyPost_ret (v := .agg #[.int .i64 3, .int .i64 0, .string ⟨#[]⟩, .bool Y, .int .i64 0]) (by simp [results, Tryz.results36, go_sem, d0, d1, d2, d3, d4]) rfl ⟨rfl, Q5 (bz_q Q2.out) (Nat.le_refl _)⟩
set_option maxHeartbeats 2000000 in
theorem single_7 (l : List Cv) (v : Value) (w : World) (h : Sl Cv.cells 5 w v l) (hm : l.length ≤ 1000) (hs : ∀ x ∈ l, x.sl) :
    Calls Tryz.prog 36 #[.int .i64 7, v] w fun r w' => r = .returned (bo (anyB l)).v ∧ Q w w' := by
  obtain ⟨ao, cap, rfl, h1, h2, h3⟩ := h
  obtain ⟨n, hn⟩ : ∃ n, l.length = n := ⟨_, rfl⟩
  have HL := hid hn
  have HS := hid hs
  have HC : Hid (0 < n → ∃ b off, ao = some ⟨b, off, none⟩ ∧ ∀ i (hp : i < l.length), At5 w b (off + i * 5) l[i]) := by
    intro h0
    obtain ⟨b, off, ha, hc⟩ := h3 (by omega)
    exact ⟨b, off, ha, fun i hp => at5_of (hc i hp)⟩
  rw [hn] at h1 hm ⊢
  obtain ⟨Y, hY⟩ : ∃ Y, (anyB l) = Y := ⟨_, rfl⟩
  have HY := hid hY
  rw [hY]
  have HT := hid (fun W => boo_any Y W)
  clear h3 hn hs hY
  simp only [Cv.v, vv, bo] at *
  go_enter Tryz.func36, Tryz.ntmps36
  go_wp2
  go_loopw [5, 6, 7] (fun a s i W => ∃ (k : Nat) (A S : Bool), k ≤ n ∧ i = .int .i64 k ∧ a = .bool A ∧ s = .bool S ∧ Hid (allB (l.take k) = A ∧ anyB (l.take k) = S) ∧ Q (w.alloc (.cells #[.int .i64 0, .int .i64 0, .string ⟨#[]⟩, .bool false, .int .i64 0] 37)) W) (fun _ _ i _ => n - (intOf i).toNat)
  case atStart => exact ⟨0, true, false, Nat.zero_le _, rfl, rfl, rfl, ⟨rfl, rfl⟩, Q.refl _⟩
  case round =>
    obtain ⟨k, A, S, hk, rfl, rfl, rfl, hAS, hq⟩ := hrel
    by_cases hlt : k < n
    · obtain ⟨b, off, rfl, hc⟩ := HC.out (by omega)
      have hkp : k < l.length := by have := HL.out; omega
      have a5 := (hc k hkp).on (bz_q hq)
      have HU := hid (fun W => rtru_d l[k] W (HS.out _ (List.getElem_mem hkp)))
      have hA1 : Hid (allB (l.take (k + 1)) = (A && (ctd l[k]).tB) ∧ anyB (l.take (k + 1)) = (S || (ctd l[k]).tB)) := by
        show _ ∧ _
        rw [allB_step l k hkp, anyB_step l k hkp, hAS.out.1, hAS.out.2]
        exact ⟨rfl, rfl⟩
      clear hc hAS
      generalize (ctd l[k]).tB = T at HU hA1
      generalize (ctd l[k]).bE = E at HU
      generalize l[k] = x at a5 HU
      obtain ⟨xk, xn, xt, xb, xe⟩ := x
      obtain ⟨c0, c1, c2, c3, c4⟩ := a5
      simp only [Cv.v, vv] at HU c0 c1 c2 c3 c4
      have hb1 := World.block_lt_of_cell? wr _ c0
      have hkl : (k : Int) < (n : Int) := by omega
      have HQ := hid hq
      clear hq
      cases A
      · cases S
        · go_wp2_with (go_at_call 79; refine (HU.out _).mono ?_; rintro r w2 ⟨rfl, q2⟩; have Q2 := hid (HQ.out.trans q2); clear q2)
          go_roundw
          case rel => exact ⟨k + 1, false, T, by omega, by go_num, rfl, rfl, by show _ ∧ _; have := hA1.out; simpa using this, Q2.out⟩
          case measure => simp [intOf]; omega
        · go_wp2_with (go_at_call 79; refine (HU.out _).mono ?_; rintro r w2 ⟨rfl, q2⟩; have Q2 := hid (HQ.out.trans q2); clear q2)
          go_roundw
          case rel => exact ⟨k + 1, false, true, by omega, by go_num, rfl, rfl, by show _ ∧ _; have := hA1.out; simpa using this, Q2.out⟩
          case measure => simp [intOf]; omega
      · cases S
        · go_wp2_with (go_at_call 79; refine (HU.out _).mono ?_; rintro r w2 ⟨rfl, q2⟩; have Q2 := hid (HQ.out.trans q2); clear q2)
          go_roundw
          case rel => exact ⟨k + 1, T, T, by omega, by go_num, rfl, rfl, by show _ ∧ _; have := hA1.out; simpa using this, Q2.out⟩
          case measure => simp [intOf]; omega
        · go_wp2_with (go_at_call 79; refine (HU.out _).mono ?_; rintro r w2 ⟨rfl, q2⟩; have Q2 := hid (HQ.out.trans q2); clear q2)
          go_roundw
          case rel => exact ⟨k + 1, T, true, by omega, by go_num, rfl, rfl, by show _ ∧ _; have := hA1.out; simpa using this, Q2.out⟩
          case measure => simp [intOf]; omega
    · have hkn : k = n := by omega
      subst hkn
      have HR : Hid ((S) = Y) := by
        show _ = _
        have := hAS.out
        rw [List.take_of_length_le (by have := HL.out; omega)] at this
        rw [← HY.out, this.2]
      have hkl : ¬ (k : Int) < (k : Int) := by omega
      have HQ := hid hq
      clear hq hAS
      have HT2 : Hid (∀ W, Calls Tryz.prog 25 #[.bool (S)] W fun x w' => x = .returned (vv 3 0 ⟨#[]⟩ Y 0) ∧ Q W w') := by
        intro W
        rw [HR.out]
        exact HT.out W
      simp only [vv] at HT2
      go_wp2_with (go_at_call 25; refine (HT2.out _).mono ?_; rintro e w2 ⟨rfl, q1⟩; have Q2 := hid ((HQ.out.alloc _).trans q1); clear q1; obtain ⟨d0, d1, d2, d3, d4, y0, y1, y2, y3, y4, _⟩ := bz_on Q2.out)
      exact bodyPost_ret (v := .agg #[.int .i64 3, .int .i64 0, .string ⟨#[]⟩, .bool Y, .int .i64 0]) (by simp [results, Tryz.results36, go_sem, d0, d1, d2, d3, d4]) rfl ⟨rfl, Q5 (bz_q Q2.out) (Nat.le_refl _)⟩
set_option maxHeartbeats 2000000 in
theorem single_8 (l : List Cv) (v : Value) (w : World) (h : Sl Cv.cells 5 w v l) (hm : l.length ≤ 1000) (hs : ∀ x ∈ l, x.sl) :
    Calls Tryz.prog 36 #[.int .i64 8, v] w fun r w' => r = .returned (bo (!(allB l))).v ∧ Q w w' := by
  obtain ⟨ao, cap, rfl, h1, h2, h3⟩ := h
  obtain ⟨n, hn⟩ : ∃ n, l.length = n := ⟨_, rfl⟩
  have HL := hid hn
  have HS := hid hs
  have HC : Hid (0 < n → ∃ b off, ao = some ⟨b, off, none⟩ ∧ ∀ i (hp : i < l.length), At5 w b (off + i * 5) l[i]) := by
    intro h0
    obtain ⟨b, off, ha, hc⟩ := h3 (by omega)
    exact ⟨b, off, ha, fun i hp => at5_of (hc i hp)⟩
  rw [hn] at h1 hm ⊢
  obtain ⟨Y, hY⟩ : ∃ Y, (!(allB l)) = Y := ⟨_, rfl⟩
  have HY := hid hY
  rw [hY]
  have HT := hid (fun W => boo_any Y W)
  clear h3 hn hs hY
  simp only [Cv.v, vv, bo] at *
  go_enter Tryz.func36, Tryz.ntmps36
  go_wp2
  go_loopw [5, 6, 7] (fun a s i W => ∃ (k : Nat) (A S : Bool), k ≤ n ∧ i = .int .i64 k ∧ a = .bool A ∧ s = .bool S ∧ Hid (allB (l.take k) = A ∧ anyB (l.take k) = S) ∧ Q (w.alloc (.cells #[.int .i64 0, .int .i64 0, .string ⟨#[]⟩, .bool false, .int .i64 0] 37)) W) (fun _ _ i _ => n - (intOf i).toNat)
  case atStart => exact ⟨0, true, false, Nat.zero_le _, rfl, rfl, rfl, ⟨rfl, rfl⟩, Q.refl _⟩
  case round =>
    obtain ⟨k, A, S, hk, rfl, rfl, rfl, hAS, hq⟩ := hrel
    by_cases hlt : k < n
    · obtain ⟨b, off, rfl, hc⟩ := HC.out (by omega)
      have hkp : k < l.length := by have := HL.out; omega
      have a5 := (hc k hkp).on (bz_q hq)
      have HU := hid (fun W => rtru_d l[k] W (HS.out _ (List.getElem_mem hkp)))
      have hA1 : Hid (allB (l.take (k + 1)) = (A && (ctd l[k]).tB) ∧ anyB (l.take (k + 1)) = (S || (ctd l[k]).tB)) := by
        show _ ∧ _
        rw [allB_step l k hkp, anyB_step l k hkp, hAS.out.1, hAS.out.2]
        exact ⟨rfl, rfl⟩
      clear hc hAS
      generalize (ctd l[k]).tB = T at HU hA1
      generalize (ctd l[k]).bE = E at HU
      generalize l[k] = x at a5 HU
      obtain ⟨xk, xn, xt, xb, xe⟩ := x
      obtain ⟨c0, c1, c2, c3, c4⟩ := a5
      simp only [Cv.v, vv] at HU c0 c1 c2 c3 c4
      have hb1 := World.block_lt_of_cell? wr _ c0
      have hkl : (k : Int) < (n : Int) := by omega
      have HQ := hid hq
      clear hq
      cases A
      · cases S
        · go_wp2_with (go_at_call 79; refine (HU.out _).mono ?_; rintro r w2 ⟨rfl, q2⟩; have Q2 := hid (HQ.out.trans q2); clear q2)
          go_roundw
          case rel => exact ⟨k + 1, false, T, by omega, by go_num, rfl, rfl, by show _ ∧ _; have := hA1.out; simpa using this, Q2.out⟩
          case measure => simp [intOf]; omega
        · go_wp2_with (go_at_call 79; refine (HU.out _).mono ?_; rintro r w2 ⟨rfl, q2⟩; have Q2 := hid (HQ.out.trans q2); clear q2)
          go_roundw
          case rel => exact ⟨k + 1, false, true, by omega, by go_num, rfl, rfl, by show _ ∧ _; have := hA1.out; simpa using this, Q2.out⟩
          case measure => simp [intOf]; omega
      · cases S
        · go_wp2_with (go_at_call 79; refine (HU.out _).mono ?_; rintro r w2 ⟨rfl, q2⟩; have Q2 := hid (HQ.out.trans q2); clear q2)
          go_roundw
          case rel => exact ⟨k + 1, T, T, by omega, by go_num, rfl, rfl, by show _ ∧ _; have := hA1.out; simpa using this, Q2.out⟩
          case measure => simp [intOf]; omega
        · go_wp2_with (go_at_call 79; refine (HU.out _).mono ?_; rintro r w2 ⟨rfl, q2⟩; have Q2 := hid (HQ.out.trans q2); clear q2)
          go_roundw
          case rel => exact ⟨k + 1, T, true, by omega, by go_num, rfl, rfl, by show _ ∧ _; have := hA1.out; simpa using this, Q2.out⟩
          case measure => simp [intOf]; omega
    · have hkn : k = n := by omega
      subst hkn
      have HR : Hid ((!A) = Y) := by
        show _ = _
        have := hAS.out
        rw [List.take_of_length_le (by have := HL.out; omega)] at this
        rw [← HY.out, this.1]
      have hkl : ¬ (k : Int) < (k : Int) := by omega
      have HQ := hid hq
      clear hq hAS
      have HT2 : Hid (∀ W, Calls Tryz.prog 25 #[.bool (!A)] W fun x w' => x = .returned (vv 3 0 ⟨#[]⟩ Y 0) ∧ Q W w') := by
        intro W
        rw [HR.out]
        exact HT.out W
      simp only [vv] at HT2
      go_wp2_with (go_at_call 25; refine (HT2.out _).mono ?_; rintro e w2 ⟨rfl, q1⟩; have Q2 := hid ((HQ.out.alloc _).trans q1); clear q1; obtain ⟨d0, d1, d2, d3, d4, y0, y1, y2, y3, y4, _⟩ := bz_on Q2.out)
      exact bodyPost_ret (v := .agg #[.int .i64 3, .int .i64 0, .string ⟨#[]⟩, .bool Y, .int .i64 0]) (by simp [results, Tryz.results36, go_sem, d0, d1, d2, d3, d4]) rfl ⟨rfl, Q5 (bz_q Q2.out) (Nat.le_refl _)⟩
set_option maxHeartbeats 1000000 in
theorem single_9p (x : Cv) (v : Value) (w : World) (h : Sl Cv.cells 5 w v [x]) (hs : x.sl) (hp : 0 ≤ (ctd x).nN) :
    Calls Tryz.prog 36 #[.int .i64 9, v] w fun r w' => r = .returned (nu (ctd x).nN).v ∧ Q w w' := by
  obtain ⟨b, off, cap, rfl, a5⟩ := single_sl h
  have hb := World.block_lt_of_cell? w _ a5.c0
  have HU := hid (fun W => rnum_d x W hs)
  have HN := hid (fun W => num_any (ctd x).nN W)
  generalize (ctd x).nN = N at HU HN hp ⊢
  generalize (ctd x).nE = E at HU
  clear h hs
  obtain ⟨xk, xn, xt, xb, xe⟩ := x
  obtain ⟨c0, c1, c2, c3, c4⟩ := a5
  simp only [Cv.v, vv, nu] at *
  go_enter Tryz.func36, Tryz.ntmps36
  go_wp2_with (first
    | (go_at_call 49; refine (HU.out _).mono ?_; rintro r w1 ⟨rfl, q1⟩; have Q1 := hid q1; clear q1)
    | (go_at_call 27; refine (HN.out _).mono ?_; rintro r w2 ⟨rfl, q1⟩; have Q2 := hid (Q1.out.trans q1); clear q1; obtain ⟨d0, d1, d2, d3, d4, y0, y1, y2, y3, y4, _⟩ := bz_on Q2.out))
  exact bodyPost_ret (v := .agg #[.int .i64 1, .int .i64 N, .string ⟨#[]⟩, .bool false, .int .i64 0]) (by simp [results, Tryz.results36, go_sem, d0, d1, d2, d3, d4]) rfl ⟨rfl, Q5 (bz_q Q2.out) (Nat.le_refl _)⟩
set_option maxHeartbeats 1000000 in
theorem single_9n (x : Cv) (v : Value) (w : World) (h : Sl Cv.cells 5 w v [x]) (hs : x.sl) (hp : ¬ 0 ≤ (ctd x).nN) :
    Calls Tryz.prog 36 #[.int .i64 9, v] w fun r w' => r = .returned (resV (0 - (ctd x).nN)).v ∧ Q w w' := by
  obtain ⟨b, off, cap, rfl, a5⟩ := single_sl h
  have hb := World.block_lt_of_cell? w _ a5.c0
  have HU := hid (fun W => rnum_d x W hs)
  have hf := nN_fx (ctd_sl hs)
  have HX := hid (fun W => rsub_any 0 (ctd x).nN W ⟨by omega, by omega⟩ hf)
  have HN := hid (fun W => rnum_any (keep (0 - (ctd x).nN)) (fitB (0 - (ctd x).nN)) W)
  have HR : Hid ((if fitB (0 - (ctd x).nN) = true then nu (keep (0 - (ctd x).nN)) else er 4) = resV (0 - (ctd x).nN)) := rfl
  rw [HR.out] at HN
  generalize resV (0 - (ctd x).nN) = Y at HN ⊢
  generalize keep (0 - (ctd x).nN) = K at HN HX
  generalize fitB (0 - (ctd x).nN) = F at HN HX
  generalize (ctd x).nN = M at HU HX hp
  generalize (ctd x).nE = E at HU
  clear h hs HR hf
  obtain ⟨xk, xn, xt, xb, xe⟩ := x
  obtain ⟨yk, yn, yt, yb, ye⟩ := Y
  obtain ⟨c0, c1, c2, c3, c4⟩ := a5
  simp only [Cv.v, vv] at *
  go_enter Tryz.func36, Tryz.ntmps36
  go_wp2_with (first
    | (go_at_call 49; refine (HU.out _).mono ?_; rintro r w1 ⟨rfl, q1⟩; have Q1 := hid q1; clear q1)
    | (go_at_call 51; refine (HX.out _).mono ?_; rintro r w3 ⟨rfl, q1⟩; have Q3 := hid (Q1.out.trans q1); clear q1)
    | (go_at_call 54; refine (HN.out _).mono ?_; rintro r w2 ⟨rfl, q1⟩; have Q2 := hid (Q3.out.trans q1); clear q1; obtain ⟨d0, d1, d2, d3, d4, y0, y1, y2, y3, y4, _⟩ := bz_on Q2.out))
  exact bodyPost_ret (v := .agg #[.int .i64 yk, .int .i64 yn, .string yt, .bool yb, .int .i64 ye]) (by simp [results, Tryz.results36, go_sem, d0, d1, d2, d3, d4]) rfl ⟨rfl, Q5 (bz_q Q2.out) (Nat.le_refl _)⟩
def txs (l : List Cv) : List ByteArray := l.map fun x => (ctd x).tT
theorem txs_take (l : List Cv) (k : Nat) : txs (l.take k) = (txs l).take k := by unfold txs; rw [List.map_take]
theorem txs_len (l : List Cv) : (txs l).length = l.length := by simp [txs]
theorem joinL_size (l : List ByteArray) (h : ∀ s ∈ l, s.size ≤ 250) : (joinL l).length ≤ 250 * l.length := by
  induction l with
  | nil => simp [joinL]
  | cons s l ih =>
    have h1 := ih (fun x hx => h x (List.mem_cons_of_mem _ hx))
    have h2 := h s (by simp)
    have e : joinL (s :: l) = s.data.toList ++ joinL l := by simp [joinL]
    rw [e, List.length_append, bytes_len, List.length_cons]
    omega
theorem txs_step (l : List Cv) (k : Nat) (hk : k < l.length) (S : ByteArray) (hS : S.data.toList = joinL (txs (l.take k))) : (S ++ (ctd l[k]).tT).data.toList = joinL (txs (l.take (k + 1))) := by
  rw [ByteArray.data_append, Array.toList_append, hS, txs_take, txs_take, joinL_step (txs l) k (by rw [txs_len]; exact hk)]
  congr 2
  simp [txs]
set_option maxHeartbeats 2000000 in
theorem single_10 (l : List Cv) (v : Value) (w : World) (h : Sl Cv.cells 5 w v l) (hm : l.length ≤ 1000) (hs : ∀ x ∈ l, x.sl) :
    Calls Tryz.prog 36 #[.int .i64 10, v] w fun r w' => r = .returned (nu ((((joinL (txs l)).length : Nat) : Int) * 10000)).v ∧ Q w w' := by
  obtain ⟨ao, cap, rfl, h1, h2, h3⟩ := h
  obtain ⟨n, hn⟩ : ∃ n, l.length = n := ⟨_, rfl⟩
  have HL := hid hn
  have HS := hid hs
  have HC : Hid (0 < n → ∃ b off, ao = some ⟨b, off, none⟩ ∧ ∀ i (hp : i < l.length), At5 w b (off + i * 5) l[i]) := by
    intro h0
    obtain ⟨b, off, ha, hc⟩ := h3 (by omega)
    exact ⟨b, off, ha, fun i hp => at5_of (hc i hp)⟩
  rw [hn] at h1 hm ⊢
  obtain ⟨Y, hY⟩ : ∃ Y, (nu ((((joinL (txs l)).length : Nat) : Int) * 10000)) = Y := ⟨_, rfl⟩
  have HY := hid hY
  have HJ : Hid (∀ S : ByteArray, S.data.toList = joinL (txs l) → S.size = (joinL (txs l)).length) := by
    intro S e
    have h1 : S.size = (joinL (txs l)).length := by rw [← bytes_len, e]
    exact h1
  have HB : Hid (∀ k ≤ n, (joinL (txs (l.take k))).length ≤ 250000) := by
    intro k hk
    have h1 := joinL_size (txs (l.take k)) (fun s hs' => by
      obtain ⟨x, hx, rfl⟩ := List.mem_map.1 hs'
      exact tT_size (ctd_sl (HS.out x (List.mem_of_mem_take hx))))
    rw [txs_len, List.length_take] at h1
    omega
  rw [hY]
  clear h3 hn hs hY
  simp only [Cv.v, vv] at *
  go_enter Tryz.func36, Tryz.ntmps36
  go_wp2
  go_loopw [14, 15] (fun s i W => ∃ (k : Nat) (S : ByteArray), k ≤ n ∧ i = .int .i64 k ∧ s = .string S ∧ Hid (S.data.toList = joinL (txs (l.take k))) ∧ Q (w.alloc (.cells #[.int .i64 0, .int .i64 0, .string ⟨#[]⟩, .bool false, .int .i64 0] 37)) W) (fun _ i _ => n - (intOf i).toNat)
  case atStart => exact ⟨0, ⟨#[]⟩, Nat.zero_le _, rfl, rfl, rfl, Q.refl _⟩
  case round =>
    obtain ⟨k, S, hk, rfl, rfl, hS, hq⟩ := hrel
    by_cases hlt : k < n
    · obtain ⟨b, off, rfl, hc⟩ := HC.out (by omega)
      have hkp : k < l.length := by have := HL.out; omega
      have a5 := (hc k hkp).on (bz_q hq)
      have hsl := HS.out _ (List.getElem_mem hkp)
      have HU := hid (fun W => rtxt_d l[k] W hsl)
      have hst := hid (txs_step l k hkp S hS.out)
      have hz1 : S.size ≤ 250000 := by have := HB.out k hk; rw [← hS.out, bytes_len] at this; exact this
      have hz2 : (ctd l[k]).tT.size ≤ 250 := tT_size (ctd_sl hsl)
      clear hc hS hsl
      generalize (ctd l[k]).tT = T at HU hst hz2
      generalize (ctd l[k]).tE = E at HU
      generalize l[k] = x at a5 HU
      have hz : ¬ 9223372036854775807 < S.size + T.size := by omega
      obtain ⟨X, hX⟩ : ∃ X, S ++ T = X := ⟨_, rfl⟩
      rw [hX] at hst
      clear hz1 hz2
      obtain ⟨xk, xn, xt, xb, xe⟩ := x
      obtain ⟨c0, c1, c2, c3, c4⟩ := a5
      simp only [Cv.v, vv] at HU c0 c1 c2 c3 c4
      have hb1 := World.block_lt_of_cell? wr _ c0
      have hkl : (k : Int) < (n : Int) := by omega
      have HQ := hid hq
      clear hq
      go_wp2_with (go_at_call 46; refine (HU.out _).mono ?_; rintro r w2 ⟨rfl, q2⟩; have Q2 := hid (HQ.out.trans q2); clear q2)
      go_roundw
      case rel => exact ⟨k + 1, X, by omega, by go_num, rfl, hst, Q2.out⟩
      case measure => simp [intOf]; omega
    · have hkn : k = n := by omega
      subst hkn
      have hS2 : S.data.toList = joinL (txs l) := by
        have := hS.out
        rw [List.take_of_length_le (by have := HL.out; omega)] at this
        exact this
      have hz1 : S.size ≤ 250000 := by have := HB.out k (Nat.le_refl _); rw [← hS.out, bytes_len] at this; exact this
      have hkl : ¬ (k : Int) < (k : Int) := by omega
      have HQ := hid hq
      have hs1 := HJ.out S hS2
      have HN := hid (fun W => num_any ((S.size : Int) * 10000) W)
      have hwr : IntKind.i64.wrap (10000 * (S.size : Int)) = (S.size : Int) * 10000 := by rw [Int.mul_comm]; exact (by rw [IntKind.wrap_i64]; omega)
      have HR : Hid (Ending.returned (vv 1 ((S.size : Int) * 10000) ⟨#[]⟩ false 0) = .returned (vv Y.k Y.n Y.t Y.b Y.e)) := by
        show _ = _
        rw [← HY.out, ← hs1]
        rfl
      simp only [vv] at HR HN
      clear hs1 hS2
      clear hq hS
      go_wp2_with (go_at_call 27; refine (HN.out _).mono ?_; rintro r w2 ⟨rfl, q1⟩; have Q2 := hid (HQ.out.trans q1); clear q1; obtain ⟨d0, d1, d2, d3, d4, y0, y1, y2, y3, y4, _⟩ := bz_on Q2.out)
      exact bodyPost_ret (v := .agg #[.int .i64 1, .int .i64 (((S.size : Nat) : Int) * 10000), .string ⟨#[]⟩, .bool false, .int .i64 0]) (by simp [results, Tryz.results36, go_sem, d0, d1, d2, d3, d4]) rfl ⟨HR.out, Q5 (bz_q Q2.out) (Nat.le_refl _)⟩
set_option maxHeartbeats 2000000 in
theorem single_11y (l : List Cv) (v : Value) (w : World) (h : Sl Cv.cells 5 w v l) (hm : l.length ≤ 1000) (hs : ∀ x ∈ l, x.sl) (hj : (joinL (txs l)).length ≤ 200) :
    Calls Tryz.prog 36 #[.int .i64 11, v] w fun r w' => r = .returned (tx ⟨(joinL (txs l)).toArray⟩).v ∧ Q w w' := by
  obtain ⟨ao, cap, rfl, h1, h2, h3⟩ := h
  obtain ⟨n, hn⟩ : ∃ n, l.length = n := ⟨_, rfl⟩
  have HL := hid hn
  have HS := hid hs
  have HC : Hid (0 < n → ∃ b off, ao = some ⟨b, off, none⟩ ∧ ∀ i (hp : i < l.length), At5 w b (off + i * 5) l[i]) := by
    intro h0
    obtain ⟨b, off, ha, hc⟩ := h3 (by omega)
    exact ⟨b, off, ha, fun i hp => at5_of (hc i hp)⟩
  rw [hn] at h1 hm ⊢
  obtain ⟨Y, hY⟩ : ∃ Y, (tx ⟨(joinL (txs l)).toArray⟩) = Y := ⟨_, rfl⟩
  have HY := hid hY
  have HJ : Hid (∀ S : ByteArray, S.data.toList = joinL (txs l) → S.size = (joinL (txs l)).length ∧ S.size ≤ 200) := by
    intro S e
    have h1 : S.size = (joinL (txs l)).length := by rw [← bytes_len, e]
    exact ⟨h1, by omega⟩
  have HB : Hid (∀ k ≤ n, (joinL (txs (l.take k))).length ≤ 250000) := by
    intro k hk
    have h1 := joinL_size (txs (l.take k)) (fun s hs' => by
      obtain ⟨x, hx, rfl⟩ := List.mem_map.1 hs'
      exact tT_size (ctd_sl (HS.out x (List.mem_of_mem_take hx))))
    rw [txs_len, List.length_take] at h1
    omega
  rw [hY]
  clear h3 hn hs hY hj
  simp only [Cv.v, vv] at *
  go_enter Tryz.func36, Tryz.ntmps36
  go_wp2
  go_loopw [14, 15] (fun s i W => ∃ (k : Nat) (S : ByteArray), k ≤ n ∧ i = .int .i64 k ∧ s = .string S ∧ Hid (S.data.toList = joinL (txs (l.take k))) ∧ Q (w.alloc (.cells #[.int .i64 0, .int .i64 0, .string ⟨#[]⟩, .bool false, .int .i64 0] 37)) W) (fun _ i _ => n - (intOf i).toNat)
  case atStart => exact ⟨0, ⟨#[]⟩, Nat.zero_le _, rfl, rfl, rfl, Q.refl _⟩
  case round =>
    obtain ⟨k, S, hk, rfl, rfl, hS, hq⟩ := hrel
    by_cases hlt : k < n
    · obtain ⟨b, off, rfl, hc⟩ := HC.out (by omega)
      have hkp : k < l.length := by have := HL.out; omega
      have a5 := (hc k hkp).on (bz_q hq)
      have hsl := HS.out _ (List.getElem_mem hkp)
      have HU := hid (fun W => rtxt_d l[k] W hsl)
      have hst := hid (txs_step l k hkp S hS.out)
      have hz1 : S.size ≤ 250000 := by have := HB.out k hk; rw [← hS.out, bytes_len] at this; exact this
      have hz2 : (ctd l[k]).tT.size ≤ 250 := tT_size (ctd_sl hsl)
      clear hc hS hsl
      generalize (ctd l[k]).tT = T at HU hst hz2
      generalize (ctd l[k]).tE = E at HU
      generalize l[k] = x at a5 HU
      have hz : ¬ 9223372036854775807 < S.size + T.size := by omega
      obtain ⟨X, hX⟩ : ∃ X, S ++ T = X := ⟨_, rfl⟩
      rw [hX] at hst
      clear hz1 hz2
      obtain ⟨xk, xn, xt, xb, xe⟩ := x
      obtain ⟨c0, c1, c2, c3, c4⟩ := a5
      simp only [Cv.v, vv] at HU c0 c1 c2 c3 c4
      have hb1 := World.block_lt_of_cell? wr _ c0
      have hkl : (k : Int) < (n : Int) := by omega
      have HQ := hid hq
      clear hq
      go_wp2_with (go_at_call 46; refine (HU.out _).mono ?_; rintro r w2 ⟨rfl, q2⟩; have Q2 := hid (HQ.out.trans q2); clear q2)
      go_roundw
      case rel => exact ⟨k + 1, X, by omega, by go_num, rfl, hst, Q2.out⟩
      case measure => simp [intOf]; omega
    · have hkn : k = n := by omega
      subst hkn
      have hS2 : S.data.toList = joinL (txs l) := by
        have := hS.out
        rw [List.take_of_length_le (by have := HL.out; omega)] at this
        exact this
      have hz1 : S.size ≤ 250000 := by have := HB.out k (Nat.le_refl _); rw [← hS.out, bytes_len] at this; exact this
      have hkl : ¬ (k : Int) < (k : Int) := by omega
      have HQ := hid hq
      obtain ⟨hs1, hs2⟩ := HJ.out S hS2
      have HN := hid (fun W => txt_any S W)
      have hgt : ¬ (200 : Int) < (S.size : Int) := by omega
      have HR : Hid (Ending.returned (vv 2 0 S false 0) = .returned (vv Y.k Y.n Y.t Y.b Y.e)) := by
        show _ = _
        rw [← HY.out, ← hS2]
        rfl
      simp only [vv] at HR HN
      clear hs1 hS2 hs2
      clear hq hS
      go_wp2_with (go_at_call 28; refine (HN.out _).mono ?_; rintro r w2 ⟨rfl, q1⟩; have Q2 := hid (HQ.out.trans q1); clear q1; obtain ⟨d0, d1, d2, d3, d4, y0, y1, y2, y3, y4, _⟩ := bz_on Q2.out)
      exact bodyPost_ret (v := .agg #[.int .i64 2, .int .i64 0, .string S, .bool false, .int .i64 0]) (by simp [results, Tryz.results36, go_sem, d0, d1, d2, d3, d4]) rfl ⟨HR.out, Q5 (bz_q Q2.out) (Nat.le_refl _)⟩
set_option maxHeartbeats 2000000 in
theorem single_11n (l : List Cv) (v : Value) (w : World) (h : Sl Cv.cells 5 w v l) (hm : l.length ≤ 1000) (hs : ∀ x ∈ l, x.sl) (hj : ¬ (joinL (txs l)).length ≤ 200) :
    Calls Tryz.prog 36 #[.int .i64 11, v] w fun r w' => r = .returned (er 5).v ∧ Q w w' := by
  obtain ⟨ao, cap, rfl, h1, h2, h3⟩ := h
  obtain ⟨n, hn⟩ : ∃ n, l.length = n := ⟨_, rfl⟩
  have HL := hid hn
  have HS := hid hs
  have HC : Hid (0 < n → ∃ b off, ao = some ⟨b, off, none⟩ ∧ ∀ i (hp : i < l.length), At5 w b (off + i * 5) l[i]) := by
    intro h0
    obtain ⟨b, off, ha, hc⟩ := h3 (by omega)
    exact ⟨b, off, ha, fun i hp => at5_of (hc i hp)⟩
  rw [hn] at h1 hm ⊢
  obtain ⟨Y, hY⟩ : ∃ Y, (er 5) = Y := ⟨_, rfl⟩
  have HY := hid hY
  have HJ : Hid (∀ S : ByteArray, S.data.toList = joinL (txs l) → S.size = (joinL (txs l)).length ∧ 200 < S.size) := by
    intro S e
    have h1 : S.size = (joinL (txs l)).length := by rw [← bytes_len, e]
    exact ⟨h1, by omega⟩
  have HB : Hid (∀ k ≤ n, (joinL (txs (l.take k))).length ≤ 250000) := by
    intro k hk
    have h1 := joinL_size (txs (l.take k)) (fun s hs' => by
      obtain ⟨x, hx, rfl⟩ := List.mem_map.1 hs'
      exact tT_size (ctd_sl (HS.out x (List.mem_of_mem_take hx))))
    rw [txs_len, List.length_take] at h1
    omega
  rw [hY]
  clear h3 hn hs hY hj
  simp only [Cv.v, vv] at *
  go_enter Tryz.func36, Tryz.ntmps36
  go_wp2
  go_loopw [14, 15] (fun s i W => ∃ (k : Nat) (S : ByteArray), k ≤ n ∧ i = .int .i64 k ∧ s = .string S ∧ Hid (S.data.toList = joinL (txs (l.take k))) ∧ Q (w.alloc (.cells #[.int .i64 0, .int .i64 0, .string ⟨#[]⟩, .bool false, .int .i64 0] 37)) W) (fun _ i _ => n - (intOf i).toNat)
  case atStart => exact ⟨0, ⟨#[]⟩, Nat.zero_le _, rfl, rfl, rfl, Q.refl _⟩
  case round =>
    obtain ⟨k, S, hk, rfl, rfl, hS, hq⟩ := hrel
    by_cases hlt : k < n
    · obtain ⟨b, off, rfl, hc⟩ := HC.out (by omega)
      have hkp : k < l.length := by have := HL.out; omega
      have a5 := (hc k hkp).on (bz_q hq)
      have hsl := HS.out _ (List.getElem_mem hkp)
      have HU := hid (fun W => rtxt_d l[k] W hsl)
      have hst := hid (txs_step l k hkp S hS.out)
      have hz1 : S.size ≤ 250000 := by have := HB.out k hk; rw [← hS.out, bytes_len] at this; exact this
      have hz2 : (ctd l[k]).tT.size ≤ 250 := tT_size (ctd_sl hsl)
      clear hc hS hsl
      generalize (ctd l[k]).tT = T at HU hst hz2
      generalize (ctd l[k]).tE = E at HU
      generalize l[k] = x at a5 HU
      have hz : ¬ 9223372036854775807 < S.size + T.size := by omega
      obtain ⟨X, hX⟩ : ∃ X, S ++ T = X := ⟨_, rfl⟩
      rw [hX] at hst
      clear hz1 hz2
      obtain ⟨xk, xn, xt, xb, xe⟩ := x
      obtain ⟨c0, c1, c2, c3, c4⟩ := a5
      simp only [Cv.v, vv] at HU c0 c1 c2 c3 c4
      have hb1 := World.block_lt_of_cell? wr _ c0
      have hkl : (k : Int) < (n : Int) := by omega
      have HQ := hid hq
      clear hq
      go_wp2_with (go_at_call 46; refine (HU.out _).mono ?_; rintro r w2 ⟨rfl, q2⟩; have Q2 := hid (HQ.out.trans q2); clear q2)
      go_roundw
      case rel => exact ⟨k + 1, X, by omega, by go_num, rfl, hst, Q2.out⟩
      case measure => simp [intOf]; omega
    · have hkn : k = n := by omega
      subst hkn
      have hS2 : S.data.toList = joinL (txs l) := by
        have := hS.out
        rw [List.take_of_length_le (by have := HL.out; omega)] at this
        exact this
      have hz1 : S.size ≤ 250000 := by have := HB.out k (Nat.le_refl _); rw [← hS.out, bytes_len] at this; exact this
      have hkl : ¬ (k : Int) < (k : Int) := by omega
      have HQ := hid hq
      obtain ⟨hs1, hs2⟩ := HJ.out S hS2
      have HN := hid (fun W => err_any 5 W)
      have hgt : (200 : Int) < (S.size : Int) := by omega
      have HR : Hid (Ending.returned (vv 4 0 ⟨#[]⟩ false 5) = .returned (vv Y.k Y.n Y.t Y.b Y.e)) := by
        show _ = _
        rw [← HY.out]
        rfl
      simp only [vv] at HR HN
      clear hs1 hS2 hs2
      clear hq hS
      go_wp2_with (go_at_call 26; refine (HN.out _).mono ?_; rintro r w2 ⟨rfl, q1⟩; have Q2 := hid (HQ.out.trans q1); clear q1; obtain ⟨d0, d1, d2, d3, d4, y0, y1, y2, y3, y4, _⟩ := bz_on Q2.out)
      exact bodyPost_ret (v := .agg #[.int .i64 4, .int .i64 0, .string ⟨#[]⟩, .bool false, .int .i64 5]) (by simp [results, Tryz.results36, go_sem, d0, d1, d2, d3, d4]) rfl ⟨HR.out, Q5 (bz_q Q2.out) (Nat.le_refl _)⟩
set_option maxHeartbeats 2000000 in
theorem rc2_e (x a b : Cv) (tb : Bool) (te : Int) (v : Value) (w : World) (h : Sl Cv.cells 5 w v [x, a]) (HT : ∀ W, Calls Tryz.prog 79 #[x.v] W fun r W' => r = .returned (.tuple #[.bool tb, .int .i64 te]) ∧ Q W W') (hp : 0 < te) :
    Calls Tryz.prog 34 #[v] w fun r w' => r = .returned (er te).v ∧ Q w w' := by
  obtain ⟨g, off, cap, rfl, a5, b5⟩ := two_sl h
  clear h
  have HT' := hid HT
  have HZ := hid (fun W => boo_any false W)
  have HE := hid (fun W => err_any te W)
  have hlt := World.block_lt_of_cell? w _ a5.c0
  have HB5 := hid (fun W (q : Q w W) => b5.on q)
  obtain ⟨xk, xn, xt, xb, xe⟩ := x
  obtain ⟨ak, an, at', ab, ae⟩ := a
  obtain ⟨bk, bn, bt, bb, be⟩ := b
  obtain ⟨c0, c1, c2, c3, c4⟩ := a5
  clear HT b5
  simp only [Cv.v, vv, bo, er] at *
  go_enter Tryz.func34, Tryz.ntmps34
  go_wp2_with (first
    | (go_at_call 79; refine (HT'.out _).mono ?_; rintro x w1 ⟨rfl, q1⟩; have Q1 := hid q1; clear q1)
    | (go_at_call 25; refine (HZ.out _).mono ?_; rintro x w2 ⟨rfl, q1⟩; have Q2 := hid (Q1.out.trans q1); clear q1; obtain ⟨p0, p1, p2, p3, p4⟩ := HB5.out _ (bz_q Q2.out); simp only at p0 p1 p2 p3 p4; have hl2 := World.block_lt_of_cell? w2 _ p0; have hl3 : g ≠ w2.heap.size := Nat.ne_of_lt hl2)
    | (go_at_call 26; refine (HE.out _).mono ?_; rintro x w4 ⟨rfl, q1⟩; have Q4 := hid ((Q2.out.alloc _).trans q1); clear q1; obtain ⟨d0, d1, d2, d3, d4, y0, y1, y2, y3, y4, _⟩ := bz_on Q4.out))
  exact bodyPost_ret (v := .agg #[.int .i64 4, .int .i64 0, .string ⟨#[]⟩, .bool false, .int .i64 te]) (by simp [results, Tryz.results34, go_sem, d0, d1, d2, d3, d4]) rfl ⟨rfl, Q5 (bz_q Q4.out) (Nat.le_refl _)⟩
set_option maxHeartbeats 2000000 in
theorem rc2_t (x a b : Cv) (tb : Bool) (te : Int) (v : Value) (w : World) (h : Sl Cv.cells 5 w v [x, a]) (HT : ∀ W, Calls Tryz.prog 79 #[x.v] W fun r W' => r = .returned (.tuple #[.bool tb, .int .i64 te]) ∧ Q W W') (hp : te = 0 ∧ tb = true) (hs : a.sl) (hm : a.may = true) :
    Calls Tryz.prog 34 #[v] w fun r w' => r = .returned (a).v ∧ Q w w' := by
  obtain ⟨g, off, cap, rfl, a5, b5⟩ := two_sl h
  clear h
  have HT' := hid HT
  have HZ := hid (fun W => boo_any false W)
  have HE := hid (fun W => err_any 5 W)
  have hlt := World.block_lt_of_cell? w _ a5.c0
  have HB5 := hid (fun W (q : Q w W) => b5.on q)
  have HM := hid (fun W => rmayv_any a W hs.sm)
  rw [hm] at HM
  clear hs hm
  obtain ⟨xk, xn, xt, xb, xe⟩ := x
  obtain ⟨ak, an, at', ab, ae⟩ := a
  obtain ⟨bk, bn, bt, bb, be⟩ := b
  obtain ⟨c0, c1, c2, c3, c4⟩ := a5
  clear HT b5
  obtain ⟨rfl, rfl⟩ := hp
  simp only [Cv.v, vv, bo, er] at *
  go_enter Tryz.func34, Tryz.ntmps34
  go_wp2_with (first
    | (go_at_call 79; refine (HT'.out _).mono ?_; rintro x w1 ⟨rfl, q1⟩; have Q1 := hid q1; clear q1)
    | (go_at_call 25; refine (HZ.out _).mono ?_; rintro x w2 ⟨rfl, q1⟩; have Q2 := hid (Q1.out.trans q1); clear q1; obtain ⟨p0, p1, p2, p3, p4⟩ := HB5.out _ (bz_q Q2.out); simp only at p0 p1 p2 p3 p4; have hl2 := World.block_lt_of_cell? w2 _ p0; have hl3 : g ≠ w2.heap.size := Nat.ne_of_lt hl2)
    | (go_at_call 23; refine (HM.out _).mono ?_; rintro x w3 ⟨rfl, q1⟩; have X2 := (bx_new w2 (.int .i64 ak) (.int .i64 an) (.string at') (.bool ab) (.int .i64 ae)).on q1; have Q3 := hid ((Q2.out.alloc _).trans q1); clear q1; obtain ⟨s0, s1, s2, s3, s4, _⟩ := X2; obtain ⟨d0, d1, d2, d3, d4, y0, y1, y2, y3, y4, _⟩ := bz_on Q3.out))
  exact bodyPost_ret (v := .agg #[.int .i64 ak, .int .i64 an, .string at', .bool ab, .int .i64 ae]) (by simp [results, Tryz.results34, go_sem, d0, d1, d2, d3, d4]) rfl ⟨rfl, Q5 (bz_q Q3.out) (Nat.le_refl _)⟩
set_option maxHeartbeats 2000000 in
theorem rc2_tn (x a b : Cv) (tb : Bool) (te : Int) (v : Value) (w : World) (h : Sl Cv.cells 5 w v [x, a]) (HT : ∀ W, Calls Tryz.prog 79 #[x.v] W fun r W' => r = .returned (.tuple #[.bool tb, .int .i64 te]) ∧ Q W W') (hp : te = 0 ∧ tb = true) (hs : a.sl) (hm : a.may = false) :
    Calls Tryz.prog 34 #[v] w fun r w' => r = .returned (er 5).v ∧ Q w w' := by
  obtain ⟨g, off, cap, rfl, a5, b5⟩ := two_sl h
  clear h
  have HT' := hid HT
  have HZ := hid (fun W => boo_any false W)
  have HE := hid (fun W => err_any 5 W)
  have hlt := World.block_lt_of_cell? w _ a5.c0
  have HB5 := hid (fun W (q : Q w W) => b5.on q)
  have HM := hid (fun W => rmayv_any a W hs.sm)
  rw [hm] at HM
  clear hs hm
  obtain ⟨xk, xn, xt, xb, xe⟩ := x
  obtain ⟨ak, an, at', ab, ae⟩ := a
  obtain ⟨bk, bn, bt, bb, be⟩ := b
  obtain ⟨c0, c1, c2, c3, c4⟩ := a5
  clear HT b5
  obtain ⟨rfl, rfl⟩ := hp
  simp only [Cv.v, vv, bo, er] at *
  go_enter Tryz.func34, Tryz.ntmps34
  go_wp2_with (first
    | (go_at_call 79; refine (HT'.out _).mono ?_; rintro x w1 ⟨rfl, q1⟩; have Q1 := hid q1; clear q1)
    | (go_at_call 25; refine (HZ.out _).mono ?_; rintro x w2 ⟨rfl, q1⟩; have Q2 := hid (Q1.out.trans q1); clear q1; obtain ⟨p0, p1, p2, p3, p4⟩ := HB5.out _ (bz_q Q2.out); simp only at p0 p1 p2 p3 p4; have hl2 := World.block_lt_of_cell? w2 _ p0; have hl3 : g ≠ w2.heap.size := Nat.ne_of_lt hl2)
    | (go_at_call 23; refine (HM.out _).mono ?_; rintro x w3 ⟨rfl, q1⟩; have X2 := (bx_new w2 (.int .i64 ak) (.int .i64 an) (.string at') (.bool ab) (.int .i64 ae)).on q1; have Q3 := hid ((Q2.out.alloc _).trans q1); clear q1; obtain ⟨s0, s1, s2, s3, s4, _⟩ := X2; obtain ⟨d0, d1, d2, d3, d4, y0, y1, y2, y3, y4, _⟩ := bz_on Q3.out)
    | (go_at_call 26; refine (HE.out _).mono ?_; rintro x w4 ⟨rfl, q1⟩; have Q4 := hid (Q3.out.trans q1); clear q1; obtain ⟨d0, d1, d2, d3, d4, y0, y1, y2, y3, y4, _⟩ := bz_on Q4.out))
  exact bodyPost_ret (v := .agg #[.int .i64 4, .int .i64 0, .string ⟨#[]⟩, .bool false, .int .i64 5]) (by simp [results, Tryz.results34, go_sem, d0, d1, d2, d3, d4]) rfl ⟨rfl, Q5 (bz_q Q4.out) (Nat.le_refl _)⟩
set_option maxHeartbeats 2000000 in
theorem rc2_f (x a b : Cv) (tb : Bool) (te : Int) (v : Value) (w : World) (h : Sl Cv.cells 5 w v [x, a]) (HT : ∀ W, Calls Tryz.prog 79 #[x.v] W fun r W' => r = .returned (.tuple #[.bool tb, .int .i64 te]) ∧ Q W W') (hp : te = 0 ∧ tb = false) :
    Calls Tryz.prog 34 #[v] w fun r w' => r = .returned (bo false).v ∧ Q w w' := by
  obtain ⟨g, off, cap, rfl, a5, b5⟩ := two_sl h
  clear h
  have HT' := hid HT
  have HZ := hid (fun W => boo_any false W)
  have HE := hid (fun W => err_any 5 W)
  have hlt := World.block_lt_of_cell? w _ a5.c0
  have HB5 := hid (fun W (q : Q w W) => b5.on q)
  have HM := hid (fun W => rmayv_any (bo false) W nil_sm)
  rw [bo_may false] at HM
  obtain ⟨xk, xn, xt, xb, xe⟩ := x
  obtain ⟨ak, an, at', ab, ae⟩ := a
  obtain ⟨bk, bn, bt, bb, be⟩ := b
  obtain ⟨c0, c1, c2, c3, c4⟩ := a5
  clear HT b5
  obtain ⟨rfl, rfl⟩ := hp
  simp only [Cv.v, vv, bo, er] at *
  go_enter Tryz.func34, Tryz.ntmps34
  go_wp2_with (first
    | (go_at_call 79; refine (HT'.out _).mono ?_; rintro x w1 ⟨rfl, q1⟩; have Q1 := hid q1; clear q1)
    | (go_at_call 25; refine (HZ.out _).mono ?_; rintro x w2 ⟨rfl, q1⟩; have Q2 := hid (Q1.out.trans q1); clear q1; obtain ⟨p0, p1, p2, p3, p4⟩ := HB5.out _ (bz_q Q2.out); simp only at p0 p1 p2 p3 p4; have hl2 := World.block_lt_of_cell? w2 _ p0; have hl3 : g ≠ w2.heap.size := Nat.ne_of_lt hl2)
    | (go_at_call 23; refine (HM.out _).mono ?_; rintro x w3 ⟨rfl, q1⟩; have X2 := (bx_new w2 (.int .i64 3) (.int .i64 0) (.string ⟨#[]⟩) (.bool false) (.int .i64 0)).on q1; have Q3 := hid ((Q2.out.alloc _).trans q1); clear q1; obtain ⟨s0, s1, s2, s3, s4, _⟩ := X2; obtain ⟨d0, d1, d2, d3, d4, y0, y1, y2, y3, y4, _⟩ := bz_on Q3.out))
  exact bodyPost_ret (v := .agg #[.int .i64 3, .int .i64 0, .string ⟨#[]⟩, .bool false, .int .i64 0]) (by simp [results, Tryz.results34, go_sem, d0, d1, d2, d3, d4]) rfl ⟨rfl, Q5 (bz_q Q3.out) (Nat.le_refl _)⟩
set_option maxHeartbeats 2000000 in
theorem rc3_e (x a b : Cv) (tb : Bool) (te : Int) (v : Value) (w : World) (h : Sl Cv.cells 5 w v [x, a, b]) (HT : ∀ W, Calls Tryz.prog 79 #[x.v] W fun r W' => r = .returned (.tuple #[.bool tb, .int .i64 te]) ∧ Q W W') (hp : 0 < te) :
    Calls Tryz.prog 34 #[v] w fun r w' => r = .returned (er te).v ∧ Q w w' := by
  obtain ⟨g, off, cap, rfl, a5, b5, z5⟩ := three_sl h
  clear h
  have HT' := hid HT
  have HZ := hid (fun W => boo_any false W)
  have HE := hid (fun W => err_any te W)
  have hlt := World.block_lt_of_cell? w _ a5.c0
  have HB5 := hid (fun W (q : Q w W) => b5.on q)
  have HZ5 := hid (fun W (q : Q w W) => z5.on q)
  obtain ⟨xk, xn, xt, xb, xe⟩ := x
  obtain ⟨ak, an, at', ab, ae⟩ := a
  obtain ⟨bk, bn, bt, bb, be⟩ := b
  obtain ⟨c0, c1, c2, c3, c4⟩ := a5
  clear HT b5 z5
  simp only [Cv.v, vv, bo, er] at *
  go_enter Tryz.func34, Tryz.ntmps34
  go_wp2_with (first
    | (go_at_call 79; refine (HT'.out _).mono ?_; rintro x w1 ⟨rfl, q1⟩; have Q1 := hid q1; clear q1)
    | (go_at_call 25; refine (HZ.out _).mono ?_; rintro x w2 ⟨rfl, q1⟩; have Q2 := hid (Q1.out.trans q1); clear q1; obtain ⟨p0, p1, p2, p3, p4⟩ := HB5.out _ (bz_q Q2.out); obtain ⟨z0, z1, z2, z3, z4⟩ := HZ5.out _ (bz_q Q2.out); simp only at p0 p1 p2 p3 p4 z0 z1 z2 z3 z4; have hl2 := World.block_lt_of_cell? w2 _ p0; have hl3 : g ≠ w2.heap.size := Nat.ne_of_lt hl2)
    | (go_at_call 26; refine (HE.out _).mono ?_; rintro x w4 ⟨rfl, q1⟩; have Q4 := hid ((Q2.out.alloc _).trans q1); clear q1; obtain ⟨d0, d1, d2, d3, d4, y0, y1, y2, y3, y4, _⟩ := bz_on Q4.out))
  exact bodyPost_ret (v := .agg #[.int .i64 4, .int .i64 0, .string ⟨#[]⟩, .bool false, .int .i64 te]) (by simp [results, Tryz.results34, go_sem, d0, d1, d2, d3, d4]) rfl ⟨rfl, Q5 (bz_q Q4.out) (Nat.le_refl _)⟩
set_option maxHeartbeats 2000000 in
theorem rc3_t (x a b : Cv) (tb : Bool) (te : Int) (v : Value) (w : World) (h : Sl Cv.cells 5 w v [x, a, b]) (HT : ∀ W, Calls Tryz.prog 79 #[x.v] W fun r W' => r = .returned (.tuple #[.bool tb, .int .i64 te]) ∧ Q W W') (hp : te = 0 ∧ tb = true) (hs : a.sl) (hm : a.may = true) :
    Calls Tryz.prog 34 #[v] w fun r w' => r = .returned (a).v ∧ Q w w' := by
  obtain ⟨g, off, cap, rfl, a5, b5, z5⟩ := three_sl h
  clear h
  have HT' := hid HT
  have HZ := hid (fun W => boo_any false W)
  have HE := hid (fun W => err_any 5 W)
  have hlt := World.block_lt_of_cell? w _ a5.c0
  have HB5 := hid (fun W (q : Q w W) => b5.on q)
  have HZ5 := hid (fun W (q : Q w W) => z5.on q)
  have HM := hid (fun W => rmayv_any a W hs.sm)
  rw [hm] at HM
  clear hs hm
  obtain ⟨xk, xn, xt, xb, xe⟩ := x
  obtain ⟨ak, an, at', ab, ae⟩ := a
  obtain ⟨bk, bn, bt, bb, be⟩ := b
  obtain ⟨c0, c1, c2, c3, c4⟩ := a5
  clear HT b5 z5
  obtain ⟨rfl, rfl⟩ := hp
  simp only [Cv.v, vv, bo, er] at *
  go_enter Tryz.func34, Tryz.ntmps34
  go_wp2_with (first
    | (go_at_call 79; refine (HT'.out _).mono ?_; rintro x w1 ⟨rfl, q1⟩; have Q1 := hid q1; clear q1)
    | (go_at_call 25; refine (HZ.out _).mono ?_; rintro x w2 ⟨rfl, q1⟩; have Q2 := hid (Q1.out.trans q1); clear q1; obtain ⟨p0, p1, p2, p3, p4⟩ := HB5.out _ (bz_q Q2.out); obtain ⟨z0, z1, z2, z3, z4⟩ := HZ5.out _ (bz_q Q2.out); simp only at p0 p1 p2 p3 p4 z0 z1 z2 z3 z4; have hl2 := World.block_lt_of_cell? w2 _ p0; have hl3 : g ≠ w2.heap.size := Nat.ne_of_lt hl2)
    | (go_at_call 23; refine (HM.out _).mono ?_; rintro x w3 ⟨rfl, q1⟩; have X2 := (bx_new w2 (.int .i64 ak) (.int .i64 an) (.string at') (.bool ab) (.int .i64 ae)).on q1; have Q3 := hid ((Q2.out.alloc _).trans q1); clear q1; obtain ⟨s0, s1, s2, s3, s4, _⟩ := X2; obtain ⟨d0, d1, d2, d3, d4, y0, y1, y2, y3, y4, _⟩ := bz_on Q3.out))
  exact bodyPost_ret (v := .agg #[.int .i64 ak, .int .i64 an, .string at', .bool ab, .int .i64 ae]) (by simp [results, Tryz.results34, go_sem, d0, d1, d2, d3, d4]) rfl ⟨rfl, Q5 (bz_q Q3.out) (Nat.le_refl _)⟩
set_option maxHeartbeats 2000000 in
theorem rc3_tn (x a b : Cv) (tb : Bool) (te : Int) (v : Value) (w : World) (h : Sl Cv.cells 5 w v [x, a, b]) (HT : ∀ W, Calls Tryz.prog 79 #[x.v] W fun r W' => r = .returned (.tuple #[.bool tb, .int .i64 te]) ∧ Q W W') (hp : te = 0 ∧ tb = true) (hs : a.sl) (hm : a.may = false) :
    Calls Tryz.prog 34 #[v] w fun r w' => r = .returned (er 5).v ∧ Q w w' := by
  obtain ⟨g, off, cap, rfl, a5, b5, z5⟩ := three_sl h
  clear h
  have HT' := hid HT
  have HZ := hid (fun W => boo_any false W)
  have HE := hid (fun W => err_any 5 W)
  have hlt := World.block_lt_of_cell? w _ a5.c0
  have HB5 := hid (fun W (q : Q w W) => b5.on q)
  have HZ5 := hid (fun W (q : Q w W) => z5.on q)
  have HM := hid (fun W => rmayv_any a W hs.sm)
  rw [hm] at HM
  clear hs hm
  obtain ⟨xk, xn, xt, xb, xe⟩ := x
  obtain ⟨ak, an, at', ab, ae⟩ := a
  obtain ⟨bk, bn, bt, bb, be⟩ := b
  obtain ⟨c0, c1, c2, c3, c4⟩ := a5
  clear HT b5 z5
  obtain ⟨rfl, rfl⟩ := hp
  simp only [Cv.v, vv, bo, er] at *
  go_enter Tryz.func34, Tryz.ntmps34
  go_wp2_with (first
    | (go_at_call 79; refine (HT'.out _).mono ?_; rintro x w1 ⟨rfl, q1⟩; have Q1 := hid q1; clear q1)
    | (go_at_call 25; refine (HZ.out _).mono ?_; rintro x w2 ⟨rfl, q1⟩; have Q2 := hid (Q1.out.trans q1); clear q1; obtain ⟨p0, p1, p2, p3, p4⟩ := HB5.out _ (bz_q Q2.out); obtain ⟨z0, z1, z2, z3, z4⟩ := HZ5.out _ (bz_q Q2.out); simp only at p0 p1 p2 p3 p4 z0 z1 z2 z3 z4; have hl2 := World.block_lt_of_cell? w2 _ p0; have hl3 : g ≠ w2.heap.size := Nat.ne_of_lt hl2)
    | (go_at_call 23; refine (HM.out _).mono ?_; rintro x w3 ⟨rfl, q1⟩; have X2 := (bx_new w2 (.int .i64 ak) (.int .i64 an) (.string at') (.bool ab) (.int .i64 ae)).on q1; have Q3 := hid ((Q2.out.alloc _).trans q1); clear q1; obtain ⟨s0, s1, s2, s3, s4, _⟩ := X2; obtain ⟨d0, d1, d2, d3, d4, y0, y1, y2, y3, y4, _⟩ := bz_on Q3.out)
    | (go_at_call 26; refine (HE.out _).mono ?_; rintro x w4 ⟨rfl, q1⟩; have Q4 := hid (Q3.out.trans q1); clear q1; obtain ⟨d0, d1, d2, d3, d4, y0, y1, y2, y3, y4, _⟩ := bz_on Q4.out))
  exact bodyPost_ret (v := .agg #[.int .i64 4, .int .i64 0, .string ⟨#[]⟩, .bool false, .int .i64 5]) (by simp [results, Tryz.results34, go_sem, d0, d1, d2, d3, d4]) rfl ⟨rfl, Q5 (bz_q Q4.out) (Nat.le_refl _)⟩
set_option maxHeartbeats 2000000 in
theorem rc3_f (x a b : Cv) (tb : Bool) (te : Int) (v : Value) (w : World) (h : Sl Cv.cells 5 w v [x, a, b]) (HT : ∀ W, Calls Tryz.prog 79 #[x.v] W fun r W' => r = .returned (.tuple #[.bool tb, .int .i64 te]) ∧ Q W W') (hp : te = 0 ∧ tb = false) (hs : b.sl) (hm : b.may = true) :
    Calls Tryz.prog 34 #[v] w fun r w' => r = .returned (b).v ∧ Q w w' := by
  obtain ⟨g, off, cap, rfl, a5, b5, z5⟩ := three_sl h
  clear h
  have HT' := hid HT
  have HZ := hid (fun W => boo_any false W)
  have HE := hid (fun W => err_any 5 W)
  have hlt := World.block_lt_of_cell? w _ a5.c0
  have HB5 := hid (fun W (q : Q w W) => b5.on q)
  have HZ5 := hid (fun W (q : Q w W) => z5.on q)
  have HM := hid (fun W => rmayv_any b W hs.sm)
  rw [hm] at HM
  clear hs hm
  obtain ⟨xk, xn, xt, xb, xe⟩ := x
  obtain ⟨ak, an, at', ab, ae⟩ := a
  obtain ⟨bk, bn, bt, bb, be⟩ := b
  obtain ⟨c0, c1, c2, c3, c4⟩ := a5
  clear HT b5 z5
  obtain ⟨rfl, rfl⟩ := hp
  simp only [Cv.v, vv, bo, er] at *
  go_enter Tryz.func34, Tryz.ntmps34
  go_wp2_with (first
    | (go_at_call 79; refine (HT'.out _).mono ?_; rintro x w1 ⟨rfl, q1⟩; have Q1 := hid q1; clear q1)
    | (go_at_call 25; refine (HZ.out _).mono ?_; rintro x w2 ⟨rfl, q1⟩; have Q2 := hid (Q1.out.trans q1); clear q1; obtain ⟨p0, p1, p2, p3, p4⟩ := HB5.out _ (bz_q Q2.out); obtain ⟨z0, z1, z2, z3, z4⟩ := HZ5.out _ (bz_q Q2.out); simp only at p0 p1 p2 p3 p4 z0 z1 z2 z3 z4; have hl2 := World.block_lt_of_cell? w2 _ p0; have hl3 : g ≠ w2.heap.size := Nat.ne_of_lt hl2)
    | (go_at_call 23; refine (HM.out _).mono ?_; rintro x w3 ⟨rfl, q1⟩; have X2 := (bx_new w2 (.int .i64 bk) (.int .i64 bn) (.string bt) (.bool bb) (.int .i64 be)).on q1; have Q3 := hid ((Q2.out.alloc _).trans q1); clear q1; obtain ⟨s0, s1, s2, s3, s4, _⟩ := X2; obtain ⟨d0, d1, d2, d3, d4, y0, y1, y2, y3, y4, _⟩ := bz_on Q3.out))
  exact bodyPost_ret (v := .agg #[.int .i64 bk, .int .i64 bn, .string bt, .bool bb, .int .i64 be]) (by simp [results, Tryz.results34, go_sem, d0, d1, d2, d3, d4]) rfl ⟨rfl, Q5 (bz_q Q3.out) (Nat.le_refl _)⟩
set_option maxHeartbeats 2000000 in
theorem rc3_fn (x a b : Cv) (tb : Bool) (te : Int) (v : Value) (w : World) (h : Sl Cv.cells 5 w v [x, a, b]) (HT : ∀ W, Calls Tryz.prog 79 #[x.v] W fun r W' => r = .returned (.tuple #[.bool tb, .int .i64 te]) ∧ Q W W') (hp : te = 0 ∧ tb = false) (hs : b.sl) (hm : b.may = false) :
    Calls Tryz.prog 34 #[v] w fun r w' => r = .returned (er 5).v ∧ Q w w' := by
  obtain ⟨g, off, cap, rfl, a5, b5, z5⟩ := three_sl h
  clear h
  have HT' := hid HT
  have HZ := hid (fun W => boo_any false W)
  have HE := hid (fun W => err_any 5 W)
  have hlt := World.block_lt_of_cell? w _ a5.c0
  have HB5 := hid (fun W (q : Q w W) => b5.on q)
  have HZ5 := hid (fun W (q : Q w W) => z5.on q)
  have HM := hid (fun W => rmayv_any b W hs.sm)
  rw [hm] at HM
  clear hs hm
  obtain ⟨xk, xn, xt, xb, xe⟩ := x
  obtain ⟨ak, an, at', ab, ae⟩ := a
  obtain ⟨bk, bn, bt, bb, be⟩ := b
  obtain ⟨c0, c1, c2, c3, c4⟩ := a5
  clear HT b5 z5
  obtain ⟨rfl, rfl⟩ := hp
  simp only [Cv.v, vv, bo, er] at *
  go_enter Tryz.func34, Tryz.ntmps34
  go_wp2_with (first
    | (go_at_call 79; refine (HT'.out _).mono ?_; rintro x w1 ⟨rfl, q1⟩; have Q1 := hid q1; clear q1)
    | (go_at_call 25; refine (HZ.out _).mono ?_; rintro x w2 ⟨rfl, q1⟩; have Q2 := hid (Q1.out.trans q1); clear q1; obtain ⟨p0, p1, p2, p3, p4⟩ := HB5.out _ (bz_q Q2.out); obtain ⟨z0, z1, z2, z3, z4⟩ := HZ5.out _ (bz_q Q2.out); simp only at p0 p1 p2 p3 p4 z0 z1 z2 z3 z4; have hl2 := World.block_lt_of_cell? w2 _ p0; have hl3 : g ≠ w2.heap.size := Nat.ne_of_lt hl2)
    | (go_at_call 23; refine (HM.out _).mono ?_; rintro x w3 ⟨rfl, q1⟩; have X2 := (bx_new w2 (.int .i64 bk) (.int .i64 bn) (.string bt) (.bool bb) (.int .i64 be)).on q1; have Q3 := hid ((Q2.out.alloc _).trans q1); clear q1; obtain ⟨s0, s1, s2, s3, s4, _⟩ := X2; obtain ⟨d0, d1, d2, d3, d4, y0, y1, y2, y3, y4, _⟩ := bz_on Q3.out)
    | (go_at_call 26; refine (HE.out _).mono ?_; rintro x w4 ⟨rfl, q1⟩; have Q4 := hid (Q3.out.trans q1); clear q1; obtain ⟨d0, d1, d2, d3, d4, y0, y1, y2, y3, y4, _⟩ := bz_on Q4.out))
  exact bodyPost_ret (v := .agg #[.int .i64 4, .int .i64 0, .string ⟨#[]⟩, .bool false, .int .i64 5]) (by simp [results, Tryz.results34, go_sem, d0, d1, d2, d3, d4]) rfl ⟨rfl, Q5 (bz_q Q4.out) (Nat.le_refl _)⟩
theorem chV_lo (x : Cv) (hm : x.may = true) (h : x.bE ≠ 0) : 0 < x.bE := by have := bE_lo hm; omega
theorem choice2_any (x a : Cv) (v : Value) (w : World) (h : Sl Cv.cells 5 w v [x, a]) (hx : x.sl) (ha : a.sl) :
    Calls Tryz.prog 34 #[v] w fun r w' => r = .returned (chV (ctd x) (ctd a) (bo false)).v ∧ Q w w' := by
  unfold chV
  by_cases he : (ctd x).bE = 0
  · rw [if_pos he]
    cases ht : (ctd x).tB
    · exact rc2_f x a a _ _ v w h (fun W => rtru_d x W hx) ⟨he, ht⟩
    · rw [if_pos rfl]
      cases hm : a.may
      · have e : ctd a = er 5 := by unfold ctd; rw [hm]; rfl
        rw [e]
        exact rc2_tn x a a _ _ v w h (fun W => rtru_d x W hx) ⟨he, ht⟩ ha hm
      · rw [ctd_may hm]
        exact rc2_t x a a _ _ v w h (fun W => rtru_d x W hx) ⟨he, ht⟩ ha hm
  · rw [if_neg he]
    exact rc2_e x a a _ _ v w h (fun W => rtru_d x W hx) (chV_lo _ (ctd_may' x) he)
theorem choice3_any (x a b : Cv) (v : Value) (w : World) (h : Sl Cv.cells 5 w v [x, a, b]) (hx : x.sl) (ha : a.sl) (hb : b.sl) :
    Calls Tryz.prog 34 #[v] w fun r w' => r = .returned (chV (ctd x) (ctd a) (ctd b)).v ∧ Q w w' := by
  unfold chV
  by_cases he : (ctd x).bE = 0
  · rw [if_pos he]
    cases ht : (ctd x).tB
    · rw [if_neg (by simp)]
      cases hm : b.may
      · have e : ctd b = er 5 := by unfold ctd; rw [hm]; rfl
        rw [e]
        exact rc3_fn x a b _ _ v w h (fun W => rtru_d x W hx) ⟨he, ht⟩ hb hm
      · rw [ctd_may hm]
        exact rc3_f x a b _ _ v w h (fun W => rtru_d x W hx) ⟨he, ht⟩ hb hm
    · rw [if_pos rfl]
      cases hm : a.may
      · have e : ctd a = er 5 := by unfold ctd; rw [hm]; rfl
        rw [e]
        exact rc3_tn x a b _ _ v w h (fun W => rtru_d x W hx) ⟨he, ht⟩ ha hm
      · rw [ctd_may hm]
        exact rc3_t x a b _ _ v w h (fun W => rtru_d x W hx) ⟨he, ht⟩ ha hm
  · rw [if_neg he]
    exact rc3_e x a b _ _ v w h (fun W => rtru_d x W hx) (chV_lo _ (ctd_may' x) he)
end Go.Proofs.YtfjpdopmojfchaaGreatDoor
