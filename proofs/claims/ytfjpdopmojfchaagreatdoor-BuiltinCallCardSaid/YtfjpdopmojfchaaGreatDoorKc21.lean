/- Package builtin: aggregates; P. -/
import Derived.Test.YtfjpdopmojfchaaGreatDoorKc17
import Derived.Deep.RegionWith
import Derived.Test.YtfjpdopmojfchaaGreatDoorKc05
set_option linter.unusedVariables false
set_option linter.unusedSimpArgs false
set_option maxRecDepth 100000
set_option maxHeartbeats 8000000
namespace Go.Proofs.YtfjpdopmojfchaaGreatDoor
open Go.RowKit
set_option maxHeartbeats 1000000 in
theorem sum_sl (l : List Int) (v : Value) (w : World) (h : Sl encN 1 w v l) (hm : l.length ≤ 1000000) (hf : ∀ x ∈ l, Fx x) :
    Calls Tryz.prog 106 #[v] w fun e w' => e = .returned (.tuple #[.int .i64 (keep l.sum), .bool (fitB l.sum)]) ∧ Q w w' := by
  obtain ⟨ao, cap, rfl, h1, h2, h3⟩ := h
  rcases Nat.eq_zero_or_pos l.length with h0 | h0
  · have hl := List.eq_nil_of_length_eq_zero h0
    subst hl
    clear h3
    simp only [List.length_nil]
    go_enter Tryz.func106, Tryz.ntmps106
    go_wp2
    refine wp_loop_rounds 1 ?_
    rw [rounds_succ]
    have HS := hid (fun W => signWord_any 0 W)
    go_wp2_with (go_at_call 137; refine (HS.out _).mono ?_; rintro e w1 ⟨rfl, rfl⟩)
    go_ret2
    exact ⟨rfl, Q.refl _⟩
  · obtain ⟨b, off, rfl, hc⟩ := h3 h0
    have hg : ∀ i (hi : i < l.length), l.getD i 0 = l[i] := fun i hi => by rw [List.getD_eq_getElem?_getD, List.getElem?_eq_getElem hi]; rfl
    refine sum_row b off l.length cap l w rfl (by omega) (fun i hi => ?_) (fun i hi => ?_)
    · rw [hg i hi]; exact hf _ (List.getElem_mem hi)
    · rw [hg i hi]
      have := hc i hi 0 _ rfl
      simpa using this
def sumV (l : List Int) : Cv := if fitB l.sum = true then nu (keep l.sum) else er 4
set_option maxHeartbeats 1000000 in
theorem bsum_any (l : List Int) (v : Value) (w : World) (h : Sl encN 1 w v l) (hm : l.length ≤ 1000000) (hf : ∀ x ∈ l, Fx x) :
    Calls Tryz.prog 58 #[v] w fun r w' => r = .returned (sumV l).v ∧ Q w w' := by
  have HB := hid (bxz w)
  have HS := hid (fun W (q : Q w W) => sum_sl l v W (h.on q) hm hf)
  have HR := hid (fun W => result_any (keep l.sum) (fitB l.sum) W)
  unfold sumV
  obtain ⟨ao, cap, rfl, _, _⟩ := h.len
  generalize (if fitB l.sum = true then nu (keep l.sum) else er 4) = y at *
  obtain ⟨yk, yn, yt, yb, ye⟩ := y
  clear h hf
  generalize keep l.sum = a at *
  generalize fitB l.sum = c at *
  generalize l.length = ln at *
  simp only [Cv.v, vv] at *
  go_enter Tryz.func58, Tryz.ntmps58
  go_wp2_with (first
    | (go_at_call 106; refine (HS.out _ ((Q.refl _).alloc _)).mono ?_; rintro x w1 ⟨rfl, q1⟩; have B1 := HB.out.on q1; have Q1 : Hid (Q w w1) := hid (((Q.refl _).alloc _).trans q1); clear q1)
    | (go_at_call 81; refine (HR.out _).mono ?_; rintro x w2 ⟨rfl, q1⟩; have B2 := B1.on q1; have Q2 : Hid (Q w w2) := hid (Q1.out.trans q1); clear q1; obtain ⟨d0, d1, d2, d3, d4, y0, y1, y2, y3, y4, _⟩ := B2))
  exact bodyPost_ret (v := .agg #[.int .i64 yk, .int .i64 yn, .string yt, .bool yb, .int .i64 ye]) (by simp [results, Tryz.results58, go_sem, d0, d1, d2, d3, d4]) rfl ⟨rfl, Q5 Q2.out (Nat.le_refl _)⟩
set_option maxHeartbeats 1000000 in
theorem agg_err (p : Nat) (f : Value) (A : List Ag) (v : Value) (w : World) (hw : Std2 w) (hc : w.cell? ⟨p, 0, none⟩ = some f) (h : Args w v A) (hm : A.length ≤ 1000) (hs : ∀ a ∈ A, a.l.length ≤ 1000 ∧ ∀ x ∈ a.l, x.sm) (hne : worst (A.flatMap (·.l)) ≠ 0) :
    Calls Tryz.prog 103 #[v, .pointer (some ⟨p, 0, none⟩)] w fun r w' => r = .returned (er (worst (A.flatMap (·.l)))).v ∧ Q w w' := by
  have HB := hid (bxz w)
  have HW := hid (fun W (g : Q w W) => aworst_any A v W (hw.on g) (h.on g) hm hs)
  obtain ⟨e, he⟩ : ∃ e, worst (A.flatMap (·.l)) = e := ⟨_, rfl⟩
  rw [he] at HW hne ⊢
  have hne' : (e != 0) = true := bne_iff_ne.2 hne
  have HF := hid (fun W => failure_any e W)
  obtain ⟨ao, cap, rfl, _, _⟩ := h.sl.len
  generalize A.length = ln at *
  clear hw hc h hm hs he
  simp only [Cv.v, vv, er] at *
  go_enter Tryz.func103, Tryz.ntmps103
  go_wp2_with (first
    | (go_at_call 104; refine (HW.out _ ((Q.refl _).alloc _)).mono ?_; rintro x w1 ⟨rfl, q1⟩; have B1 := HB.out.on q1; have Q1 : Hid (Q w w1) := hid (((Q.refl _).alloc _).trans q1); clear q1)
    | (go_at_call 30; refine (HF.out _).mono ?_; rintro x w2 ⟨rfl, q1⟩; have B2 := B1.on q1; have Q2 : Hid (Q w w2) := hid (Q1.out.trans q1); clear q1; obtain ⟨d0, d1, d2, d3, d4, y0, y1, y2, y3, y4, _⟩ := B2))
  exact bodyPost_ret (v := .agg #[.int .i64 4, .int .i64 0, .string ⟨#[]⟩, .bool false, .int .i64 e]) (by simp [results, Tryz.results103, go_sem, d0, d1, d2, d3, d4]) rfl ⟨rfl, Q5 Q2.out (Nat.le_refl _)⟩
set_option maxHeartbeats 2000000 in
theorem agg69 (p : Nat) (A : List Ag) (v : Value) (y : Cv) (w : World) (hw : Std2 w) (hp : w.cell? ⟨p, 0, none⟩ = some (.func (.func 58) #[] #[])) (h : Args w v A) (hm : A.length ≤ 1000) (hs : ∀ a ∈ A, a.l.length ≤ 1000 ∧ ∀ x ∈ a.l, x.sm) (hz : worst (A.flatMap (·.l)) = 0)
    (HG : ∀ W s, Q w W → Sl encN 1 W s (nums (A.flatMap (·.l))) → Calls Tryz.prog 58 #[s] W fun r W' => r = .returned y.v ∧ Q W W') :
    Calls Tryz.prog 103 #[v, .pointer (some ⟨p, 0, none⟩)] w fun r w' => r = .returned y.v ∧ Q w w' := by
  have HB := hid (bxz w)
  have HW := hid (fun W (g : Q w W) => aworst_any A v W (hw.on g) (h.on g) hm hs)
  have HN := hid (fun W (g : Q w W) => numbers_any A v W (hw.on g) (h.on g) hm hs)
  have HG' := hid HG
  rw [hz] at HW
  have HP := hid (fun W (g : Q w W) => fcell hp g)
  have hpl := World.block_lt_of_cell? w _ hp
  obtain ⟨ao, cap, rfl, _, _⟩ := h.sl.len
  generalize A.length = ln at *
  obtain ⟨yk, yn, yt, yb, ye⟩ := y
  clear hw hp h hm hs hz HG
  simp only [Cv.v, vv] at *
  go_enter Tryz.func103, Tryz.ntmps103
  go_wp2_with (go_at_call 104; refine (HW.out _ ((Q.refl _).alloc _)).mono ?_; rintro x w1 ⟨rfl, q1⟩; have B1 := hid (HB.out.on q1); have Q1 : Hid (Q w w1) := hid (((Q.refl _).alloc _).trans q1); clear q1; have cp := HP.out _ Q1.out; have cpd := HP.out _ (Q1.out.drew))
  go_region_with (first
    | (go_at_call 105; first | (refine (HN.out _ Q1.out).mono ?_; rintro x w2 ⟨s, rfl, S2, q2⟩; have SS := hid S2; have B2 := hid (B1.out.on q2); have Q2 := hid (Q1.out.trans q2); clear S2 q2; have cp2 := HP.out _ Q2.out; have cp2d := HP.out _ (Q2.out.drew)) | (refine (HN.out _ Q1.out.drew).mono ?_; rintro x w2 ⟨s, rfl, S2, q2⟩; have SS := hid S2; have B2 := hid ((B1.out.on ((Q.refl _).drew)).on q2); have Q2 := hid (Q1.out.drew.trans q2); clear S2 q2; have cp2 := HP.out _ Q2.out; have cp2d := HP.out _ (Q2.out.drew)))
    | (go_at_call 58; first | (refine (HG'.out _ _ Q2.out SS.out).mono ?_; rintro x w3 ⟨rfl, q3⟩; have Q3 := hid (Q2.out.trans q3); obtain ⟨d0, d1, d2, d3, d4, y0, y1, y2, y3, y4, _⟩ := B2.out.on q3; clear q3) | (refine (HG'.out _ _ Q2.out.drew (SS.out.on ((Q.refl _).drew))).mono ?_; rintro x w3 ⟨rfl, q3⟩; have Q3 := hid (Q2.out.drew.trans q3); obtain ⟨d0, d1, d2, d3, d4, y0, y1, y2, y3, y4, _⟩ := (B2.out.on ((Q.refl _).drew)).on q3; clear q3)))
  all_goals try go_wp2
  all_goals exact bodyPost_ret (v := .agg #[.int .i64 yk, .int .i64 yn, .string yt, .bool yb, .int .i64 ye]) (by simp [results, Tryz.results103, go_sem, d0, d1, d2, d3, d4]) rfl ⟨rfl, Q5 Q3.out (Nat.le_refl _)⟩
abbrev Bb3 (w : World) (a b : Cv) (W : World) : Prop := B3 w a.k a.n a.t a.b a.e b.k b.n b.t b.b b.e 0 0 ⟨#[]⟩ false 0 W
theorem bb3_new (w : World) (a b : Cv) : Bb3 w a b (((w.alloc (.cells #[.int .i64 a.k, .int .i64 a.n, .string a.t, .bool a.b, .int .i64 a.e] 37)).alloc (.cells #[.int .i64 b.k, .int .i64 b.n, .string b.t, .bool b.b, .int .i64 b.e] 37)).alloc (.cells #[.int .i64 0, .int .i64 0, .string ⟨#[]⟩, .bool false, .int .i64 0] 37)) := b3_new w _ _ _ _ _ _ _ _ _ _ _ _ _ _ _
def resV (r : Int) : Cv := if fitB r = true then nu (keep r) else er 4
set_option maxHeartbeats 4000000 in
theorem calc_add (a b : Cv) (m n : Int) (w : World) (HA : ∀ W, Q w W → Calls Tryz.prog 71 #[a.v] W fun x W' => x = .returned (.tuple #[.int .i64 m, .int .i64 0]) ∧ Q W W') (HB : ∀ W, Q w W → Calls Tryz.prog 71 #[b.v] W fun x W' => x = .returned (.tuple #[.int .i64 n, .int .i64 0]) ∧ Q W W') (hm : Fx m) (hn : Fx n) :
    Calls Tryz.prog 39 #[.string ⟨#[43]⟩, a.v, b.v] w fun r w' => r = .returned (resV (m + n)).v ∧ Q w w' := by
  have J := bb3_new w a b
  have HO := hid (fun W => add_any m n W hm hn)
  have HR := hid (fun W => result_any (keep (m + n)) (fitB (m + n)) W)
  have HA' := hid HA
  have HB' := hid HB
  unfold resV
  generalize (if fitB (m + n) = true then nu (keep (m + n)) else er 4) = y at *
  generalize keep (m + n) = c1 at *
  generalize fitB (m + n) = c2 at *
  obtain ⟨yk, yn, yt, yb, ye⟩ := y
  obtain ⟨ak, an, at', ab, ae⟩ := a
  obtain ⟨bk, bn, bt, bb, be⟩ := b
  clear HA HB hm hn
  simp only [Cv.v, vv] at *
  go_enter Tryz.func39, Tryz.ntmps39
  go_wp2_with (first
    | (go_at_call_of 71 at'; refine (HA'.out _ J.q).mono ?_; rintro x w1 ⟨rfl, q1⟩; replace J := J.on q1; clear q1; have py0 := J.y.c0; have py1 := J.y.c1; have py2 := J.y.c2; have py3 := J.y.c3; have py4 := J.y.c4)
    | (go_at_call_of 71 bt; refine (HB'.out _ J.q).mono ?_; rintro x w2 ⟨rfl, q1⟩; replace J := J.on q1; clear q1)
    | (go_at_call 82; refine (HO.out _).mono ?_; rintro x w3 ⟨rfl, h3⟩; replace h3 := h3.symm; subst h3)
    | (go_at_call 81; refine (HR.out _).mono ?_; rintro x w4 ⟨rfl, q1⟩; replace J := J.on q1; clear q1; have rz0 := J.z.c0; have rz1 := J.z.c1; have rz2 := J.z.c2; have rz3 := J.z.c3; have rz4 := J.z.c4; have rf0 := J.z.f0; have rf1 := J.z.f1; have rf2 := J.z.f2; have rf3 := J.z.f3; have rf4 := J.z.f4))
  exact bodyPost_ret (v := .agg #[.int .i64 yk, .int .i64 yn, .string yt, .bool yb, .int .i64 ye]) (by simp [results, Tryz.results39, go_sem, rz0, rz1, rz2, rz3, rz4]) rfl ⟨rfl, Q5 J.q (by omega)⟩
set_option maxHeartbeats 4000000 in
theorem calc_sub (a b : Cv) (m n : Int) (w : World) (HA : ∀ W, Q w W → Calls Tryz.prog 71 #[a.v] W fun x W' => x = .returned (.tuple #[.int .i64 m, .int .i64 0]) ∧ Q W W') (HB : ∀ W, Q w W → Calls Tryz.prog 71 #[b.v] W fun x W' => x = .returned (.tuple #[.int .i64 n, .int .i64 0]) ∧ Q W W') (hm : Fx m) (hn : Fx n) :
    Calls Tryz.prog 39 #[.string ⟨#[45]⟩, a.v, b.v] w fun r w' => r = .returned (resV (m - n)).v ∧ Q w w' := by
  have J := bb3_new w a b
  have HO := hid (fun W => sub_any m n W hm hn)
  have HR := hid (fun W => result_any (keep (m - n)) (fitB (m - n)) W)
  have HA' := hid HA
  have HB' := hid HB
  unfold resV
  generalize (if fitB (m - n) = true then nu (keep (m - n)) else er 4) = y at *
  generalize keep (m - n) = c1 at *
  generalize fitB (m - n) = c2 at *
  obtain ⟨yk, yn, yt, yb, ye⟩ := y
  obtain ⟨ak, an, at', ab, ae⟩ := a
  obtain ⟨bk, bn, bt, bb, be⟩ := b
  clear HA HB hm hn
  simp only [Cv.v, vv] at *
  go_enter Tryz.func39, Tryz.ntmps39
  go_wp2_with (first
    | (go_at_call_of 71 at'; refine (HA'.out _ J.q).mono ?_; rintro x w1 ⟨rfl, q1⟩; replace J := J.on q1; clear q1; have py0 := J.y.c0; have py1 := J.y.c1; have py2 := J.y.c2; have py3 := J.y.c3; have py4 := J.y.c4)
    | (go_at_call_of 71 bt; refine (HB'.out _ J.q).mono ?_; rintro x w2 ⟨rfl, q1⟩; replace J := J.on q1; clear q1)
    | (go_at_call 83; refine (HO.out _).mono ?_; rintro x w3 ⟨rfl, h3⟩; replace h3 := h3.symm; subst h3)
    | (go_at_call 81; refine (HR.out _).mono ?_; rintro x w4 ⟨rfl, q1⟩; replace J := J.on q1; clear q1; have rz0 := J.z.c0; have rz1 := J.z.c1; have rz2 := J.z.c2; have rz3 := J.z.c3; have rz4 := J.z.c4; have rf0 := J.z.f0; have rf1 := J.z.f1; have rf2 := J.z.f2; have rf3 := J.z.f3; have rf4 := J.z.f4))
  exact bodyPost_ret (v := .agg #[.int .i64 yk, .int .i64 yn, .string yt, .bool yb, .int .i64 ye]) (by simp [results, Tryz.results39, go_sem, rz0, rz1, rz2, rz3, rz4]) rfl ⟨rfl, Q5 J.q (by omega)⟩
set_option maxHeartbeats 4000000 in
theorem calc_div0 (op : ByteArray) (a b : Cv) (m n ea eb : Int) (w : World) (HA : ∀ W, Q w W → Calls Tryz.prog 71 #[a.v] W fun x W' => x = .returned (.tuple #[.int .i64 m, .int .i64 0]) ∧ Q W W') (HB : ∀ W, Q w W → Calls Tryz.prog 71 #[b.v] W fun x W' => x = .returned (.tuple #[.int .i64 n, .int .i64 0]) ∧ Q W W') (h : n = 0) :
    Calls Tryz.prog 39 #[.string ⟨#[47]⟩, a.v, b.v] w fun r w' => r = .returned (er 3).v ∧ Q w w' := by
  have J := bb3_new w a b
  have HR := hid (fun W => failure_any 3 W)
  have HA' := hid HA
  have HB' := hid HB
  subst h
  obtain ⟨ak, an, at', ab, ae⟩ := a
  obtain ⟨bk, bn, bt, bb, be⟩ := b
  clear HA HB
  simp only [Cv.v, vv, er] at *
  go_enter Tryz.func39, Tryz.ntmps39
  go_wp2_with (first
    | (go_at_call_of 71 at'; refine (HA'.out _ J.q).mono ?_; rintro x w1 ⟨rfl, q1⟩; replace J := J.on q1; clear q1; have py0 := J.y.c0; have py1 := J.y.c1; have py2 := J.y.c2; have py3 := J.y.c3; have py4 := J.y.c4)
    | (go_at_call_of 71 bt; refine (HB'.out _ J.q).mono ?_; rintro x w2 ⟨rfl, q1⟩; replace J := J.on q1; clear q1)
    | (go_at_call 30; refine (HR.out _).mono ?_; rintro x w4 ⟨rfl, q1⟩; replace J := J.on q1; clear q1; have rz0 := J.z.c0; have rz1 := J.z.c1; have rz2 := J.z.c2; have rz3 := J.z.c3; have rz4 := J.z.c4; have rf0 := J.z.f0; have rf1 := J.z.f1; have rf2 := J.z.f2; have rf3 := J.z.f3; have rf4 := J.z.f4))
  exact bodyPost_ret (v := .agg #[.int .i64 4, .int .i64 0, .string ⟨#[]⟩, .bool false, .int .i64 3]) (by simp [results, Tryz.results39, go_sem, rz0, rz1, rz2, rz3, rz4]) rfl ⟨rfl, Q5 J.q (by omega)⟩
set_option maxHeartbeats 4000000 in
theorem calc_div (a b : Cv) (m n : Int) (w : World) (HA : ∀ W, Q w W → Calls Tryz.prog 71 #[a.v] W fun x W' => x = .returned (.tuple #[.int .i64 m, .int .i64 0]) ∧ Q W W') (HB : ∀ W, Q w W → Calls Tryz.prog 71 #[b.v] W fun x W' => x = .returned (.tuple #[.int .i64 n, .int .i64 0]) ∧ Q W W') (hm : Fx m) (hn : Fx n) (hz : (n == 0) = false) :
    Calls Tryz.prog 39 #[.string ⟨#[47]⟩, a.v, b.v] w fun r w' => r = .returned (resV (divV m n)).v ∧ Q w w' := by
  have J := bb3_new w a b
  have HO := hid (fun W => div_any m n W hm hn hz)
  have HR := hid (fun W => result_any (keep (divV m n)) (fitB (divV m n)) W)
  have HA' := hid HA
  have HB' := hid HB
  unfold resV
  generalize (if fitB (divV m n) = true then nu (keep (divV m n)) else er 4) = y at *
  generalize keep (divV m n) = c1 at *
  generalize fitB (divV m n) = c2 at *
  obtain ⟨yk, yn, yt, yb, ye⟩ := y
  obtain ⟨ak, an, at', ab, ae⟩ := a
  obtain ⟨bk, bn, bt, bb, be⟩ := b
  clear HA HB hm hn
  simp only [Cv.v, vv] at *
  go_enter Tryz.func39, Tryz.ntmps39
  go_wp2_with (first
    | (go_at_call_of 71 at'; refine (HA'.out _ J.q).mono ?_; rintro x w1 ⟨rfl, q1⟩; replace J := J.on q1; clear q1; have py0 := J.y.c0; have py1 := J.y.c1; have py2 := J.y.c2; have py3 := J.y.c3; have py4 := J.y.c4)
    | (go_at_call_of 71 bt; refine (HB'.out _ J.q).mono ?_; rintro x w2 ⟨rfl, q1⟩; replace J := J.on q1; clear q1)
    | (go_at_call 85; refine (HO.out _).mono ?_; rintro x w3 ⟨rfl, q3⟩; replace J := J.on q3; clear q3)
    | (go_at_call 81; refine (HR.out _).mono ?_; rintro x w4 ⟨rfl, q1⟩; replace J := J.on q1; clear q1; have rz0 := J.z.c0; have rz1 := J.z.c1; have rz2 := J.z.c2; have rz3 := J.z.c3; have rz4 := J.z.c4; have rf0 := J.z.f0; have rf1 := J.z.f1; have rf2 := J.z.f2; have rf3 := J.z.f3; have rf4 := J.z.f4))
  exact bodyPost_ret (v := .agg #[.int .i64 yk, .int .i64 yn, .string yt, .bool yb, .int .i64 ye]) (by simp [results, Tryz.results39, go_sem, rz0, rz1, rz2, rz3, rz4]) rfl ⟨rfl, Q5 J.q (by omega)⟩
theorem ctd_sm {a : Cv} (h : a.sm) : (ctd a).sm := by
  unfold ctd
  split
  · exact h
  · show (((⟨#[]⟩ : ByteArray).size : Nat) : Int) ≤ _; decide
theorem worst2_any (x z : Cv) (w : World) (hw : Std2 w) (hx : x.sm) (hz : z.sm) : ∀ W, Q w W → Calls Tryz.prog 38 #[.slice (some ⟨W.heap.size, 0, none⟩) 2 2] (W.alloc (.cells #[.int .i64 x.k, .int .i64 x.n, .string x.t, .bool x.b, .int .i64 x.e, .int .i64 z.k, .int .i64 z.n, .string z.t, .bool z.b, .int .i64 z.e] 37)) fun r W' => r = .returned (.int .i64 (worst [x, z])) ∧ Q W W' := fun W q =>
  (worst_sl [x, z] _ _ (hw.on (q.alloc _)) (sl_lit Cv.len W [x, z] 2 rfl (by omega) 37) (by simp) (fun y hy => by simp at hy; rcases hy with rfl | rfl; exact hx; exact hz)).mono fun r W' h => ⟨h.1, ((Q.refl _).alloc _).trans h.2⟩
theorem B3.setTwo {w W : World} {a b : Cv} (J : Bb3 w a b W) (x z : Cv) : Bb3 w x z (set5 (set5 W w.heap.size (.int .i64 x.k) (.int .i64 x.n) (.string x.t) (.bool x.b) (.int .i64 x.e)) (w.heap.size + 1) (.int .i64 z.k) (.int .i64 z.n) (.string z.t) (.bool z.b) (.int .i64 z.e)) :=
  ⟨(J.q.set5 (Nat.le_refl _)).set5 (by omega), J.x.set5.far5 (by omega), (J.y.far5 (by omega)).set5, (J.z.far5 (by omega)).far5 (by omega)⟩
set_option maxHeartbeats 8000000 in
theorem bin_sub (a b x z y : Cv) (w : World) (hw : Std2 w) (ha : a.sm) (hb : b.sm) (hx : ctd a = x) (hz : ctd b = z) (he : worst [x, z] = 0) (HC : ∀ W, Q w W → Calls Tryz.prog 39 #[.string ⟨#[45]⟩, x.v, z.v] W fun r W' => r = .returned y.v ∧ Q W W') :
    Calls Tryz.prog 18 #[.string ⟨#[45]⟩, a.v, b.v] w fun r w' => r = .returned y.v ∧ Q w w' := by
  have J := bb3_new w a b
  have HU := hid (fun W (q : Q w W) => counted_any a W (hw.on q) ha)
  have HU' := hid (fun W (q : Q w W) => counted_any b W (hw.on q) hb)
  have hxs := ctd_sm ha
  have hzs := ctd_sm hb
  rw [hx] at HU hxs
  rw [hz] at HU' hzs
  have HWo := hid (worst2_any x z w hw hxs hzs)
  rw [he] at HWo
  have HC' := hid HC
  clear HC he
  obtain ⟨yk, yn, yt, yb, ye⟩ := y
  clear hw ha hb hx hz hxs hzs
  obtain ⟨ak, an, at', ab, ae⟩ := a
  obtain ⟨bk, bn, bt, bb, be⟩ := b
  have HS := hid (fun W (J : Bb3 w ⟨ak, an, at', ab, ae⟩ ⟨bk, bn, bt, bb, be⟩ W) => J.setTwo x z)
  obtain ⟨xk, xn, xt, xb, xe⟩ := x
  obtain ⟨zk, zn, zt, zb, ze⟩ := z
  simp only [Cv.v, vv] at *
  go_enter Tryz.func18, Tryz.ntmps18
  go_upto_region 1 with fail
  go_cut [] from 8 to 11 (fun W => Bb3 w ⟨xk, xn, xt, xb, xe⟩ ⟨zk, zn, zt, zb, ze⟩ W)
  case first =>
    have ix0 := J.x.c0
    have ix1 := J.x.c1
    have ix2 := J.x.c2
    have ix3 := J.x.c3
    have ix4 := J.x.c4
    have iy0 := J.y.c0
    have iy1 := J.y.c1
    have iy2 := J.y.c2
    have iy3 := J.y.c3
    have iy4 := J.y.c4
    go_region_with (first
      | (go_at_call_of 37 at'; refine (HU.out _ J.drew.q).mono ?_; rintro x w2 ⟨rfl, q2⟩; replace J := (J.drew).on q2; clear q2; have px0 := J.x.c0; have px1 := J.x.c1; have px2 := J.x.c2; have px3 := J.x.c3; have px4 := J.x.c4; have py0 := J.y.c0; have py1 := J.y.c1; have py2 := J.y.c2; have py3 := J.y.c3; have py4 := J.y.c4)
      | (go_at_call_of 37 bt; refine (HU'.out _ J.q).mono ?_; rintro x w3 ⟨rfl, q2⟩; replace J := J.on q2; clear q2; have sx0 := J.x.c0; have sx1 := J.x.c1; have sx2 := J.x.c2; have sx3 := J.x.c3; have sx4 := J.x.c4; have sy0 := J.y.c0; have sy1 := J.y.c1; have sy2 := J.y.c2; have sy3 := J.y.c3; have sy4 := J.y.c4; have sfx0 := J.x.f0; have sfx1 := J.x.f1; have sfx2 := J.x.f2; have sfx3 := J.x.f3; have sfx4 := J.x.f4; have sfy0 := J.y.f0; have sfy1 := J.y.f1; have sfy2 := J.y.f2; have sfy3 := J.y.f3; have sfy4 := J.y.f4))
    all_goals
      go_wp2_with fail
      go_meet
      case rel => exact HS.out _ J
  case rest =>
    have J := hcut
    clear hcut
    have tx0 := J.x.c0
    have tx1 := J.x.c1
    have tx2 := J.x.c2
    have tx3 := J.x.c3
    have tx4 := J.x.c4
    have ty0 := J.y.c0
    have ty1 := J.y.c1
    have ty2 := J.y.c2
    have ty3 := J.y.c3
    have ty4 := J.y.c4
    go_wp2_with (first
      | (go_at_call 38; refine (HWo.out _ J.q).mono ?_; rintro r w4 ⟨rfl, q2⟩; replace J := J.on q2; clear q2; have ux0 := J.x.c0; have ux1 := J.x.c1; have ux2 := J.x.c2; have ux3 := J.x.c3; have ux4 := J.x.c4; have uy0 := J.y.c0; have uy1 := J.y.c1; have uy2 := J.y.c2; have uy3 := J.y.c3; have uy4 := J.y.c4)
      | (go_at_call 39; refine (HC'.out _ J.q).mono ?_; rintro r w5 ⟨rfl, q2⟩; replace J := J.on q2; clear q2; have rz0 := J.z.c0; have rz1 := J.z.c1; have rz2 := J.z.c2; have rz3 := J.z.c3; have rz4 := J.z.c4; have rfz0 := J.z.f0; have rfz1 := J.z.f1; have rfz2 := J.z.f2; have rfz3 := J.z.f3; have rfz4 := J.z.f4))
    exact bodyPost_ret (v := .agg #[.int .i64 yk, .int .i64 yn, .string yt, .bool yb, .int .i64 ye]) (by simp [results, Tryz.results18, go_sem, rz0, rz1, rz2, rz3, rz4]) rfl ⟨rfl, Q5 J.q (by omega)⟩
set_option maxHeartbeats 8000000 in
theorem bin_div (a b x z y : Cv) (w : World) (hw : Std2 w) (ha : a.sm) (hb : b.sm) (hx : ctd a = x) (hz : ctd b = z) (he : worst [x, z] = 0) (HC : ∀ W, Q w W → Calls Tryz.prog 39 #[.string ⟨#[47]⟩, x.v, z.v] W fun r W' => r = .returned y.v ∧ Q W W') :
    Calls Tryz.prog 18 #[.string ⟨#[47]⟩, a.v, b.v] w fun r w' => r = .returned y.v ∧ Q w w' := by
  have J := bb3_new w a b
  have HU := hid (fun W (q : Q w W) => counted_any a W (hw.on q) ha)
  have HU' := hid (fun W (q : Q w W) => counted_any b W (hw.on q) hb)
  have hxs := ctd_sm ha
  have hzs := ctd_sm hb
  rw [hx] at HU hxs
  rw [hz] at HU' hzs
  have HWo := hid (worst2_any x z w hw hxs hzs)
  rw [he] at HWo
  have HC' := hid HC
  clear HC he
  obtain ⟨yk, yn, yt, yb, ye⟩ := y
  clear hw ha hb hx hz hxs hzs
  obtain ⟨ak, an, at', ab, ae⟩ := a
  obtain ⟨bk, bn, bt, bb, be⟩ := b
  have HS := hid (fun W (J : Bb3 w ⟨ak, an, at', ab, ae⟩ ⟨bk, bn, bt, bb, be⟩ W) => J.setTwo x z)
  obtain ⟨xk, xn, xt, xb, xe⟩ := x
  obtain ⟨zk, zn, zt, zb, ze⟩ := z
  simp only [Cv.v, vv] at *
  go_enter Tryz.func18, Tryz.ntmps18
  go_upto_region 1 with fail
  go_cut [] from 8 to 11 (fun W => Bb3 w ⟨xk, xn, xt, xb, xe⟩ ⟨zk, zn, zt, zb, ze⟩ W)
  case first =>
    have ix0 := J.x.c0
    have ix1 := J.x.c1
    have ix2 := J.x.c2
    have ix3 := J.x.c3
    have ix4 := J.x.c4
    have iy0 := J.y.c0
    have iy1 := J.y.c1
    have iy2 := J.y.c2
    have iy3 := J.y.c3
    have iy4 := J.y.c4
    go_region_with (first
      | (go_at_call_of 37 at'; refine (HU.out _ J.drew.q).mono ?_; rintro x w2 ⟨rfl, q2⟩; replace J := (J.drew).on q2; clear q2; have px0 := J.x.c0; have px1 := J.x.c1; have px2 := J.x.c2; have px3 := J.x.c3; have px4 := J.x.c4; have py0 := J.y.c0; have py1 := J.y.c1; have py2 := J.y.c2; have py3 := J.y.c3; have py4 := J.y.c4)
      | (go_at_call_of 37 bt; refine (HU'.out _ J.q).mono ?_; rintro x w3 ⟨rfl, q2⟩; replace J := J.on q2; clear q2; have sx0 := J.x.c0; have sx1 := J.x.c1; have sx2 := J.x.c2; have sx3 := J.x.c3; have sx4 := J.x.c4; have sy0 := J.y.c0; have sy1 := J.y.c1; have sy2 := J.y.c2; have sy3 := J.y.c3; have sy4 := J.y.c4; have sfx0 := J.x.f0; have sfx1 := J.x.f1; have sfx2 := J.x.f2; have sfx3 := J.x.f3; have sfx4 := J.x.f4; have sfy0 := J.y.f0; have sfy1 := J.y.f1; have sfy2 := J.y.f2; have sfy3 := J.y.f3; have sfy4 := J.y.f4))
    all_goals
      go_wp2_with fail
      go_meet
      case rel => exact HS.out _ J
  case rest =>
    have J := hcut
    clear hcut
    have tx0 := J.x.c0
    have tx1 := J.x.c1
    have tx2 := J.x.c2
    have tx3 := J.x.c3
    have tx4 := J.x.c4
    have ty0 := J.y.c0
    have ty1 := J.y.c1
    have ty2 := J.y.c2
    have ty3 := J.y.c3
    have ty4 := J.y.c4
    go_wp2_with (first
      | (go_at_call 38; refine (HWo.out _ J.q).mono ?_; rintro r w4 ⟨rfl, q2⟩; replace J := J.on q2; clear q2; have ux0 := J.x.c0; have ux1 := J.x.c1; have ux2 := J.x.c2; have ux3 := J.x.c3; have ux4 := J.x.c4; have uy0 := J.y.c0; have uy1 := J.y.c1; have uy2 := J.y.c2; have uy3 := J.y.c3; have uy4 := J.y.c4)
      | (go_at_call 39; refine (HC'.out _ J.q).mono ?_; rintro r w5 ⟨rfl, q2⟩; replace J := J.on q2; clear q2; have rz0 := J.z.c0; have rz1 := J.z.c1; have rz2 := J.z.c2; have rz3 := J.z.c3; have rz4 := J.z.c4; have rfz0 := J.z.f0; have rfz1 := J.z.f1; have rfz2 := J.z.f2; have rfz3 := J.z.f3; have rfz4 := J.z.f4))
    exact bodyPost_ret (v := .agg #[.int .i64 yk, .int .i64 yn, .string yt, .bool yb, .int .i64 ye]) (by simp [results, Tryz.results18, go_sem, rz0, rz1, rz2, rz3, rz4]) rfl ⟨rfl, Q5 J.q (by omega)⟩
end Go.Proofs.YtfjpdopmojfchaaGreatDoor
