/- Package builtin: aggregates. -/
import Derived.Test.YtfjpdopmojfchaaGreatDoorBg
import Derived.Deep.RegionWith
namespace Go.Proofs.YtfjpdopmojfchaaGreatDoor
open Go.RowKit
set_option linter.unusedVariables false
set_option linter.unusedSimpArgs false
set_option maxHeartbeats 1000000 in
theorem sum_sl (l : List Int) (v : Value) (w : World) (h : Sl encN 1 w v l) (hm : l.length ≤ 1000000) (hf : ∀ x ∈ l, Fx x) :
    Calls Tryz.prog 106 #[v] w fun e w' => e = .returned (.tuple #[.int .i64 (keep l.sum), .bool (fitB l.sum)]) ∧ Q w w' := by
  obtain ⟨ao, cap, rfl, h1, h2, h3⟩ := h
  rcases Nat.eq_zero_or_pos l.length with h0 | h0
  · have hl := List.eq_nil_of_length_eq_zero h0
    subst hl
    clear h3
    simp only [List.length_nil]
    go_enter Tryz.func106, Tryz.ntmps106
    go_wp2
    refine wp_loop_rounds 1 ?_
    rw [rounds_succ]
    have HS := hid (fun W => signWord_any 0 W)
    go_wp2_with (go_at_call 137; refine (HS.out _).mono ?_; rintro e w1 ⟨rfl, rfl⟩)
    go_ret2
    exact ⟨rfl, Q.refl _⟩
  · obtain ⟨b, off, rfl, hc⟩ := h3 h0
    have hg : ∀ i (hi : i < l.length), l.getD i 0 = l[i] := fun i hi => by rw [List.getD_eq_getElem?_getD, List.getElem?_eq_getElem hi]; rfl
    refine sum_row b off l.length cap l w rfl (by omega) (fun i hi => ?_) (fun i hi => ?_)
    · rw [hg i hi]; exact hf _ (List.getElem_mem hi)
    · rw [hg i hi]
      have := hc i hi 0 _ rfl
      simpa using this
/-- a sum as a value -/
def sumV (l : List Int) : Cv := if fitB l.sum = true then nu (keep l.sum) else er 4
set_option maxHeartbeats 1000000 in
theorem bsum_any (l : List Int) (v : Value) (w : World) (h : Sl encN 1 w v l) (hm : l.length ≤ 1000000) (hf : ∀ x ∈ l, Fx x) :
    Calls Tryz.prog 58 #[v] w fun r w' => r = .returned (sumV l).v ∧ Q w w' := by
  have HB := hid (bxz w)
  have HS := hid (fun W (q : Q w W) => sum_sl l v W (h.on q) hm hf)
  have HR := hid (fun W => result_any (keep l.sum) (fitB l.sum) W)
  unfold sumV
  obtain ⟨ao, cap, rfl, _, _⟩ := h.len
  generalize (if fitB l.sum = true then nu (keep l.sum) else er 4) = y at *
  obtain ⟨yk, yn, yt, yb, ye⟩ := y
  clear h hf
  generalize keep l.sum = a at *
  generalize fitB l.sum = c at *
  generalize l.length = ln at *
  simp only [Cv.v, vv] at *
  go_enter Tryz.func58, Tryz.ntmps58
  go_wp2_with (first
    | (go_at_call 106; refine (HS.out _ ((Q.refl _).alloc _)).mono ?_; rintro x w1 ⟨rfl, q1⟩; have B1 := HB.out.on q1; have Q1 : Hid (Q w w1) := hid (((Q.refl _).alloc _).trans q1); clear q1)
    | (go_at_call 81; refine (HR.out _).mono ?_; rintro x w2 ⟨rfl, q1⟩; have B2 := B1.on q1; have Q2 : Hid (Q w w2) := hid (Q1.out.trans q1); clear q1; obtain ⟨d0, d1, d2, d3, d4, y0, y1, y2, y3, y4, _⟩ := B2))
  exact bodyPost_ret (v := .agg #[.int .i64 yk, .int .i64 yn, .string yt, .bool yb, .int .i64 ye]) (by simp [results, Tryz.results58, go_sem, d0, d1, d2, d3, d4]) rfl ⟨rfl, Q5 Q2.out (Nat.le_refl _)⟩
set_option maxHeartbeats 1000000 in
/-- an aggregate of values of which one is an error -/
theorem agg_err (p : Nat) (f : Value) (A : List Ag) (v : Value) (w : World) (hw : Std2 w) (hc : w.cell? ⟨p, 0, none⟩ = some f) (h : Args w v A) (hm : A.length ≤ 1000) (hs : ∀ a ∈ A, a.l.length ≤ 1000 ∧ ∀ x ∈ a.l, x.sm) (hne : worst (A.flatMap (·.l)) ≠ 0) :
    Calls Tryz.prog 103 #[v, .pointer (some ⟨p, 0, none⟩)] w fun r w' => r = .returned (er (worst (A.flatMap (·.l)))).v ∧ Q w w' := by
  have HB := hid (bxz w)
  have HW := hid (fun W (g : Q w W) => aworst_any A v W (hw.on g) (h.on g) hm hs)
  obtain ⟨e, he⟩ : ∃ e, worst (A.flatMap (·.l)) = e := ⟨_, rfl⟩
  rw [he] at HW hne ⊢
  have hne' : (e != 0) = true := bne_iff_ne.2 hne
  have HF := hid (fun W => failure_any e W)
  obtain ⟨ao, cap, rfl, _, _⟩ := h.sl.len
  generalize A.length = ln at *
  clear hw hc h hm hs he
  simp only [Cv.v, vv, er] at *
  go_enter Tryz.func103, Tryz.ntmps103
  go_wp2_with (first
    | (go_at_call 104; refine (HW.out _ ((Q.refl _).alloc _)).mono ?_; rintro x w1 ⟨rfl, q1⟩; have B1 := HB.out.on q1; have Q1 : Hid (Q w w1) := hid (((Q.refl _).alloc _).trans q1); clear q1)
    | (go_at_call 30; refine (HF.out _).mono ?_; rintro x w2 ⟨rfl, q1⟩; have B2 := B1.on q1; have Q2 : Hid (Q w w2) := hid (Q1.out.trans q1); clear q1; obtain ⟨d0, d1, d2, d3, d4, y0, y1, y2, y3, y4, _⟩ := B2))
  exact bodyPost_ret (v := .agg #[.int .i64 4, .int .i64 0, .string ⟨#[]⟩, .bool false, .int .i64 e]) (by simp [results, Tryz.results103, go_sem, d0, d1, d2, d3, d4]) rfl ⟨rfl, Q5 Q2.out (Nat.le_refl _)⟩
set_option maxHeartbeats 2000000 in
theorem agg69 (p : Nat) (A : List Ag) (v : Value) (y : Cv) (w : World) (hw : Std2 w) (hp : w.cell? ⟨p, 0, none⟩ = some (.func (.func 58) #[] #[])) (h : Args w v A) (hm : A.length ≤ 1000) (hs : ∀ a ∈ A, a.l.length ≤ 1000 ∧ ∀ x ∈ a.l, x.sm) (hz : worst (A.flatMap (·.l)) = 0)
    (HG : ∀ W s, Q w W → Sl encN 1 W s (nums (A.flatMap (·.l))) → Calls Tryz.prog 58 #[s] W fun r W' => r = .returned y.v ∧ Q W W') :
    Calls Tryz.prog 103 #[v, .pointer (some ⟨p, 0, none⟩)] w fun r w' => r = .returned y.v ∧ Q w w' := by
  have HB := hid (bxz w)
  have HW := hid (fun W (g : Q w W) => aworst_any A v W (hw.on g) (h.on g) hm hs)
  have HN := hid (fun W (g : Q w W) => numbers_any A v W (hw.on g) (h.on g) hm hs)
  have HG' := hid HG
  rw [hz] at HW
  have HP := hid (fun W (g : Q w W) => fcell hp g)
  have hpl := World.block_lt_of_cell? w _ hp
  obtain ⟨ao, cap, rfl, _, _⟩ := h.sl.len
  generalize A.length = ln at *
  obtain ⟨yk, yn, yt, yb, ye⟩ := y
  clear hw hp h hm hs hz HG
  simp only [Cv.v, vv] at *
  go_enter Tryz.func103, Tryz.ntmps103
  go_wp2_with (go_at_call 104; refine (HW.out _ ((Q.refl _).alloc _)).mono ?_; rintro x w1 ⟨rfl, q1⟩; have B1 := hid (HB.out.on q1); have Q1 : Hid (Q w w1) := hid (((Q.refl _).alloc _).trans q1); clear q1; have cp := HP.out _ Q1.out; have cpd := HP.out _ (Q1.out.drew))
  go_region_with (first
    | (go_at_call 105; first | (refine (HN.out _ Q1.out).mono ?_; rintro x w2 ⟨s, rfl, S2, q2⟩; have SS := hid S2; have B2 := hid (B1.out.on q2); have Q2 := hid (Q1.out.trans q2); clear S2 q2; have cp2 := HP.out _ Q2.out; have cp2d := HP.out _ (Q2.out.drew)) | (refine (HN.out _ Q1.out.drew).mono ?_; rintro x w2 ⟨s, rfl, S2, q2⟩; have SS := hid S2; have B2 := hid ((B1.out.on ((Q.refl _).drew)).on q2); have Q2 := hid (Q1.out.drew.trans q2); clear S2 q2; have cp2 := HP.out _ Q2.out; have cp2d := HP.out _ (Q2.out.drew)))
    | (go_at_call 58; first | (refine (HG'.out _ _ Q2.out SS.out).mono ?_; rintro x w3 ⟨rfl, q3⟩; have Q3 := hid (Q2.out.trans q3); obtain ⟨d0, d1, d2, d3, d4, y0, y1, y2, y3, y4, _⟩ := B2.out.on q3; clear q3) | (refine (HG'.out _ _ Q2.out.drew (SS.out.on ((Q.refl _).drew))).mono ?_; rintro x w3 ⟨rfl, q3⟩; have Q3 := hid (Q2.out.drew.trans q3); obtain ⟨d0, d1, d2, d3, d4, y0, y1, y2, y3, y4, _⟩ := (B2.out.on ((Q.refl _).drew)).on q3; clear q3)))
  all_goals try go_wp2
  all_goals exact bodyPost_ret (v := .agg #[.int .i64 yk, .int .i64 yn, .string yt, .bool yb, .int .i64 ye]) (by simp [results, Tryz.results103, go_sem, d0, d1, d2, d3, d4]) rfl ⟨rfl, Q5 Q3.out (Nat.le_refl _)⟩
end Go.Proofs.YtfjpdopmojfchaaGreatDoor
