/- Package builtin: aggregates ca. -/
import Derived.Test.YtfjpdopmojfchaaGreatDoorKc26
set_option linter.unusedVariables false
set_option linter.unusedSimpArgs false
set_option maxRecDepth 100000
set_option maxHeartbeats 8000000
namespace Go.Proofs.YtfjpdopmojfchaaGreatDoor
open Go.RowKit
set_option maxHeartbeats 2000000 in
theorem agg70 (p : Nat) (A : List Ag) (v : Value) (y : Cv) (w : World) (hw : Std2 w) (hp : w.cell? ⟨p, 0, none⟩ = some (.func (.func 59) #[] #[])) (h : Args w v A) (hm : A.length ≤ 1000) (hs : ∀ a ∈ A, a.l.length ≤ 1000 ∧ ∀ x ∈ a.l, x.sm) (hz : worst (A.flatMap (·.l)) = 0)
    (HG : ∀ W s, Q w W → Sl encN 1 W s (nums (A.flatMap (·.l))) → Calls Tryz.prog 59 #[s] W fun r W' => r = .returned y.v ∧ Q W W') :
    Calls Tryz.prog 103 #[v, .pointer (some ⟨p, 0, none⟩)] w fun r w' => r = .returned y.v ∧ Q w w' := by
  have HB := hid (bxz w)
  have HW := hid (fun W (g : Q w W) => aworst_any A v W (hw.on g) (h.on g) hm hs)
  have HN := hid (fun W (g : Q w W) => numbers_any A v W (hw.on g) (h.on g) hm hs)
  have HG' := hid HG
  rw [hz] at HW
  have HP := hid (fun W (g : Q w W) => fcell hp g)
  have hpl := World.block_lt_of_cell? w _ hp
  obtain ⟨ao, cap, rfl, _, _⟩ := h.sl.len
  generalize A.length = ln at *
  obtain ⟨yk, yn, yt, yb, ye⟩ := y
  clear hw hp h hm hs hz HG
  simp only [Cv.v, vv] at *
  go_enter Tryz.func103, Tryz.ntmps103
  go_wp2_with (go_at_call 104; refine (HW.out _ ((Q.refl _).alloc _)).mono ?_; rintro x w1 ⟨rfl, q1⟩; have B1 := hid (HB.out.on q1); have Q1 : Hid (Q w w1) := hid (((Q.refl _).alloc _).trans q1); clear q1; have cp := HP.out _ Q1.out; have cpd := HP.out _ (Q1.out.drew))
  go_region_with (first
    | (go_at_call 105; first | (refine (HN.out _ Q1.out).mono ?_; rintro x w2 ⟨s, rfl, S2, q2⟩; have SS := hid S2; have B2 := hid (B1.out.on q2); have Q2 := hid (Q1.out.trans q2); clear S2 q2; have cp2 := HP.out _ Q2.out; have cp2d := HP.out _ (Q2.out.drew)) | (refine (HN.out _ Q1.out.drew).mono ?_; rintro x w2 ⟨s, rfl, S2, q2⟩; have SS := hid S2; have B2 := hid ((B1.out.on ((Q.refl _).drew)).on q2); have Q2 := hid (Q1.out.drew.trans q2); clear S2 q2; have cp2 := HP.out _ Q2.out; have cp2d := HP.out _ (Q2.out.drew)))
    | (go_at_call 59; first | (refine (HG'.out _ _ Q2.out SS.out).mono ?_; rintro x w3 ⟨rfl, q3⟩; have Q3 := hid (Q2.out.trans q3); obtain ⟨d0, d1, d2, d3, d4, y0, y1, y2, y3, y4, _⟩ := B2.out.on q3; clear q3) | (refine (HG'.out _ _ Q2.out.drew (SS.out.on ((Q.refl _).drew))).mono ?_; rintro x w3 ⟨rfl, q3⟩; have Q3 := hid (Q2.out.drew.trans q3); obtain ⟨d0, d1, d2, d3, d4, y0, y1, y2, y3, y4, _⟩ := (B2.out.on ((Q.refl _).drew)).on q3; clear q3)))
  all_goals try go_wp2
  all_goals exact bodyPost_ret (v := .agg #[.int .i64 yk, .int .i64 yn, .string yt, .bool yb, .int .i64 ye]) (by simp [results, Tryz.results103, go_sem, d0, d1, d2, d3, d4]) rfl ⟨rfl, Q5 Q3.out (Nat.le_refl _)⟩
set_option maxHeartbeats 2000000 in
theorem agg71 (p : Nat) (A : List Ag) (v : Value) (y : Cv) (w : World) (hw : Std2 w) (hp : w.cell? ⟨p, 0, none⟩ = some (.func (.func 60) #[] #[])) (h : Args w v A) (hm : A.length ≤ 1000) (hs : ∀ a ∈ A, a.l.length ≤ 1000 ∧ ∀ x ∈ a.l, x.sm) (hz : worst (A.flatMap (·.l)) = 0)
    (HG : ∀ W s, Q w W → Sl encN 1 W s (nums (A.flatMap (·.l))) → Calls Tryz.prog 60 #[s] W fun r W' => r = .returned y.v ∧ Q W W') :
    Calls Tryz.prog 103 #[v, .pointer (some ⟨p, 0, none⟩)] w fun r w' => r = .returned y.v ∧ Q w w' := by
  have HB := hid (bxz w)
  have HW := hid (fun W (g : Q w W) => aworst_any A v W (hw.on g) (h.on g) hm hs)
  have HN := hid (fun W (g : Q w W) => numbers_any A v W (hw.on g) (h.on g) hm hs)
  have HG' := hid HG
  rw [hz] at HW
  have HP := hid (fun W (g : Q w W) => fcell hp g)
  have hpl := World.block_lt_of_cell? w _ hp
  obtain ⟨ao, cap, rfl, _, _⟩ := h.sl.len
  generalize A.length = ln at *
  obtain ⟨yk, yn, yt, yb, ye⟩ := y
  clear hw hp h hm hs hz HG
  simp only [Cv.v, vv] at *
  go_enter Tryz.func103, Tryz.ntmps103
  go_wp2_with (go_at_call 104; refine (HW.out _ ((Q.refl _).alloc _)).mono ?_; rintro x w1 ⟨rfl, q1⟩; have B1 := hid (HB.out.on q1); have Q1 : Hid (Q w w1) := hid (((Q.refl _).alloc _).trans q1); clear q1; have cp := HP.out _ Q1.out; have cpd := HP.out _ (Q1.out.drew))
  go_region_with (first
    | (go_at_call 105; first | (refine (HN.out _ Q1.out).mono ?_; rintro x w2 ⟨s, rfl, S2, q2⟩; have SS := hid S2; have B2 := hid (B1.out.on q2); have Q2 := hid (Q1.out.trans q2); clear S2 q2; have cp2 := HP.out _ Q2.out; have cp2d := HP.out _ (Q2.out.drew)) | (refine (HN.out _ Q1.out.drew).mono ?_; rintro x w2 ⟨s, rfl, S2, q2⟩; have SS := hid S2; have B2 := hid ((B1.out.on ((Q.refl _).drew)).on q2); have Q2 := hid (Q1.out.drew.trans q2); clear S2 q2; have cp2 := HP.out _ Q2.out; have cp2d := HP.out _ (Q2.out.drew)))
    | (go_at_call 60; first | (refine (HG'.out _ _ Q2.out SS.out).mono ?_; rintro x w3 ⟨rfl, q3⟩; have Q3 := hid (Q2.out.trans q3); obtain ⟨d0, d1, d2, d3, d4, y0, y1, y2, y3, y4, _⟩ := B2.out.on q3; clear q3) | (refine (HG'.out _ _ Q2.out.drew (SS.out.on ((Q.refl _).drew))).mono ?_; rintro x w3 ⟨rfl, q3⟩; have Q3 := hid (Q2.out.drew.trans q3); obtain ⟨d0, d1, d2, d3, d4, y0, y1, y2, y3, y4, _⟩ := (B2.out.on ((Q.refl _).drew)).on q3; clear q3)))
  all_goals try go_wp2
  all_goals exact bodyPost_ret (v := .agg #[.int .i64 yk, .int .i64 yn, .string yt, .bool yb, .int .i64 ye]) (by simp [results, Tryz.results103, go_sem, d0, d1, d2, d3, d4]) rfl ⟨rfl, Q5 Q3.out (Nat.le_refl _)⟩
set_option maxHeartbeats 2000000 in
theorem agg72 (p : Nat) (A : List Ag) (v : Value) (y : Cv) (w : World) (hw : Std2 w) (hp : w.cell? ⟨p, 0, none⟩ = some (.func (.func 61) #[] #[])) (h : Args w v A) (hm : A.length ≤ 1000) (hs : ∀ a ∈ A, a.l.length ≤ 1000 ∧ ∀ x ∈ a.l, x.sm) (hz : worst (A.flatMap (·.l)) = 0)
    (HG : ∀ W s, Q w W → Sl encN 1 W s (nums (A.flatMap (·.l))) → Calls Tryz.prog 61 #[s] W fun r W' => r = .returned y.v ∧ Q W W') :
    Calls Tryz.prog 103 #[v, .pointer (some ⟨p, 0, none⟩)] w fun r w' => r = .returned y.v ∧ Q w w' := by
  have HB := hid (bxz w)
  have HW := hid (fun W (g : Q w W) => aworst_any A v W (hw.on g) (h.on g) hm hs)
  have HN := hid (fun W (g : Q w W) => numbers_any A v W (hw.on g) (h.on g) hm hs)
  have HG' := hid HG
  rw [hz] at HW
  have HP := hid (fun W (g : Q w W) => fcell hp g)
  have hpl := World.block_lt_of_cell? w _ hp
  obtain ⟨ao, cap, rfl, _, _⟩ := h.sl.len
  generalize A.length = ln at *
  obtain ⟨yk, yn, yt, yb, ye⟩ := y
  clear hw hp h hm hs hz HG
  simp only [Cv.v, vv] at *
  go_enter Tryz.func103, Tryz.ntmps103
  go_wp2_with (go_at_call 104; refine (HW.out _ ((Q.refl _).alloc _)).mono ?_; rintro x w1 ⟨rfl, q1⟩; have B1 := hid (HB.out.on q1); have Q1 : Hid (Q w w1) := hid (((Q.refl _).alloc _).trans q1); clear q1; have cp := HP.out _ Q1.out; have cpd := HP.out _ (Q1.out.drew))
  go_region_with (first
    | (go_at_call 105; first | (refine (HN.out _ Q1.out).mono ?_; rintro x w2 ⟨s, rfl, S2, q2⟩; have SS := hid S2; have B2 := hid (B1.out.on q2); have Q2 := hid (Q1.out.trans q2); clear S2 q2; have cp2 := HP.out _ Q2.out; have cp2d := HP.out _ (Q2.out.drew)) | (refine (HN.out _ Q1.out.drew).mono ?_; rintro x w2 ⟨s, rfl, S2, q2⟩; have SS := hid S2; have B2 := hid ((B1.out.on ((Q.refl _).drew)).on q2); have Q2 := hid (Q1.out.drew.trans q2); clear S2 q2; have cp2 := HP.out _ Q2.out; have cp2d := HP.out _ (Q2.out.drew)))
    | (go_at_call 61; first | (refine (HG'.out _ _ Q2.out SS.out).mono ?_; rintro x w3 ⟨rfl, q3⟩; have Q3 := hid (Q2.out.trans q3); obtain ⟨d0, d1, d2, d3, d4, y0, y1, y2, y3, y4, _⟩ := B2.out.on q3; clear q3) | (refine (HG'.out _ _ Q2.out.drew (SS.out.on ((Q.refl _).drew))).mono ?_; rintro x w3 ⟨rfl, q3⟩; have Q3 := hid (Q2.out.drew.trans q3); obtain ⟨d0, d1, d2, d3, d4, y0, y1, y2, y3, y4, _⟩ := (B2.out.on ((Q.refl _).drew)).on q3; clear q3)))
  all_goals try go_wp2
  all_goals exact bodyPost_ret (v := .agg #[.int .i64 yk, .int .i64 yn, .string yt, .bool yb, .int .i64 ye]) (by simp [results, Tryz.results103, go_sem, d0, d1, d2, d3, d4]) rfl ⟨rfl, Q5 Q3.out (Nat.le_refl _)⟩
set_option maxHeartbeats 2000000 in
theorem agg73 (p : Nat) (A : List Ag) (v : Value) (y : Cv) (w : World) (hw : Std2 w) (hp : w.cell? ⟨p, 0, none⟩ = some (.func (.func 62) #[] #[])) (h : Args w v A) (hm : A.length ≤ 1000) (hs : ∀ a ∈ A, a.l.length ≤ 1000 ∧ ∀ x ∈ a.l, x.sm) (hz : worst (A.flatMap (·.l)) = 0)
    (HG : ∀ W s, Q w W → Sl encN 1 W s (nums (A.flatMap (·.l))) → Calls Tryz.prog 62 #[s] W fun r W' => r = .returned y.v ∧ Q W W') :
    Calls Tryz.prog 103 #[v, .pointer (some ⟨p, 0, none⟩)] w fun r w' => r = .returned y.v ∧ Q w w' := by
  have HB := hid (bxz w)
  have HW := hid (fun W (g : Q w W) => aworst_any A v W (hw.on g) (h.on g) hm hs)
  have HN := hid (fun W (g : Q w W) => numbers_any A v W (hw.on g) (h.on g) hm hs)
  have HG' := hid HG
  rw [hz] at HW
  have HP := hid (fun W (g : Q w W) => fcell hp g)
  have hpl := World.block_lt_of_cell? w _ hp
  obtain ⟨ao, cap, rfl, _, _⟩ := h.sl.len
  generalize A.length = ln at *
  obtain ⟨yk, yn, yt, yb, ye⟩ := y
  clear hw hp h hm hs hz HG
  simp only [Cv.v, vv] at *
  go_enter Tryz.func103, Tryz.ntmps103
  go_wp2_with (go_at_call 104; refine (HW.out _ ((Q.refl _).alloc _)).mono ?_; rintro x w1 ⟨rfl, q1⟩; have B1 := hid (HB.out.on q1); have Q1 : Hid (Q w w1) := hid (((Q.refl _).alloc _).trans q1); clear q1; have cp := HP.out _ Q1.out; have cpd := HP.out _ (Q1.out.drew))
  go_region_with (first
    | (go_at_call 105; first | (refine (HN.out _ Q1.out).mono ?_; rintro x w2 ⟨s, rfl, S2, q2⟩; have SS := hid S2; have B2 := hid (B1.out.on q2); have Q2 := hid (Q1.out.trans q2); clear S2 q2; have cp2 := HP.out _ Q2.out; have cp2d := HP.out _ (Q2.out.drew)) | (refine (HN.out _ Q1.out.drew).mono ?_; rintro x w2 ⟨s, rfl, S2, q2⟩; have SS := hid S2; have B2 := hid ((B1.out.on ((Q.refl _).drew)).on q2); have Q2 := hid (Q1.out.drew.trans q2); clear S2 q2; have cp2 := HP.out _ Q2.out; have cp2d := HP.out _ (Q2.out.drew)))
    | (go_at_call 62; first | (refine (HG'.out _ _ Q2.out SS.out).mono ?_; rintro x w3 ⟨rfl, q3⟩; have Q3 := hid (Q2.out.trans q3); obtain ⟨d0, d1, d2, d3, d4, y0, y1, y2, y3, y4, _⟩ := B2.out.on q3; clear q3) | (refine (HG'.out _ _ Q2.out.drew (SS.out.on ((Q.refl _).drew))).mono ?_; rintro x w3 ⟨rfl, q3⟩; have Q3 := hid (Q2.out.drew.trans q3); obtain ⟨d0, d1, d2, d3, d4, y0, y1, y2, y3, y4, _⟩ := (B2.out.on ((Q.refl _).drew)).on q3; clear q3)))
  all_goals try go_wp2
  all_goals exact bodyPost_ret (v := .agg #[.int .i64 yk, .int .i64 yn, .string yt, .bool yb, .int .i64 ye]) (by simp [results, Tryz.results103, go_sem, d0, d1, d2, d3, d4]) rfl ⟨rfl, Q5 Q3.out (Nat.le_refl _)⟩
def aggY (i : Nat) (l : List Cv) : Cv := if worst l = 0 then (match i with | 0 => sumV (nums l) | 1 => leV (nums l) | 2 => grV (nums l) | 3 => coV (nums l) | _ => avV (nums l)) else er (worst l)
def agT (i : Nat) : ByteArray := match i with | 0 => ⟨#[83, 85, 77]⟩ | 1 => ⟨#[77, 73, 78]⟩ | 2 => ⟨#[77, 65, 88]⟩ | 3 => ⟨#[67, 79, 85, 78, 84]⟩ | _ => ⟨#[65, 86, 69, 82, 65, 71, 69]⟩
theorem nums_len (l : List Cv) : (nums l).length ≤ l.length := List.length_filterMap_le _ _
theorem nums_fx {l : List Cv} (h : ∀ x ∈ l, Fx x.n) : ∀ z ∈ nums l, Fx z := fun z hz => by
  obtain ⟨x, hx, e⟩ := List.mem_filterMap.1 hz
  unfold nf at e
  split at e
  · cases e; exact h x hx
  · cases e
theorem aggcall (i : Nat) (hi : i < 5) (A : List Ag) (ao : Option Addr) (n cap : Nat) (w : World) (hw : Std2 w) (h : Args w (.slice ao n cap) A) (hn : n ≤ 1000) (hm : A.length ≤ 1000) (hs : ∀ a ∈ A, a.l.length ≤ 1000 ∧ ∀ x ∈ a.l, x.sm) (hl : (A.flatMap (·.l)).length ≤ 1000000) (hf : ∀ x ∈ A.flatMap (·.l), Fx x.n) :
    Calls Tryz.prog 13 #[.string (agT i), .slice ao n cap] w fun r w' => r = .returned (aggY i (A.flatMap (·.l))).v ∧ Q w w' := by
  have hnl : (nums (A.flatMap (·.l))).length ≤ 1000000 := Nat.le_trans (nums_len _) hl
  have hnf := nums_fx hf
  by_cases hz : worst (A.flatMap (·.l)) = 0
  · rcases (by omega : i = 0 ∨ i = 1 ∨ i = 2 ∨ i = 3 ∨ i = 4) with rfl | rfl | rfl | rfl | rfl
    · have e : aggY 0 (A.flatMap (·.l)) = sumV (nums (A.flatMap (·.l))) := by unfold aggY; rw [if_pos hz]; rfl
      rw [e]
      exact call_sum ao n cap _ w (by omega) (by omega) (fun W f p hf q hv => agg69 p A _ _ W (hw.on q) (bag hf hv) (h.on q) hm hs hz (fun W' s g hs' => bsum_any _ s W' hs' hnl hnf))
    · have e : aggY 1 (A.flatMap (·.l)) = leV (nums (A.flatMap (·.l))) := by unfold aggY; rw [if_pos hz]; rfl
      rw [e]
      exact call_min ao n cap _ w (by omega) (by omega) (fun W f p hf q hv => agg70 p A _ _ W (hw.on q) (bag hf hv) (h.on q) hm hs hz (fun W' s g hs' => bmin_any _ s W' hs' hnl))
    · have e : aggY 2 (A.flatMap (·.l)) = grV (nums (A.flatMap (·.l))) := by unfold aggY; rw [if_pos hz]; rfl
      rw [e]
      exact call_max ao n cap _ w (by omega) (by omega) (fun W f p hf q hv => agg71 p A _ _ W (hw.on q) (bag hf hv) (h.on q) hm hs hz (fun W' s g hs' => bmax_any _ s W' hs' hnl))
    · have e : aggY 3 (A.flatMap (·.l)) = coV (nums (A.flatMap (·.l))) := by unfold aggY; rw [if_pos hz]; rfl
      rw [e]
      exact call_count ao n cap _ w (by omega) (by omega) (fun W f p hf q hv => agg72 p A _ _ W (hw.on q) (bag hf hv) (h.on q) hm hs hz (fun W' s g hs' => bcount_any _ s W' hs' hnl))
    · have e : aggY 4 (A.flatMap (·.l)) = avV (nums (A.flatMap (·.l))) := by unfold aggY; rw [if_pos hz]; rfl
      rw [e]
      exact call_average ao n cap _ w (by omega) (by omega) (fun W f p hf q hv => agg73 p A _ _ W (hw.on q) (bag hf hv) (h.on q) hm hs hz (fun W' s g hs' => baverage_any _ s W' (hw.on (q.trans g)) hs' hnl hnf))
  · have e : aggY i (A.flatMap (·.l)) = er (worst (A.flatMap (·.l))) := by unfold aggY; rw [if_neg hz]
    rw [e]
    rcases (by omega : i = 0 ∨ i = 1 ∨ i = 2 ∨ i = 3 ∨ i = 4) with rfl | rfl | rfl | rfl | rfl
    · exact call_sum ao n cap _ w (by omega) (by omega) (fun W f p hf q hv => agg_err p _ A _ W (hw.on q) (bag hf hv) (h.on q) hm hs hz)
    · exact call_min ao n cap _ w (by omega) (by omega) (fun W f p hf q hv => agg_err p _ A _ W (hw.on q) (bag hf hv) (h.on q) hm hs hz)
    · exact call_max ao n cap _ w (by omega) (by omega) (fun W f p hf q hv => agg_err p _ A _ W (hw.on q) (bag hf hv) (h.on q) hm hs hz)
    · exact call_count ao n cap _ w (by omega) (by omega) (fun W f p hf q hv => agg_err p _ A _ W (hw.on q) (bag hf hv) (h.on q) hm hs hz)
    · exact call_average ao n cap _ w (by omega) (by omega) (fun W f p hf q hv => agg_err p _ A _ W (hw.on q) (bag hf hv) (h.on q) hm hs hz)
end Go.Proofs.YtfjpdopmojfchaaGreatDoor
