/- BuiltinWorst: the walk. -/
import Derived.Test.YtfjpdopmojfchaaGreatDoorKr45
import Derived.Deep.CutBlock
set_option linter.unusedVariables false
set_option linter.unusedSimpArgs false
namespace Go.Proofs.YtfjpdopmojfchaaGreatDoor
open Go.RowKit
set_option maxRecDepth 100000 in
set_option maxHeartbeats 16000000 in
theorem wor_big (k : Int) (hk0 : ¬ k < 0) (X0 : List Cv) (n : Nat) (hn : (X0.length ≤ 12 ∧ n = X0.length) ∨ (12 < X0.length ∧ n = 12)) (X : List Cv) (hX : (X0.take n).map Cv.cut = X) (hk : (X.length : Int) < k) (hpos : 0 < X.length) (v : Value) (w : World) (hw : Std2 w) (h : Sl Cv.cells 5 w v X0) (hfx : ∀ x ∈ X, Fx x.n) : Calls Tryz.prog 5 #[v, .int .i64 k] w fun r w' => r = .returned (.bool true) ∧ Q w w' := by
  have HCA := hid (fun W (q : Q w W) => cutAll_any 12 n X0 v W (h.on q) (by omega) hn)
  rw [hX] at HCA
  have hXl : X.length ≤ 12 := by rw [← hX]; simp; omega
  have HXs : Hid (∀ x ∈ X, x.sm) := by
    intro x hx
    rw [← hX] at hx
    obtain ⟨y, _, rfl⟩ := List.mem_map.1 hx
    exact cut_sm' y
  obtain ⟨ao0, cap0, rfl, _, _⟩ := h.len
  obtain ⟨lx, hlx⟩ : ∃ lx, X.length = lx := ⟨_, rfl⟩
  have HLX := hid hlx
  rw [hlx] at hXl hk hpos
  have HBg := hid (fun W (q : Q w W) => bbegun_any W (hw.on q))
  have HW := hid hw
  have HFx := hid hfx
  clear hX h hw hn hlx hfx
  generalize X0.length = len0 at *
  have HR := hid (fun W (s : Value) (h : Sl Cv.cells 5 W s X) => rworst_sl X s W h (by have := HLX.out; omega) HXs.out)
  obtain ⟨e, he⟩ : ∃ e, worst X = e := ⟨_, rfl⟩
  have hlo := (worst_lo X).1
  rw [he] at HR hlo
  have HE := hid he
  clear he
  go_enter Tryz.func5, Tryz.ntmps5
  go_wp2_with (first
    | (go_at_call 9; refine (HBg.out _ (Q.refl w)).mono ?_; rintro e w1 ⟨rfl, q1⟩; have Q1 := hid q1; clear q1)
    | (go_at_call 11; refine (HCA.out _ Q1.out).mono ?_; rintro e w2 ⟨s0, rfl, own0, q2⟩; have Q2 := hid (Q1.out.trans q2); have S0 := hid (own0.sl Cv.len (by omega)); clear q2; obtain ⟨g0, cap1, hs0, _, _, hcap1, hcap2⟩ := Own.shape own0 (by have := HLX.out; omega); clear own0; rw [HLX.out] at hs0 hcap1; subst hs0; skip)
    | (go_at_call 22; refine (HR.out _ _ S0.out).mono ?_; rintro e w3 ⟨rfl, q3⟩; have Q3 := hid (Q2.out.trans q3); have S3 := hid (S0.out.on q3); clear q3))
  have N1 : Hid (∀ j, j < 5 → (w3.alloc (.cells #[.string ⟨#[83, 85, 77]⟩, .string ⟨#[77, 73, 78]⟩, .string ⟨#[77, 65, 88]⟩, .string ⟨#[67, 79, 85, 78, 84]⟩, .string ⟨#[65, 86, 69, 82, 65, 71, 69]⟩] 9)).cell? ⟨w3.heap.size, j, none⟩ = some (.string (agT j))) := hid (fun j hj => by
    rw [World.cell?_alloc_at _ _ _ _ rfl]
    rcases (by omega : j = 0 ∨ j = 1 ∨ j = 2 ∨ j = 3 ∨ j = 4) with rfl | rfl | rfl | rfl | rfl <;> rfl)
  have HC1 := hid (fun (j : Nat) (hj : j < 5) (V : World) (q : Q w3 V) (a : Addr) (n cap : Nat) (A : List Ag) (hA : Args V (.slice (some a) n cap) A) (hn : n ≤ 2) (hl : A.length ≤ 2) (hf : A.flatMap (·.l) = X) (hs : ∀ a ∈ A, a.l.length ≤ 1000 ∧ ∀ x ∈ a.l, x.sm) => (by
    have h := aggcall j hj A (some a) n cap V (HW.out.on (Q3.out.trans q)) hA (by omega) (by omega) hs (by rw [hf]; have := HLX.out; omega) (by rw [hf]; exact HFx.out)
    rw [hf] at h
    exact h : Calls Tryz.prog 13 #[.string (agT j), .slice (some a) n cap] V fun r w' => r = .returned (aggY j X).v ∧ Q V w'))
  have hcz : ¬ cap1 = 0 := by omega
  have h1 : Hid (Sl Cv.cells 5 w3 (.slice (some ⟨g0, 0, none⟩) 0 cap1) (X.take 0)) := hid (sl_take0 S3.out (Nat.zero_le _))
  have h2 : Hid (Sl Cv.cells 5 w3 (.slice (some ⟨g0, 0, none⟩) lx cap1) (X.drop 0)) := S3
  clear HBg HR
  go_loopw [4, 8] (fun r i W => ∃ j : Nat, j ≤ 5 ∧ i = .int .i64 j ∧ r = .bool false ∧ Q (w3.alloc (.cells #[.string ⟨#[83, 85, 77]⟩, .string ⟨#[77, 73, 78]⟩, .string ⟨#[77, 65, 88]⟩, .string ⟨#[67, 79, 85, 78, 84]⟩, .string ⟨#[65, 86, 69, 82, 65, 71, 69]⟩] 9)) W) (fun _ i _ => 5 - (intOf i).toNat)
  case atStart => exact ⟨0, by omega, rfl, rfl, Q.refl _⟩
  case round =>
    obtain ⟨j, hj, rfl, rfl, hq⟩ := hrel
    have HQ := hid hq
    by_cases hlt : j < 5
    · have hjl : (j : Int) < 5 := by omega
      have hnm := (HQ.out.cell (by simp)).trans (N1.out j hlt)
      have hnl := HQ.out.lt (b := w3.heap.size) (by simp)
      have hnn : w3.heap.size ≠ wr.heap.size := by omega
      have HC2 := hid (fun (V : World) (q : Q wr V) => HC1.out j hlt V (((Q.refl _).alloc _).trans (HQ.out.trans q)))
      obtain ⟨y, hy⟩ : ∃ y, aggY j X = y := ⟨_, rfl⟩
      rw [hy] at HC2
      have HY : Hid (e ≠ 0 → y = er e) := hid (fun h => by rw [← hy]; exact aggY_err HE.out h)
      have HNM := hid (fun W (q : Q wr W) => (q.cell hnl).trans hnm)
      generalize agT j = nm at hnm HC2 HNM
      have HEq := hid (fun W => eqv_same y W)
      obtain ⟨yk, yn, yt, yb, ye⟩ := y
      simp only [Cv.v, vv] at HC2 HEq
      have hA1 : Hid (∀ W, Q wr W → Args (W.alloc (.cells #[.bool true, .slice (some ⟨g0, 0, none⟩) lx cap1] 32)) (.slice (some ⟨W.heap.size, 0, none⟩) 1 1) [⟨true, .slice (some ⟨g0, 0, none⟩) lx cap1, X⟩]) := hid (fun W q => ⟨sl_lit Ag.len W [⟨true, .slice (some ⟨g0, 0, none⟩) lx cap1, X⟩] 1 rfl (by omega) 32, fun a ha => by
        simp only [List.mem_cons, List.not_mem_nil, or_false] at ha
        subst ha
        exact S3.out.on ((((Q.refl _).alloc _).trans (HQ.out.trans q)).alloc _)⟩)
      have hA2 : Hid (∀ W, Q wr W → Args (W.alloc (.cells #[.bool true, .slice (some ⟨g0, 0, none⟩) 0 cap1, .bool true, .slice (some ⟨g0, 0, none⟩) lx cap1] 32)) (.slice (some ⟨W.heap.size, 0, none⟩) 2 2) [⟨true, .slice (some ⟨g0, 0, none⟩) 0 cap1, X.take 0⟩, ⟨true, .slice (some ⟨g0, 0, none⟩) lx cap1, X.drop 0⟩]) := hid (fun W q => ⟨sl_lit Ag.len W [⟨true, .slice (some ⟨g0, 0, none⟩) 0 cap1, X.take 0⟩, ⟨true, .slice (some ⟨g0, 0, none⟩) lx cap1, X.drop 0⟩] 2 rfl (by omega) 32, fun a ha => by
        simp only [List.mem_cons, List.not_mem_nil, or_false] at ha
        rcases ha with rfl | rfl
        · exact h1.out.on ((((Q.refl _).alloc _).trans (HQ.out.trans q)).alloc _)
        · exact h2.out.on ((((Q.refl _).alloc _).trans (HQ.out.trans q)).alloc _)⟩)
      have hA3 : Hid (∀ W o, Q wr W → Args ((W.alloc o).alloc (.cells #[.bool true, .slice (some ⟨g0, 0, none⟩) 0 cap1, .bool true, .slice (some ⟨g0, 0, none⟩) lx cap1] 32)) (.slice (some ⟨W.heap.size + 1, 0, none⟩) 2 2) [⟨true, .slice (some ⟨g0, 0, none⟩) 0 cap1, X.take 0⟩, ⟨true, .slice (some ⟨g0, 0, none⟩) lx cap1, X.drop 0⟩]) := hid (fun W o q => by
        have h := hA2.out (W.alloc o) (q.alloc _)
        rw [World.size_alloc] at h
        exact h)
      clear hq hy
      go_upto_region 13 with (go_at_call 13; refine (HC2.out _ ((Q.refl _).alloc _) ⟨wr.heap.size, 0, none⟩ 1 1 _ (hA1.out _ (Q.refl _)) (by omega) (by simp) (by simp) (fun a ha => by simp only [List.mem_cons, List.not_mem_nil, or_false] at ha; subst ha; exact ⟨by have := HLX.out; simp only; omega, HXs.out⟩)).mono ?_; rintro r v1 ⟨rfl, q1⟩; have qv1 := hid (((Q.refl _).alloc _).trans q1); clear q1)
      obtain ⟨V0, hV0⟩ : ∃ V0, V0 = v1.alloc (.cells #[.int .i64 yk, .int .i64 yn, .string yt, .bool yb, .int .i64 ye] 37) := ⟨_, rfl⟩
      have B0 : Hid (Bx V0 v1.heap.size (.int .i64 yk) (.int .i64 yn) (.string yt) (.bool yb) (.int .i64 ye)) := hid (by rw [hV0]; exact bx_new _ _ _ _ _ _)
      have qV : Hid (Q wr V0) := hid (by rw [hV0]; exact qv1.out.alloc _)
      rw [← hV0]
      clear hV0
      have hnm0 := HNM.out _ qV.out
      have hsz : w3.heap.size < V0.heap.size := qV.out.lt hnl
      have hsz' : w3.heap.size ≠ V0.heap.size := by omega
      go_cut [10] from 39 to 52 (fun p W => ∃ g, p = .pointer (some ⟨g, 0, none⟩) ∧ Q wr W ∧ Bx W v1.heap.size (.int .i64 yk) (.int .i64 yn) (.string yt) (.bool yb) (.int .i64 ye) ∧ Bx W g (.int .i64 yk) (.int .i64 yn) (.string yt) (.bool yb) (.int .i64 ye))
      case first =>
        go_region_with (go_at_call 13; refine (HC2.out _ (by first | with_reducible exact (qV.out.alloc _).drew | with_reducible exact ((qV.out.alloc _).alloc _).drew) _ 2 2 _ (by first | with_reducible exact (hA2.out _ qV.out).on ((Q.refl _).drew) | with_reducible exact (hA2.out _ qV.out).on (((Q.refl _).alloc _).drew) | with_reducible exact (hA3.out _ _ qV.out).on ((Q.refl _).drew)) (by omega) (by simp) (by simp) (fun a ha => by simp only [List.mem_cons, List.not_mem_nil, or_false] at ha; rcases ha with rfl | rfl; exact ⟨by have := HLX.out; simp only [List.length_take]; omega, fun x hx => HXs.out x (List.mem_of_mem_take hx)⟩; exact ⟨by have := HLX.out; simp only [List.length_drop]; omega, fun x hx => HXs.out x (List.mem_of_mem_drop hx)⟩)).mono ?_; rintro r v9 ⟨rfl, q1⟩; have r1 : Hid (Q V0 v9) := hid (by first | with_reducible exact ((Q.refl _).alloc _).drew.trans q1 | with_reducible exact (((Q.refl _).alloc _).alloc _).drew.trans q1); (first | (have Z9 : Hid (Bx v9 (V0.heap.size + 1) (.int .i64 0) (.int .i64 0) (.string ⟨#[]⟩) (.bool false) (.int .i64 0)) := hid (by have h := bz_on ((Q.refl _).drew.trans q1); rw [World.size_alloc] at h; with_reducible exact h)) | (have Z9 : Hid (Bx v9 V0.heap.size (.int .i64 0) (.int .i64 0) (.string ⟨#[]⟩) (.bool false) (.int .i64 0)) := hid (by with_reducible exact bz_on (((Q.refl _).alloc _).drew.trans q1))) | skip); clear q1; (first | (have d0 := Z9.out.c0; have d1 := Z9.out.c1; have d2 := Z9.out.c2; have d3 := Z9.out.c3; have d4 := Z9.out.c4; have y0 := Z9.out.f0; have y1 := Z9.out.f1; have y2 := Z9.out.f2; have y3 := Z9.out.f3; have y4 := Z9.out.f4) | skip))
        all_goals
          go_wp2_with fail
          go_meet
          case rel => first
            | (have hzz := Z9; have hb := B0.out.big; have hw0 := qV.out.size; exact ⟨_, rfl, Q5 (qV.out.trans r1.out) (by omega), (B0.out.on r1.out).far5 (by omega), Z9.out.set5⟩)
            | exact ⟨_, rfl, (qV.out.trans r1.out).alloc _, (B0.out.on r1.out).on ((Q.refl _).alloc _), bx_new _ _ _ _ _ _⟩
      case rest =>
        obtain ⟨g, rfl, hqW, BA, BB⟩ := hcut
        have HQW := hid hqW
        have a0 := BA.c0
        have a1 := BA.c1
        have a2 := BA.c2
        have a3 := BA.c3
        have a4 := BA.c4
        have b0 := BB.c0
        have b1 := BB.c1
        have b2 := BB.c2
        have b3 := BB.c3
        have b4 := BB.c4
        have HA4 := hid (fun W q => BA.on (W' := W) q)
        clear hqW BA BB
        by_cases hz : e = 0
        · subst hz
          go_wp2_with (go_at_call 12; refine (HEq.out _).mono ?_; rintro r w8 ⟨rfl, q2⟩; have Q8 := hid (HQW.out.trans q2); clear q2)
          go_roundw
          case rel => exact ⟨j + 1, by omega, by go_num, rfl, HQ.out.trans Q8.out⟩
          case measure => simp [intOf]; omega
        · have hy := HY.out hz
          simp only [er, Cv.mk.injEq] at hy
          obtain ⟨rfl, rfl, rfl, rfl, rfl⟩ := hy
          have hpos' : (0 : Int) < ye := by omega
          go_wp2_with (go_at_call 12; refine (HEq.out _).mono ?_; rintro r w8 ⟨rfl, q2⟩; have Q8 := hid (HQW.out.trans q2); obtain ⟨f0, f1, f2, f3, f4, _⟩ := HA4.out _ q2; clear q2)
          go_roundw
          case rel => exact ⟨j + 1, by omega, by go_num, rfl, HQ.out.trans Q8.out⟩
          case measure => simp [intOf]; omega
    · have hj5 : j = 5 := by omega
      subst hj5
      go_wp2
      go_ret
      exact ⟨rfl, Q3.out.trans (((Q.refl _).alloc _).trans HQ.out)⟩
end Go.Proofs.YtfjpdopmojfchaaGreatDoor
