/- frame.first. -/
import Derived.Test.YtcefpjjefokjjaaDoorFe
import Derived.BigQuiet
import Derived.Deep.RegionWith
namespace Go.Proofs.YtcefpjjefokjjaaDoor
open Go.RowKit
set_option linter.unusedVariables false
set_option linter.unusedSimpArgs false

/-- what 'first' answers -/
def Fst (w : World) (D : List UInt8) (e : Ending) : Prop := match fst1 D with
  | none => e = .returned (.tuple #[.slice none 0 0, .bool false])
  | some b => ∃ v', e = .returned (.tuple #[v', .bool true]) ∧ Sb w v' b
theorem fst_no {w : World} {D : List UInt8} {e : Ending} (h : fst1 D = none) (he : e = .returned (.tuple #[.slice none 0 0, .bool false])) : Fst w D e := by
  unfold Fst
  rw [h]
  exact he
theorem fst_yes {w : World} {D b : List UInt8} {e : Ending} (h : fst1 D = some b) (he : ∃ v', e = .returned (.tuple #[v', .bool true]) ∧ Sb w v' b) : Fst w D e := by
  unfold Fst
  rw [h]
  exact he
theorem heap_at (W : World) (o : Obj) (p : Nat) (h : p = W.heap.size) : (W.alloc o).heap[p]? = some o := by
  subst h
  exact heap_alloc_new W o
theorem two_at {W : World} {p : Nat} {a b : Value} (h : W.heap[p]? = some (.cells #[a, b] 23 (0, 0))) : Sl ev 1 W (.slice (some ⟨p, 0, none⟩) 2 2) [a, b] := by
  refine ⟨some ⟨p, 0, none⟩, 2, rfl, by simp, by unfold maxLen; omega, fun _ => ⟨p, 0, rfl, fun i hi j u hu => ?_⟩⟩
  rw [cell_of_row W p _ _ _ _ h]
  rcases (by simp at hi; omega : i = 0 ∨ i = 1) with rfl | rfl
  · cases j with
    | zero => exact hu
    | succ j => simp [ev] at hu
  · cases j with
    | zero => exact hu
    | succ j => simp [ev] at hu
theorem sum_at (p : Nat) (a b : Value) (A B : List UInt8) (w : World) (ht : Tab w) (ha : Sl eb 1 w a A) (hb : Sl eb 1 w b B) (W : World) (hq : Q w W) (h : W.heap[p]? = some (.cells #[a, b] 23 (0, 0))) :
    Calls Tryd.prog 13 #[.slice (some ⟨p, 0, none⟩) 2 2] W fun e W' => e = .returned (.int .u32 (sm (A ++ B))) ∧ W' = W := by
  have h := sum_any (.slice (some ⟨p, 0, none⟩) 2 2) [a, b] [A, B] W (ht.on hq) (two_at h) rfl (fun i h h' => by
    rcases (by simp at h; omega : i = 0 ∨ i = 1) with rfl | rfl
    · exact ha.on hq
    · exact hb.on hq)
  simpa using h
set_option maxRecDepth 100000 in
set_option maxHeartbeats 4000000 in
theorem first_any (v : Value) (D : List UInt8) (w : World) (ht : Tab w) (hv : Sb w v D) :
    Calls Tryd.prog 16 #[v] w fun e W' => Fst w D e ∧ Q w W' := by
  have HT := hid ht
  have HV := hid hv
  obtain ⟨ao, cap, rfl, h1, h2⟩ := hv.s.len
  by_cases h8 : D.length < 8
  · have HF := hid (fun e => fst_no (w := w) (e := e) (show fst1 D = none by unfold fst1; rw [if_pos h8]))
    have h8' : (D.length : Int) < 8 := by omega
    clear ht hv
    go_enter Tryd.func16, Tryd.ntmps16
    go_wp2_with fail
    go_ret2
    exact ⟨HF.out _ rfl, Q.refl _⟩
  · have h8' : ¬ (D.length : Int) < 8 := by omega
    obtain ⟨a8, c8, hr8, hs8⟩ := sb_from hv 8 (by omega)
    have r8 : ∀ W, (Instr.sliceAt 23 (.slice ao D.length cap) (some (.int .i64 8)) none none).run Tryd.prog W = .ok (.slice a8 (D.length - 8) c8) W := fun W => hr8.out W
    have hn := rd4_lt D
    have HN := hid (fun k => number_any (.slice ao D.length cap) D (w.drewN k) (hv.s.on ((Q.refl w).drewN k)) (by omega))
    obtain ⟨n, hne⟩ : ∃ n, n = rd4 D := ⟨_, rfl⟩
    rw [← hne] at hn HN
    obtain ⟨m, hm⟩ : ∃ m, m = D.length - 8 := ⟨_, rfl⟩
    have HS8 := hid hs8
    rw [← hm] at r8 HS8
    have hmle : m ≤ 9223372036854775807 := by unfold maxLen at h2; omega
    obtain ⟨M, hM⟩ : ∃ M, M = min 4194304 m := ⟨_, rfl⟩
    have hmin : min (4194304 : Int) (m : Int) = (M : Int) := by omega
    clear ht hs8 hr8
    by_cases hbig : M < n
    · have hb : (M : Int) < (n : Int) := by omega
      have HF := hid (fun e => fst_no (w := w) (e := e) (show fst1 D = none by unfold fst1; rw [if_neg h8, ← hne, ← hm, ← hM, if_pos hbig]))
      clear hv hne hm hM hbig
      go_enter Tryd.func16, Tryd.ntmps16
      go_upto_region 3 with fail
      go_quiet ((go_at_call 18; refine Calls.quiet_of (HN.out _)))
      rename_i nq
      have HQ : Hid (Q w (w.drewN nq)) := hid ((Q.refl w).drewN nq)
      generalize w.drewN nq = w1 at HQ ⊢
      go_wp2_with fail
      go_ret2
      exact ⟨HF.out _ rfl, HQ.out⟩
    · have hb : ¬ (M : Int) < (n : Int) := by omega
      have hnm : n ≤ m := by omega
      obtain ⟨a4, c4, hr4, hs4⟩ := sb_from hv 4 (by omega)
      have r4 : ∀ W, (Instr.sliceAt 23 (.slice ao D.length cap) (some (.int .i64 4)) none none).run Tryd.prog W = .ok (.slice a4 (D.length - 4) c4) W := fun W => hr4.out W
      obtain ⟨b4, d4, ht4, hu4⟩ := sb_to hv 4 (by omega)
      have t4 : ∀ W, (Instr.sliceAt 23 (.slice ao D.length cap) none (some (.int .i64 4)) none).run Tryd.prog W = .ok (.slice b4 4 d4) W := fun W => ht4.out W
      obtain ⟨an, cn, hrn, hsn⟩ := sb_to HS8.out n (by rw [List.length_drop]; omega)
      have tn : ∀ W, (Instr.sliceAt 23 (.slice a8 m c8) none (some (.int .i64 n)) none).run Tryd.prog W = .ok (.slice an n cn) W := fun W => by
        have := hrn.out W
        rw [← List.length_drop] at hm
        exact this
      have HN4 := hid (fun W (q : Q w W) => number_any (.slice a4 (D.length - 4) c4) (D.drop 4) W (hs4.s.on q) (by rw [List.length_drop]; omega))
      have HS := hid (fun p => sum_at p (.slice b4 4 d4) (.slice an n cn) (D.take 4) ((D.drop 8).take n) w HT.out hu4.s hsn.s)
      have HB := hid hsn
      obtain ⟨y, hy⟩ : ∃ y, y = rd4 (D.drop 4) := ⟨_, rfl⟩
      obtain ⟨z, hz⟩ : ∃ z, z = sm (D.take 4 ++ (D.drop 8).take n) := ⟨_, rfl⟩
      rw [← hy] at HN4
      rw [← hz] at HS
      have hy4 : y < 4294967296 := by rw [hy]; exact rd4_lt _
      have hz4 : z < 4294967296 := by rw [hz]; exact sm_lt _
      have HF1 : y = z → Hid (∀ e, (∃ v', e = Ending.returned (.tuple #[v', .bool true]) ∧ Sb w v' ((D.drop 8).take n)) → Fst w D e) := fun hyz => hid (fun e => fst_yes (w := w) (e := e) (show fst1 D = some ((D.drop 8).take n) by unfold fst1; rw [if_neg h8, ← hne, ← hm, ← hM, if_neg hbig, ← hy, ← hz, if_pos hyz]))
      have HF2 : y ≠ z → Hid (∀ e, e = Ending.returned (.tuple #[.slice none 0 0, .bool false]) → Fst w D e) := fun hyz => hid (fun e => fst_no (w := w) (e := e) (show fst1 D = none by unfold fst1; rw [if_neg h8, ← hne, ← hm, ← hM, if_neg hbig, ← hy, ← hz, if_neg hyz]))
      generalize D.length - 4 = l4 at r4 HN4
      clear hv hne hm hM hbig hr4 hs4 ht4 hu4 hrn hsn hy hz
      by_cases hyz : y = z
      · have HF := HF1 hyz
        subst hyz
        clear HF1 HF2
        go_enter Tryd.func16, Tryd.ntmps16
        go_upto_region 3 with fail
        go_quiet ((go_at_call 18; refine Calls.quiet_of (HN.out _)))
        rename_i nq
        have HQ : Hid (Q w (w.drewN nq)) := hid ((Q.refl w).drewN nq)
        generalize hw1 : w.drewN nq = w1 at HQ ⊢
        clear hw1
        go_upto_region 7 with fail
        go_region_with (first
          | (go_at_call 18; refine (HN4.out _ (by repeat (first | exact HQ.out | apply Q.drewN | apply Q.drew | apply Q.alloc))).mono ?_; rintro e9 w9 ⟨rfl, k9, rfl⟩)
          | (go_at_call 13; refine (HS.out w1.heap.size _ (by repeat (first | exact HQ.out | apply Q.drewN | apply Q.drew | apply Q.alloc)) (by first | exact heap_at _ _ _ rfl | exact heap_at w1 _ _ rfl)).mono ?_; rintro e9 w9 ⟨rfl, rfl⟩))
        all_goals (go_wp2_with fail; go_ret2; exact ⟨HF.out _ ⟨_, rfl, HB.out⟩, by repeat (first | exact HQ.out | apply Q.drewN | apply Q.drew | apply Q.alloc)⟩)
      · have HF := HF2 hyz
        have hyz' : ¬ (y : Int) = (z : Int) := by omega
        clear HF1 HF2 hyz
        go_enter Tryd.func16, Tryd.ntmps16
        go_upto_region 3 with fail
        go_quiet ((go_at_call 18; refine Calls.quiet_of (HN.out _)))
        rename_i nq
        have HQ : Hid (Q w (w.drewN nq)) := hid ((Q.refl w).drewN nq)
        generalize hw1 : w.drewN nq = w1 at HQ ⊢
        clear hw1
        go_upto_region 7 with fail
        go_region_with (first
          | (go_at_call 18; refine (HN4.out _ (by repeat (first | exact HQ.out | apply Q.drewN | apply Q.drew | apply Q.alloc))).mono ?_; rintro e9 w9 ⟨rfl, k9, rfl⟩)
          | (go_at_call 13; refine (HS.out w1.heap.size _ (by repeat (first | exact HQ.out | apply Q.drewN | apply Q.drew | apply Q.alloc)) (by first | exact heap_at _ _ _ rfl | exact heap_at w1 _ _ rfl)).mono ?_; rintro e9 w9 ⟨rfl, rfl⟩))
        all_goals (go_wp2_with fail; go_ret2; exact ⟨HF.out _ rfl, by repeat (first | exact HQ.out | apply Q.drewN | apply Q.drew | apply Q.alloc)⟩)
end Go.Proofs.YtcefpjjefokjjaaDoor
