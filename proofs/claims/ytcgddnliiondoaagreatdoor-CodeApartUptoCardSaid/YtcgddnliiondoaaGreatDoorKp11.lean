/- Rectangles from the left: slices.SortFunc, slices.SortedFunc. -/
import Derived.Test.YtcgddnliiondoaaGreatDoorKp05
import Derived.Test.YtcgddnliiondoaaGreatDoorKp07
set_option linter.unusedVariables false
set_option linter.unusedSimpArgs false
set_option maxRecDepth 100000
set_option maxHeartbeats 8000000
namespace Go.Proofs.YtcgddnliiondoaaGreatDoor.R
open Go.RowKit Go.Shelf Go.Lib Go.Sort
def cmpI (x y : Int) : Int := if x < y then -1 else if y < x then 1 else 0
set_option maxHeartbeats 400000 in
theorem isNaN_any (x : Int) (w : World) : Calls Tryz.prog 152 #[.int .i64 x] w fun e w' => e = .returned (.bool false) ∧ w' = w := by
  go_enter Tryz.func152, Tryz.ntmps152
  go_wp2
  go_ret
  exact ⟨ret_bool (by simp), rfl⟩
set_option maxHeartbeats 400000 in
theorem compare_any (x y : Int) (w : World) : Calls Tryz.prog 139 #[.int .i64 x, .int .i64 y] w fun e w' => e = .returned (.int .i64 (cmpI x y)) ∧ w' = w := by
  by_cases h : x < y
  · have H : Hid (-1 = cmpI x y) := by show _ = _; simp [cmpI, h]
    go_enter Tryz.func139, Tryz.ntmps139
    go_wp2_with (go_at_call 152; refine (isNaN_any _ _).mono ?_; rintro e w1 ⟨rfl, rfl⟩)
    go_ret
    exact ⟨ret_int H.out, rfl⟩
  · by_cases h2 : y < x
    · have H : Hid (1 = cmpI x y) := by show _ = _; simp [cmpI, h, h2]
      go_enter Tryz.func139, Tryz.ntmps139
      go_wp2_with (go_at_call 152; refine (isNaN_any _ _).mono ?_; rintro e w1 ⟨rfl, rfl⟩)
      go_ret
      exact ⟨ret_int H.out, rfl⟩
    · have H : Hid (0 = cmpI x y) := by show _ = _; simp [cmpI, h, h2]
      go_enter Tryz.func139, Tryz.ntmps139
      go_wp2_with (go_at_call 152; refine (isNaN_any _ _).mono ?_; rintro e w1 ⟨rfl, rfl⟩)
      go_ret
      exact ⟨ret_int H.out, rfl⟩
def cfR (x y : Rg.Rc) : Int := cmpI x.b y.b
set_option maxHeartbeats 1000000 in
theorem closure_any (x y : Rg.Rc) (W : World) : Calls Tryz.prog 138 #[.agg (rc x).toArray, .agg (rc y).toArray] W fun e w' => e = .returned (.int .i64 (cfR x y)) ∧ ∃ q os', w' = grow (W.drewN q) os' := by
  obtain ⟨xa, xb, xc, xd⟩ := x
  obtain ⟨ya, yb, yc, yd⟩ := y
  have HC := hid (fun W' => compare_any xb yb W')
  have HR : Hid (cmpI xb yb = cfR ⟨xa, xb, xc, xd⟩ ⟨ya, yb, yc, yd⟩) := rfl
  generalize cmpI xb yb = r at *
  simp only [rc]
  go_enter Tryz.func138, Tryz.ntmps138
  go_wp2_with (go_at_call 139; refine (HC.out _).mono ?_; rintro e w' ⟨rfl, rfl⟩)
  go_ret
  exact ⟨ret_int HR.out, 0, _, by rw [alloc_eq_grow, alloc_eq_grow, grow_grow]; rfl⟩
theorem lt_cf (x y : Rg.Rc) : ltOf cfR x y = decide (x.b < y.b) := by
  unfold ltOf cfR cmpI
  by_cases h1 : x.b < y.b
  · simp [h1]
  · by_cases h2 : y.b < x.b <;> simp [h1, h2]
theorem swo_cf : SWO (ltOf cfR) := {
  irrefl := fun x => by rw [lt_cf]; simp
  trans := fun x y z h1 h2 => by rw [lt_cf] at *; simp at *; omega
  ntrans := fun x y z h1 h2 => by rw [lt_cf] at *; simp at *; omega }
def Srt (L : List Rg.Rc) : Prop := L.Pairwise fun x y => x.b ≤ y.b
theorem srt_lft : ∀ {L : List Rg.Rc}, Srt L → Rg.Ok L → ∃ lo, Rg.Lft lo L
  | [], _, _ => ⟨0, trivial⟩
  | x :: L, h, ho => by
    refine ⟨x.b, ?_⟩
    have : ∀ {L : List Rg.Rc} {x : Rg.Rc}, Srt (x :: L) → Rg.Ok (x :: L) → Rg.Lft x.b (x :: L) := by
      intro L
      induction L with
      | nil => intro x _ ho; exact ⟨Int.le_refl _, (ho x (List.mem_cons_self ..)).2, trivial⟩
      | cons y L ih =>
        intro x h ho
        have h1 : x.b ≤ y.b := (List.pairwise_cons.1 h).1 y (List.mem_cons_self ..)
        have h2 := ih (x := y) (List.pairwise_cons.1 h).2 (fun z hz => ho z (List.mem_cons_of_mem _ hz))
        exact ⟨Int.le_refl _, (ho x (List.mem_cons_self ..)).2, Rg.lft_mono h2 h1⟩
    exact this h ho
theorem sortF_any (L : List Rg.Rc) (B g cap : Nat) (w : World) (h : Own rc 101 4 B w (.slice (some ⟨g, 0, none⟩) L.length cap) L) (hl : L.length ≤ 1000000) :
    Calls Tryz.prog 150 #[.slice (some ⟨g, 0, none⟩) L.length cap, .func (.func 138) #[] #[]] w fun e w' => e = .returned (.tuple #[]) ∧ ∃ L', L'.Perm L ∧ Srt L' ∧ Own rc 101 4 B w' (.slice (some ⟨g, 0, none⟩) L.length cap) L' ∧ w.grownBy w' (some g) := by
  have inh : Inhabited Rg.Rc := ⟨⟨0, 0, 0, 0⟩⟩
  have eg : ∀ args w, (callFunc 138 args).run Tryz.prog w = .ok (.enter 138 args) w := enters_of Tryz.func138 (by kernel_rfl) rfl
  have hlt : g < w.heap.size := h.lt g rfl
  have hcon := AnyQ.slices_SortFunc Tryz.laySortF 4 Tryz.isAgg101 Tryz.sizeOf101 rc rc_len rc_one cfR swo_cf 138 #[] g 0 cap L.toArray w eg (fun _ _ _ _ x y => closure_any x y _) (holds_rc inh h) hlt (by simp; omega)
  change Calls Tryz.prog 150 _ _ _ at hcon
  refine hcon.mono ?_
  rintro e w' ⟨rfl, d', n, os, hp, hs, rfl⟩
  have hsz : d'.size = L.length := by have := hp.1; simpa using this
  have hperm : d'.toList.Perm L := by
    have h3 := hp.2.2
    rw [Array.extract_size] at h3
    rw [show L.toArray.size = d'.size from hp.1.symm, Array.extract_size] at h3
    simpa using h3
  have hsrt : Srt d'.toList := by
    unfold Srt
    rw [List.pairwise_iff_getElem]
    intro i j hi hj hij
    have h4 := hs i j (Nat.zero_le _) hij (by rw [List.size_toArray, ← hsz]; simpa using hj)
    rw [lt_cf] at h4
    simp only [decide_eq_false_iff_not, Int.not_lt] at h4
    rw [Array.getElem_toList, Array.getElem_toList]
    rw [getElem!_pos d' i (by simpa using hi), getElem!_pos d' j (by simpa using hj)] at h4
    exact h4
  refine ⟨rfl, d'.toList, hperm, hsrt, ?_, grownBy_put _⟩
  have e : (flatK rc 4 d').toList.map id = flat rc d'.toList := by rw [List.map_id, flatK_list inh]
  have := own_put (n := n) (os := os) (L' := d'.toList) id (flatK rc 4 d').toList h e (by simpa using hsz) rc_len
  rw [Array.toArray_toList] at this
  exact this
theorem sortF_none (p : Option Addr) (cap : Nat) (fv : Value) (w : World) : Calls Tryz.prog 150 #[.slice p 0 cap, fv] w fun e w' => e = .returned (.tuple #[]) ∧ w' = w := AnyF.slices_SortFunc_none Tryz.laySortF p cap fv w
set_option maxHeartbeats 1000000 in
theorem sortedFunc_any (Bs : Nat) (sv : Value) (L : List Rg.Rc) (hL : L.length ≤ 1000000) (w : World) (hBs : Bs < w.heap.size) (hc : w.cell? ⟨Bs, 0, none⟩ = some sv) (hI : Sl rc 4 w sv L) :
    Calls Tryz.prog 136 #[.func (.func 151) #[] #[.pointer (some ⟨Bs, 0, none⟩)], .func (.func 138) #[] #[]] w fun e w' => ∃ v L', e = .returned v ∧ Own rc 101 4 w.heap.size w' v L' ∧ L'.Perm L ∧ Srt L' ∧ Q w w' := by
  have H := hid (collect_any Bs sv L hL w hBs hc hI)
  clear hc hI
  rcases Nat.eq_zero_or_pos L.length with h0 | h0
  · have hn : L = [] := List.eq_nil_of_length_eq_zero h0
    subst hn
    go_enter Tryz.func136, Tryz.ntmps136
    go_wp2_with (first
      | (go_at_call 149; refine H.out.mono ?_; rintro e w1 ⟨v', rfl, own, q1⟩; have HO := hid own; have HQ := hid q1; clear own q1; obtain ⟨ao, cap, rfl, _, _⟩ := (HO.out.sl rc_len (by decide)).len; simp only [List.length_nil] at HO)
      | (go_at_call 150; refine (sortF_none _ _ _ _).mono ?_; rintro e w2 ⟨rfl, rfl⟩))
    go_ret
    exact ⟨_, [], rfl, HO.out, .refl _, List.Pairwise.nil, HQ.out⟩
  · go_enter Tryz.func136, Tryz.ntmps136
    go_wp2_with (first
      | (go_at_call 149; refine H.out.mono ?_; rintro e w1 ⟨v', rfl, own, q1⟩; have HO := hid own; have HQ := hid q1; clear own q1; obtain ⟨g, cap, rfl, hg, _, _, _⟩ := HO.out.shape h0; have HS := hid (sortF_any L _ g cap w1 HO.out hL))
      | (go_at_call 150; refine HS.out.mono ?_; rintro e w2 ⟨rfl, L', hp, hs, own2, hgr⟩; have HO2 := hid own2; have HQ2 : Hid (Q w w2) := Below.grown HQ.out hgr HQ.out.size (fun k e => by cases e; exact hg); have HP := hid hp; have HS2 := hid hs; clear own2 hgr hp hs))
    go_ret
    exact ⟨_, L', rfl, HO2.out, HP.out, HS2.out, HQ2.out⟩
set_option maxHeartbeats 1000000 in
theorem fromLeft_any (v : Value) (L : List Rg.Rc) (w : World) (h : Sl rc 4 w v L) (hL : L.length ≤ 1000000) : Calls Tryz.prog 126 #[v] w fun e w' => ∃ v' L', e = .returned v' ∧ Own rc 101 4 w.heap.size w' v' L' ∧ L'.Perm L ∧ Srt L' ∧ Q w w' := by
  have HS := hid h
  obtain ⟨ao, cap, rfl, _, _⟩ := h.len
  clear h
  have HQ0 : Hid (Q w (w.alloc (.cells #[.slice ao L.length cap] 52))) := (Q.refl _).alloc _
  have HF := hid (sortedFunc_any w.heap.size (.slice ao L.length cap) L hL (w.alloc (.cells #[.slice ao L.length cap] 52)) (by simp) (by simp) (HS.out.on HQ0.out))
  go_enter Tryz.func126, Tryz.ntmps126
  go_wp2_with (first
    | (go_at_call 137; refine (values_any _ _ _ _).mono ?_; rintro e w1 ⟨rfl, rfl⟩)
    | (go_at_call 136; refine HF.out.mono ?_; rintro e w1 ⟨v', L', rfl, own, hp, hs, q1⟩; have HO := hid (own.mono (B' := w.heap.size) (by simp)); have HQ := hid (HQ0.out.trans q1); have HP := hid hp; have HS2 := hid hs; clear own q1 hp hs))
  go_ret
  exact ⟨_, L', rfl, HO.out, HP.out, HS2.out, HQ.out⟩
end Go.Proofs.YtcgddnliiondoaaGreatDoor.R
