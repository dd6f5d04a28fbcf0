/- A loop over slices.Backward, each round's mark in a block of its own. -/
import Derived.Test.YtbknbffmpnomlaaDk
namespace Go.Proofs.Ytbknbffmpnomlaa
open Go.RowKit Go.Shelf
set_option linter.unusedVariables false
set_option linter.unusedSimpArgs false
attribute [local go_sem] Oper.semAt_some

/-- how a round may be left: it goes on, or breaks -/
def bkPost (B : Nat) (I : Nat → World → Prop) (Ix : World → Prop) (i : Nat) (W : World) : Exit → Act → World → Prop
  | .normal, _, W' => KeepsFrom B W W' ∧ I i W'
  | .exit id, _, W' => id = 0 ∧ KeepsFrom B W W' ∧ Ix W'
  | _, _, _ => False
theorem below_put {B : Nat} {W : World} {l : Nat} (o : Obj) (hl : B ≤ l) (hlt : l < W.heap.size) : Below B W (W.putObj l o) :=
  (Below.refl B W).grown (grownBy_putObj' W l o) (by omega) (fun k e => by cases e; exact hl)
theorem wp_back {gop : Operand} {ps : Array Tmp} {assign body : Code} {K : Exit → Act → World → Prop} {a : Act} {w : World} (n : Nat) (hn : 2 ≤ n) (hps : ps.size = 2) (Bn : Nat)
    (hg : a.eval gop = .func (.func 31) #[] #[.pointer (some ⟨Bn, 0, none⟩)]) (g cap : Nat) (ao : Option Addr) (ms : List Mk) (hao : 0 < ms.length → ao = some ⟨g, 0, none⟩) (hlen : ms.length ≤ 100000) (I : Nat → World → Prop) (Ix : World → Prop)
    (hI : ∀ i W W', Below w.heap.size W W' → I i W → I i W') (hIx : ∀ W W', Below w.heap.size W W' → Ix W → Ix W')
    (hc : ∀ i W, I i W → W.cell? ⟨Bn, 0, none⟩ = some (.slice ao ms.length cap) ∧ ∀ i (h : i < ms.length), Ats em W g (i * 4) ms[i])
    (a₁ : Nat → Nat → Act)
    (hassign : ∀ (l i : Nat) (h : i < ms.length) (W : World) (K' : Act → World → Prop), K' (a₁ W.heap.size i) (W.alloc (.cells (em ms[i]).toArray 60)) →
      assign.wpIn (Fence.wide.inRound l) (n - 1 - 1) Try.prog (Exit.then K' (fun _ _ _ => False)) { tmps := (ps.zip #[.int .i64 (i : Nat), .agg (em ms[i]).toArray]).foldl (fun t (p, v) => t.setIfInBounds p v) a.tmps, defers := [] } W)
    (hbody : ∀ (l i : Nat) (h : i < ms.length) (q : Nat) (W : World), w.heap.size ≤ q → Bk W 60 q (em ms[i]).toArray → I (i + 1) W → body.wpIn (Fence.wide.inRound l) (n - 1 - 1) Try.prog (bkPost w.heap.size I Ix i W) (a₁ q i) W)
    (h0 : I ms.length w)
    (hdone : ∀ (D : Nat) (W : World), w.heap.size ≤ D → I 0 W → W.heap[D]? = some (.deferred (some [])) → K .normal { a with defers := { target := .collected D, args := #[] } :: a.defers } W)
    (hstop : ∀ (D : Nat) (W : World), w.heap.size ≤ D → Ix W → W.heap[D]? = some (.deferred (some [])) → (Code.exit 0).wpIn Fence.wide n Try.prog K { a with defers := { target := .collected D, args := #[] } :: a.defers } W) :
    (Code.rangeFunc gop ps assign body).wpIn Fence.wide n Try.prog K a w := by
  refine wpIn_rangeFunc ?_
  intro fn hfn
  obtain ⟨rec, hrec⟩ : ∃ rec : LoopState → Option Code → Loop, rec = fun st pe => { state := st, pending := pe, fn, tmps := a.tmps, params := ps, assign, body, defers := w.heap.size } := ⟨_, rfl⟩
  obtain ⟨W1, hW1⟩ : ∃ W1, (w.alloc (.deferred (some []))).alloc (.loop (rec .ready none)) = W1 := ⟨_, rfl⟩
  have hB1 : Below w.heap.size w W1 := by rw [← hW1]; exact ((Below.refl _ w).alloc (Nat.le_refl _) _).alloc (by simp) _
  have hL1 : W1.heap[w.heap.size + 1]? = some (.loop (rec .ready none)) := by
    rw [← hW1]
    have := heap_alloc_new (w.alloc (.deferred (some []))) (.loop (rec .ready none))
    simpa using this
  have hD1 : W1.heap[w.heap.size]? = some (.deferred (some [])) := by
    rw [← hW1]
    exact (Below.heap_alloc (w.alloc _) _ w.heap.size (by simp)).trans (heap_alloc_new w _)
  refine ⟨w.heap.size + 1, [{ target := .collected w.heap.size, args := #[] }], W1, { target := .fn (.func 31) #[.pointer (some ⟨Bn, 0, none⟩)], args := #[.func (.yield (w.heap.size + 1)) #[] #[]] }, W1, 31,
    #[.func (.yield (w.heap.size + 1)) #[] #[], .pointer (some ⟨Bn, 0, none⟩)], W1, ?_, ?_, fun _ _ => trivial, ?_, fun _ => by omega, ?_⟩
  · rw [← hW1, hrec]
    exact run_enterLoop_outer _ _ _ _ _
  · simp only [resolve, hg]
    simp [go_sem]
  · simp [invoke, go_sem, enters_of Try.func31 (by kernel_rfl) rfl]
  · refine (back_in Fence.wide (n - 1) trivial rfl (by omega) (w.heap.size + 1) Bn g cap ao ms hao hlen
      (fun i W => I i W ∧ W.heap[w.heap.size + 1]? = some (.loop (rec .ready none)) ∧ W.heap[w.heap.size]? = some (.deferred (some [])))
      (fun W => Ix W ∧ W.heap[w.heap.size + 1]? = some (.loop (rec .done (some (.exit 0)))) ∧ W.heap[w.heap.size]? = some (.deferred (some [])))
      (fun i W h => hc i W h.1) ?_ W1 ⟨hI _ _ _ hB1 h0, hL1, hD1⟩).mono ?_
    · rintro i hi W ⟨hiW, hl, hd⟩
      have hy := run_yield (P := Try.prog) (args := #[.int .i64 (i : Nat), .agg (em ms[i]).toArray]) hl (by rw [hrec]; exact hps.symm)
      rw [hrec] at hy
      refine ⟨fn, _, assign, body, hy, roundIn_of_wpIn hfn (hassign _ i hi W _ ?_)⟩
      have hBa : Below w.heap.size W (W.alloc (.cells (em ms[i]).toArray 60)) := (Below.refl _ W).alloc (by have := (Array.getElem?_eq_some_iff.1 hl).1; omega) _
      have hlt : w.heap.size + 1 < W.heap.size := (Array.getElem?_eq_some_iff.1 hl).1
      have hla : (W.alloc (.cells (em ms[i]).toArray 60)).heap[w.heap.size + 1]? = some (.loop (rec .ready none)) := (Below.heap_alloc W _ _ hlt).trans hl
      have hda : (W.alloc (.cells (em ms[i]).toArray 60)).heap[w.heap.size]? = some (.deferred (some [])) := (Below.heap_alloc W _ _ (by omega)).trans hd
      have hba : Bk (W.alloc (.cells (em ms[i]).toArray 60)) 60 W.heap.size (em ms[i]).toArray := bk_new _ _ _
      have hia := hI _ _ _ hBa hiW
      have hlta : w.heap.size + 1 < (W.alloc (.cells (em ms[i]).toArray 60)).heap.size := (Array.getElem?_eq_some_iff.1 hla).1
      generalize hWa : W.alloc (.cells (em ms[i]).toArray 60) = Wa at hla hda hba hia hlta hBa
      refine ⟨_, run_beginRound hla (by rw [hrec]), ?_⟩
      have hl2 : (Wa.putObj (w.heap.size + 1) (.loop { rec .ready none with state := .busy })).heap[w.heap.size + 1]? = some (.loop { rec .ready none with state := .busy }) := World.putObj_heap_same hlta
      have hd2 : (Wa.putObj (w.heap.size + 1) (.loop { rec .ready none with state := .busy })).heap[w.heap.size]? = some (.deferred (some [])) := (World.putObj_heap_other (by omega)).trans hda
      have hb2 : Bk (Wa.putObj (w.heap.size + 1) (.loop { rec .ready none with state := .busy })) 60 W.heap.size (em ms[i]).toArray := hba.same (World.putObj_heap_other (by omega))
      have hi2 := hI _ _ _ (below_put (.loop { rec .ready none with state := .busy }) (by omega) hlta) hia
      refine wpIn_mono (hbody _ i hi W.heap.size _ (by omega) hb2 hi2) ?_
      have fin : ∀ (jump : Option Code) (W3 : World), KeepsFrom w.heap.size (Wa.putObj (w.heap.size + 1) (.loop { rec .ready none with state := .busy })) W3 →
          (Instr.endRound (w.heap.size + 1) jump).run Try.prog W3 = .ok (.bool jump.isNone) (W3.putObj (w.heap.size + 1) (.loop (rec (if jump.isNone then .ready else .done) jump))) ∧
          Below w.heap.size W3 (W3.putObj (w.heap.size + 1) (.loop (rec (if jump.isNone then .ready else .done) jump))) ∧
          (W3.putObj (w.heap.size + 1) (.loop (rec (if jump.isNone then .ready else .done) jump))).heap[w.heap.size + 1]? = some (.loop (rec (if jump.isNone then .ready else .done) jump)) ∧
          (W3.putObj (w.heap.size + 1) (.loop (rec (if jump.isNone then .ready else .done) jump))).heap[w.heap.size]? = some (.deferred (some [])) := fun jump W3 hk3 => by
        have hl3 := hk3.same _ _ (by omega) hl2 rfl
        have hd3 := hk3.same _ _ (Nat.le_refl _) hd2 rfl
        have hr := run_endRound (P := Try.prog) jump hl3
        rw [hrec] at hr ⊢
        have hlt3 := (Array.getElem?_eq_some_iff.1 hl3).1
        exact ⟨hr, below_put _ (by omega) hlt3, World.putObj_heap_same hlt3, (World.putObj_heap_other (by omega)).trans hd3⟩
      rintro e a3 W3 hp
      cases e with
      | normal =>
        obtain ⟨hk3, hi3⟩ := hp
        obtain ⟨hr, hb3, hl4, hd4⟩ := fin none W3 hk3
        exact ⟨_, _, hr, .inl ⟨rfl, hI _ _ _ hb3 hi3, hl4, hd4⟩⟩
      | exit id =>
        obtain ⟨rfl, hk3, hi3⟩ := hp
        obtain ⟨hr, hb3, hl4, hd4⟩ := fin (some (.exit 0)) W3 hk3
        exact ⟨_, _, hr, .inr ⟨rfl, hIx _ _ hb3 hi3, hl4, hd4⟩⟩
      | _ => exact hp.elim
    · rintro e W2 ⟨⟨v, rfl⟩, (⟨hi, hl, hd⟩ | ⟨hi, hl, hd⟩)⟩
      · exact ⟨none, _, by have := run_endLoop (P := Try.prog) hl (by rw [hrec]; simp); rw [hrec] at this; exact this, hdone _ _ (Nat.le_refl _) (hI _ _ _ (below_put _ (by omega) (Array.getElem?_eq_some_iff.1 hl).1) hi) ((World.putObj_heap_other (by omega)).trans hd)⟩
      · exact ⟨some (.exit 0), _, by have := run_endLoop (P := Try.prog) hl (by rw [hrec]; simp); rw [hrec] at this; exact this, hstop _ _ (Nat.le_refl _) (hIx _ _ (below_put _ (by omega) (Array.getElem?_eq_some_iff.1 hl).1) hi) ((World.putObj_heap_other (by omega)).trans hd)⟩
end Go.Proofs.Ytbknbffmpnomlaa
