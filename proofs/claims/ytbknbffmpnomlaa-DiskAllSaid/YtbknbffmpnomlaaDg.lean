/- put; what goes. -/
import Derived.Test.YtbknbffmpnomlaaDf
import Derived.Shelf.SlMaps.Clone
import Derived.Deep.CutBlock
namespace Go.Proofs.Ytbknbffmpnomlaa
open Go.RowKit
set_option linter.unusedVariables false
set_option linter.unusedSimpArgs false
variable {S S' : Nat → Prop} {w w' : World} {p : Nat} {mv : Option Nat} {n : Nat} {f : Fv} {pv : Value} {ms : List Mk} {u s : Nat}

/-- a value that no other file has -/
structure Fr (w : World) (f : Fv) (ms : List Mk) (x : ByteArray) (v : Sv) (L : List UInt8) : Prop where
  own : Own eb 5 1 0 w (sv v) L
  sep : ∀ y v' L' g, y ≠ x → f y = some (v', L') → (sv v).ownBlock = some g → (sv v').ownBlock = some g → False
  pre : ∀ m ∈ ms, ∀ g, (sv v).ownBlock = some g → (sv m.v).ownBlock = some g → m.L.length ≤ L.length
theorem Dk.made (h : Dk S w p none n f pv ms u s) (hl : Lt S w) :
    Dk (New S w ((w.alloc (.map #[] 0)).setCell ⟨p, 0, none⟩ (.map (some w.heap.size)))) ((w.alloc (.map #[] 0)).setCell ⟨p, 0, none⟩ (.map (some w.heap.size))) p (some w.heap.size) n f pv ms u s ∧
      Qp S w ((w.alloc (.map #[] 0)).setCell ⟨p, 0, none⟩ (.map (some w.heap.size))) := by
  have q : Q w (w.alloc (.map #[] 0)) := (Q.refl w).alloc _
  have h0 := h.on hl q
  have hlt := h.lt
  have hne : ∀ i, S i → i ≠ p → ((w.alloc (.map #[] 0)).setCell ⟨p, 0, none⟩ (.map (some w.heap.size))).heap[i]? = w.heap[i]? := fun i hi h1 => by
    rw [heap_set _ _ _ _ _ h1, q.block (hl i hi)]
  have hnb : ∀ {e : TypeId} {k : Nat} {α : Type} {enc : α → List Value} {v : Value} {L : List α}, e ≠ 50 → Own enc e k 0 w v L → ∀ g, v.ownBlock = some g → g ≠ p := fun he ho g hg e => ho.nbk h.blk he (by rw [hg, e])
  refine ⟨⟨(h0.blk.put 0 _), ?_, ?_, ?_, ?_, h.sep, h.pre, .inl h.sp, ?_, fun g e => .inl (h.spv g e), fun x v L g e k => .inl (h.sfl x v L g e k), fun m hm g k => .inl (h.smk m hm g k), fun e => (by cases e)⟩, ((Qp.of q).set 0 _ (.inl h.sp))⟩
  · have hf : ∀ x, (f x).map (·.1) = none := h.map
    have hm : Mp (w.alloc (.map #[] 0)) w.heap.size 0 (fun x => (f x).map (·.1)) := (mp_made w).congr (fun x => (hf x).symm)
    exact (hm.mono (Nat.zero_le n)).same (heap_set _ _ _ _ _ (by omega))
  · exact h.past.same (fun g hg => hne g (h.spv g hg) (hnb (by decide) h.past g hg))
  · intro x v L hx
    exact (h.fil x v L hx).same (fun g hg => hne g (h.sfl x v L g hx hg) (hnb (by decide) (h.fil x v L hx) g hg))
  · intro m hm
    exact ⟨(h.mks m hm).1.same (fun g hg => hne g (h.smk m hm g hg) (hnb (by decide) (h.mks m hm).1 g hg)), (h.mks m hm).2⟩
  · intro b e
    cases e
    exact .inr ⟨Nat.le_refl _, by rw [size_set]; simp⟩
theorem Fr.keep {x : ByteArray} {v : Sv} {L : List UInt8} (h : Fr w f ms x v L) (hs : ∀ g, (sv v).ownBlock = some g → w'.heap[g]? = w.heap[g]?) : Fr w' f ms x v L := ⟨h.own.same hs, h.sep, h.pre⟩
theorem Dk.putted {b : Nat} (h : Dk S w p (some b) n f pv ms u s) (hl : Lt S w) {x : ByteArray} {v : Sv} {L : List UInt8} (hf : Fr w f ms x v L) (hS : ∀ g, (sv v).ownBlock = some g → S g)
    (hm : Mp w' b (n + 1) (upd (fun x => (f x).map (·.1)) x (some v))) (hg : w.grownBy w' (some b)) : Dk S w' p (some b) (n + 1) (upd f x (some (v, L))) pv ms u s ∧ Qp S w w' := by
  have hne : ∀ i, S i → i ≠ b → w'.heap[i]? = w.heap[i]? := fun i hi h1 => hg.block i (hl i hi) (fun e => h1 (Option.some.inj e))
  have hnm : ∀ {e : TypeId} {k : Nat} {α : Type} {enc : α → List Value} {v : Value} {L : List α}, Own enc e k 0 w v L → ∀ g, v.ownBlock = some g → g ≠ b := fun ho g hg e => ho.nmp h.map (by rw [hg, e])
  refine ⟨⟨h.blk.same (hne p h.sp (h.blk.nmp h.map)), ?_, ?_, ?_, ?_, ?_, ?_, h.sp, h.smv, h.spv, ?_, h.smk, fun e => (by cases e)⟩, (Qp.refl S w).grown hg (fun k e => by cases e; exact .inl (h.smv b rfl))⟩
  · show Mp w' b (n + 1) (fun t => (upd f x (some (v, L)) t).map (·.1))
    rw [upd_map]
    exact hm
  · exact h.past.same (fun g hg' => hne g (h.spv g hg') (hnm h.past g hg'))
  · intro y v' L' hy
    by_cases e : y = x
    · subst e
      rw [upd_same] at hy
      cases hy
      exact hf.own.same (fun g hg' => hne g (hS g hg') (hnm hf.own g hg'))
    · rw [upd_other _ _ e] at hy
      exact (h.fil y v' L' hy).same (fun g hg' => hne g (h.sfl y v' L' g hy hg') (hnm (h.fil y v' L' hy) g hg'))
  · intro m hm
    exact ⟨(h.mks m hm).1.same (fun g hg' => hne g (h.smk m hm g hg') (hnm (h.mks m hm).1 g hg')), (h.mks m hm).2⟩
  · intro y z v1 L1 v2 L2 g hyz h1 h2 g1 g2
    by_cases ey : y = x
    · subst ey
      rw [upd_same] at h1
      cases h1
      rw [upd_other _ _ (Ne.symm hyz)] at h2
      exact hf.sep z v2 L2 g (Ne.symm hyz) h2 g1 g2
    · rw [upd_other _ _ ey] at h1
      by_cases ez : z = x
      · subst ez
        rw [upd_same] at h2
        cases h2
        exact hf.sep y v1 L1 g hyz h1 g2 g1
      · rw [upd_other _ _ ez] at h2
        exact h.sep y z v1 L1 v2 L2 g hyz h1 h2 g1 g2
  · intro m hm' y v' L' g hy g1 g2
    by_cases e : y = x
    · subst e
      rw [upd_same] at hy
      cases hy
      exact hf.pre m hm' g g1 g2
    · rw [upd_other _ _ e] at hy
      exact h.pre m hm' y v' L' g hy g1 g2
  · intro y v' L' g hy g1
    by_cases e : y = x
    · subst e
      rw [upd_same] at hy
      cases hy
      exact hS g g1
    · rw [upd_other _ _ e] at hy
      exact h.sfl y v' L' g hy g1
/-- a file goes -/
theorem Dk.gone (h : Dk S w p mv n f pv ms u s) (hl : Lt S w) {x : ByteArray} (hm : Mv w' mv n (upd (fun x => (f x).map (·.1)) x none)) (hg : w.grownBy w' mv) : Dk S w' p mv n (upd f x none) pv ms u s ∧ Qp S w w' := by
  have hne : ∀ i, S i → (∀ b, mv = some b → i ≠ b) → w'.heap[i]? = w.heap[i]? := fun i hi h1 => hg.block i (hl i hi) (fun e => h1 i e.symm rfl)
  have hmp : ∀ b, mv = some b → Mp w b n (fun x => (f x).map (·.1)) := fun b e => by subst e; exact h.map
  have hnm : ∀ {e : TypeId} {k : Nat} {α : Type} {enc : α → List Value} {v : Value} {L : List α}, Own enc e k 0 w v L → ∀ g, v.ownBlock = some g → ∀ b, mv = some b → g ≠ b := fun ho g hg b eb e => ho.nmp (hmp b eb) (by rw [hg, e])
  have hu : ∀ y v L, upd f x none y = some (v, L) → f y = some (v, L) := fun y v L hy => by
    by_cases e : y = x
    · subst e
      rw [upd_same] at hy
      cases hy
    · rwa [upd_other _ _ e] at hy
  refine ⟨⟨h.blk.same (hne p h.sp (fun b e => h.blk.nmp (hmp b e))), ?_, ?_, ?_, ?_, ?_, ?_, h.sp, h.smv, h.spv, ?_, h.smk, h.nom⟩, (Qp.refl S w).grown hg (fun k e => .inl (h.smv k e))⟩
  · rw [upd_map]
    exact hm
  · exact h.past.same (fun g hg' => hne g (h.spv g hg') (hnm h.past g hg'))
  · intro y v' L' hy
    have hy := hu y v' L' hy
    exact (h.fil y v' L' hy).same (fun g hg' => hne g (h.sfl y v' L' g hy hg') (hnm (h.fil y v' L' hy) g hg'))
  · intro m hm
    exact ⟨(h.mks m hm).1.same (fun g hg' => hne g (h.smk m hm g hg') (hnm (h.mks m hm).1 g hg')), (h.mks m hm).2⟩
  · intro y z v1 L1 v2 L2 g hyz h1 h2
    exact h.sep y z v1 L1 v2 L2 g hyz (hu _ _ _ h1) (hu _ _ _ h2)
  · intro m hm y v' L' g hy
    exact h.pre m hm y v' L' g (hu _ _ _ hy)
  · intro y v' L' g hy
    exact h.sfl y v' L' g (hu _ _ _ hy)
theorem New.self {i : Nat} (hl : Lt S w) (hs : w.heap.size ≤ w'.heap.size) (h : New S w w' i) : i < w'.heap.size := hl.new hs i h
set_option maxRecDepth 100000 in
set_option maxHeartbeats 1000000 in
theorem put_any (h : Dk S w p mv n f pv ms u s) (hl : Lt S w) (x : ByteArray) (hx : x.size ≤ maxLen) (a : Option Addr) (k c : Nat) (L : List UInt8) (hf : Fr w f ms x ⟨a, k, c⟩ L) (hS : ∀ g, (sv ⟨a, k, c⟩).ownBlock = some g → S g) (hn : n ≤ 100000) :
    Calls Try.prog 21 #[.pointer (some ⟨p, 0, none⟩), .string x, .slice a k c] w fun e W' => (∃ v, e = .returned v) ∧ ∃ mv', Dk (New S w W') W' p mv' (n + 1) (upd f x (some (⟨a, k, c⟩, L))) pv ms u s ∧ Qp S w W' := by
  have H := hid h
  have HF := hid hf
  have hq := fun w b => run_eql_map_nil_sl (P := Try.prog) w 47 _ _ b Try.underlying47
  have hm := @run_makeMap Try.prog
  cases mv with
  | none =>
    have c0 : w.cell? ⟨p, 0, none⟩ = some (.map none) := h.blk.c 0 _ rfl
    have f0 := h.blk.f 0
    obtain ⟨h1, h2⟩ := h.made hl
    have H1 := hid h1
    have H2 := hid h2
    have HF1 : Hid (Fr ((w.alloc (.map #[] 0)).setCell ⟨p, 0, none⟩ (.map (some w.heap.size))) f ms x ⟨a, k, c⟩ L) := hid (hf.keep (fun g hg => by
      rw [heap_set _ _ _ _ _ (fun e => hf.own.nbk h.blk (by decide) (by rw [hg, e]))]
      exact ((Q.refl w).alloc _).block (hl g (hS g hg))))
    have hl1 := hl.new (w' := (w.alloc (.map #[] 0)).setCell ⟨p, 0, none⟩ (.map (some w.heap.size))) h2.size
    have c1 : ((w.alloc (.map #[] 0)).setCell ⟨p, 0, none⟩ (.map (some w.heap.size))).cell? ⟨p, 0, none⟩ = some (.map (some w.heap.size)) := h1.blk.c 0 _ rfl
    have b0 := h.blk.on ((Q.refl w).alloc (.map #[] 0))
    have c0a : (w.alloc (.map #[] 0)).cell? ⟨p, 0, none⟩ = some (.map none) := b0.c 0 _ rfl
    have f0a := b0.f 0
    clear h h1 h2 hf b0
    generalize hw1 : ((w.alloc (.map #[] 0)).setCell ⟨p, 0, none⟩ (.map (some w.heap.size))) = w1 at H1 H2 HF1 hl1 c1
    go_enter Try.func21, Try.ntmps21
    go_upto_region 2 with fail
    go_wp2_with (at_mapUpdate; refine wpl_put _ rfl _ _ _ rfl w.heap.size n _ rfl H1.out.map (by unfold maxLen; omega) x rfl hx ⟨a, k, c⟩ rfl ?_)
    intro w2 hmp hg hsz
    have HX := hid (H1.out.putted hl1 HF1.out (fun g hg => .inl (hS g hg)) hmp hg)
    clear hmp hg
    go_wp2_with fail
    go_end0
    refine ⟨⟨_, rfl⟩, _, (HX.out.1).more (fun i hi => ?_), H2.out.after HX.out.2 (fun i hi hp => ?_)⟩
    · rcases hi with h | h
      · exact .inl h
      · exact .inr ⟨h.1, by rw [hsz]; exact h.2⟩
    · rcases hp with h | h
      · exact h
      · omega
  | some b =>
    have c0 : w.cell? ⟨p, 0, none⟩ = some (.map (some b)) := h.blk.c 0 _ rfl
    clear h hf
    go_enter Try.func21, Try.ntmps21
    go_wp2_with (at_mapUpdate; refine wpl_put _ rfl _ _ _ rfl b n _ rfl H.out.map (by unfold maxLen; omega) x rfl hx ⟨a, k, c⟩ rfl ?_)
    intro w2 hmp hg hsz
    have HX := hid (H.out.putted hl HF.out hS hmp hg)
    clear hmp hg
    go_wp2_with fail
    go_end0
    exact ⟨⟨_, rfl⟩, _, (HX.out.1).more (fun i hi => .inl hi), HX.out.2⟩
end Go.Proofs.Ytbknbffmpnomlaa
