/- rewrite's scale: step, at a node with kids. -/
import Derived.Test.YthebfhdpofhmpaaGreatDoorKc17
set_option linter.unusedVariables false
set_option linter.unusedSimpArgs false
set_option maxRecDepth 100000
set_option maxHeartbeats 8000000
namespace Go.Proofs.YthebfhdpofhmpaaGreatDoor
open Go.RowKit
set_option maxHeartbeats 2000000 in
theorem step_beginn (B s mb : Nat) (v : Value) (es : List (Pk × S3)) (L : List Od) (k : Pk) (rb ro rn rc : Nat) (t : Int) (W : World) (h : ScA W B s mb (.func (.func 88) #[] #[]) v es (L ++ [(k, .slice (some ⟨rb, ro, none⟩) (rn + 1) rc, t)])) (hB : rb < B) (hr1 : rn + 1 ≤ rc) (hr3 : rc ≠ 1) (hr2 : rc ≤ maxLen) (hl : L.length < 100000)
    (tx : ByteArray) (ar : Option Addr) (n5 c5 : Nat) (kb ko kn kc : Nat) (d2 : W.cell? ⟨rb, ro + 2, none⟩ = some (.string tx)) (d5 : W.cell? ⟨rb, ro + 5, none⟩ = some (.slice ar n5 c5)) (d6 : W.cell? ⟨rb, ro + 6, none⟩ = some (.slice (some ⟨kb, ko, none⟩) kn kc)) (hkn : 0 < kn) (hkm : kn ≤ 1000) (hkp : Pl W kb) (hkB : kb < B) (hget : getS es (kb, ko, kn) = none) (hn5 : n5 ≤ 100000000) (htx : tx.size ≤ 3000000000) (ht : 0 ≤ t) (hw : t + (96 + (tx.size : Int) + 40 * (n5 : Int)) ≤ 2147483648) :
    Calls Tryz.prog 105 #[.pointer (some ⟨s, 0, none⟩)] W fun e W' => (∃ u, e = .returned u) ∧ Qp (fun i => B ≤ i) W W' ∧ ∃ v', ScA W' B s mb (.func (.func 88) #[] #[]) v' (putS es (kb, ko, kn) (0, false, false)) ((L ++ [(k, .slice (some ⟨rb, ro + 7, none⟩) rn (rc - 1), t + (96 + (tx.size : Int) + 40 * (n5 : Int)))]) ++ [((kb, ko, kn), .slice (some ⟨kb, ko, none⟩) kn kc, 0)]) := by
  have HS := hid h
  have hrb : rb < W.heap.size := World.block_lt_of_cell? W ⟨rb, ro + 2, none⟩ d2
  obtain ⟨g, cap, rfl, hc1, hc2, hg, hcl, hfr⟩ := h.last
  have c2 := h.c2
  have c0 := h.c0
  have hgB : B ≤ g := h.ow.blk g rfl
  have hsB := h.hs
  have HKP := hid hkp
  clear hkp
  obtain ⟨m, hm⟩ : ∃ m, L.length = m := ⟨_, rfl⟩
  rw [hm] at hcl c2 hc1 hl HS
  have l2 : W.cell? ⟨g, m * 4 + 2, none⟩ = some (.slice (some ⟨rb, ro, none⟩) (rn + 1) rc) := hcl 2 _ rfl
  have l3 : W.cell? ⟨g, m * 4 + 3, none⟩ = some (.int .i64 t) := hcl 3 _ rfl
  have f2 := hfr (m * 4 + 2)
  have f3 := hfr (m * 4 + 3)
  have HM := hid hm
  clear h hcl hfr hm
  have hne : rb ≠ g := by omega
  have hen : g ≠ rb := by omega
  have hsg : s ≠ g := fun e => HS.out.os (by rw [e]; rfl)
  have HW : Hid (∀ j, Calls Tryz.prog 88 #[.pointer (some ⟨rb, ro, none⟩)] ((W.drewN j).setCell ⟨g, m * 4 + 2, none⟩ (.slice (some ⟨rb, ro + 7, none⟩) rn (rc - 1))) fun e W' => e = .returned (.int .i64 (96 + (tx.size : Int) + 40 * (n5 : Int))) ∧ ∃ i, W' = ((W.drewN j).setCell ⟨g, m * 4 + 2, none⟩ (.slice (some ⟨rb, ro + 7, none⟩) rn (rc - 1))).drewN i) :=
    hid (fun j => whole_weight rb ro tx ar n5 c5 _ ((World.cell?_setCell_far _ _ _ _ hen).trans d2) ((World.cell?_setCell_far _ _ _ _ hen).trans d5) hn5 htx)
  have HA : Hid (∀ j i, Calls Tryz.prog 127 #[.pointer (some ⟨g, m * 4, none⟩), .int .i64 (96 + (tx.size : Int) + 40 * (n5 : Int))] (((W.drewN j).setCell ⟨g, m * 4 + 2, none⟩ (.slice (some ⟨rb, ro + 7, none⟩) rn (rc - 1))).drewN i) fun e W' => e = .returned (.tuple #[]) ∧ W' = (((W.drewN j).setCell ⟨g, m * 4 + 2, none⟩ (.slice (some ⟨rb, ro + 7, none⟩) rn (rc - 1))).drewN i).setCell ⟨g, m * 4 + 3, none⟩ (.int .i64 (t + (96 + (tx.size : Int) + 40 * (n5 : Int))))) :=
    hid (fun j i => add_any g (m * 4) t (96 + (tx.size : Int) + 40 * (n5 : Int)) _ ((World.cell?_setCell_other (W.drewN j) _ _ _ (by intro e; simp at e)).trans l3) ((World.frozen?_setCell (W.drewN j) _ _ _).trans f3) ht (by omega) (by omega))
  have HF : Hid (∀ j i, ScA ((((W.drewN j).setCell ⟨g, m * 4 + 2, none⟩ (.slice (some ⟨rb, ro + 7, none⟩) rn (rc - 1))).drewN i).setCell ⟨g, m * 4 + 3, none⟩ (.int .i64 (t + (96 + (tx.size : Int) + 40 * (n5 : Int))))) B s mb (.func (.func 88) #[] #[]) (.slice (some ⟨g, 0, none⟩) (m + 1) cap) es (L ++ [(k, .slice (some ⟨rb, ro + 7, none⟩) rn (rc - 1), t + (96 + (tx.size : Int) + 40 * (n5 : Int)))])) :=
    hid (fun j i => ((((HS.out.on ((Q.refl W).drewN j)).turn HM.out 2 (by omega) (.slice (some ⟨rb, ro + 7, none⟩) rn (rc - 1)) (k, .slice (some ⟨rb, ro + 7, none⟩) rn (rc - 1), t) rfl).on ((Q.refl _).drewN i)).turn HM.out 3 (by omega) (.int .i64 (t + (96 + (tx.size : Int) + 40 * (n5 : Int)))) (k, .slice (some ⟨rb, ro + 7, none⟩) rn (rc - 1), t + (96 + (tx.size : Int) + 40 * (n5 : Int))) rfl))
  have HG : Hid (∀ j i, Qp (fun i => B ≤ i) W ((((W.drewN j).setCell ⟨g, m * 4 + 2, none⟩ (.slice (some ⟨rb, ro + 7, none⟩) rn (rc - 1))).drewN i).setCell ⟨g, m * 4 + 3, none⟩ (.int .i64 (t + (96 + (tx.size : Int) + 40 * (n5 : Int)))))) :=
    hid (fun j i => (((Qp.of ((Q.refl W).drewN j)).set _ _ (.inl hgB)).trans (Qp.of ((Q.refl _).drewN i))).set _ _ (.inl hgB))
  have hm1 : m + 1 ≤ 9223372036854775807 := by omega
  have hwm : IntKind.i64.wrap (m : Int) = (m : Int) := by simp [IntKind.wrap_i64]; omega
  have i0 : (0 : Int) < ((m + 1 : Nat) : Int) := by omega
  have i1 : ((m + 1 : Nat) : Int) - 1 = (m : Int) := by omega
  have hrc : (1 : Int) ≤ (rc : Int) := by omega
  have hrx : rc ≤ 9223372036854775807 := by unfold maxLen at hr2; omega
  go_enter Tryz.func105, Tryz.ntmps105
  go_wp2_with fail
  go_quiet (fail)
  go_wp2_with (first | (go_at_call 91; refine (place_of _ _ _ _ _ hkn hkm).mono ?_; rintro e w7 ⟨rfl, q7⟩; unfold pkV; have Q7 := hid q7; clear q7) | (go_at_call 88; refine (HW.out _).mono ?_; rintro e w5 ⟨rfl, ⟨i, rfl⟩⟩) | (go_at_call 127; refine (HA.out _ _).mono ?_; rintro e w6 ⟨rfl, rfl⟩))
  have HS8 := hid ((HF.out nq i).on (Q7.out.alloc (.cells #[.pointer (some ⟨kb, ko, none⟩), .int .i64 (kn : Int)] 150)))
  have HQ8 := hid ((HG.out nq i).trans (Qp.of (Q7.out.alloc (.cells #[.pointer (some ⟨kb, ko, none⟩), .int .i64 (kn : Int)] 150))))
  have a0 : (w7.alloc (.cells #[.pointer (some ⟨kb, ko, none⟩), .int .i64 (kn : Int)] 150)).cell? ⟨w7.heap.size, 0, none⟩ = some (.pointer (some ⟨kb, ko, none⟩)) := by simp [World.cell?_alloc_new]
  have a1 : (w7.alloc (.cells #[.pointer (some ⟨kb, ko, none⟩), .int .i64 (kn : Int)] 150)).cell? ⟨w7.heap.size, 1, none⟩ = some (.int .i64 (kn : Int)) := by simp [World.cell?_alloc_new]
  have hab : w7.heap.size < (w7.alloc (.cells #[.pointer (some ⟨kb, ko, none⟩), .int .i64 (kn : Int)] 150)).heap.size := by simp
  clear Q7 HF HG HA HW c2 c0 l2 l3 f2 f3
  generalize w7.alloc (.cells #[.pointer (some ⟨kb, ko, none⟩), .int .i64 (kn : Int)] 150) = w8 at HS8 HQ8 a0 a1 hab ⊢
  generalize w7.heap.size = ab at a0 a1 hab ⊢
  have c1 := HS8.out.c1
  have HP8 : Hid (Pl w8 kb) := hid (HKP.out.blk (HQ8.out.block kb HKP.out.lt (by omega)))
  have qz : Q w8 (w8.alloc (.cells #[.int .i64 0, .bool false, .bool false] 169)) := (Q.refl w8).alloc _
  have c1z := (HS8.out.on qz).c1
  have a0z := (qz.cell hab).trans a0
  have a1z := (qz.cell hab).trans a1
  have rl : ∀ V, Q w8 V → (Instr.lookup 142 (.map (some mb)) (.agg #[.pointer (some ⟨kb, ko, none⟩), .int .i64 (kn : Int)]) true).run Tryz.prog V = .ok (.tuple #[.agg #[.int .i64 0, .bool false, .bool false], .bool false]) V := fun V q => by
    have s2 := HS8.out.on q
    have := s2.mp.lookup (kb, ko, kn) true (HP8.out.on q) (fun e he => (s2.pl e he).1)
    rw [hget] at this
    exact this
  have r8 := rl w8.drew (Q.refl w8).drew
  have r8z := rl (w8.alloc (.cells #[.int .i64 0, .bool false, .bool false] 169)).drew qz.drew
  clear rl qz
  apply wp_region_det
  · go_region_with fail
    all_goals exact And.intro rfl (And.intro rfl rfl)
  clear r8 r8z c1z a0z a1z a0 a1 c1
  have q9 : Q w8 ((w8.alloc (.cells #[.int .i64 0, .bool false, .bool false] 169)).drew) := ((Q.refl w8).alloc _).drew
  have HS9 := hid (HS8.out.on q9)
  have HQ9 := hid (HQ8.out.trans (Qp.of q9))
  have k0 : ((w8.alloc (.cells #[.int .i64 0, .bool false, .bool false] 169)).drew).cell? ⟨w8.heap.size, 0, none⟩ = some (.int .i64 0) := by simp [World.cell?_alloc_new]
  have k1 : ((w8.alloc (.cells #[.int .i64 0, .bool false, .bool false] 169)).drew).cell? ⟨w8.heap.size, 1, none⟩ = some (.bool false) := by simp [World.cell?_alloc_new]
  have HP9 := hid (HP8.out.on q9)
  clear q9 HS8 HQ8 HP8
  generalize (w8.alloc (.cells #[.int .i64 0, .bool false, .bool false] 169)).drew = w9 at HS9 HQ9 k0 k1 HP9 ⊢
  generalize w8.heap.size = kk at k0 k1 ⊢
  have d9 : w9.cell? ⟨rb, ro + 6, none⟩ = some (.slice (some ⟨kb, ko, none⟩) kn kc) := (HQ9.out.cell hrb (by omega)).trans d6
  clear d2 d5 d6 k0 k1
  have HB := hid (begin_any B s mb kb ko kn kc _ _ es _ w9 HS9.out hkn hkm HP9.out hkB (by rw [List.length_append, HM.out]; simp; omega))
  go_wp2_with (go_at_call 104; refine HB.out.mono ?_; rintro e w10 ⟨⟨u, rfl⟩, q10, v10, s10⟩)
  refine bodyPost_end (v := .tuple #[]) (by simp [results, Tryz.results105, go_sem]) rfl ?_
  exact ⟨⟨_, rfl⟩, HQ9.out.trans q10, v10, s10⟩
end Go.Proofs.YthebfhdpofhmpaaGreatDoor
