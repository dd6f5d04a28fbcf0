/- rewrite's scale: end. -/
import Derived.Test.YthebfhdpofhmpaaGreatDoorKc14
import Derived.Deep.Frames
set_option linter.unusedVariables false
set_option linter.unusedSimpArgs false
set_option maxRecDepth 100000
set_option maxHeartbeats 8000000
namespace Go.Proofs.YthebfhdpofhmpaaGreatDoor
open Go.RowKit
set_option maxHeartbeats 2000000 in
theorem end_any (B s mb : Nat) (wv v : Value) (es : List (Pk × S3)) (L : List Od) (b o n : Nat) (ra : Option Addr) (rn rc : Nat) (t : Int) (W : World) (h : ScA W B s mb wv v es (L ++ [((b, o, n), .slice ra rn rc, t)])) (t0 : Int) (hk : getS es (b, o, n) = some (t0, false, false)) (hp : Pl W b) (hB : b < B) (hl : L.length ≤ 100000) (ht : 0 ≤ t) (hy : ∀ M y, L = M ++ [y] → 0 ≤ y.2.2 ∧ y.2.2 + t ≤ 2147483648) :
    Calls Tryz.prog 126 #[.pointer (some ⟨s, 0, none⟩)] W fun e W' => (∃ u, e = .returned u) ∧ Qp (fun i => B ≤ i) W W' ∧ ∃ v', (L = [] ∧ ScA W' B s mb wv v' (putS es (b, o, n) (t, true, false)) []) ∨ ∃ M y, L = M ++ [y] ∧ ScA W' B s mb wv v' (putS es (b, o, n) (t, true, false)) (M ++ [(y.1, y.2.1, y.2.2 + t)]) := by
  have HS := hid h
  obtain ⟨g, cap, rfl, hc1, hc2, hg, hcl, hfr⟩ := h.last
  have c2 := h.c2
  have l0 : W.cell? ⟨g, L.length * 4, none⟩ = some (.pointer (some ⟨b, o, none⟩)) := hcl 0 _ rfl
  have l1 : W.cell? ⟨g, L.length * 4 + 1, none⟩ = some (.int .i64 (n : Int)) := hcl 1 _ rfl
  have l2 : W.cell? ⟨g, L.length * 4 + 2, none⟩ = some (.slice ra rn rc) := hcl 2 _ rfl
  have l3 : W.cell? ⟨g, L.length * 4 + 3, none⟩ = some (.int .i64 t) := hcl 3 _ rfl
  clear h hcl hfr
  obtain ⟨m, hm⟩ : ∃ m, L.length = m := ⟨_, rfl⟩
  have HM := hid hm
  rw [hm] at l0 l1 l2 l3 c2 hc1 hl HS
  clear hm
  have HP := hid hp
  have HY := hid hy
  clear hp hy
  have hs0 : s < W.heap.size := HS.out.lt
  have qz := (Q.refl W).alloc (.cells #[.pointer none, .int .i64 0, .slice none 0 0, .int .i64 0] 194)
  have c2a := (qz.cell hs0).trans c2
  have l0a := (qz.cell hg).trans l0
  have l1a := (qz.cell hg).trans l1
  have l2a := (qz.cell hg).trans l2
  have l3a := (qz.cell hg).trans l3
  clear qz
  have hm1 : m + 1 ≤ 9223372036854775807 := by omega
  have hw : IntKind.i64.wrap (m : Int) = (m : Int) := by simp [IntKind.wrap_i64]; omega
  have i0 : (0 : Int) < ((m + 1 : Nat) : Int) := by omega
  have i1 : ((m + 1 : Nat) : Int) - 1 = (m : Int) := by omega


  have q1 : Q W ((W.alloc (.cells #[.pointer (some ⟨b, o, none⟩), .int .i64 (n : Int), .slice ra rn rc, .int .i64 t] 194)).drew) := ((Q.refl W).alloc _).drew
  go_enter Tryz.func126, Tryz.ntmps126
  go_wp2_with fail
  apply wp_region_det
  · go_region_with fail
    all_goals exact And.intro rfl (And.intro rfl rfl)
  go_wp2_with fail
  clear l0 l1 l2 l3 l0a l1a l2a l3a c2a c2
  have HQ1 := hid q1
  have HS1 := hid (HS.out.on q1)
  have cn : ∀ j u, ([.pointer (some ⟨b, o, none⟩), .int .i64 (n : Int), .slice ra rn rc, .int .i64 t] : List Value)[j]? = some u → ((W.alloc (.cells #[.pointer (some ⟨b, o, none⟩), .int .i64 (n : Int), .slice ra rn rc, .int .i64 t] 194)).drew).cell? ⟨W.heap.size, j, none⟩ = some u := fun j u hu => by
    simp [World.cell?_alloc_new]
    simpa using hu
  have HC1 := hid cn
  clear q1 cn
  generalize (W.alloc (.cells #[.pointer (some ⟨b, o, none⟩), .int .i64 (n : Int), .slice ra rn rc, .int .i64 t] 194)).drew = w1 at HQ1 HS1 HC1 ⊢
  have hlb : s ≠ W.heap.size ∧ mb ≠ W.heap.size ∧ g ≠ W.heap.size := ⟨by omega, by have := HS.out.mp.lt; omega, by omega⟩
  have HL := hid hlb
  clear hlb
  have c2 := HS1.out.c2
  have f2 := HS1.out.f 2
  have hcap : (m : Int) ≤ (cap : Int) := by omega
  apply wp_region_det
  · go_region_with fail
    all_goals exact And.intro rfl (And.intro rfl rfl)
  go_wp2_with fail
  have HQ2 : Hid (Qp (fun i => B ≤ i) W ((w1.setCell ⟨s, 2, none⟩ (.slice (some ⟨g, 0, none⟩) m cap)).drew)) := hid (((Qp.of HQ1.out).set _ _ (.inl HS.out.hs)).trans (Qp.of (Q.refl _).drew))
  have HS2 := hid ((HS1.out.pop HM.out).on (Q.refl _).drew)
  have HC2 : Hid (∀ j u, ([.pointer (some ⟨b, o, none⟩), .int .i64 (n : Int), .slice ra rn rc, .int .i64 t] : List Value)[j]? = some u → ((w1.setCell ⟨s, 2, none⟩ (.slice (some ⟨g, 0, none⟩) m cap)).drew).cell? ⟨W.heap.size, j, none⟩ = some u) := hid (fun j u hu => by
    have : (w1.setCell ⟨s, 2, none⟩ (.slice (some ⟨g, 0, none⟩) m cap)).cell? ⟨W.heap.size, j, none⟩ = w1.cell? ⟨W.heap.size, j, none⟩ := World.cell?_setCell_far _ _ _ _ HL.out.1
    exact this.trans (HC1.out j u hu))
  clear HS1 HC1 HQ1 c2 f2 hcap i0 i1
  generalize (w1.setCell ⟨s, 2, none⟩ (.slice (some ⟨g, 0, none⟩) m cap)).drew = w2 at HQ2 HS2 HC2 ⊢
  have HP2 : Hid (Pl w2 b) := hid (HP.out.blk (HQ2.out.block b HP.out.lt (by omega)))
  have c1 := HS2.out.c1
  have a0 := HC2.out 0 _ rfl
  have a1 := HC2.out 1 _ rfl
  have a3 := HC2.out 3 _ rfl
  have r2 : ∀ j, (Instr.lookup 142 (.map (some mb)) (.agg #[.pointer (some ⟨b, o, none⟩), .int .i64 (n : Int)]) false).run Tryz.prog (w2.drewN j) = .ok (.agg #[.int .i64 t0, .bool false, .bool false]) (w2.drewN j) := fun j => by
    have s2 := HS2.out.on ((Q.refl w2).drewN j)
    have := s2.mp.lookup (b, o, n) false (HP2.out.on ((Q.refl w2).drewN j)) (fun e he => (s2.pl e he).1)
    rw [hk] at this
    exact this
  have r2f : ∀ w, (Instr.field 169 (.agg #[.int .i64 t0, .bool false, .bool false]) 2).run Tryz.prog w = .ok (.bool false) w := fun w => by kernel_rfl
  go_quiet (fail)
  go_wp2_with fail
  have HQ3 : Hid (Qp (fun i => B ≤ i) W (w2.drewN nq)) := hid (HQ2.out.trans (Qp.of ((Q.refl _).drewN nq)))
  have HS3 := hid (HS2.out.on ((Q.refl w2).drewN nq))
  have HC3 : Hid (∀ j u, ([.pointer (some ⟨b, o, none⟩), .int .i64 (n : Int), .slice ra rn rc, .int .i64 t] : List Value)[j]? = some u → (w2.drewN nq).cell? ⟨W.heap.size, j, none⟩ = some u) := hid (fun j u hu => HC2.out j u hu)
  have HP3 := hid (HP2.out.on ((Q.refl w2).drewN nq))
  clear r2 r2f a0 a1 a3 c1 HQ2 HS2 HC2 HP2
  generalize w2.drewN nq = w3 at HQ3 HS3 HC3 HP3 ⊢
  have c1 := HS3.out.c1
  have a0 := HC3.out 0 _ rfl
  have a1 := HC3.out 1 _ rfl
  have a3 := HC3.out 3 _ rfl
  obtain ⟨w4, r4, s4, q4⟩ := (HS3.out.on (Q.refl w3).drew).put (b, o, n) (t, true, false) (HP3.out.on (Q.refl w3).drew) hB
  unfold pkV s3V at r4
  have hlw : W.heap.size < w3.heap.size := World.block_lt_of_cell? w3 ⟨W.heap.size, 0, none⟩ a0
  have a4 : w4.cell? ⟨W.heap.size, 3, none⟩ = some (.int .i64 t) := (q4.cell (b := W.heap.size) (o := 3) hlw (fun e => HL.out.2.1 e.symm)).trans a3
  have HQ4 : Hid (Qp (fun i => B ≤ i) W w4) := hid ((HQ3.out.trans (Qp.of (Q.refl _).drew)).trans (q4.mono (fun i _ e => by rw [e]; exact HS.out.hm)))
  have HS4 := hid s4
  clear s4 q4 hlw
  apply wp_region_det
  · go_region_with fail
    all_goals exact And.intro rfl (And.intro rfl rfl)
  clear r4 a0 a1 a3 c1 HQ3 HS3 HC3 HP3
  have c2 := HS4.out.c2
  by_cases hm0 : m = 0
  · subst hm0
    have hL : L = [] := List.eq_nil_of_length_eq_zero HM.out
    go_wp2_with fail
    refine bodyPost_end (v := .tuple #[]) (by simp [results, Tryz.results126, go_sem]) rfl ?_
    exact ⟨⟨_, rfl⟩, HQ4.out, _, .inl ⟨hL, by have := HS4.out; rw [hL] at this; exact this⟩⟩
  · obtain ⟨M, y, hLM⟩ : ∃ M y, L = M ++ [y] := by
      rcases List.eq_nil_or_concat L with e | ⟨M, y, e⟩
      · exact absurd (by rw [← HM.out, e]; rfl) hm0
      · exact ⟨M, y, by rw [e]; simp⟩
    obtain ⟨yk, yv, yt⟩ := y
    obtain ⟨m1, hm1'⟩ : ∃ m1, M.length = m1 := ⟨_, rfl⟩
    have hme : m = m1 + 1 := by rw [← HM.out, hLM, List.length_append, hm1']; rfl
    subst hme
    have hy := HY.out M _ hLM
    have s4 := HS4.out
    rw [hLM] at s4
    obtain ⟨g', cap', e', _, _, hg', hcl', hfr'⟩ := s4.last
    simp only [Value.slice.injEq, Option.some.injEq, Addr.mk.injEq] at e'
    obtain ⟨⟨rfl, _⟩, _, rfl⟩ := e'
    rw [hm1'] at hcl'
    have y3 : w4.cell? ⟨g, m1 * 4 + 3, none⟩ = some (.int .i64 yt) := hcl' 3 _ rfl
    have yf := hfr' (m1 * 4 + 3)
    have hw1 : IntKind.i64.wrap (m1 : Int) = (m1 : Int) := by simp [IntKind.wrap_i64]; omega
    have i0 : (0 : Int) < ((m1 + 1 : Nat) : Int) := by omega
    have i1 : ((m1 + 1 : Nat) : Int) - 1 = (m1 : Int) := by omega
    have HA := hid (add_any g (m1 * 4) yt t w4.drew y3 yf hy.1 ht hy.2)
    have HT := hid (s4.turn hm1' 3 (by omega) (.int .i64 (yt + t)) (yk, yv, yt + t) rfl)
    have hgB : B ≤ g := s4.ow.blk g rfl
    clear s4 hcl' hfr' yf hy
    go_wp2_with fail
    apply wp_region_det
    · go_region_with (go_at_call 127; refine HA.out.mono ?_; rintro e w5 ⟨rfl, rfl⟩)
      all_goals exact And.intro rfl (And.intro rfl rfl)
    go_wp2_with fail
    refine bodyPost_end (v := .tuple #[]) (by simp [results, Tryz.results126, go_sem]) rfl ?_
    exact ⟨⟨_, rfl⟩, (HQ4.out.trans (Qp.of (Q.refl _).drew)).set _ _ (.inl hgB), _, .inr ⟨M, _, hLM, HT.out.on (Q.refl _).drew⟩⟩
end Go.Proofs.YthebfhdpofhmpaaGreatDoor
