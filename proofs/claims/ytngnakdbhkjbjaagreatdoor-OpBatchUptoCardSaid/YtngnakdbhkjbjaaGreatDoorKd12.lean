/- Rectangles of operations: op.e. -/
import Derived.Test.YtngnakdbhkjbjaaGreatDoorKd00
import Derived.Test.YtngnakdbhkjbjaaGreatDoorKd07
set_option linter.unusedVariables false
set_option linter.unusedSimpArgs false
set_option maxRecDepth 100000
set_option maxHeartbeats 8000000
namespace Go.Proofs.YtngnakdbhkjbjaaGreatDoor
open Go.RowKit
def in1 (m : Int) (x : R.Rg.Rc) : Bool := decide (x.c ≤ m ∧ x.d ≤ m)
def inB (m : Int) (L : List R.Rg.Rc) : Bool := L.all (in1 m)
theorem in_no {m : Int} {L : List R.Rg.Rc} {k : Nat} (h : k < L.length) (hd : in1 m L[k] = false) : inB m L = false := by
  unfold inB
  rw [List.all_eq_false]
  exact ⟨_, List.getElem_mem h, by simp [hd]⟩
theorem in_succ {m : Int} {L : List R.Rg.Rc} {k : Nat} (h : k < L.length) (hd : in1 m L[k] = true) (ha : inB m (L.take k) = true) : inB m (L.take (k + 1)) = true := by
  unfold inB at *
  rw [List.take_succ_eq_append_getElem h, List.all_append, ha]
  simp [hd]
set_option maxHeartbeats 2000000 in
theorem ends_any (v : Value) (L : List R.Rg.Rc) (m : Int) (w : World) (h : R.Sl R.rc 4 w v L) : Calls Tryz.prog 49 #[v, .int .i64 m] w fun e w' => e = .returned (.bool (inB m L)) ∧ Q w w' := by
  have HS := hid h
  obtain ⟨ao, cap, rfl, h1, h2⟩ := h.len
  clear h
  have h3 : L.length ≤ 9223372036854775807 := Nat.le_trans h1 (by unfold maxLen at h2; omega)
  go_enter Tryz.func49, Tryz.ntmps49
  go_wp2
  go_loopw [9] (fun s W => ∃ (n : Nat), n ≤ L.length ∧ s = .int .i64 n ∧ Hid (inB m (L.take n) = true) ∧ Q w W) (fun s _ => L.length - (intOf s).toNat)
  case atStart => exact ⟨0, Nat.zero_le _, rfl, hid rfl, Q.refl _⟩
  case round =>
    obtain ⟨n, hn, rfl, ha, hq⟩ := hrel
    have HQ := hid hq
    clear hq
    by_cases hlt : n < L.length
    · have hlt' : (n : Int) < (L.length : Int) := by omega
      obtain ⟨g, off, cap', e, _, _, hc⟩ := (HS.out.on HQ.out).at hlt
      cases e
      cases hd : in1 m L[n]
      · have HN := hid (in_no hlt hd)
        have hm : m < max L[n].c L[n].d := by unfold in1 at hd; simp only [decide_eq_false_iff_not] at hd; omega
        clear hd
        generalize L[n] = x at *
        obtain ⟨xa, xb, xc, xd⟩ := x
        have c0 : wr.cell? ⟨g, off + n * 4, none⟩ = some (.int .i64 xa) := hc 0 _ rfl
        have c1 : wr.cell? ⟨g, off + n * 4 + 1, none⟩ = some (.int .i64 xb) := hc 1 _ rfl
        have c2 : wr.cell? ⟨g, off + n * 4 + 2, none⟩ = some (.int .i64 xc) := hc 2 _ rfl
        have c3 : wr.cell? ⟨g, off + n * 4 + 3, none⟩ = some (.int .i64 xd) := hc 3 _ rfl
        have hm' : m < max xc xd := hm
        rw [R.max_if] at hm'
        clear hc hm
        go_wp2
        all_goals first
          | (go_ret; exact ⟨ret_bool HN.out.symm, HQ.out.alloc _⟩)
          | (exfalso; omega)
      · have HN := hid (in_succ hlt hd ha.out)
        have hm : ¬ m < max L[n].c L[n].d := by unfold in1 at hd; simp only [decide_eq_true_eq] at hd; omega
        clear hd
        generalize L[n] = x at *
        obtain ⟨xa, xb, xc, xd⟩ := x
        have c0 : wr.cell? ⟨g, off + n * 4, none⟩ = some (.int .i64 xa) := hc 0 _ rfl
        have c1 : wr.cell? ⟨g, off + n * 4 + 1, none⟩ = some (.int .i64 xb) := hc 1 _ rfl
        have c2 : wr.cell? ⟨g, off + n * 4 + 2, none⟩ = some (.int .i64 xc) := hc 2 _ rfl
        have c3 : wr.cell? ⟨g, off + n * 4 + 3, none⟩ = some (.int .i64 xd) := hc 3 _ rfl
        have hm' : ¬ m < max xc xd := hm
        rw [R.max_if] at hm'
        clear hc hm
        go_wp2
        all_goals first
          | (go_roundw
             case rel => exact ⟨n + 1, by omega, by go_num, HN, HQ.out.alloc _⟩
             case measure => simp [intOf]; omega)
          | (exfalso; omega)
    · have HN : Hid (inB m L = true) := by
        show _ = _
        have := ha.out
        rw [List.take_of_length_le (by omega)] at this
        exact this
      go_wp2
      go_ret
      exact ⟨ret_bool HN.out.symm, HQ.out⟩
set_option maxHeartbeats 2000000 in
theorem inside_any (v : Value) (L : List R.Rg.Rc) (m : Int) (w : World) (h : R.Sl R.rc 4 w v L) : Calls Tryz.prog 33 #[v, .int .i64 m] w fun e w' => e = .returned (.bool (inB m L)) ∧ Q w w' := by
  have HS := hid h
  obtain ⟨ao, cap, rfl, h1, h2⟩ := h.len
  clear h
  have h3 : L.length ≤ 9223372036854775807 := Nat.le_trans h1 (by unfold maxLen at h2; omega)
  go_enter Tryz.func33, Tryz.ntmps33
  go_wp2
  go_loop [5] (fun s => ∃ (n : Nat), n ≤ L.length ∧ s = .int .i64 n ∧ Hid (inB m (L.take n) = true)) (fun s => L.length - (intOf s).toNat)
  case atStart => exact ⟨0, Nat.zero_le _, rfl, hid rfl⟩
  case round =>
    obtain ⟨n, hn, rfl, ha⟩ := hrel
    by_cases hlt : n < L.length
    · have hlt' : (n : Int) < (L.length : Int) := by omega
      obtain ⟨g, off, cap', e, _, _, hc⟩ := HS.out.at hlt
      cases e
      have c2 : w.cell? ⟨g, off + n * 4 + 2, none⟩ = some (.int .i64 L[n].c) := hc 2 _ rfl
      have c3 : w.cell? ⟨g, off + n * 4 + 3, none⟩ = some (.int .i64 L[n].d) := hc 3 _ rfl
      clear hc
      cases hd : in1 m L[n]
      · have HN := hid (in_no hlt hd)
        by_cases hm : m < L[n].c
        · clear hd
          generalize L[n].c = xc at *
          generalize L[n].d = xd at *
          go_wp2
          go_ret
          exact ⟨ret_bool HN.out.symm, Q.refl _⟩
        · have hm2 : m < L[n].d := by unfold in1 at hd; simp only [decide_eq_false_iff_not] at hd; omega
          clear hd
          generalize L[n].c = xc at *
          generalize L[n].d = xd at *
          go_wp2
          go_ret
          exact ⟨ret_bool HN.out.symm, Q.refl _⟩
      · have HN := hid (in_succ hlt hd ha.out)
        have hm : ¬ m < L[n].c := by unfold in1 at hd; simp only [decide_eq_true_eq] at hd; omega
        have hm2 : ¬ m < L[n].d := by unfold in1 at hd; simp only [decide_eq_true_eq] at hd; omega
        clear hd
        generalize L[n].c = xc at *
        generalize L[n].d = xd at *
        go_wp2
        go_round
        case rel => exact ⟨n + 1, by omega, by go_num, HN⟩
        case measure => simp [intOf]; omega
    · have HN : Hid (inB m L = true) := by
        show _ = _
        have := ha.out
        rw [List.take_of_length_le (by omega)] at this
        exact this
      go_wp2
      go_ret
      exact ⟨ret_bool HN.out.symm, Q.refl _⟩
set_option maxHeartbeats 8000000 in
theorem rm_b10 (sh : ByteArray) (x4 x5 x6 x7 x8 x9 x10 x11 x12 x13 x14 x15 x16 : Value) (ra : Option Addr) (rc : Nat) (row : Int) (col : Int) (lk : Int) (la : Int) (lt : Int) (rl : Nat) (fm : Int) (nm : ByteArray) (w : World) (g0 : lk ≠ 0) (HI : Hid (∀ V, Calls Tryz.prog 26 #[.string sh] V fun e V' => e = .returned (.bool true) ∧ V' = V)) : Calls Tryz.prog 9 #[.agg #[.int .i64 1, .string sh, .int .i64 row, .int .i64 col, x4, x5, x6, x7, x8, x9, x10, x11, x12, x13, x14, x15, x16, .int .i64 lk, .int .i64 la, .int .i64 lt, .slice ra rl rc, .int .i64 fm, .string nm]] w fun e V' => e = .returned (.bool false) ∧ Q w V' := by
  go_enter Tryz.func9, Tryz.ntmps9
  go_upto_region 1 with fail
  have Z1 := hid (cq_new w [.int .i64 1, .string sh, .int .i64 row, .int .i64 col, x4, x5, x6, x7, x8, x9, x10, x11, x12, x13, x14, x15, x16, .int .i64 lk, .int .i64 la, .int .i64 lt, .slice ra rl rc, .int .i64 fm, .string nm])
  rw [show ([.int .i64 1, .string sh, .int .i64 row, .int .i64 col, x4, x5, x6, x7, x8, x9, x10, x11, x12, x13, x14, x15, x16, .int .i64 lk, .int .i64 la, .int .i64 lt, .slice ra rl rc, .int .i64 fm, .string nm] : List Value).toArray = #[.int .i64 1, .string sh, .int .i64 row, .int .i64 col, x4, x5, x6, x7, x8, x9, x10, x11, x12, x13, x14, x15, x16, .int .i64 lk, .int .i64 la, .int .i64 lt, .slice ra rl rc, .int .i64 fm, .string nm] from rfl] at Z1
  have QA : Hid (Q w (w.alloc (.cells #[.int .i64 1, .string sh, .int .i64 row, .int .i64 col, x4, x5, x6, x7, x8, x9, x10, x11, x12, x13, x14, x15, x16, .int .i64 lk, .int .i64 la, .int .i64 lt, .slice ra rl rc, .int .i64 fm, .string nm] 35))) := hid ((Q.refl w).alloc _)
  generalize w.alloc (.cells #[.int .i64 1, .string sh, .int .i64 row, .int .i64 col, x4, x5, x6, x7, x8, x9, x10, x11, x12, x13, x14, x15, x16, .int .i64 lk, .int .i64 la, .int .i64 lt, .slice ra rl rc, .int .i64 fm, .string nm] 35) = w1 at Z1 QA ⊢
  generalize w.heap.size = b0 at Z1 ⊢
  have d0 := Z1.out.c 0 _ rfl
  have d1 := Z1.out.c 1 _ rfl
  have d2 := Z1.out.c 2 _ rfl
  have d3 := Z1.out.c 3 _ rfl
  have d4 := Z1.out.c 4 _ rfl
  have d5 := Z1.out.c 5 _ rfl
  have d6 := Z1.out.c 6 _ rfl
  have d7 := Z1.out.c 7 _ rfl
  have d8 := Z1.out.c 8 _ rfl
  have d9 := Z1.out.c 9 _ rfl
  have d10 := Z1.out.c 10 _ rfl
  have d11 := Z1.out.c 11 _ rfl
  have d12 := Z1.out.c 12 _ rfl
  have d13 := Z1.out.c 13 _ rfl
  have d14 := Z1.out.c 14 _ rfl
  have d15 := Z1.out.c 15 _ rfl
  have d16 := Z1.out.c 16 _ rfl
  have d17 := Z1.out.c 17 _ rfl
  have d18 := Z1.out.c 18 _ rfl
  have d19 := Z1.out.c 19 _ rfl
  have d20 := Z1.out.c 20 _ rfl
  have d21 := Z1.out.c 21 _ rfl
  have d22 := Z1.out.c 22 _ rfl
  go_wp2_with (first | (go_at_call 26; refine (HI.out _).mono ?_; rintro e9 v9 ⟨rfl, h9⟩; replace h9 := h9.symm; subst h9))
  go_ret
  exact ⟨rfl, QA.out⟩
set_option maxHeartbeats 8000000 in
theorem rm_b11 (sh : ByteArray) (x4 x5 x6 x7 x8 x9 x10 x11 x12 x13 x14 x15 x16 : Value) (ra : Option Addr) (rc : Nat) (row : Int) (col : Int) (la : Int) (lt : Int) (rl : Nat) (fm : Int) (nm : ByteArray) (w : World) (g0 : la ≠ 0) (HI : Hid (∀ V, Calls Tryz.prog 26 #[.string sh] V fun e V' => e = .returned (.bool true) ∧ V' = V)) : Calls Tryz.prog 9 #[.agg #[.int .i64 1, .string sh, .int .i64 row, .int .i64 col, x4, x5, x6, x7, x8, x9, x10, x11, x12, x13, x14, x15, x16, .int .i64 0, .int .i64 la, .int .i64 lt, .slice ra rl rc, .int .i64 fm, .string nm]] w fun e V' => e = .returned (.bool false) ∧ Q w V' := by
  go_enter Tryz.func9, Tryz.ntmps9
  go_upto_region 1 with fail
  have Z1 := hid (cq_new w [.int .i64 1, .string sh, .int .i64 row, .int .i64 col, x4, x5, x6, x7, x8, x9, x10, x11, x12, x13, x14, x15, x16, .int .i64 0, .int .i64 la, .int .i64 lt, .slice ra rl rc, .int .i64 fm, .string nm])
  rw [show ([.int .i64 1, .string sh, .int .i64 row, .int .i64 col, x4, x5, x6, x7, x8, x9, x10, x11, x12, x13, x14, x15, x16, .int .i64 0, .int .i64 la, .int .i64 lt, .slice ra rl rc, .int .i64 fm, .string nm] : List Value).toArray = #[.int .i64 1, .string sh, .int .i64 row, .int .i64 col, x4, x5, x6, x7, x8, x9, x10, x11, x12, x13, x14, x15, x16, .int .i64 0, .int .i64 la, .int .i64 lt, .slice ra rl rc, .int .i64 fm, .string nm] from rfl] at Z1
  have QA : Hid (Q w (w.alloc (.cells #[.int .i64 1, .string sh, .int .i64 row, .int .i64 col, x4, x5, x6, x7, x8, x9, x10, x11, x12, x13, x14, x15, x16, .int .i64 0, .int .i64 la, .int .i64 lt, .slice ra rl rc, .int .i64 fm, .string nm] 35))) := hid ((Q.refl w).alloc _)
  generalize w.alloc (.cells #[.int .i64 1, .string sh, .int .i64 row, .int .i64 col, x4, x5, x6, x7, x8, x9, x10, x11, x12, x13, x14, x15, x16, .int .i64 0, .int .i64 la, .int .i64 lt, .slice ra rl rc, .int .i64 fm, .string nm] 35) = w1 at Z1 QA ⊢
  generalize w.heap.size = b0 at Z1 ⊢
  have d0 := Z1.out.c 0 _ rfl
  have d1 := Z1.out.c 1 _ rfl
  have d2 := Z1.out.c 2 _ rfl
  have d3 := Z1.out.c 3 _ rfl
  have d4 := Z1.out.c 4 _ rfl
  have d5 := Z1.out.c 5 _ rfl
  have d6 := Z1.out.c 6 _ rfl
  have d7 := Z1.out.c 7 _ rfl
  have d8 := Z1.out.c 8 _ rfl
  have d9 := Z1.out.c 9 _ rfl
  have d10 := Z1.out.c 10 _ rfl
  have d11 := Z1.out.c 11 _ rfl
  have d12 := Z1.out.c 12 _ rfl
  have d13 := Z1.out.c 13 _ rfl
  have d14 := Z1.out.c 14 _ rfl
  have d15 := Z1.out.c 15 _ rfl
  have d16 := Z1.out.c 16 _ rfl
  have d17 := Z1.out.c 17 _ rfl
  have d18 := Z1.out.c 18 _ rfl
  have d19 := Z1.out.c 19 _ rfl
  have d20 := Z1.out.c 20 _ rfl
  have d21 := Z1.out.c 21 _ rfl
  have d22 := Z1.out.c 22 _ rfl
  go_wp2_with (first | (go_at_call 26; refine (HI.out _).mono ?_; rintro e9 v9 ⟨rfl, h9⟩; replace h9 := h9.symm; subst h9))
  go_ret
  exact ⟨rfl, QA.out⟩
set_option maxHeartbeats 8000000 in
theorem rm_b12 (sh : ByteArray) (x4 x5 x6 x7 x8 x9 x10 x11 x12 x13 x14 x15 x16 : Value) (ra : Option Addr) (rc : Nat) (row : Int) (col : Int) (lt : Int) (rl : Nat) (fm : Int) (nm : ByteArray) (w : World) (g0 : lt ≠ 0) (HI : Hid (∀ V, Calls Tryz.prog 26 #[.string sh] V fun e V' => e = .returned (.bool true) ∧ V' = V)) : Calls Tryz.prog 9 #[.agg #[.int .i64 1, .string sh, .int .i64 row, .int .i64 col, x4, x5, x6, x7, x8, x9, x10, x11, x12, x13, x14, x15, x16, .int .i64 0, .int .i64 0, .int .i64 lt, .slice ra rl rc, .int .i64 fm, .string nm]] w fun e V' => e = .returned (.bool false) ∧ Q w V' := by
  go_enter Tryz.func9, Tryz.ntmps9
  go_upto_region 1 with fail
  have Z1 := hid (cq_new w [.int .i64 1, .string sh, .int .i64 row, .int .i64 col, x4, x5, x6, x7, x8, x9, x10, x11, x12, x13, x14, x15, x16, .int .i64 0, .int .i64 0, .int .i64 lt, .slice ra rl rc, .int .i64 fm, .string nm])
  rw [show ([.int .i64 1, .string sh, .int .i64 row, .int .i64 col, x4, x5, x6, x7, x8, x9, x10, x11, x12, x13, x14, x15, x16, .int .i64 0, .int .i64 0, .int .i64 lt, .slice ra rl rc, .int .i64 fm, .string nm] : List Value).toArray = #[.int .i64 1, .string sh, .int .i64 row, .int .i64 col, x4, x5, x6, x7, x8, x9, x10, x11, x12, x13, x14, x15, x16, .int .i64 0, .int .i64 0, .int .i64 lt, .slice ra rl rc, .int .i64 fm, .string nm] from rfl] at Z1
  have QA : Hid (Q w (w.alloc (.cells #[.int .i64 1, .string sh, .int .i64 row, .int .i64 col, x4, x5, x6, x7, x8, x9, x10, x11, x12, x13, x14, x15, x16, .int .i64 0, .int .i64 0, .int .i64 lt, .slice ra rl rc, .int .i64 fm, .string nm] 35))) := hid ((Q.refl w).alloc _)
  generalize w.alloc (.cells #[.int .i64 1, .string sh, .int .i64 row, .int .i64 col, x4, x5, x6, x7, x8, x9, x10, x11, x12, x13, x14, x15, x16, .int .i64 0, .int .i64 0, .int .i64 lt, .slice ra rl rc, .int .i64 fm, .string nm] 35) = w1 at Z1 QA ⊢
  generalize w.heap.size = b0 at Z1 ⊢
  have d0 := Z1.out.c 0 _ rfl
  have d1 := Z1.out.c 1 _ rfl
  have d2 := Z1.out.c 2 _ rfl
  have d3 := Z1.out.c 3 _ rfl
  have d4 := Z1.out.c 4 _ rfl
  have d5 := Z1.out.c 5 _ rfl
  have d6 := Z1.out.c 6 _ rfl
  have d7 := Z1.out.c 7 _ rfl
  have d8 := Z1.out.c 8 _ rfl
  have d9 := Z1.out.c 9 _ rfl
  have d10 := Z1.out.c 10 _ rfl
  have d11 := Z1.out.c 11 _ rfl
  have d12 := Z1.out.c 12 _ rfl
  have d13 := Z1.out.c 13 _ rfl
  have d14 := Z1.out.c 14 _ rfl
  have d15 := Z1.out.c 15 _ rfl
  have d16 := Z1.out.c 16 _ rfl
  have d17 := Z1.out.c 17 _ rfl
  have d18 := Z1.out.c 18 _ rfl
  have d19 := Z1.out.c 19 _ rfl
  have d20 := Z1.out.c 20 _ rfl
  have d21 := Z1.out.c 21 _ rfl
  have d22 := Z1.out.c 22 _ rfl
  go_wp2_with (first | (go_at_call 26; refine (HI.out _).mono ?_; rintro e9 v9 ⟨rfl, h9⟩; replace h9 := h9.symm; subst h9))
  go_ret
  exact ⟨rfl, QA.out⟩
set_option maxHeartbeats 8000000 in
theorem rm_b00 (k : Int) (sh : ByteArray) (x4 x5 x6 x7 x8 x9 x10 x11 x12 x13 x14 x15 x16 : Value) (ra : Option Addr) (rc : Nat) (lk : Int) (la : Int) (lt : Int) (rl : Nat) (fm : Int) (nm : ByteArray) (w : World) (g0 : k ≠ 1) (g1 : k ≠ 2) (g2 : k ≠ 3) (g3 : lk ≠ 0) (HI : Hid (∀ V, Calls Tryz.prog 26 #[.string sh] V fun e V' => e = .returned (.bool true) ∧ V' = V)) (HC : Hid (∀ V, Q w V → Calls Tryz.prog 27 #[.agg #[x4, x5, x6, x7, x8, x9, x10, x11, x12, x13, x14, x15, x16], .agg #[.bool false, .int .i64 0, .int .i64 0, .string ⟨#[]⟩, .bool false, .int .i64 0, .int .i64 0, .int .i64 0, .string ⟨#[]⟩, .bool false, .int .i64 0, .slice none 0 0, .slice none 0 0]] V fun e V' => e = .returned (.bool true) ∧ Q V V')) : Calls Tryz.prog 9 #[.agg #[.int .i64 k, .string sh, .int .i64 0, .int .i64 0, x4, x5, x6, x7, x8, x9, x10, x11, x12, x13, x14, x15, x16, .int .i64 lk, .int .i64 la, .int .i64 lt, .slice ra rl rc, .int .i64 fm, .string nm]] w fun e V' => e = .returned (.bool false) ∧ Q w V' := by
  go_enter Tryz.func9, Tryz.ntmps9
  go_upto_region 1 with fail
  have Z1 := hid (cq_new w [.int .i64 k, .string sh, .int .i64 0, .int .i64 0, x4, x5, x6, x7, x8, x9, x10, x11, x12, x13, x14, x15, x16, .int .i64 lk, .int .i64 la, .int .i64 lt, .slice ra rl rc, .int .i64 fm, .string nm])
  rw [show ([.int .i64 k, .string sh, .int .i64 0, .int .i64 0, x4, x5, x6, x7, x8, x9, x10, x11, x12, x13, x14, x15, x16, .int .i64 lk, .int .i64 la, .int .i64 lt, .slice ra rl rc, .int .i64 fm, .string nm] : List Value).toArray = #[.int .i64 k, .string sh, .int .i64 0, .int .i64 0, x4, x5, x6, x7, x8, x9, x10, x11, x12, x13, x14, x15, x16, .int .i64 lk, .int .i64 la, .int .i64 lt, .slice ra rl rc, .int .i64 fm, .string nm] from rfl] at Z1
  have QA : Hid (Q w (w.alloc (.cells #[.int .i64 k, .string sh, .int .i64 0, .int .i64 0, x4, x5, x6, x7, x8, x9, x10, x11, x12, x13, x14, x15, x16, .int .i64 lk, .int .i64 la, .int .i64 lt, .slice ra rl rc, .int .i64 fm, .string nm] 35))) := hid ((Q.refl w).alloc _)
  generalize w.alloc (.cells #[.int .i64 k, .string sh, .int .i64 0, .int .i64 0, x4, x5, x6, x7, x8, x9, x10, x11, x12, x13, x14, x15, x16, .int .i64 lk, .int .i64 la, .int .i64 lt, .slice ra rl rc, .int .i64 fm, .string nm] 35) = w1 at Z1 QA ⊢
  generalize w.heap.size = b0 at Z1 ⊢
  have d0 := Z1.out.c 0 _ rfl
  have d1 := Z1.out.c 1 _ rfl
  have d2 := Z1.out.c 2 _ rfl
  have d3 := Z1.out.c 3 _ rfl
  have d4 := Z1.out.c 4 _ rfl
  have d5 := Z1.out.c 5 _ rfl
  have d6 := Z1.out.c 6 _ rfl
  have d7 := Z1.out.c 7 _ rfl
  have d8 := Z1.out.c 8 _ rfl
  have d9 := Z1.out.c 9 _ rfl
  have d10 := Z1.out.c 10 _ rfl
  have d11 := Z1.out.c 11 _ rfl
  have d12 := Z1.out.c 12 _ rfl
  have d13 := Z1.out.c 13 _ rfl
  have d14 := Z1.out.c 14 _ rfl
  have d15 := Z1.out.c 15 _ rfl
  have d16 := Z1.out.c 16 _ rfl
  have d17 := Z1.out.c 17 _ rfl
  have d18 := Z1.out.c 18 _ rfl
  have d19 := Z1.out.c 19 _ rfl
  have d20 := Z1.out.c 20 _ rfl
  have d21 := Z1.out.c 21 _ rfl
  have d22 := Z1.out.c 22 _ rfl
  have m0 : (k != 1) = true := by simpa using g0
  have m1 : (k != 2) = true := by simpa using g1
  have m2 : (k != 3) = true := by simpa using g2
  go_wp2_with (first | (go_at_call 26; refine (HI.out _).mono ?_; rintro e9 v9 ⟨rfl, h9⟩; replace h9 := h9.symm; subst h9) | (go_at_call 27; refine (HC.out _ QA.out).mono ?_; rintro e9 v0 ⟨rfl, q9⟩; have Q0 : Hid (Q w v0) := hid (QA.out.trans q9); have Z10 := hid (Z1.out.on q9); clear q9; have c17 := Z10.out.c 17 _ rfl; have c18 := Z10.out.c 18 _ rfl; have c19 := Z10.out.c 19 _ rfl; have c20 := Z10.out.c 20 _ rfl; have c21 := Z10.out.c 21 _ rfl; have c22 := Z10.out.c 22 _ rfl))
  go_ret
  exact ⟨rfl, Q0.out⟩
set_option maxHeartbeats 8000000 in
theorem rm_b01 (k : Int) (sh : ByteArray) (x4 x5 x6 x7 x8 x9 x10 x11 x12 x13 x14 x15 x16 : Value) (ra : Option Addr) (rc : Nat) (la : Int) (lt : Int) (rl : Nat) (fm : Int) (nm : ByteArray) (w : World) (g0 : k ≠ 1) (g1 : k ≠ 2) (g2 : k ≠ 3) (g3 : la ≠ 0) (HI : Hid (∀ V, Calls Tryz.prog 26 #[.string sh] V fun e V' => e = .returned (.bool true) ∧ V' = V)) (HC : Hid (∀ V, Q w V → Calls Tryz.prog 27 #[.agg #[x4, x5, x6, x7, x8, x9, x10, x11, x12, x13, x14, x15, x16], .agg #[.bool false, .int .i64 0, .int .i64 0, .string ⟨#[]⟩, .bool false, .int .i64 0, .int .i64 0, .int .i64 0, .string ⟨#[]⟩, .bool false, .int .i64 0, .slice none 0 0, .slice none 0 0]] V fun e V' => e = .returned (.bool true) ∧ Q V V')) : Calls Tryz.prog 9 #[.agg #[.int .i64 k, .string sh, .int .i64 0, .int .i64 0, x4, x5, x6, x7, x8, x9, x10, x11, x12, x13, x14, x15, x16, .int .i64 0, .int .i64 la, .int .i64 lt, .slice ra rl rc, .int .i64 fm, .string nm]] w fun e V' => e = .returned (.bool false) ∧ Q w V' := by
  go_enter Tryz.func9, Tryz.ntmps9
  go_upto_region 1 with fail
  have Z1 := hid (cq_new w [.int .i64 k, .string sh, .int .i64 0, .int .i64 0, x4, x5, x6, x7, x8, x9, x10, x11, x12, x13, x14, x15, x16, .int .i64 0, .int .i64 la, .int .i64 lt, .slice ra rl rc, .int .i64 fm, .string nm])
  rw [show ([.int .i64 k, .string sh, .int .i64 0, .int .i64 0, x4, x5, x6, x7, x8, x9, x10, x11, x12, x13, x14, x15, x16, .int .i64 0, .int .i64 la, .int .i64 lt, .slice ra rl rc, .int .i64 fm, .string nm] : List Value).toArray = #[.int .i64 k, .string sh, .int .i64 0, .int .i64 0, x4, x5, x6, x7, x8, x9, x10, x11, x12, x13, x14, x15, x16, .int .i64 0, .int .i64 la, .int .i64 lt, .slice ra rl rc, .int .i64 fm, .string nm] from rfl] at Z1
  have QA : Hid (Q w (w.alloc (.cells #[.int .i64 k, .string sh, .int .i64 0, .int .i64 0, x4, x5, x6, x7, x8, x9, x10, x11, x12, x13, x14, x15, x16, .int .i64 0, .int .i64 la, .int .i64 lt, .slice ra rl rc, .int .i64 fm, .string nm] 35))) := hid ((Q.refl w).alloc _)
  generalize w.alloc (.cells #[.int .i64 k, .string sh, .int .i64 0, .int .i64 0, x4, x5, x6, x7, x8, x9, x10, x11, x12, x13, x14, x15, x16, .int .i64 0, .int .i64 la, .int .i64 lt, .slice ra rl rc, .int .i64 fm, .string nm] 35) = w1 at Z1 QA ⊢
  generalize w.heap.size = b0 at Z1 ⊢
  have d0 := Z1.out.c 0 _ rfl
  have d1 := Z1.out.c 1 _ rfl
  have d2 := Z1.out.c 2 _ rfl
  have d3 := Z1.out.c 3 _ rfl
  have d4 := Z1.out.c 4 _ rfl
  have d5 := Z1.out.c 5 _ rfl
  have d6 := Z1.out.c 6 _ rfl
  have d7 := Z1.out.c 7 _ rfl
  have d8 := Z1.out.c 8 _ rfl
  have d9 := Z1.out.c 9 _ rfl
  have d10 := Z1.out.c 10 _ rfl
  have d11 := Z1.out.c 11 _ rfl
  have d12 := Z1.out.c 12 _ rfl
  have d13 := Z1.out.c 13 _ rfl
  have d14 := Z1.out.c 14 _ rfl
  have d15 := Z1.out.c 15 _ rfl
  have d16 := Z1.out.c 16 _ rfl
  have d17 := Z1.out.c 17 _ rfl
  have d18 := Z1.out.c 18 _ rfl
  have d19 := Z1.out.c 19 _ rfl
  have d20 := Z1.out.c 20 _ rfl
  have d21 := Z1.out.c 21 _ rfl
  have d22 := Z1.out.c 22 _ rfl
  have m0 : (k != 1) = true := by simpa using g0
  have m1 : (k != 2) = true := by simpa using g1
  have m2 : (k != 3) = true := by simpa using g2
  go_wp2_with (first | (go_at_call 26; refine (HI.out _).mono ?_; rintro e9 v9 ⟨rfl, h9⟩; replace h9 := h9.symm; subst h9) | (go_at_call 27; refine (HC.out _ QA.out).mono ?_; rintro e9 v0 ⟨rfl, q9⟩; have Q0 : Hid (Q w v0) := hid (QA.out.trans q9); have Z10 := hid (Z1.out.on q9); clear q9; have c17 := Z10.out.c 17 _ rfl; have c18 := Z10.out.c 18 _ rfl; have c19 := Z10.out.c 19 _ rfl; have c20 := Z10.out.c 20 _ rfl; have c21 := Z10.out.c 21 _ rfl; have c22 := Z10.out.c 22 _ rfl))
  go_ret
  exact ⟨rfl, Q0.out⟩
set_option maxHeartbeats 8000000 in
theorem rm_b02 (k : Int) (sh : ByteArray) (x4 x5 x6 x7 x8 x9 x10 x11 x12 x13 x14 x15 x16 : Value) (ra : Option Addr) (rc : Nat) (lt : Int) (rl : Nat) (fm : Int) (nm : ByteArray) (w : World) (g0 : k ≠ 1) (g1 : k ≠ 2) (g2 : k ≠ 3) (g3 : lt ≠ 0) (HI : Hid (∀ V, Calls Tryz.prog 26 #[.string sh] V fun e V' => e = .returned (.bool true) ∧ V' = V)) (HC : Hid (∀ V, Q w V → Calls Tryz.prog 27 #[.agg #[x4, x5, x6, x7, x8, x9, x10, x11, x12, x13, x14, x15, x16], .agg #[.bool false, .int .i64 0, .int .i64 0, .string ⟨#[]⟩, .bool false, .int .i64 0, .int .i64 0, .int .i64 0, .string ⟨#[]⟩, .bool false, .int .i64 0, .slice none 0 0, .slice none 0 0]] V fun e V' => e = .returned (.bool true) ∧ Q V V')) : Calls Tryz.prog 9 #[.agg #[.int .i64 k, .string sh, .int .i64 0, .int .i64 0, x4, x5, x6, x7, x8, x9, x10, x11, x12, x13, x14, x15, x16, .int .i64 0, .int .i64 0, .int .i64 lt, .slice ra rl rc, .int .i64 fm, .string nm]] w fun e V' => e = .returned (.bool false) ∧ Q w V' := by
  go_enter Tryz.func9, Tryz.ntmps9
  go_upto_region 1 with fail
  have Z1 := hid (cq_new w [.int .i64 k, .string sh, .int .i64 0, .int .i64 0, x4, x5, x6, x7, x8, x9, x10, x11, x12, x13, x14, x15, x16, .int .i64 0, .int .i64 0, .int .i64 lt, .slice ra rl rc, .int .i64 fm, .string nm])
  rw [show ([.int .i64 k, .string sh, .int .i64 0, .int .i64 0, x4, x5, x6, x7, x8, x9, x10, x11, x12, x13, x14, x15, x16, .int .i64 0, .int .i64 0, .int .i64 lt, .slice ra rl rc, .int .i64 fm, .string nm] : List Value).toArray = #[.int .i64 k, .string sh, .int .i64 0, .int .i64 0, x4, x5, x6, x7, x8, x9, x10, x11, x12, x13, x14, x15, x16, .int .i64 0, .int .i64 0, .int .i64 lt, .slice ra rl rc, .int .i64 fm, .string nm] from rfl] at Z1
  have QA : Hid (Q w (w.alloc (.cells #[.int .i64 k, .string sh, .int .i64 0, .int .i64 0, x4, x5, x6, x7, x8, x9, x10, x11, x12, x13, x14, x15, x16, .int .i64 0, .int .i64 0, .int .i64 lt, .slice ra rl rc, .int .i64 fm, .string nm] 35))) := hid ((Q.refl w).alloc _)
  generalize w.alloc (.cells #[.int .i64 k, .string sh, .int .i64 0, .int .i64 0, x4, x5, x6, x7, x8, x9, x10, x11, x12, x13, x14, x15, x16, .int .i64 0, .int .i64 0, .int .i64 lt, .slice ra rl rc, .int .i64 fm, .string nm] 35) = w1 at Z1 QA ⊢
  generalize w.heap.size = b0 at Z1 ⊢
  have d0 := Z1.out.c 0 _ rfl
  have d1 := Z1.out.c 1 _ rfl
  have d2 := Z1.out.c 2 _ rfl
  have d3 := Z1.out.c 3 _ rfl
  have d4 := Z1.out.c 4 _ rfl
  have d5 := Z1.out.c 5 _ rfl
  have d6 := Z1.out.c 6 _ rfl
  have d7 := Z1.out.c 7 _ rfl
  have d8 := Z1.out.c 8 _ rfl
  have d9 := Z1.out.c 9 _ rfl
  have d10 := Z1.out.c 10 _ rfl
  have d11 := Z1.out.c 11 _ rfl
  have d12 := Z1.out.c 12 _ rfl
  have d13 := Z1.out.c 13 _ rfl
  have d14 := Z1.out.c 14 _ rfl
  have d15 := Z1.out.c 15 _ rfl
  have d16 := Z1.out.c 16 _ rfl
  have d17 := Z1.out.c 17 _ rfl
  have d18 := Z1.out.c 18 _ rfl
  have d19 := Z1.out.c 19 _ rfl
  have d20 := Z1.out.c 20 _ rfl
  have d21 := Z1.out.c 21 _ rfl
  have d22 := Z1.out.c 22 _ rfl
  have m0 : (k != 1) = true := by simpa using g0
  have m1 : (k != 2) = true := by simpa using g1
  have m2 : (k != 3) = true := by simpa using g2
  go_wp2_with (first | (go_at_call 26; refine (HI.out _).mono ?_; rintro e9 v9 ⟨rfl, h9⟩; replace h9 := h9.symm; subst h9) | (go_at_call 27; refine (HC.out _ QA.out).mono ?_; rintro e9 v0 ⟨rfl, q9⟩; have Q0 : Hid (Q w v0) := hid (QA.out.trans q9); have Z10 := hid (Z1.out.on q9); clear q9; have c17 := Z10.out.c 17 _ rfl; have c18 := Z10.out.c 18 _ rfl; have c19 := Z10.out.c 19 _ rfl; have c20 := Z10.out.c 20 _ rfl; have c21 := Z10.out.c 21 _ rfl; have c22 := Z10.out.c 22 _ rfl))
  go_ret
  exact ⟨rfl, Q0.out⟩
set_option maxHeartbeats 8000000 in
theorem rm_g7 (sh : ByteArray) (x4 x5 x6 x7 x8 x9 x10 x11 x12 x13 x14 x15 x16 : Value) (ra : Option Addr) (rc : Nat) (rl : Nat) (fm : Int) (w : World) (l : List R.Rg.Rc) (HNm : Hid (∀ V, Q w V → Calls Tryz.prog 31 #[.slice ra rl rc] V fun e V' => ∃ ao1 n1 c1, e = .returned (.slice ao1 n1 c1) ∧ R.Sl R.rc 4 V' (.slice ao1 n1 c1) l ∧ Q V V')) (HEq : Hid (∀ V ao1 n1 c1, Q w V → R.Sl R.rc 4 V (.slice ao1 n1 c1) l → Calls Tryz.prog 30 #[.slice ra rl rc, .slice ao1 n1 c1] V fun e V' => e = .returned (.bool true) ∧ Q V V')) (na : Int) (HAr : Hid (∀ V, Q w V → Calls Tryz.prog 32 #[.slice ra rl rc, .int .i64 257] V fun e V' => e = .returned (.int .i64 na) ∧ Q V V')) (gna : na ≤ 256) (mb : Bool) (HIn : Hid (∀ V, Q w V → Calls Tryz.prog 33 #[.slice ra rl rc, .int .i64 2199023255552] V fun e V' => e = .returned (.bool mb) ∧ Q V V')) (g0 : 0 ≤ fm) (g1 : fm ≤ 255) (g2 : (1 : Int) ≤ (rl : Int)) (g3 : (rl : Int) ≤ 256) (HI : Hid (∀ V, Calls Tryz.prog 26 #[.string sh] V fun e V' => e = .returned (.bool true) ∧ V' = V)) (HC : Hid (∀ V, Q w V → Calls Tryz.prog 27 #[.agg #[x4, x5, x6, x7, x8, x9, x10, x11, x12, x13, x14, x15, x16], .agg #[.bool false, .int .i64 0, .int .i64 0, .string ⟨#[]⟩, .bool false, .int .i64 0, .int .i64 0, .int .i64 0, .string ⟨#[]⟩, .bool false, .int .i64 0, .slice none 0 0, .slice none 0 0]] V fun e V' => e = .returned (.bool true) ∧ Q V V')) : Calls Tryz.prog 9 #[.agg #[.int .i64 4, .string sh, .int .i64 0, .int .i64 0, x4, x5, x6, x7, x8, x9, x10, x11, x12, x13, x14, x15, x16, .int .i64 0, .int .i64 0, .int .i64 0, .slice ra rl rc, .int .i64 fm, .string ⟨#[]⟩]] w fun e V' => e = .returned (.bool mb) ∧ Q w V' := by
  go_enter Tryz.func9, Tryz.ntmps9
  go_upto_region 1 with fail
  have Z1 := hid (cq_new w [.int .i64 4, .string sh, .int .i64 0, .int .i64 0, x4, x5, x6, x7, x8, x9, x10, x11, x12, x13, x14, x15, x16, .int .i64 0, .int .i64 0, .int .i64 0, .slice ra rl rc, .int .i64 fm, .string ⟨#[]⟩])
  rw [show ([.int .i64 4, .string sh, .int .i64 0, .int .i64 0, x4, x5, x6, x7, x8, x9, x10, x11, x12, x13, x14, x15, x16, .int .i64 0, .int .i64 0, .int .i64 0, .slice ra rl rc, .int .i64 fm, .string ⟨#[]⟩] : List Value).toArray = #[.int .i64 4, .string sh, .int .i64 0, .int .i64 0, x4, x5, x6, x7, x8, x9, x10, x11, x12, x13, x14, x15, x16, .int .i64 0, .int .i64 0, .int .i64 0, .slice ra rl rc, .int .i64 fm, .string ⟨#[]⟩] from rfl] at Z1
  have QA : Hid (Q w (w.alloc (.cells #[.int .i64 4, .string sh, .int .i64 0, .int .i64 0, x4, x5, x6, x7, x8, x9, x10, x11, x12, x13, x14, x15, x16, .int .i64 0, .int .i64 0, .int .i64 0, .slice ra rl rc, .int .i64 fm, .string ⟨#[]⟩] 35))) := hid ((Q.refl w).alloc _)
  generalize w.alloc (.cells #[.int .i64 4, .string sh, .int .i64 0, .int .i64 0, x4, x5, x6, x7, x8, x9, x10, x11, x12, x13, x14, x15, x16, .int .i64 0, .int .i64 0, .int .i64 0, .slice ra rl rc, .int .i64 fm, .string ⟨#[]⟩] 35) = w1 at Z1 QA ⊢
  generalize w.heap.size = b0 at Z1 ⊢
  have d0 := Z1.out.c 0 _ rfl
  have d1 := Z1.out.c 1 _ rfl
  have d2 := Z1.out.c 2 _ rfl
  have d3 := Z1.out.c 3 _ rfl
  have d4 := Z1.out.c 4 _ rfl
  have d5 := Z1.out.c 5 _ rfl
  have d6 := Z1.out.c 6 _ rfl
  have d7 := Z1.out.c 7 _ rfl
  have d8 := Z1.out.c 8 _ rfl
  have d9 := Z1.out.c 9 _ rfl
  have d10 := Z1.out.c 10 _ rfl
  have d11 := Z1.out.c 11 _ rfl
  have d12 := Z1.out.c 12 _ rfl
  have d13 := Z1.out.c 13 _ rfl
  have d14 := Z1.out.c 14 _ rfl
  have d15 := Z1.out.c 15 _ rfl
  have d16 := Z1.out.c 16 _ rfl
  have d17 := Z1.out.c 17 _ rfl
  have d18 := Z1.out.c 18 _ rfl
  have d19 := Z1.out.c 19 _ rfl
  have d20 := Z1.out.c 20 _ rfl
  have d21 := Z1.out.c 21 _ rfl
  have d22 := Z1.out.c 22 _ rfl
  go_upto_region 17 with (first | (go_at_call 26; refine (HI.out _).mono ?_; rintro e9 v9 ⟨rfl, h9⟩; replace h9 := h9.symm; subst h9) | (go_at_call 27; refine (HC.out _ QA.out).mono ?_; rintro e9 v0 ⟨rfl, q9⟩; have Q0 : Hid (Q w v0) := hid (QA.out.trans q9); have Z10 := hid (Z1.out.on q9); clear q9; have c17 := Z10.out.c 17 _ rfl; have c18 := Z10.out.c 18 _ rfl; have c19 := Z10.out.c 19 _ rfl; have c20 := Z10.out.c 20 _ rfl; have c21 := Z10.out.c 21 _ rfl; have c22 := Z10.out.c 22 _ rfl))
  have Q0D : Hid (Q w v0.drew) := hid (Q0.out.drew)
  have Z1D := hid (Z10.out.on (Q.refl _).drew)
  have t0_20 := Z1D.out.c 20 _ rfl
  have t0_21 := Z1D.out.c 21 _ rfl
  go_region_with (first | (go_at_call 31; refine (HNm.out _ Q0D.out).mono ?_; rintro e9 y1 ⟨ao1, n1, c1, rfl, hs1, q9⟩; have QY1 : Hid (Q w y1) := hid (Q0D.out.trans q9); have ZY1 := hid (Z1D.out.on q9); have HS1 := hid hs1; clear q9 hs1; have t1_20 := ZY1.out.c 20 _ rfl) | (go_at_call 30; refine (HEq.out _ _ _ _ QY1.out HS1.out).mono ?_; rintro e9 y2 ⟨rfl, q9⟩; have QY2 : Hid (Q w y2) := hid (QY1.out.trans q9); have ZY2 := hid (ZY1.out.on q9); clear q9; have t2_20 := ZY2.out.c 20 _ rfl) | (go_at_call 32; refine (HAr.out _ QY2.out).mono ?_; rintro e9 y3 ⟨rfl, q9⟩; have QY3 : Hid (Q w y3) := hid (QY2.out.trans q9); have ZY3 := hid (ZY2.out.on q9); clear q9; have t3_20 := ZY3.out.c 20 _ rfl) | (go_at_call 33; refine (HIn.out _ QY3.out).mono ?_; rintro e9 y4 ⟨rfl, q9⟩; have QY4 : Hid (Q w y4) := hid (QY3.out.trans q9); clear q9))
  all_goals go_wp2_with fail
  all_goals go_ret
  all_goals exact ⟨rfl, QY4.out⟩
end Go.Proofs.YtngnakdbhkjbjaaGreatDoor
