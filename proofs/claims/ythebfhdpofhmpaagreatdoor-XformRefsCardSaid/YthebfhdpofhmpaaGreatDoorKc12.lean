/- rewrite.move and the function that Lines hands to change, wa. -/
import Derived.Test.YthebfhdpofhmpaaGreatDoorKc10
import Derived.Test.YthebfhdpofhmpaaGreatDoorKc06
import Derived.Deep.CutBlock
import Derived.Deep.RegionHeld3
import Derived.Test.YthebfhdpofhmpaaGreatDoorKc02
import Derived.Deep.RegionWith
set_option linter.unusedVariables false
set_option linter.unusedSimpArgs false
set_option maxRecDepth 100000
set_option maxHeartbeats 8000000
namespace Go.Proofs.YthebfhdpofhmpaaGreatDoor
open Go.RowKit
def mvL (rows : Bool) (k a t : Int) (r : Rf) : Int := if rows = true then L.ix k a t r.2.1 else L.ix k a t r.2.2.1
def mvR (rows : Bool) (k a t : Int) (r : Rf) : Rf := if rows = true then (r.1, L.ix k a t r.2.1, r.2.2) else (r.1, r.2.1, L.ix k a t r.2.2.1, r.2.2.2)
def mvB (rows : Bool) (k a t : Int) (r : Rf) : Bool := decide (0 ≤ mvL rows k a t r ∧ mvL rows k a t r < 2199023255552)
structure Mvd (W W' : World) (g o : Nat) (r : Rf) : Prop where
  q : Qp (fun i => i = g) W W'
  pl : Pl W' g
  at_ : Ats rf W' g o r
  c : ∀ j, j < o ∨ o + 5 ≤ j → W'.cell? ⟨g, j, none⟩ = W.cell? ⟨g, j, none⟩
theorem rf5 {W : World} {g o : Nat} {r : Rf} (h : Ats rf W g o r) : W.cell? ⟨g, o, none⟩ = some (.string ⟨r.1.toArray⟩) ∧ W.cell? ⟨g, o + 1, none⟩ = some (.int .i64 r.2.1) ∧ W.cell? ⟨g, o + 2, none⟩ = some (.int .i64 r.2.2.1) ∧ W.cell? ⟨g, o + 3, none⟩ = some (.bool r.2.2.2.1) ∧ W.cell? ⟨g, o + 4, none⟩ = some (.bool r.2.2.2.2) :=
  ⟨h 0 _ rfl, h 1 _ rfl, h 2 _ rfl, h 3 _ rfl, h 4 _ rfl⟩
theorem ats5 {W : World} {g o : Nat} {r : Rf} (h0 : W.cell? ⟨g, o, none⟩ = some (.string ⟨r.1.toArray⟩)) (h1 : W.cell? ⟨g, o + 1, none⟩ = some (.int .i64 r.2.1)) (h2 : W.cell? ⟨g, o + 2, none⟩ = some (.int .i64 r.2.2.1)) (h3 : W.cell? ⟨g, o + 3, none⟩ = some (.bool r.2.2.2.1)) (h4 : W.cell? ⟨g, o + 4, none⟩ = some (.bool r.2.2.2.2)) : Ats rf W g o r := by
  intro j u hu
  match j, hu with
  | 0, hu => cases hu; exact h0
  | 1, hu => cases hu; exact h1
  | 2, hu => cases hu; exact h2
  | 3, hu => cases hu; exact h3
  | 4, hu => cases hu; exact h4
  | j + 5, hu => simp [rf] at hu
theorem Mvd.row {W W1 : World} {g o : Nat} {r : Rf} (hp : Pl W g) (ha : Ats rf W g o r) (q : Q W W1) (y : Int) : Mvd W (W1.setCell ⟨g, o + 1, none⟩ (.int .i64 y)) g o (r.1, y, r.2.2) := by
  have a1 := ha.on q
  obtain ⟨h0, h1, h2, h3, h4⟩ := rf5 a1
  have ce : ∀ j, j ≠ o + 1 → (W1.setCell ⟨g, o + 1, none⟩ (.int .i64 y)).cell? ⟨g, j, none⟩ = W1.cell? ⟨g, j, none⟩ := fun j hj => World.cell?_setCell_other _ _ _ _ (off_ne (by omega))
  exact ⟨(Qp.of q).set _ _ (.inl rfl), (hp.on q).set _ _ _, ats5 ((ce _ (by omega)).trans h0) (World.cell?_setCell_same _ _ _ h1) ((ce _ (by omega)).trans h2) ((ce _ (by omega)).trans h3) ((ce _ (by omega)).trans h4), fun j hj => (ce j (by omega)).trans (q.cell hp.lt)⟩
theorem Mvd.col {W W1 : World} {g o : Nat} {r : Rf} (hp : Pl W g) (ha : Ats rf W g o r) (q : Q W W1) (y : Int) : Mvd W (W1.setCell ⟨g, o + 2, none⟩ (.int .i64 y)) g o (r.1, r.2.1, y, r.2.2.2) := by
  have a1 := ha.on q
  obtain ⟨h0, h1, h2, h3, h4⟩ := rf5 a1
  have ce : ∀ j, j ≠ o + 2 → (W1.setCell ⟨g, o + 2, none⟩ (.int .i64 y)).cell? ⟨g, j, none⟩ = W1.cell? ⟨g, j, none⟩ := fun j hj => World.cell?_setCell_other _ _ _ _ (off_ne (by omega))
  exact ⟨(Qp.of q).set _ _ (.inl rfl), (hp.on q).set _ _ _, ats5 ((ce _ (by omega)).trans h0) ((ce _ (by omega)).trans h1) (World.cell?_setCell_same _ _ _ h2) ((ce _ (by omega)).trans h3) ((ce _ (by omega)).trans h4), fun j hj => (ce j (by omega)).trans (q.cell hp.lt)⟩
set_option maxHeartbeats 1000000 in
theorem move_row (g o : Nat) (r : Rf) (k a t : Int) (W : World) (hp : Pl W g) (ha : Ats rf W g o r) :
    Calls Tryz.prog 78 #[.pointer (some ⟨g, o, none⟩), .bool true, .agg #[.int .i64 k, .int .i64 a, .int .i64 t]] W fun e W' => e = .returned (.bool (mvB true k a t r)) ∧ Mvd W W' g o (mvR true k a t r) := by
  have HP := hid hp
  have HA := hid ha
  obtain ⟨h0, h1, h2, h3, h4⟩ := rf5 ha
  have hf := hp.frozen (o + 1)
  have hlt := hp.lt
  obtain ⟨x, hx⟩ : ∃ x, r.2.1 = x := ⟨_, rfl⟩
  obtain ⟨y, hy⟩ : ∃ y, L.ix k a t x = y := ⟨_, rfl⟩
  have HI := hid (fun W' => L.index_any k a t x W')
  rw [hy] at HI
  have HR : Hid (mvR true k a t r = (r.1, y, r.2.2)) := hid (by rw [← hy, ← hx]; rfl)
  have HB : Hid (mvB true k a t r = decide (0 ≤ y ∧ y < 2199023255552)) := hid (by rw [← hy, ← hx]; rfl)
  rw [hx] at h1
  clear hp ha hx hy
  rcases Int.lt_or_le y 0 with y0 | y0
  · have HB2 : Hid (decide (0 ≤ y ∧ y < 2199023255552) = false) := hid (by simp; omega)
    go_enter Tryz.func78, Tryz.ntmps78
    go_wp2_with fail
    go_region_with (go_at_call 56; refine (HI.out _).mono ?_; rintro e w4 ⟨rfl, q4⟩; have Q4 : Hid (Q W w4) := hid (Q.trans (by repeat (first | with_reducible exact Q.refl _ | with_reducible refine Q.alloc ?_ _ | with_reducible refine Q.drew ?_ | with_reducible refine Q.drewN ?_ _)) q4); clear q4; have c4 := (Q4.out.cell hlt).trans h1; have f4 := (Below.frozen Q4.out (p := ⟨g, o + 1, none⟩) hlt).trans hf)
    all_goals have c5 := World.cell?_setCell_same w4 ⟨g, o + 1, none⟩ (.int .i64 y) c4
    all_goals go_wp2_with fail
    all_goals go_ret
    all_goals exact ⟨ret_bool (by rw [HB.out, HB2.out]; try (simp; omega)), by rw [HR.out]; exact Mvd.row HP.out HA.out Q4.out y⟩
  · rcases Int.lt_or_le y 2199023255552 with y1 | y1
    · have HB2 : Hid (decide (0 ≤ y ∧ y < 2199023255552) = true) := hid (by simp; omega)
      go_enter Tryz.func78, Tryz.ntmps78
      go_wp2_with fail
      go_region_with (go_at_call 56; refine (HI.out _).mono ?_; rintro e w4 ⟨rfl, q4⟩; have Q4 : Hid (Q W w4) := hid (Q.trans (by repeat (first | with_reducible exact Q.refl _ | with_reducible refine Q.alloc ?_ _ | with_reducible refine Q.drew ?_ | with_reducible refine Q.drewN ?_ _)) q4); clear q4; have c4 := (Q4.out.cell hlt).trans h1; have f4 := (Below.frozen Q4.out (p := ⟨g, o + 1, none⟩) hlt).trans hf)
      all_goals have c5 := World.cell?_setCell_same w4 ⟨g, o + 1, none⟩ (.int .i64 y) c4
      all_goals go_wp2_with fail
      all_goals go_ret
      all_goals exact ⟨ret_bool (by rw [HB.out, HB2.out]; try (simp; omega)), by rw [HR.out]; exact Mvd.row HP.out HA.out Q4.out y⟩
    · have HB2 : Hid (decide (0 ≤ y ∧ y < 2199023255552) = false) := hid (by simp; omega)
      go_enter Tryz.func78, Tryz.ntmps78
      go_wp2_with fail
      go_region_with (go_at_call 56; refine (HI.out _).mono ?_; rintro e w4 ⟨rfl, q4⟩; have Q4 : Hid (Q W w4) := hid (Q.trans (by repeat (first | with_reducible exact Q.refl _ | with_reducible refine Q.alloc ?_ _ | with_reducible refine Q.drew ?_ | with_reducible refine Q.drewN ?_ _)) q4); clear q4; have c4 := (Q4.out.cell hlt).trans h1; have f4 := (Below.frozen Q4.out (p := ⟨g, o + 1, none⟩) hlt).trans hf)
      all_goals have c5 := World.cell?_setCell_same w4 ⟨g, o + 1, none⟩ (.int .i64 y) c4
      all_goals go_wp2_with fail
      all_goals go_ret
      all_goals exact ⟨ret_bool (by rw [HB.out, HB2.out]; try (simp; omega)), by rw [HR.out]; exact Mvd.row HP.out HA.out Q4.out y⟩
set_option maxHeartbeats 1000000 in
theorem move_col (g o : Nat) (r : Rf) (k a t : Int) (W : World) (hp : Pl W g) (ha : Ats rf W g o r) :
    Calls Tryz.prog 78 #[.pointer (some ⟨g, o, none⟩), .bool false, .agg #[.int .i64 k, .int .i64 a, .int .i64 t]] W fun e W' => e = .returned (.bool (mvB false k a t r)) ∧ Mvd W W' g o (mvR false k a t r) := by
  have HP := hid hp
  have HA := hid ha
  obtain ⟨h0, h1, h2, h3, h4⟩ := rf5 ha
  have hf := hp.frozen (o + 2)
  have hlt := hp.lt
  obtain ⟨x, hx⟩ : ∃ x, r.2.2.1 = x := ⟨_, rfl⟩
  obtain ⟨y, hy⟩ : ∃ y, L.ix k a t x = y := ⟨_, rfl⟩
  have HI := hid (fun W' => L.index_any k a t x W')
  rw [hy] at HI
  have HR : Hid (mvR false k a t r = (r.1, r.2.1, y, r.2.2.2)) := hid (by rw [← hy, ← hx]; rfl)
  have HB : Hid (mvB false k a t r = decide (0 ≤ y ∧ y < 2199023255552)) := hid (by rw [← hy, ← hx]; rfl)
  rw [hx] at h2
  clear hp ha hx hy
  rcases Int.lt_or_le y 0 with y0 | y0
  · have HB2 : Hid (decide (0 ≤ y ∧ y < 2199023255552) = false) := hid (by simp; omega)
    go_enter Tryz.func78, Tryz.ntmps78
    go_wp2_with fail
    go_region_with (go_at_call 56; refine (HI.out _).mono ?_; rintro e w4 ⟨rfl, q4⟩; have Q4 : Hid (Q W w4) := hid (Q.trans (by repeat (first | with_reducible exact Q.refl _ | with_reducible refine Q.alloc ?_ _ | with_reducible refine Q.drew ?_ | with_reducible refine Q.drewN ?_ _)) q4); clear q4; have c4 := (Q4.out.cell hlt).trans h2; have f4 := (Below.frozen Q4.out (p := ⟨g, o + 2, none⟩) hlt).trans hf)
    all_goals have c5 := World.cell?_setCell_same w4 ⟨g, o + 2, none⟩ (.int .i64 y) c4
    all_goals go_wp2_with fail
    all_goals go_ret
    all_goals exact ⟨ret_bool (by rw [HB.out, HB2.out]; try (simp; omega)), by rw [HR.out]; exact Mvd.col HP.out HA.out Q4.out y⟩
  · rcases Int.lt_or_le y 2199023255552 with y1 | y1
    · have HB2 : Hid (decide (0 ≤ y ∧ y < 2199023255552) = true) := hid (by simp; omega)
      go_enter Tryz.func78, Tryz.ntmps78
      go_wp2_with fail
      go_region_with (go_at_call 56; refine (HI.out _).mono ?_; rintro e w4 ⟨rfl, q4⟩; have Q4 : Hid (Q W w4) := hid (Q.trans (by repeat (first | with_reducible exact Q.refl _ | with_reducible refine Q.alloc ?_ _ | with_reducible refine Q.drew ?_ | with_reducible refine Q.drewN ?_ _)) q4); clear q4; have c4 := (Q4.out.cell hlt).trans h2; have f4 := (Below.frozen Q4.out (p := ⟨g, o + 2, none⟩) hlt).trans hf)
      all_goals have c5 := World.cell?_setCell_same w4 ⟨g, o + 2, none⟩ (.int .i64 y) c4
      all_goals go_wp2_with fail
      all_goals go_ret
      all_goals exact ⟨ret_bool (by rw [HB.out, HB2.out]; try (simp; omega)), by rw [HR.out]; exact Mvd.col HP.out HA.out Q4.out y⟩
    · have HB2 : Hid (decide (0 ≤ y ∧ y < 2199023255552) = false) := hid (by simp; omega)
      go_enter Tryz.func78, Tryz.ntmps78
      go_wp2_with fail
      go_region_with (go_at_call 56; refine (HI.out _).mono ?_; rintro e w4 ⟨rfl, q4⟩; have Q4 : Hid (Q W w4) := hid (Q.trans (by repeat (first | with_reducible exact Q.refl _ | with_reducible refine Q.alloc ?_ _ | with_reducible refine Q.drew ?_ | with_reducible refine Q.drewN ?_ _)) q4); clear q4; have c4 := (Q4.out.cell hlt).trans h2; have f4 := (Below.frozen Q4.out (p := ⟨g, o + 2, none⟩) hlt).trans hf)
      all_goals have c5 := World.cell?_setCell_same w4 ⟨g, o + 2, none⟩ (.int .i64 y) c4
      all_goals go_wp2_with fail
      all_goals go_ret
      all_goals exact ⟨ret_bool (by rw [HB.out, HB2.out]; try (simp; omega)), by rw [HR.out]; exact Mvd.col HP.out HA.out Q4.out y⟩
theorem move_any (g o : Nat) (r : Rf) (rows : Bool) (k a t : Int) (W : World) (hp : Pl W g) (ha : Ats rf W g o r) :
    Calls Tryz.prog 78 #[.pointer (some ⟨g, o, none⟩), .bool rows, .agg #[.int .i64 k, .int .i64 a, .int .i64 t]] W fun e W' => e = .returned (.bool (mvB rows k a t r)) ∧ Mvd W W' g o (mvR rows k a t r) := by
  cases rows
  · exact move_col g o r k a t W hp ha
  · exact move_row g o r k a t W hp ha
structure Lv (W : World) (pr pl : Nat) (rows : Bool) (k a t : Int) : Prop where
  r : W.cell? ⟨pr, 0, none⟩ = some (.bool rows)
  g0 : W.cell? ⟨pl, 0, none⟩ = some (.int .i64 k)
  g1 : W.cell? ⟨pl, 1, none⟩ = some (.int .i64 a)
  g2 : W.cell? ⟨pl, 2, none⟩ = some (.int .i64 t)
theorem Lv.blk {W W' : World} {pr pl : Nat} {rows : Bool} {k a t : Int} (h : Lv W pr pl rows k a t) (h1 : W'.heap[pr]? = W.heap[pr]?) (h2 : W'.heap[pl]? = W.heap[pl]?) : Lv W' pr pl rows k a t :=
  ⟨(World.cell?_of_block (a := ⟨pr, 0, none⟩) h1).trans h.r, (World.cell?_of_block (a := ⟨pl, 0, none⟩) h2).trans h.g0, (World.cell?_of_block (a := ⟨pl, 1, none⟩) h2).trans h.g1, (World.cell?_of_block (a := ⟨pl, 2, none⟩) h2).trans h.g2⟩
theorem Lv.lt {W : World} {pr pl : Nat} {rows : Bool} {k a t : Int} (h : Lv W pr pl rows k a t) : pr < W.heap.size ∧ pl < W.heap.size := ⟨World.block_lt_of_cell? W ⟨pr, 0, none⟩ h.r, World.block_lt_of_cell? W ⟨pl, 0, none⟩ h.g0⟩
set_option maxHeartbeats 1000000 in
theorem to_any (pr pl g o : Nat) (r : Rf) (rows : Bool) (k a t : Int) (W : World) (hv : Lv W pr pl rows k a t) (hp : Pl W g) (ha : Ats rf W g o r) :
    Calls Tryz.prog 77 #[.pointer (some ⟨g, o, none⟩), .pointer (some ⟨pr, 0, none⟩), .pointer (some ⟨pl, 0, none⟩)] W fun e W' => e = .returned (.bool (mvB rows k a t r)) ∧ Mvd W W' g o (mvR rows k a t r) := by
  have HM := hid (move_any g o r rows k a t W hp ha)
  obtain ⟨h0, h1, h2, h3⟩ := hv
  generalize mvB rows k a t r = bb at HM ⊢
  clear hp ha
  go_enter Tryz.func77, Tryz.ntmps77
  go_wp2_with (go_at_call 78; refine HM.out.mono ?_; rintro e w1 ⟨rfl, m1⟩; have M1 := hid m1; clear m1)
  go_ret
  exact ⟨rfl, M1.out⟩
end Go.Proofs.YthebfhdpofhmpaaGreatDoor
