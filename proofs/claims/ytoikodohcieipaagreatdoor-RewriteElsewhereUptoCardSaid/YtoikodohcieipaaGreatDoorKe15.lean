/- rewrite.move and the function . -/
import Derived.Test.YtoikodohcieipaaGreatDoorKe08
import Derived.Test.YtoikodohcieipaaGreatDoorKe02
import Derived.Deep.RegionWith
import Derived.Deep.CutBlock
import Derived.Test.YtoikodohcieipaaGreatDoorKe12
import Derived.Test.YtoikodohcieipaaGreatDoorKe14
import Derived.Test.YtoikodohcieipaaGreatDoorKe10
import Derived.Test.YtoikodohcieipaaGreatDoorKe04
set_option linter.unusedVariables false
set_option linter.unusedSimpArgs false
set_option maxRecDepth 100000
set_option maxHeartbeats 8000000
namespace Go.Proofs.YtoikodohcieipaaGreatDoor
open Go.RowKit
def mvL (rows : Bool) (k a t : Int) (r : Rf) : Int := if rows = true then L.ix k a t r.2.1 else L.ix k a t r.2.2.1
def mvR (rows : Bool) (k a t : Int) (r : Rf) : Rf := if rows = true then (r.1, L.ix k a t r.2.1, r.2.2) else (r.1, r.2.1, L.ix k a t r.2.2.1, r.2.2.2)
def mvB (rows : Bool) (k a t : Int) (r : Rf) : Bool := decide (0 ≤ mvL rows k a t r ∧ mvL rows k a t r < 2199023255552)
structure Mvd (W W' : World) (g o : Nat) (r : Rf) : Prop where
  q : Qp (fun i => i = g) W W'
  pl : Pl W' g
  at_ : Ats rf W' g o r
  c : ∀ j, j < o ∨ o + 5 ≤ j → W'.cell? ⟨g, j, none⟩ = W.cell? ⟨g, j, none⟩
theorem rf5 {W : World} {g o : Nat} {r : Rf} (h : Ats rf W g o r) : W.cell? ⟨g, o, none⟩ = some (.string ⟨r.1.toArray⟩) ∧ W.cell? ⟨g, o + 1, none⟩ = some (.int .i64 r.2.1) ∧ W.cell? ⟨g, o + 2, none⟩ = some (.int .i64 r.2.2.1) ∧ W.cell? ⟨g, o + 3, none⟩ = some (.bool r.2.2.2.1) ∧ W.cell? ⟨g, o + 4, none⟩ = some (.bool r.2.2.2.2) :=
  ⟨h 0 _ rfl, h 1 _ rfl, h 2 _ rfl, h 3 _ rfl, h 4 _ rfl⟩
theorem ats5 {W : World} {g o : Nat} {r : Rf} (h0 : W.cell? ⟨g, o, none⟩ = some (.string ⟨r.1.toArray⟩)) (h1 : W.cell? ⟨g, o + 1, none⟩ = some (.int .i64 r.2.1)) (h2 : W.cell? ⟨g, o + 2, none⟩ = some (.int .i64 r.2.2.1)) (h3 : W.cell? ⟨g, o + 3, none⟩ = some (.bool r.2.2.2.1)) (h4 : W.cell? ⟨g, o + 4, none⟩ = some (.bool r.2.2.2.2)) : Ats rf W g o r := by
  intro j u hu
  match j, hu with
  | 0, hu => cases hu; exact h0
  | 1, hu => cases hu; exact h1
  | 2, hu => cases hu; exact h2
  | 3, hu => cases hu; exact h3
  | 4, hu => cases hu; exact h4
  | j + 5, hu => simp [rf] at hu
theorem Mvd.row {W W1 : World} {g o : Nat} {r : Rf} (hp : Pl W g) (ha : Ats rf W g o r) (q : Q W W1) (y : Int) : Mvd W (W1.setCell ⟨g, o + 1, none⟩ (.int .i64 y)) g o (r.1, y, r.2.2) := by
  have a1 := ha.on q
  obtain ⟨h0, h1, h2, h3, h4⟩ := rf5 a1
  have ce : ∀ j, j ≠ o + 1 → (W1.setCell ⟨g, o + 1, none⟩ (.int .i64 y)).cell? ⟨g, j, none⟩ = W1.cell? ⟨g, j, none⟩ := fun j hj => World.cell?_setCell_other _ _ _ _ (off_ne (by omega))
  exact ⟨(Qp.of q).set _ _ (.inl rfl), (hp.on q).set _ _ _, ats5 ((ce _ (by omega)).trans h0) (World.cell?_setCell_same _ _ _ h1) ((ce _ (by omega)).trans h2) ((ce _ (by omega)).trans h3) ((ce _ (by omega)).trans h4), fun j hj => (ce j (by omega)).trans (q.cell hp.lt)⟩
theorem Mvd.col {W W1 : World} {g o : Nat} {r : Rf} (hp : Pl W g) (ha : Ats rf W g o r) (q : Q W W1) (y : Int) : Mvd W (W1.setCell ⟨g, o + 2, none⟩ (.int .i64 y)) g o (r.1, r.2.1, y, r.2.2.2) := by
  have a1 := ha.on q
  obtain ⟨h0, h1, h2, h3, h4⟩ := rf5 a1
  have ce : ∀ j, j ≠ o + 2 → (W1.setCell ⟨g, o + 2, none⟩ (.int .i64 y)).cell? ⟨g, j, none⟩ = W1.cell? ⟨g, j, none⟩ := fun j hj => World.cell?_setCell_other _ _ _ _ (off_ne (by omega))
  exact ⟨(Qp.of q).set _ _ (.inl rfl), (hp.on q).set _ _ _, ats5 ((ce _ (by omega)).trans h0) ((ce _ (by omega)).trans h1) (World.cell?_setCell_same _ _ _ h2) ((ce _ (by omega)).trans h3) ((ce _ (by omega)).trans h4), fun j hj => (ce j (by omega)).trans (q.cell hp.lt)⟩
set_option maxHeartbeats 1000000 in
theorem move_row (g o : Nat) (r : Rf) (k a t : Int) (W : World) (hp : Pl W g) (ha : Ats rf W g o r) :
    Calls Tryz.prog 28 #[.pointer (some ⟨g, o, none⟩), .bool true, .agg #[.int .i64 k, .int .i64 a, .int .i64 t]] W fun e W' => e = .returned (.bool (mvB true k a t r)) ∧ Mvd W W' g o (mvR true k a t r) := by
  have HP := hid hp
  have HA := hid ha
  obtain ⟨h0, h1, h2, h3, h4⟩ := rf5 ha
  have hf := hp.frozen (o + 1)
  have hlt := hp.lt
  obtain ⟨x, hx⟩ : ∃ x, r.2.1 = x := ⟨_, rfl⟩
  obtain ⟨y, hy⟩ : ∃ y, L.ix k a t x = y := ⟨_, rfl⟩
  have HI := hid (fun W' => L.index_any k a t x W')
  rw [hy] at HI
  have HR : Hid (mvR true k a t r = (r.1, y, r.2.2)) := hid (by rw [← hy, ← hx]; rfl)
  have HB : Hid (mvB true k a t r = decide (0 ≤ y ∧ y < 2199023255552)) := hid (by rw [← hy, ← hx]; rfl)
  rw [hx] at h1
  clear hp ha hx hy
  rcases Int.lt_or_le y 0 with y0 | y0
  · have HB2 : Hid (decide (0 ≤ y ∧ y < 2199023255552) = false) := hid (by simp; omega)
    go_enter Tryz.func28, Tryz.ntmps28
    go_wp2_with fail
    go_region_with (go_at_call 53; refine (HI.out _).mono ?_; rintro e w4 ⟨rfl, q4⟩; have Q4 : Hid (Q W w4) := hid (Q.trans (by repeat (first | with_reducible exact Q.refl _ | with_reducible refine Q.alloc ?_ _ | with_reducible refine Q.drew ?_ | with_reducible refine Q.drewN ?_ _)) q4); clear q4; have c4 := (Q4.out.cell hlt).trans h1; have f4 := (Below.frozen Q4.out (p := ⟨g, o + 1, none⟩) hlt).trans hf)
    all_goals have c5 := World.cell?_setCell_same w4 ⟨g, o + 1, none⟩ (.int .i64 y) c4
    all_goals go_wp2_with fail
    all_goals go_ret
    all_goals exact ⟨ret_bool (by rw [HB.out, HB2.out]; try (simp; omega)), by rw [HR.out]; exact Mvd.row HP.out HA.out Q4.out y⟩
  · rcases Int.lt_or_le y 2199023255552 with y1 | y1
    · have HB2 : Hid (decide (0 ≤ y ∧ y < 2199023255552) = true) := hid (by simp; omega)
      go_enter Tryz.func28, Tryz.ntmps28
      go_wp2_with fail
      go_region_with (go_at_call 53; refine (HI.out _).mono ?_; rintro e w4 ⟨rfl, q4⟩; have Q4 : Hid (Q W w4) := hid (Q.trans (by repeat (first | with_reducible exact Q.refl _ | with_reducible refine Q.alloc ?_ _ | with_reducible refine Q.drew ?_ | with_reducible refine Q.drewN ?_ _)) q4); clear q4; have c4 := (Q4.out.cell hlt).trans h1; have f4 := (Below.frozen Q4.out (p := ⟨g, o + 1, none⟩) hlt).trans hf)
      all_goals have c5 := World.cell?_setCell_same w4 ⟨g, o + 1, none⟩ (.int .i64 y) c4
      all_goals go_wp2_with fail
      all_goals go_ret
      all_goals exact ⟨ret_bool (by rw [HB.out, HB2.out]; try (simp; omega)), by rw [HR.out]; exact Mvd.row HP.out HA.out Q4.out y⟩
    · have HB2 : Hid (decide (0 ≤ y ∧ y < 2199023255552) = false) := hid (by simp; omega)
      go_enter Tryz.func28, Tryz.ntmps28
      go_wp2_with fail
      go_region_with (go_at_call 53; refine (HI.out _).mono ?_; rintro e w4 ⟨rfl, q4⟩; have Q4 : Hid (Q W w4) := hid (Q.trans (by repeat (first | with_reducible exact Q.refl _ | with_reducible refine Q.alloc ?_ _ | with_reducible refine Q.drew ?_ | with_reducible refine Q.drewN ?_ _)) q4); clear q4; have c4 := (Q4.out.cell hlt).trans h1; have f4 := (Below.frozen Q4.out (p := ⟨g, o + 1, none⟩) hlt).trans hf)
      all_goals have c5 := World.cell?_setCell_same w4 ⟨g, o + 1, none⟩ (.int .i64 y) c4
      all_goals go_wp2_with fail
      all_goals go_ret
      all_goals exact ⟨ret_bool (by rw [HB.out, HB2.out]; try (simp; omega)), by rw [HR.out]; exact Mvd.row HP.out HA.out Q4.out y⟩
set_option maxHeartbeats 1000000 in
theorem move_col (g o : Nat) (r : Rf) (k a t : Int) (W : World) (hp : Pl W g) (ha : Ats rf W g o r) :
    Calls Tryz.prog 28 #[.pointer (some ⟨g, o, none⟩), .bool false, .agg #[.int .i64 k, .int .i64 a, .int .i64 t]] W fun e W' => e = .returned (.bool (mvB false k a t r)) ∧ Mvd W W' g o (mvR false k a t r) := by
  have HP := hid hp
  have HA := hid ha
  obtain ⟨h0, h1, h2, h3, h4⟩ := rf5 ha
  have hf := hp.frozen (o + 2)
  have hlt := hp.lt
  obtain ⟨x, hx⟩ : ∃ x, r.2.2.1 = x := ⟨_, rfl⟩
  obtain ⟨y, hy⟩ : ∃ y, L.ix k a t x = y := ⟨_, rfl⟩
  have HI := hid (fun W' => L.index_any k a t x W')
  rw [hy] at HI
  have HR : Hid (mvR false k a t r = (r.1, r.2.1, y, r.2.2.2)) := hid (by rw [← hy, ← hx]; rfl)
  have HB : Hid (mvB false k a t r = decide (0 ≤ y ∧ y < 2199023255552)) := hid (by rw [← hy, ← hx]; rfl)
  rw [hx] at h2
  clear hp ha hx hy
  rcases Int.lt_or_le y 0 with y0 | y0
  · have HB2 : Hid (decide (0 ≤ y ∧ y < 2199023255552) = false) := hid (by simp; omega)
    go_enter Tryz.func28, Tryz.ntmps28
    go_wp2_with fail
    go_region_with (go_at_call 53; refine (HI.out _).mono ?_; rintro e w4 ⟨rfl, q4⟩; have Q4 : Hid (Q W w4) := hid (Q.trans (by repeat (first | with_reducible exact Q.refl _ | with_reducible refine Q.alloc ?_ _ | with_reducible refine Q.drew ?_ | with_reducible refine Q.drewN ?_ _)) q4); clear q4; have c4 := (Q4.out.cell hlt).trans h2; have f4 := (Below.frozen Q4.out (p := ⟨g, o + 2, none⟩) hlt).trans hf)
    all_goals have c5 := World.cell?_setCell_same w4 ⟨g, o + 2, none⟩ (.int .i64 y) c4
    all_goals go_wp2_with fail
    all_goals go_ret
    all_goals exact ⟨ret_bool (by rw [HB.out, HB2.out]; try (simp; omega)), by rw [HR.out]; exact Mvd.col HP.out HA.out Q4.out y⟩
  · rcases Int.lt_or_le y 2199023255552 with y1 | y1
    · have HB2 : Hid (decide (0 ≤ y ∧ y < 2199023255552) = true) := hid (by simp; omega)
      go_enter Tryz.func28, Tryz.ntmps28
      go_wp2_with fail
      go_region_with (go_at_call 53; refine (HI.out _).mono ?_; rintro e w4 ⟨rfl, q4⟩; have Q4 : Hid (Q W w4) := hid (Q.trans (by repeat (first | with_reducible exact Q.refl _ | with_reducible refine Q.alloc ?_ _ | with_reducible refine Q.drew ?_ | with_reducible refine Q.drewN ?_ _)) q4); clear q4; have c4 := (Q4.out.cell hlt).trans h2; have f4 := (Below.frozen Q4.out (p := ⟨g, o + 2, none⟩) hlt).trans hf)
      all_goals have c5 := World.cell?_setCell_same w4 ⟨g, o + 2, none⟩ (.int .i64 y) c4
      all_goals go_wp2_with fail
      all_goals go_ret
      all_goals exact ⟨ret_bool (by rw [HB.out, HB2.out]; try (simp; omega)), by rw [HR.out]; exact Mvd.col HP.out HA.out Q4.out y⟩
    · have HB2 : Hid (decide (0 ≤ y ∧ y < 2199023255552) = false) := hid (by simp; omega)
      go_enter Tryz.func28, Tryz.ntmps28
      go_wp2_with fail
      go_region_with (go_at_call 53; refine (HI.out _).mono ?_; rintro e w4 ⟨rfl, q4⟩; have Q4 : Hid (Q W w4) := hid (Q.trans (by repeat (first | with_reducible exact Q.refl _ | with_reducible refine Q.alloc ?_ _ | with_reducible refine Q.drew ?_ | with_reducible refine Q.drewN ?_ _)) q4); clear q4; have c4 := (Q4.out.cell hlt).trans h2; have f4 := (Below.frozen Q4.out (p := ⟨g, o + 2, none⟩) hlt).trans hf)
      all_goals have c5 := World.cell?_setCell_same w4 ⟨g, o + 2, none⟩ (.int .i64 y) c4
      all_goals go_wp2_with fail
      all_goals go_ret
      all_goals exact ⟨ret_bool (by rw [HB.out, HB2.out]; try (simp; omega)), by rw [HR.out]; exact Mvd.col HP.out HA.out Q4.out y⟩
theorem move_any (g o : Nat) (r : Rf) (rows : Bool) (k a t : Int) (W : World) (hp : Pl W g) (ha : Ats rf W g o r) :
    Calls Tryz.prog 28 #[.pointer (some ⟨g, o, none⟩), .bool rows, .agg #[.int .i64 k, .int .i64 a, .int .i64 t]] W fun e W' => e = .returned (.bool (mvB rows k a t r)) ∧ Mvd W W' g o (mvR rows k a t r) := by
  cases rows
  · exact move_col g o r k a t W hp ha
  · exact move_row g o r k a t W hp ha
structure Lv (W : World) (pr pl : Nat) (rows : Bool) (k a t : Int) : Prop where
  r : W.cell? ⟨pr, 0, none⟩ = some (.bool rows)
  g0 : W.cell? ⟨pl, 0, none⟩ = some (.int .i64 k)
  g1 : W.cell? ⟨pl, 1, none⟩ = some (.int .i64 a)
  g2 : W.cell? ⟨pl, 2, none⟩ = some (.int .i64 t)
theorem Lv.blk {W W' : World} {pr pl : Nat} {rows : Bool} {k a t : Int} (h : Lv W pr pl rows k a t) (h1 : W'.heap[pr]? = W.heap[pr]?) (h2 : W'.heap[pl]? = W.heap[pl]?) : Lv W' pr pl rows k a t :=
  ⟨(World.cell?_of_block (a := ⟨pr, 0, none⟩) h1).trans h.r, (World.cell?_of_block (a := ⟨pl, 0, none⟩) h2).trans h.g0, (World.cell?_of_block (a := ⟨pl, 1, none⟩) h2).trans h.g1, (World.cell?_of_block (a := ⟨pl, 2, none⟩) h2).trans h.g2⟩
theorem Lv.lt {W : World} {pr pl : Nat} {rows : Bool} {k a t : Int} (h : Lv W pr pl rows k a t) : pr < W.heap.size ∧ pl < W.heap.size := ⟨World.block_lt_of_cell? W ⟨pr, 0, none⟩ h.r, World.block_lt_of_cell? W ⟨pl, 0, none⟩ h.g0⟩
set_option maxHeartbeats 1000000 in
theorem to_any (pr pl g o : Nat) (r : Rf) (rows : Bool) (k a t : Int) (W : World) (hv : Lv W pr pl rows k a t) (hp : Pl W g) (ha : Ats rf W g o r) :
    Calls Tryz.prog 27 #[.pointer (some ⟨g, o, none⟩), .pointer (some ⟨pr, 0, none⟩), .pointer (some ⟨pl, 0, none⟩)] W fun e W' => e = .returned (.bool (mvB rows k a t r)) ∧ Mvd W W' g o (mvR rows k a t r) := by
  have HM := hid (move_any g o r rows k a t W hp ha)
  obtain ⟨h0, h1, h2, h3⟩ := hv
  generalize mvB rows k a t r = bb at HM ⊢
  clear hp ha
  go_enter Tryz.func27, Tryz.ntmps27
  go_wp2_with (go_at_call 28; refine HM.out.mono ?_; rintro e w1 ⟨rfl, m1⟩; have M1 := hid m1; clear m1)
  go_ret
  exact ⟨rfl, M1.out⟩
end Go.Proofs.YtoikodohcieipaaGreatDoor
namespace Go.Proofs.YtoikodohcieipaaGreatDoor
open Go.RowKit
set_option linter.unusedVariables false
set_option linter.unusedSimpArgs false
theorem tw_mem {p : UInt8 → Bool} {x : UInt8} : ∀ {l : List UInt8}, x ∈ l.takeWhile p → p x = true
  | [], h => by simp at h
  | c :: r, h => by
    rw [List.takeWhile_cons] at h
    split at h
    · rename_i hc
      rcases List.mem_cons.1 h with rfl | h'
      · exact hc
      · exact tw_mem h'
    · simp at h
theorem hp_one' (a c : UInt8) (r : List UInt8) : Lib.hasPrefix (a :: r) [c] = (c == a) := by
  unfold Lib.hasPrefix
  simp [List.isPrefixOf]
theorem rword_join (s : ByteArray) (i : Nat) (w : World) (hs : s.size ≤ 100000) (hi : i < s.size) (hj : joinB s[i] = true) (hF : wordF (s.data.toList.drop i) = joinW (s.data.toList.drop i)) :
    Calls Tryz.prog 64 #[.string s, .int .i64 (i : Int)] w fun e w' => e = .returned (rwv (wordF (s.data.toList.drop i)) i) ∧ Q w w' := by
  obtain ⟨M, T, hr, hM⟩ := run_at s i hi hj
  have hz := hr.zT
  have hlo := hr.lo
  have hle := hr.le
  have hT0 : 0 < T.size := by omega
  have hlen : (s.data.toList.drop i |>.takeWhile joinB).length = M - i := by omega
  have hJ : joinB T[0] = true := tw_mem (l := s.data.toList.drop i) (by rw [← hr.lT]; exact get_mem T 0 hT0)
  have h45 : T[0] ≠ 45 := fun e => by rw [e] at hJ; exact absurd hJ (by decide)
  have HP := fun W => V.rparse_any T W (by omega)
  have HR := fun W => rref_any T W (by omega)
  have HL := fun W => letters_any T W hT0 (by omega)
  have et := Lib.toList_data T
  have hpos := pk_pos (no_minus T hT0 h45)
  have hW : ∀ k, kindJ T.data.toList (Lib.hasPrefix (s.data.toList.drop M) [40]) = k → wordF (s.data.toList.drop i) = if k = 0 then bad else (k, T.data.toList, M - i) := by
    intro k hk
    rw [hF]
    unfold joinW
    rw [← hr.lT, hr.beh, hk, hr.lT, hlen]
  unfold V.RP at HP
  generalize V.pk (V.parseO T.data.toList) = pn at HP hpos
  cases hp : V.pf (V.parseO T.data.toList)
  · rw [hp] at HP
    cases hf : refF T.data.toList
    · rw [hf] at HR
      have hk := kind_rest (c := Lib.hasPrefix (s.data.toList.drop M) [40]) hp hf
      cases ha : allL T.data.toList
      · rw [ha] at HL
        refine rword_n0 s T i M w hs hi hr hj pn _ (hid HP) (hid HR) (hid HL) (hid ?_)
        rw [hW 0 ?_]; rfl
        rw [hk, if_neg]
        rintro (h | h | ⟨_, h⟩)
        · rw [h] at ha; exact absurd ha (by decide)
        · rw [h] at ha; exact absurd ha (by decide)
        · rw [ha] at h; cases h
      · rw [ha] at HL
        by_cases ht : T.data.toList = tru
        · refine rword_t s T i M w hs hi hr hj pn _ (hid HP) (hid HR) (hid HL) (by rw [et, ht]; rfl) (hid ?_)
          rw [hW 4 (by rw [hk, if_pos (Or.inl ht)])]; rfl
        · have e1 : (T.toList == [84, 82, 85, 69]) = false := by rw [et, beq_eq_false_iff_ne]; exact ht
          by_cases hf2 : T.data.toList = fls
          · refine rword_f s T i M w hs hi hr hj pn _ (hid HP) (hid HR) (hid HL) e1 (by rw [et, hf2]; rfl) (hid ?_)
            rw [hW 4 (by rw [hk, if_pos (Or.inr (Or.inl hf2))])]; rfl
          · have e2 : (T.toList == [70, 65, 76, 83, 69]) = false := by rw [et, beq_eq_false_iff_ne]; exact hf2
            by_cases hMs : M < s.size
            · by_cases h40 : s[M] = 40
              · have hc : Lib.hasPrefix (s.data.toList.drop M) [40] = true := by rw [drop_cons s M hMs, hp_one', h40]; rfl
                refine rword_c s T i M w hs hi hr hj pn _ (hid HP) (hid HR) (hid HL) e1 e2 (hid hMs) (hid fun _ => h40) (hid ?_)
                rw [hW 4 (by rw [hk, if_pos (Or.inr (Or.inr ⟨hc, ha⟩))])]; rfl
              · have hc : Lib.hasPrefix (s.data.toList.drop M) [40] = false := by rw [drop_cons s M hMs, hp_one', beq_eq_false_iff_ne]; exact fun e => h40 e.symm
                refine rword_b s T i M w hs hi hr hj pn _ (hid HP) (hid HR) (hid HL) e1 e2 (hid fun _ => h40) (hid ?_)
                rw [hW 0 ?_]; rfl
                rw [hk, if_neg]
                rintro (h | h | ⟨h, _⟩)
                · exact ht h
                · exact hf2 h
                · rw [hc] at h; cases h
            · have hc : Lib.hasPrefix (s.data.toList.drop M) [40] = false := by rw [List.drop_of_length_le (by simp; omega)]; rfl
              refine rword_b s T i M w hs hi hr hj pn _ (hid HP) (hid HR) (hid HL) e1 e2 (hid fun h => absurd h hMs) (hid ?_)
              rw [hW 0 ?_]; rfl
              rw [hk, if_neg]
              rintro (h | h | ⟨h, _⟩)
              · exact ht h
              · exact hf2 h
              · rw [hc] at h; cases h
    · rw [hf] at HR
      refine rword_ref s T i M w hs hi hr hj pn _ (hid HP) (hid HR) (hid ?_)
      rw [hW 3 (kind_ref hp hf)]; rfl
  · rw [hp] at HP
    refine rword_num s T i M w hs hi hr hj hT0 pn (hid HP) hpos (byte_ne (n := 45) (by omega) h45) (hid ?_)
    rw [hW 1 (kind_num hp)]; rfl
theorem rword_any (s : ByteArray) (i : Nat) (w : World) (hs : s.size ≤ 100000) (hi : i < s.size) :
    Calls Tryz.prog 64 #[.string s, .int .i64 (i : Int)] w fun e w' => e = .returned (rwv (wordF (s.data.toList.drop i)) i) ∧ Q w w' := by
  have hh : (s.data.toList.drop i).headD 0 = s[i] := by rw [drop_cons s i hi]; rfl
  by_cases h34 : s[i] = 34
  · refine rword_quo s i w hs hi h34 _ (hid rfl) (hid ?_)
    unfold wordF
    rw [hh, if_pos h34]
    unfold quoW
    rw [List.drop_drop]
  · by_cases h35 : s[i] = 35
    · refine rword_err s i w hs hi h35 (hid ?_)
      unfold wordF
      rw [hh, if_neg h34, if_pos h35]
      rfl
    · cases hj : joinB s[i]
      · refine rword_sig s i w hs hi h34 h35 hj (hid ?_)
        unfold wordF
        rw [hh, if_neg h34, if_neg h35, if_neg (by simp [hj]), sgR_eq]
        rfl
      · refine rword_join s i w hs hi hj ?_
        unfold wordF
        rw [hh, if_neg h34, if_neg h35, if_pos hj]
end Go.Proofs.YtoikodohcieipaaGreatDoor
namespace Go.Proofs.YtoikodohcieipaaGreatDoor
open Go.RowKit
set_option linter.unusedVariables false
set_option linter.unusedSimpArgs false
theorem info32 : (Tryz.prog.info? 78).map (fun i => (i.zero, i.size, i.bytes)) = some (some (.agg #[.int .i64 0, .string ⟨#[]⟩, .int .i64 0]), 3, 32) := by kernel_rfl
set_option maxHeartbeats 4000000 in
theorem rscan_any (s : ByteArray) (w : World) (hs : s.size ≤ 100000) :
    Calls Tryz.prog 40 #[.string s] w fun e w' => ScanRet (scanL s.data.toList) e w' ∧ Q w w' := by
  by_cases hlong : 1000 < s.size
  · have HR := hid (scanL_long (l := s.data.toList) (by simpa using hlong))
    generalize scanL s.data.toList = o at HR ⊢
    go_enter Tryz.func40, Tryz.ntmps40
    go_wp2
    go_ret3
    exact ⟨ScanRet.no HR.out rfl, Q.refl _⟩
  · obtain ⟨i0, hi⟩ := inf_of info32
    have HI := hid hi
    have HY : Hid (∀ L n, scanF s.data.toList 0 [] = (some L, n) → scanL s.data.toList = (some (L ++ [⟨7, [], s.size⟩]), 0)) := hid (fun L n h => by rw [scanL_yes (by simpa using hlong) h]; simp)
    have HN : Hid (∀ n, scanF s.data.toList 0 [] = (none, n) → scanL s.data.toList = (none, n)) := hid (fun n h => scanL_no (by simpa using hlong) h)
    obtain ⟨R, hR⟩ : ∃ R, scanF s.data.toList 0 [] = R := ⟨_, rfl⟩
    rw [hR] at HY HN
    have HR := hid hR
    generalize scanL s.data.toList = o at HY HN ⊢
    clear hR hi
    go_enter Tryz.func40, Tryz.ntmps40
    go_wp2
    go_loopw [5, 6] (fun v x W => ∃ (k : Nat) (L : List Wd), k ≤ s.size ∧ x = .int .i64 (k : Int) ∧ L.length ≤ k ∧ Own wd 78 3 w.heap.size W v L ∧ Q w W ∧ Hid (scanF (s.data.toList.drop k) k L = R)) (fun _ x _ => s.size - (intOf x).toNat)
    case atStart => exact ⟨0, [], Nat.zero_le _, rfl, by simp, own_nil w, Q.refl _, HR⟩
    case round =>
      obtain ⟨k, L, hk, rfl, hL, hO, hQ, hr⟩ := hrel
      have HO := hid hO
      have HQ := hid hQ
      clear hO hQ
      by_cases hlt : k < s.size
      · have hr2 := hr.out
        by_cases hb : s[k] = 32
        · have e32 : ((s[k].toNat : Int) == 32) = true := eq_byte (n := 32) (by omega) hb
          rw [drop_cons s k hlt, hb, scanF_blank] at hr2
          have HR2 := hid hr2
          clear hr hr2
          go_wp2_with fail
          go_roundw
          case rel => exact ⟨k + 1, L, by omega, by go_num, by omega, HO.out, HQ.out, HR2⟩
          case measure => simp [intOf]; omega
        · have e32 : ((s[k].toNat : Int) == 32) = false := byte_ne (n := 32) (by omega) hb
          have HF := hid (fun W => rword_any s k W hs hlt)
          have hne := drop_head s k hlt
          have h32 : (s.data.toList.drop k).headD 0 ≠ 32 := by rw [drop_cons s k hlt]; simpa using hb
          have hwl := word_len (s.data.toList.drop k)
          rw [List.length_drop, len_data] at hwl
          have hbad := fun h => scanF_bad k L hne h32 h
          have hword := fun h => scanF_word k L hne h32 h
          rw [hr2] at hbad hword
          generalize wordF (s.data.toList.drop k) = q at HF hbad hword hwl
          obtain ⟨a, l, n⟩ := q
          simp only at hbad hword hwl
          clear hr2 hne h32 hr
          by_cases hn : n = 0
          · subst hn
            have HB := hid (HN.out k (hbad rfl))
            clear hbad hword
            unfold rwv at HF
            simp only [if_pos rfl] at HF
            go_wp2_with (go_at_call 64; refine (HF.out _).mono ?_; rintro e w1 ⟨rfl, q1⟩; have HQ1 := hid (HQ.out.trans q1); clear q1)
            go_ret3
            exact ⟨ScanRet.no HB.out rfl, HQ1.out.alloc _⟩
          · have hn' : ((n : Int) == 0) = false := by rw [beq_eq_false_iff_ne]; omega
            have hw2 := hword hn
            rw [List.drop_drop] at hw2
            have HW2 := hid hw2.symm
            clear hbad hword hw2
            unfold rwv at HF
            simp only [if_neg hn] at HF
            go_wp2_with (first | (go_at_call 64; refine (HF.out _).mono ?_; rintro e w1 ⟨rfl, q1⟩; have HO1 := hid (HO.out.on q1); have HQ1 := hid (HQ.out.trans q1); clear q1) | (at_builtin; refine wpList_append_own _ rfl _ _ 70 rfl w.heap.size 78 i0 (.agg #[.int .i64 0, .string ⟨#[]⟩, .int .i64 0]) 3 32 Tryz.underlying70 HI.out.1 HI.out.2.1 HI.out.2.2.1 HI.out.2.2.2 rfl (by decide) _ _ _ rfl ((HO1.out.alloc _).alloc _) _ 1 1 [.int .i64 (a : Int), .string ⟨l.toArray⟩, .int .i64 (k : Int)] rfl rfl (news_at _ [.int .i64 (a : Int), .string ⟨l.toArray⟩, .int .i64 (k : Int)] 78 _ (by simp)) (wd_one ⟨a, l, k⟩) (by unfold maxLen; omega) (by omega) (by have := HQ1.out.size; simp; omega) ?_))
            intro v3 w3 hown' hgrow _
            have HO3 := hid (own_snoc' (enc := wd) (x := ⟨a, l, k⟩) hown' rfl)
            have HQ3 : Hid (Q w w3) := Below.grown ((HQ1.out.alloc _).alloc _) hgrow (by have := HQ1.out.size; simp; omega) (HO1.out.blk)
            clear hown' hgrow HO1 HQ1 HO HQ
            go_wp2_with fail
            go_roundw
            case rel => exact ⟨k + n, _, by omega, by go_num, by simp; omega, HO3.out, HQ3.out, HW2⟩
            case measure => simp [intOf]; omega
      · have hr2 := hr.out
        rw [List.drop_of_length_le (by simp; omega), scanF_nil] at hr2
        have HB := hid (HY.out L 0 hr2.symm)
        clear hr2 hr
        go_wp2_with (at_builtin; refine wpList_append_own _ rfl _ _ 70 rfl w.heap.size 78 i0 (.agg #[.int .i64 0, .string ⟨#[]⟩, .int .i64 0]) 3 32 Tryz.underlying70 HI.out.1 HI.out.2.1 HI.out.2.2.1 HI.out.2.2.2 rfl (by decide) _ _ _ rfl (HO.out.alloc _) _ 1 1 [.int .i64 7, .string ⟨#[]⟩, .int .i64 (s.size : Int)] rfl rfl (news_at _ [.int .i64 7, .string ⟨#[]⟩, .int .i64 (s.size : Int)] 78 _ (by simp)) (wd_one ⟨7, [], s.size⟩) (by unfold maxLen; omega) (by omega) (by have := HQ.out.size; simp; omega) ?_)
        intro v3 w3 hown' hgrow _
        have HO3 := hid (own_snoc' (enc := wd) (x := ⟨7, [], s.size⟩) hown' rfl)
        have HQ3 : Hid (Q w w3) := Below.grown (HQ.out.alloc _) hgrow (by have := HQ.out.size; simp; omega) (HO.out.blk)
        clear hown' hgrow HO HQ
        go_wp2_with fail
        go_ret3
        exact ⟨ScanRet.yes HB.out (HO3.out.sl wd_len (by decide)), HQ3.out⟩
end Go.Proofs.YtoikodohcieipaaGreatDoor
