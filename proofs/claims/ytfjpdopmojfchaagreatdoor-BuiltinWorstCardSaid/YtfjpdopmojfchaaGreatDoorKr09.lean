/- The reference of package value: which values may be; Package value: the order of values; The reference of package value: Number, Text, Truth of every value. -/
import Derived.Test.YtfjpdopmojfchaaGreatDoorKr01
import Derived.Test.YtfjpdopmojfchaaGreatDoorKr08
import Derived.Deep.CutBlock
import Derived.Deep.RegionHeld3
import Derived.Test.YtfjpdopmojfchaaGreatDoorKr07
import Derived.Test.YtfjpdopmojfchaaGreatDoorKr03
set_option linter.unusedVariables false
set_option linter.unusedSimpArgs false
namespace Go.Proofs.YtfjpdopmojfchaaGreatDoor
open Go.RowKit
theorem mtB_yes {s : ByteArray} (h : (s.size : Int) ≤ 200) : mtB s.toList = Lib.validD s.data.toList := by
  have hl : s.data.toList.length = s.size := by simp
  unfold mtB
  rw [Lib.toList_data, hl]
  simp
  omega
theorem mtB_no {s : ByteArray} (h : 200 < (s.size : Int)) : mtB s.toList = false := by
  have hl : s.data.toList.length = s.size := by simp
  unfold mtB
  rw [Lib.toList_data, hl]
  simp
  omega
set_option maxHeartbeats 2000000 in
theorem rmay_2 (n : Int) (t : ByteArray) (b : Bool) (e : Int) (w : World) (hs : (t.size : Int) ≤ 9223372036854775000) :
    Calls Tryz.prog 23 #[vv 2 n t b e] w fun x w' => x = .returned (.bool (mayB 2 n t.toList b e)) ∧ Q w w' := by
  have HU := hid (fun w => utf8_any t w hs)
  rcases Int.lt_or_le 200 (t.size : Int) with h2 | h2
  · have HM := mtB_no h2
    by_cases he : e = 0
    · subst he
      unfold vv
      go_enter Tryz.func23, Tryz.ntmps23
      go_wp2
      all_goals go_ret
      all_goals exact ⟨vret_bool (by first | (simp [mayB, *]; done) | (simp [mayB, *]; omega)), (Q.refl _).alloc _⟩
    · have he' : (e != 0) = true := bne_iff_ne.2 he
      unfold vv
      go_enter Tryz.func23, Tryz.ntmps23
      go_wp2
      all_goals go_ret
      all_goals exact ⟨vret_bool (by first | (simp [mayB, *]; done) | (simp [mayB, *]; omega)), (Q.refl _).alloc _⟩
  · have HM := mtB_yes h2
    by_cases he : e = 0
    · subst he
      unfold vv
      go_enter Tryz.func23, Tryz.ntmps23
      go_wp2_with (go_at_call 56; refine (HU.out _).mono ?_; rintro x w1 ⟨rfl, rfl⟩)
      all_goals go_ret
      all_goals exact ⟨vret_bool (by first | (simp [mayB, *]; done) | (simp [mayB, *]; omega)), (Q.refl _).alloc _⟩
    · have he' : (e != 0) = true := bne_iff_ne.2 he
      unfold vv
      go_enter Tryz.func23, Tryz.ntmps23
      go_wp2_with (go_at_call 56; refine (HU.out _).mono ?_; rintro x w1 ⟨rfl, rfl⟩)
      all_goals go_ret
      all_goals exact ⟨vret_bool (by first | (simp [mayB, *]; done) | (simp [mayB, *]; omega)), (Q.refl _).alloc _⟩
set_option maxHeartbeats 2000000 in
theorem rmay_4 (n : Int) (t : ByteArray) (b : Bool) (e : Int) (w : World) :
    Calls Tryz.prog 23 #[vv 4 n t b e] w fun x w' => x = .returned (.bool (mayB 4 n t.toList b e)) ∧ Q w w' := by
  unfold vv
  go_enter Tryz.func23, Tryz.ntmps23
  go_wp2
  all_goals go_ret
  all_goals exact ⟨vret_bool (by first | (simp [mayB, *]; done) | (simp [mayB, *]; omega)), (Q.refl _).alloc _⟩
set_option maxHeartbeats 2000000 in
theorem rmay_0 (n : Int) (t : ByteArray) (b : Bool) (e : Int) (w : World) :
    Calls Tryz.prog 23 #[vv 0 n t b e] w fun x w' => x = .returned (.bool (mayB 0 n t.toList b e)) ∧ Q w w' := by
  by_cases he : e = 0
  · subst he
    unfold vv
    go_enter Tryz.func23, Tryz.ntmps23
    go_wp2
    all_goals go_ret
    all_goals exact ⟨vret_bool (by first | (simp [mayB, *]; done) | (simp [mayB, *]; omega)), (Q.refl _).alloc _⟩
  · have he' : (e != 0) = true := bne_iff_ne.2 he
    unfold vv
    go_enter Tryz.func23, Tryz.ntmps23
    go_wp2
    all_goals go_ret
    all_goals exact ⟨vret_bool (by first | (simp [mayB, *]; done) | (simp [mayB, *]; omega)), (Q.refl _).alloc _⟩
set_option maxHeartbeats 2000000 in
theorem rmay_1 (n : Int) (t : ByteArray) (b : Bool) (e : Int) (w : World) :
    Calls Tryz.prog 23 #[vv 1 n t b e] w fun x w' => x = .returned (.bool (mayB 1 n t.toList b e)) ∧ Q w w' := by
  by_cases he : e = 0
  · subst he
    unfold vv
    go_enter Tryz.func23, Tryz.ntmps23
    go_wp2
    all_goals go_ret
    all_goals exact ⟨vret_bool (by first | (simp [mayB, *]; done) | (simp [mayB, *]; omega)), (Q.refl _).alloc _⟩
  · have he' : (e != 0) = true := bne_iff_ne.2 he
    unfold vv
    go_enter Tryz.func23, Tryz.ntmps23
    go_wp2
    all_goals go_ret
    all_goals exact ⟨vret_bool (by first | (simp [mayB, *]; done) | (simp [mayB, *]; omega)), (Q.refl _).alloc _⟩
set_option maxHeartbeats 2000000 in
theorem rmay_3 (n : Int) (t : ByteArray) (b : Bool) (e : Int) (w : World) :
    Calls Tryz.prog 23 #[vv 3 n t b e] w fun x w' => x = .returned (.bool (mayB 3 n t.toList b e)) ∧ Q w w' := by
  by_cases he : e = 0
  · subst he
    unfold vv
    go_enter Tryz.func23, Tryz.ntmps23
    go_wp2
    all_goals go_ret
    all_goals exact ⟨vret_bool (by first | (simp [mayB, *]; done) | (simp [mayB, *]; omega)), (Q.refl _).alloc _⟩
  · have he' : (e != 0) = true := bne_iff_ne.2 he
    unfold vv
    go_enter Tryz.func23, Tryz.ntmps23
    go_wp2
    all_goals go_ret
    all_goals exact ⟨vret_bool (by first | (simp [mayB, *]; done) | (simp [mayB, *]; omega)), (Q.refl _).alloc _⟩
set_option maxHeartbeats 2000000 in
theorem rmay_other (k n : Int) (t : ByteArray) (b : Bool) (e : Int) (w : World) (h0 : k ≠ 0) (h1 : k ≠ 1) (h2 : k ≠ 2) (h3 : k ≠ 3) (h4 : k ≠ 4) :
    Calls Tryz.prog 23 #[vv k n t b e] w fun x w' => x = .returned (.bool (mayB k n t.toList b e)) ∧ Q w w' := by
  have H := hid (mayB_other (n := n) (t := t.toList) (b := b) (e := e) h0 h1 h2 h3 h4)
  unfold vv
  go_enter Tryz.func23, Tryz.ntmps23
  go_wp2
  all_goals go_ret
  all_goals exact ⟨vret_bool H.out, (Q.refl _).alloc _⟩
theorem rmay_any (k n : Int) (t : ByteArray) (b : Bool) (e : Int) (w : World) (hs : (t.size : Int) ≤ 9223372036854775000) :
    Calls Tryz.prog 23 #[vv k n t b e] w fun x w' => x = .returned (.bool (mayB k n t.toList b e)) ∧ Q w w' := by
  by_cases h0 : k = 0
  · subst h0; exact rmay_0 n t b e w
  by_cases h1 : k = 1
  · subst h1; exact rmay_1 n t b e w
  by_cases h2 : k = 2
  · subst h2; exact rmay_2 n t b e w hs
  by_cases h3 : k = 3
  · subst h3; exact rmay_3 n t b e w
  by_cases h4 : k = 4
  · subst h4; exact rmay_4 n t b e w
  exact rmay_other k n t b e w h0 h1 h2 h3 h4
/-- the first number that is not 0 -/
def orI : List Int → Int
  | [] => 0
  | z :: l => if z = 0 then orI l else z
theorem orI_drop (zs : List Int) (k : Nat) (h : k < zs.length) : orI (zs.drop k) = if zs.getD k 0 = 0 then orI (zs.drop (k + 1)) else zs.getD k 0 := by
  rw [List.drop_eq_getElem_cons h]
  have e : zs.getD k 0 = zs[k] := by rw [List.getD_eq_getElem?_getD, List.getElem?_eq_getElem h]; rfl
  rw [e]
  rfl
set_option maxHeartbeats 1000000 in
theorem or_row (b len cap : Nat) (zs : List Int) (w : World) (hl : zs.length = len) (hm : len ≤ 1000)
    (hc : ∀ i, i < len → w.cell? ⟨b, i, none⟩ = some (.int .i64 (zs.getD i 0))) :
    Calls Tryz.prog 130 #[.slice (some ⟨b, 0, none⟩) len cap] w fun e w' => e = .returned (.int .i64 (orI zs)) ∧ w' = w := by
  have HC := hid hc
  have HL := hid hl
  obtain ⟨A, hA⟩ : ∃ A, orI zs = A := ⟨_, rfl⟩
  rw [hA]
  clear hc hl
  go_enter Tryz.func130, Tryz.ntmps130
  go_wp2
  go_loop [8] (fun i => ∃ k : Nat, k ≤ len ∧ i = .int .i64 k ∧ Hid (orI (zs.drop k) = A)) (fun i => len - (intOf i).toNat)
  case atStart => exact ⟨0, Nat.zero_le _, rfl, hA⟩
  case round =>
    obtain ⟨k, hk, rfl, ha⟩ := hrel
    clear hA
    by_cases hlt : k < len
    · have hcell := HC.out k hlt
      have hd := ha.out
      have hll := HL.out
      rw [orI_drop zs k (by omega)] at hd
      generalize zs.getD k 0 = z at *
      by_cases hz : z = 0
      · rw [if_pos hz] at hd
        have HD := hid hd
        clear hd hll
        subst hz
        go_wp2
        go_round
        case rel => exact ⟨k + 1, by omega, by go_num, HD⟩
        case measure => simp [intOf]; omega
      · rw [if_neg hz] at hd
        have HD := hid hd
        have hzb : (z == 0) = false := beq_eq_false_iff_ne.2 hz
        clear hd hll
        go_wp2
        go_ret
        exact ⟨ret_int HD.out, rfl⟩
    · have HN : Hid (0 = A) := by
        show _ = _
        have h1 := ha.out
        have h2 := HL.out
        rw [List.drop_of_length_le (by omega)] at h1
        exact h1
      go_wp2
      go_ret
      exact ⟨ret_int HN.out, rfl⟩
theorem or_five (w : World) (a b c d e : Int) : Calls Tryz.prog 130 #[.slice (some ⟨w.heap.size, 0, none⟩) 5 5] (w.alloc (.cells #[.int .i64 a, .int .i64 b, .int .i64 c, .int .i64 d, .int .i64 e] 3)).drew
    fun x w' => x = .returned (.int .i64 (orI [a, b, c, d, e])) ∧ w' = (w.alloc (.cells #[.int .i64 a, .int .i64 b, .int .i64 c, .int .i64 d, .int .i64 e] 3)).drew := by
  refine or_row w.heap.size 5 5 [a, b, c, d, e] _ rfl (by omega) ?_
  intro i hi
  match i, hi with
  | 0, _ => simp [World.cell?_alloc_new]
  | 1, _ => simp [World.cell?_alloc_new]
  | 2, _ => simp [World.cell?_alloc_new]
  | 3, _ => simp [World.cell?_alloc_new]
  | 4, _ => simp [World.cell?_alloc_new]
theorem boxes {w W : World} {v0 v1 v2 v3 v4 u0 u1 u2 u3 u4 : Value} (q : Q ((w.alloc (.cells #[v0, v1, v2, v3, v4] 37)).alloc (.cells #[u0, u1, u2, u3, u4] 37)) W) :
    (W.cell? ⟨w.heap.size, 0, none⟩ = some v0 ∧ W.cell? ⟨w.heap.size, 1, none⟩ = some v1 ∧ W.cell? ⟨w.heap.size, 2, none⟩ = some v2 ∧ W.cell? ⟨w.heap.size, 3, none⟩ = some v3 ∧ W.cell? ⟨w.heap.size, 4, none⟩ = some v4) ∧
    (W.cell? ⟨w.heap.size + 1, 0, none⟩ = some u0 ∧ W.cell? ⟨w.heap.size + 1, 1, none⟩ = some u1 ∧ W.cell? ⟨w.heap.size + 1, 2, none⟩ = some u2 ∧ W.cell? ⟨w.heap.size + 1, 3, none⟩ = some u3 ∧ W.cell? ⟨w.heap.size + 1, 4, none⟩ = some u4) := by
  have h1 : w.heap.size < (w.alloc (.cells #[v0, v1, v2, v3, v4] 37)).heap.size := by rw [World.size_alloc]; omega
  have h2 : w.heap.size < ((w.alloc (.cells #[v0, v1, v2, v3, v4] 37)).alloc (.cells #[u0, u1, u2, u3, u4] 37)).heap.size := by rw [World.size_alloc]; omega
  have h3 : w.heap.size + 1 < ((w.alloc (.cells #[v0, v1, v2, v3, v4] 37)).alloc (.cells #[u0, u1, u2, u3, u4] 37)).heap.size := by rw [World.size_alloc, World.size_alloc]; omega
  have e1 := fun j => Q.cell (o := j) ((Q.refl (w.alloc (.cells #[v0, v1, v2, v3, v4] 37))).alloc (.cells #[u0, u1, u2, u3, u4] 37)) h1
  have e2 : w.heap.size + 1 = (w.alloc (.cells #[v0, v1, v2, v3, v4] 37)).heap.size := by rw [World.size_alloc]
  refine ⟨⟨?_, ?_, ?_, ?_, ?_⟩, ?_, ?_, ?_, ?_, ?_⟩
  all_goals first
    | (rw [q.cell h2, e1, World.cell?_alloc_new]; rfl)
    | (rw [q.cell h3, e2, World.cell?_alloc_new]; rfl)
/-- the order of two values -/
def cmpV (k n : Int) (t : List UInt8) (b : Bool) (e : Int) (k' n' : Int) (t' : List UInt8) (b' : Bool) (e' : Int) : Int :=
  if mayB k n t b e && mayB k' n' t' b' e' then orI [cmpI k k', cmpI n n', cmpT t t', cmpI (tn b) (tn b'), cmpI e e']
  else cmpI (tn (!mayB k n t b e)) (tn (!mayB k' n' t' b' e'))
set_option maxRecDepth 100000 in
set_option maxHeartbeats 4000000 in
theorem compare_any (k n : Int) (t : ByteArray) (b : Bool) (e : Int) (k' n' : Int) (t' : ByteArray) (b' : Bool) (e' : Int) (w : World) (hw : Std2 w)
    (hs : (t.size : Int) ≤ 9223372036854775000) (hs' : (t'.size : Int) ≤ 9223372036854775000) :
    Calls Tryz.prog 94 #[vv k n t b e, vv k' n' t' b' e'] w fun x w' => x = .returned (.int .i64 (cmpV k n t.toList b e k' n' t'.toList b' e')) ∧ Q w w' := by
  have HM := hid (fun W (q : Q w W) => may_any k n t b e W (hw.on q) hs)
  have HM' := hid (fun W (q : Q w W) => may_any k' n' t' b' e' W (hw.on q) hs')
  obtain ⟨A, hA⟩ : ∃ A, mayB k n t.toList b e = A := ⟨_, rfl⟩
  obtain ⟨B, hB⟩ : ∃ B, mayB k' n' t'.toList b' e' = B := ⟨_, rfl⟩
  rw [hA] at HM
  rw [hB] at HM'
  clear hw
  have HA := hid hA
  have HB := hid hB
  clear hA hB
  unfold vv at *
  go_enter Tryz.func94, Tryz.ntmps94
  go_wp2_with fail
  go_upto_region 1 with fail
  go_cut [5, 6] from 7 to 10 (fun x y W => x = .bool A ∧ y = .bool B ∧ Q ((w.alloc (.cells #[.int .i64 k, .int .i64 n, .string t, .bool b, .int .i64 e] 37)).alloc (.cells #[.int .i64 k', .int .i64 n', .string t', .bool b', .int .i64 e'] 37)) W)
  case first =>
    go_region_with (first
      | (go_at_call_of 80 t; refine (HM.out _ (((Q.refl _).alloc _).alloc _).drew).mono ?_; rintro x w1 ⟨rfl, q1⟩; have p1 := Q.trans ((Q.refl _).drew) q1; obtain ⟨⟨g0, g1, g2, g3, g4⟩, g5, g6, g7, g8, g9⟩ := boxes p1)
      | (go_at_call_of 80 t'; refine (HM'.out _ (q2 p1)).mono ?_; rintro x w2 ⟨rfl, q2⟩))
    all_goals
      go_wp2_with fail
      go_meet
      exact ⟨rfl, rfl, p1.trans q2⟩
  case rest =>
    obtain ⟨rfl, rfl, qc⟩ := hcut
    obtain ⟨⟨g0, g1, g2, g3, g4⟩, g5, g6, g7, g8, g9⟩ := boxes qc
    have qw := q2 qc
    clear qc
    cases A
    · have H : Hid (cmpI (tn true) (tn (!B)) = cmpV k n t.toList b e k' n' t'.toList b' e') := by show _ = _; unfold cmpV; rw [HA.out, HB.out]; rfl
      go_wp2_with (go_at_call 129; refine (compareBools_any _ _ _).mono ?_; rintro x w3 ⟨rfl, rfl⟩)
      go_ret
      exact ⟨ret_int H.out, qw⟩
    · cases B
      · have H : Hid (cmpI (tn false) (tn true) = cmpV k n t.toList b e k' n' t'.toList b' e') := by show _ = _; unfold cmpV; rw [HA.out, HB.out]; rfl
        go_wp2_with (go_at_call 129; refine (compareBools_any _ _ _).mono ?_; rintro x w3 ⟨rfl, rfl⟩)
        go_ret
        exact ⟨ret_int H.out, qw⟩
      · have H : Hid (orI [cmpI k k', cmpI n n', cmpT t.toList t'.toList, cmpI (tn b) (tn b'), cmpI e e'] = cmpV k n t.toList b e k' n' t'.toList b' e') := by show _ = _; unfold cmpV; rw [HA.out, HB.out]; rfl
        have HO : Hid (Calls Tryz.prog 130 #[.slice (some ⟨wc.heap.size, 0, none⟩) 5 5] (wc.alloc (.cells #[.int .i64 (cmpI k k'), .int .i64 (cmpI n n'), .int .i64 (cmpT t.toList t'.toList), .int .i64 (cmpI (tn b) (tn b')), .int .i64 (cmpI e e')] 3)).drew
            fun x w' => x = .returned (.int .i64 (orI [cmpI k k', cmpI n n', cmpT t.toList t'.toList, cmpI (tn b) (tn b'), cmpI e e'])) ∧ w' = (wc.alloc (.cells #[.int .i64 (cmpI k k'), .int .i64 (cmpI n n'), .int .i64 (cmpT t.toList t'.toList), .int .i64 (cmpI (tn b) (tn b')), .int .i64 (cmpI e e')] 3)).drew) := hid (or_five wc _ _ _ _ _)
        have HK0 : wc.drew.cell? ⟨w.heap.size, 0, none⟩ = some (.int .i64 k) ∧ wc.drew.cell? ⟨w.heap.size, 1, none⟩ = some (.int .i64 n) ∧ wc.drew.cell? ⟨w.heap.size, 2, none⟩ = some (.string t) ∧ wc.drew.cell? ⟨w.heap.size, 3, none⟩ = some (.bool b) ∧ wc.drew.cell? ⟨w.heap.size, 4, none⟩ = some (.int .i64 e) ∧ wc.drew.cell? ⟨w.heap.size + 1, 0, none⟩ = some (.int .i64 k') ∧ wc.drew.cell? ⟨w.heap.size + 1, 1, none⟩ = some (.int .i64 n') ∧ wc.drew.cell? ⟨w.heap.size + 1, 2, none⟩ = some (.string t') ∧ wc.drew.cell? ⟨w.heap.size + 1, 3, none⟩ = some (.bool b') ∧ wc.drew.cell? ⟨w.heap.size + 1, 4, none⟩ = some (.int .i64 e') := ⟨g0, g1, g2, g3, g4, g5, g6, g7, g8, g9⟩
        have HK1 : (wc.alloc (.cells #[.int .i64 (cmpI k k'), .int .i64 (cmpI n n'), .int .i64 (cmpT t.toList t'.toList), .int .i64 (cmpI (tn b) (tn b')), .int .i64 (cmpI e e')] 3)).drew.cell? ⟨w.heap.size, 0, none⟩ = some (.int .i64 k) ∧ (wc.alloc (.cells #[.int .i64 (cmpI k k'), .int .i64 (cmpI n n'), .int .i64 (cmpT t.toList t'.toList), .int .i64 (cmpI (tn b) (tn b')), .int .i64 (cmpI e e')] 3)).drew.cell? ⟨w.heap.size, 1, none⟩ = some (.int .i64 n) ∧ (wc.alloc (.cells #[.int .i64 (cmpI k k'), .int .i64 (cmpI n n'), .int .i64 (cmpT t.toList t'.toList), .int .i64 (cmpI (tn b) (tn b')), .int .i64 (cmpI e e')] 3)).drew.cell? ⟨w.heap.size, 2, none⟩ = some (.string t) ∧ (wc.alloc (.cells #[.int .i64 (cmpI k k'), .int .i64 (cmpI n n'), .int .i64 (cmpT t.toList t'.toList), .int .i64 (cmpI (tn b) (tn b')), .int .i64 (cmpI e e')] 3)).drew.cell? ⟨w.heap.size, 3, none⟩ = some (.bool b) ∧ (wc.alloc (.cells #[.int .i64 (cmpI k k'), .int .i64 (cmpI n n'), .int .i64 (cmpT t.toList t'.toList), .int .i64 (cmpI (tn b) (tn b')), .int .i64 (cmpI e e')] 3)).drew.cell? ⟨w.heap.size, 4, none⟩ = some (.int .i64 e) ∧ (wc.alloc (.cells #[.int .i64 (cmpI k k'), .int .i64 (cmpI n n'), .int .i64 (cmpT t.toList t'.toList), .int .i64 (cmpI (tn b) (tn b')), .int .i64 (cmpI e e')] 3)).drew.cell? ⟨w.heap.size + 1, 0, none⟩ = some (.int .i64 k') ∧ (wc.alloc (.cells #[.int .i64 (cmpI k k'), .int .i64 (cmpI n n'), .int .i64 (cmpT t.toList t'.toList), .int .i64 (cmpI (tn b) (tn b')), .int .i64 (cmpI e e')] 3)).drew.cell? ⟨w.heap.size + 1, 1, none⟩ = some (.int .i64 n') ∧ (wc.alloc (.cells #[.int .i64 (cmpI k k'), .int .i64 (cmpI n n'), .int .i64 (cmpT t.toList t'.toList), .int .i64 (cmpI (tn b) (tn b')), .int .i64 (cmpI e e')] 3)).drew.cell? ⟨w.heap.size + 1, 2, none⟩ = some (.string t') ∧ (wc.alloc (.cells #[.int .i64 (cmpI k k'), .int .i64 (cmpI n n'), .int .i64 (cmpT t.toList t'.toList), .int .i64 (cmpI (tn b) (tn b')), .int .i64 (cmpI e e')] 3)).drew.cell? ⟨w.heap.size + 1, 3, none⟩ = some (.bool b') ∧ (wc.alloc (.cells #[.int .i64 (cmpI k k'), .int .i64 (cmpI n n'), .int .i64 (cmpT t.toList t'.toList), .int .i64 (cmpI (tn b) (tn b')), .int .i64 (cmpI e e')] 3)).drew.cell? ⟨w.heap.size + 1, 4, none⟩ = some (.int .i64 e') := by
          have hq : Q wc (wc.alloc (.cells #[.int .i64 (cmpI k k'), .int .i64 (cmpI n n'), .int .i64 (cmpT t.toList t'.toList), .int .i64 (cmpI (tn b) (tn b')), .int .i64 (cmpI e e')] 3)).drew := ((Q.refl wc).alloc _).drew
          have l0 : w.heap.size < wc.heap.size := World.block_lt_of_cell? wc ⟨w.heap.size, 0, none⟩ g0
          have l1 : w.heap.size + 1 < wc.heap.size := World.block_lt_of_cell? wc ⟨w.heap.size + 1, 0, none⟩ g5
          refine ⟨?_, ?_, ?_, ?_, ?_, ?_, ?_, ?_, ?_, ?_⟩
          all_goals first
            | (rw [hq.cell l0]; assumption)
            | (rw [hq.cell l1]; assumption)
        have HK0 := hid HK0
        have HK1 := hid HK1
        go_upto_region 4 with fail
        go_region_held3 (fun W => (W.cell? ⟨w.heap.size, 0, none⟩ = some (.int .i64 k) ∧ W.cell? ⟨w.heap.size, 1, none⟩ = some (.int .i64 n) ∧ W.cell? ⟨w.heap.size, 2, none⟩ = some (.string t) ∧ W.cell? ⟨w.heap.size, 3, none⟩ = some (.bool b) ∧ W.cell? ⟨w.heap.size, 4, none⟩ = some (.int .i64 e) ∧ W.cell? ⟨w.heap.size + 1, 0, none⟩ = some (.int .i64 k') ∧ W.cell? ⟨w.heap.size + 1, 1, none⟩ = some (.int .i64 n') ∧ W.cell? ⟨w.heap.size + 1, 2, none⟩ = some (.string t') ∧ W.cell? ⟨w.heap.size + 1, 3, none⟩ = some (.bool b') ∧ W.cell? ⟨w.heap.size + 1, 4, none⟩ = some (.int .i64 e')))
          (with_reducible (first | exact HK0.out | exact HK1.out))
          (first
            | (go_at_call 131; refine (cmpInt_any _ _ _).mono ?_; rintro x w3 ⟨rfl, rfl⟩)
            | (go_at_call 132; refine (cmpFix_any _ _ _).mono ?_; rintro x w3 ⟨rfl, rfl⟩)
            | (go_at_call 133; refine (cmpStr_any _ _ _).mono ?_; rintro x w3 ⟨rfl, rfl⟩)
            | (go_at_call 129; refine (compareBools_any _ _ _).mono ?_; rintro x w3 ⟨rfl, rfl⟩)
            | (go_at_call 130; refine HO.out.mono ?_; rintro x w3 ⟨rfl, rfl⟩))
        go_wp2
        go_ret
        exact ⟨ret_int H.out, (qw.alloc _).drew⟩
theorem rmay_bx (k n : Int) (t : ByteArray) (b : Bool) (e : Int) (A : Bool) (w : World) (hs : (t.size : Int) ≤ 9223372036854775000) (hA : mayB k n t.toList b e = A) :
    Calls Tryz.prog 23 #[.agg #[.int .i64 k, .int .i64 n, .string t, .bool b, .int .i64 e]] (bx w k n t b e) fun x w' => x = .returned (.bool A) ∧ Q (bx w k n t b e) w' := by
  rw [← hA]
  exact rmay_any k n t b e _ hs
set_option maxHeartbeats 2000000 in
theorem rnumber_vk (k n : Int) (t : ByteArray) (b : Bool) (e : Int) (w : World) (hs : (t.size : Int) ≤ 250) (hk : Vk k n t b e) :
    Calls Tryz.prog 49 #[vv k n t b e] w fun x w' => x = .returned (.tuple #[.int .i64 (numN k n t.toList b), .int .i64 (numE k t.toList e)]) ∧ Q w w' := by
  have HC := hid (rmay_bx k n t b e true w (by omega) hk.may)
  unfold vv
  rcases hk with ⟨rfl, rfl, rfl, rfl, rfl⟩ | ⟨rfl, rfl, rfl, rfl⟩ | ⟨rfl, rfl, rfl, rfl, h⟩ | ⟨rfl, rfl, rfl, rfl⟩ | ⟨rfl, rfl, rfl, rfl, h1, h7⟩
  · skip
    go_enter Tryz.func49, Tryz.ntmps49
    go_wp2_with (go_at_call 23; refine HC.out.mono ?_; rintro x w1 ⟨rfl, q1⟩; obtain ⟨g0, g1, g2, g3, g4⟩ := box0 q1)
    go_ret2
    exact ⟨rfl, q1a q1⟩
  · skip
    go_enter Tryz.func49, Tryz.ntmps49
    go_wp2_with (go_at_call 23; refine HC.out.mono ?_; rintro x w1 ⟨rfl, q1⟩; obtain ⟨g0, g1, g2, g3, g4⟩ := box0 q1)
    go_ret2
    exact ⟨rfl, q1a q1⟩
  · skip
    have HR := hid (fun w => rparse_any t w (by omega))
    rw [← Lib.toList_data] at HR
    unfold RP at HR
    have hk0 : pf (parseO t.toList) = false → pk (parseO t.toList) = 0 := by
      generalize parseO t.toList = o
      cases o with
      | none => intro; rfl
      | some n => intro h; exact keep_no h
    obtain ⟨K, eK⟩ : ∃ K, pk (parseO t.toList) = K := ⟨_, rfl⟩
    have HN : Hid (numN 2 0 t.toList false = K) := eK
    clear h
    cases hF : pf (parseO t.toList) with
    | false =>
      have hz := hk0 hF
      have HE : Hid (numE 2 t.toList 0 = 5) := by show _ = _; unfold numE; rw [if_pos rfl, hF]; rfl
      rw [hF, hz] at HR
      rw [hz] at eK
      subst eK
      clear hk0 hF hz
      go_enter Tryz.func49, Tryz.ntmps49
      go_wp2_with (first | (go_at_call 23; refine HC.out.mono ?_; rintro x w1 ⟨rfl, q1⟩; obtain ⟨g0, g1, g2, g3, g4⟩ := box0 q1) | (go_at_call 97; refine (HR.out _).mono ?_; rintro x w2 ⟨rfl, q2⟩))
      go_ret2
      exact ⟨vret_ii HN.out.symm HE.out.symm, (q1a q1).trans q2⟩
    | true =>
      have HE : Hid (numE 2 t.toList 0 = 0) := by show _ = _; unfold numE; rw [if_pos rfl, hF]; rfl
      rw [hF, eK] at HR
      clear hk0 hF eK
      go_enter Tryz.func49, Tryz.ntmps49
      go_wp2_with (first | (go_at_call 23; refine HC.out.mono ?_; rintro x w1 ⟨rfl, q1⟩; obtain ⟨g0, g1, g2, g3, g4⟩ := box0 q1) | (go_at_call 97; refine (HR.out _).mono ?_; rintro x w2 ⟨rfl, q2⟩))
      go_ret2
      exact ⟨vret_ii HN.out.symm HE.out.symm, (q1a q1).trans q2⟩
  · skip
    cases b
    · go_enter Tryz.func49, Tryz.ntmps49
      go_wp2_with (go_at_call 23; refine HC.out.mono ?_; rintro x w1 ⟨rfl, q1⟩; obtain ⟨g0, g1, g2, g3, g4⟩ := box0 q1)
      go_ret2
      exact ⟨rfl, q1a q1⟩
    · go_enter Tryz.func49, Tryz.ntmps49
      go_wp2_with (go_at_call 23; refine HC.out.mono ?_; rintro x w1 ⟨rfl, q1⟩; obtain ⟨g0, g1, g2, g3, g4⟩ := box0 q1)
      go_ret2
      exact ⟨rfl, q1a q1⟩
  · skip
    go_enter Tryz.func49, Tryz.ntmps49
    go_wp2_with (go_at_call 23; refine HC.out.mono ?_; rintro x w1 ⟨rfl, q1⟩; obtain ⟨g0, g1, g2, g3, g4⟩ := box0 q1)
    go_region
    go_wp2
    go_ret2
    exact ⟨rfl, (q1a q1).drew⟩
set_option maxHeartbeats 2000000 in
theorem rtext_vk (k n : Int) (t : ByteArray) (b : Bool) (e : Int) (w : World) (hs : (t.size : Int) ≤ 250) (hn : Fx n) (hk : Vk k n t b e) :
    Calls Tryz.prog 46 #[vv k n t b e] w fun x w' => x = .returned (.tuple #[.string ⟨(txtL k n t.data.toList b).toArray⟩, .int .i64 (txtE k e)]) ∧ Q w w' := by
  have HC := hid (rmay_bx k n t b e true w (by omega) hk.may)
  unfold vv
  rcases hk with ⟨rfl, rfl, rfl, rfl, rfl⟩ | ⟨rfl, rfl, rfl, rfl⟩ | ⟨rfl, rfl, rfl, rfl, h⟩ | ⟨rfl, rfl, rfl, rfl⟩ | ⟨rfl, rfl, rfl, rfl, h1, h7⟩
  · skip
    go_enter Tryz.func46, Tryz.ntmps46
    go_wp2_with (go_at_call 23; refine HC.out.mono ?_; rintro x w1 ⟨rfl, q1⟩; obtain ⟨g0, g1, g2, g3, g4⟩ := box0 q1)
    go_ret2
    exact ⟨rfl, q1a q1⟩
  · skip
    have HP := hid (fun w => rprint_any n w hn)
    clear hn
    go_enter Tryz.func46, Tryz.ntmps46
    go_wp2_with (first | (go_at_call 23; refine HC.out.mono ?_; rintro x w1 ⟨rfl, q1⟩; obtain ⟨g0, g1, g2, g3, g4⟩ := box0 q1) | (go_at_call 95; refine (HP.out _).mono ?_; rintro x w2 ⟨rfl, q2⟩))
    go_ret2
    exact ⟨rfl, (q1a q1).trans q2⟩
  · skip
    clear h hn
    go_enter Tryz.func46, Tryz.ntmps46
    go_wp2_with (go_at_call 23; refine HC.out.mono ?_; rintro x w1 ⟨rfl, q1⟩; obtain ⟨g0, g1, g2, g3, g4⟩ := box0 q1)
    go_ret2
    exact ⟨rfl, q1a q1⟩
  · skip
    clear hn
    cases b
    · go_enter Tryz.func46, Tryz.ntmps46
      go_wp2_with (go_at_call 23; refine HC.out.mono ?_; rintro x w1 ⟨rfl, q1⟩; obtain ⟨g0, g1, g2, g3, g4⟩ := box0 q1)
      go_ret2
      exact ⟨rfl, q1a q1⟩
    · go_enter Tryz.func46, Tryz.ntmps46
      go_wp2_with (go_at_call 23; refine HC.out.mono ?_; rintro x w1 ⟨rfl, q1⟩; obtain ⟨g0, g1, g2, g3, g4⟩ := box0 q1)
      go_ret2
      exact ⟨rfl, q1a q1⟩
  · skip
    clear hn
    go_enter Tryz.func46, Tryz.ntmps46
    go_wp2_with (go_at_call 23; refine HC.out.mono ?_; rintro x w1 ⟨rfl, q1⟩; obtain ⟨g0, g1, g2, g3, g4⟩ := box0 q1)
    go_region
    go_wp2
    go_ret2
    exact ⟨rfl, (q1a q1).drew⟩
end Go.Proofs.YtfjpdopmojfchaaGreatDoor
