/- The reference of package value. -/
import Derived.Test.YtfjpdopmojfchaaGreatDoorKc01
import Derived.Test.YtfjpdopmojfchaaGreatDoorKc10
import Derived.Deep.CutBlock
import Derived.Deep.RegionHeld3
import Derived.Test.YtfjpdopmojfchaaGreatDoorKc09
set_option linter.unusedVariables false
set_option linter.unusedSimpArgs false
set_option maxRecDepth 100000
set_option maxHeartbeats 8000000
namespace Go.Proofs.YtfjpdopmojfchaaGreatDoor
open Go.RowKit
theorem mtB_yes {s : ByteArray} (h : (s.size : Int) ≤ 200) : mtB s.toList = Lib.validD s.data.toList := by
  have hl : s.data.toList.length = s.size := by simp
  unfold mtB
  rw [Lib.toList_data, hl]
  simp
  omega
theorem mtB_no {s : ByteArray} (h : 200 < (s.size : Int)) : mtB s.toList = false := by
  have hl : s.data.toList.length = s.size := by simp
  unfold mtB
  rw [Lib.toList_data, hl]
  simp
  omega
set_option maxHeartbeats 2000000 in
theorem rmay_2 (n : Int) (t : ByteArray) (b : Bool) (e : Int) (w : World) (hs : (t.size : Int) ≤ 9223372036854775000) :
    Calls Tryz.prog 23 #[vv 2 n t b e] w fun x w' => x = .returned (.bool (mayB 2 n t.toList b e)) ∧ Q w w' := by
  have HU := hid (fun w => utf8_any t w hs)
  rcases Int.lt_or_le 200 (t.size : Int) with h2 | h2
  · have HM := mtB_no h2
    by_cases he : e = 0
    · subst he
      unfold vv
      go_enter Tryz.func23, Tryz.ntmps23
      go_wp2
      all_goals go_ret
      all_goals exact ⟨vret_bool (by first | (simp [mayB, *]; done) | (simp [mayB, *]; omega)), (Q.refl _).alloc _⟩
    · have he' : (e != 0) = true := bne_iff_ne.2 he
      unfold vv
      go_enter Tryz.func23, Tryz.ntmps23
      go_wp2
      all_goals go_ret
      all_goals exact ⟨vret_bool (by first | (simp [mayB, *]; done) | (simp [mayB, *]; omega)), (Q.refl _).alloc _⟩
  · have HM := mtB_yes h2
    by_cases he : e = 0
    · subst he
      unfold vv
      go_enter Tryz.func23, Tryz.ntmps23
      go_wp2_with (go_at_call 56; refine (HU.out _).mono ?_; rintro x w1 ⟨rfl, rfl⟩)
      all_goals go_ret
      all_goals exact ⟨vret_bool (by first | (simp [mayB, *]; done) | (simp [mayB, *]; omega)), (Q.refl _).alloc _⟩
    · have he' : (e != 0) = true := bne_iff_ne.2 he
      unfold vv
      go_enter Tryz.func23, Tryz.ntmps23
      go_wp2_with (go_at_call 56; refine (HU.out _).mono ?_; rintro x w1 ⟨rfl, rfl⟩)
      all_goals go_ret
      all_goals exact ⟨vret_bool (by first | (simp [mayB, *]; done) | (simp [mayB, *]; omega)), (Q.refl _).alloc _⟩
set_option maxHeartbeats 2000000 in
theorem rmay_4 (n : Int) (t : ByteArray) (b : Bool) (e : Int) (w : World) :
    Calls Tryz.prog 23 #[vv 4 n t b e] w fun x w' => x = .returned (.bool (mayB 4 n t.toList b e)) ∧ Q w w' := by
  unfold vv
  go_enter Tryz.func23, Tryz.ntmps23
  go_wp2
  all_goals go_ret
  all_goals exact ⟨vret_bool (by first | (simp [mayB, *]; done) | (simp [mayB, *]; omega)), (Q.refl _).alloc _⟩
set_option maxHeartbeats 2000000 in
theorem rmay_0 (n : Int) (t : ByteArray) (b : Bool) (e : Int) (w : World) :
    Calls Tryz.prog 23 #[vv 0 n t b e] w fun x w' => x = .returned (.bool (mayB 0 n t.toList b e)) ∧ Q w w' := by
  by_cases he : e = 0
  · subst he
    unfold vv
    go_enter Tryz.func23, Tryz.ntmps23
    go_wp2
    all_goals go_ret
    all_goals exact ⟨vret_bool (by first | (simp [mayB, *]; done) | (simp [mayB, *]; omega)), (Q.refl _).alloc _⟩
  · have he' : (e != 0) = true := bne_iff_ne.2 he
    unfold vv
    go_enter Tryz.func23, Tryz.ntmps23
    go_wp2
    all_goals go_ret
    all_goals exact ⟨vret_bool (by first | (simp [mayB, *]; done) | (simp [mayB, *]; omega)), (Q.refl _).alloc _⟩
set_option maxHeartbeats 2000000 in
theorem rmay_1 (n : Int) (t : ByteArray) (b : Bool) (e : Int) (w : World) :
    Calls Tryz.prog 23 #[vv 1 n t b e] w fun x w' => x = .returned (.bool (mayB 1 n t.toList b e)) ∧ Q w w' := by
  by_cases he : e = 0
  · subst he
    unfold vv
    go_enter Tryz.func23, Tryz.ntmps23
    go_wp2
    all_goals go_ret
    all_goals exact ⟨vret_bool (by first | (simp [mayB, *]; done) | (simp [mayB, *]; omega)), (Q.refl _).alloc _⟩
  · have he' : (e != 0) = true := bne_iff_ne.2 he
    unfold vv
    go_enter Tryz.func23, Tryz.ntmps23
    go_wp2
    all_goals go_ret
    all_goals exact ⟨vret_bool (by first | (simp [mayB, *]; done) | (simp [mayB, *]; omega)), (Q.refl _).alloc _⟩
set_option maxHeartbeats 2000000 in
theorem rmay_3 (n : Int) (t : ByteArray) (b : Bool) (e : Int) (w : World) :
    Calls Tryz.prog 23 #[vv 3 n t b e] w fun x w' => x = .returned (.bool (mayB 3 n t.toList b e)) ∧ Q w w' := by
  by_cases he : e = 0
  · subst he
    unfold vv
    go_enter Tryz.func23, Tryz.ntmps23
    go_wp2
    all_goals go_ret
    all_goals exact ⟨vret_bool (by first | (simp [mayB, *]; done) | (simp [mayB, *]; omega)), (Q.refl _).alloc _⟩
  · have he' : (e != 0) = true := bne_iff_ne.2 he
    unfold vv
    go_enter Tryz.func23, Tryz.ntmps23
    go_wp2
    all_goals go_ret
    all_goals exact ⟨vret_bool (by first | (simp [mayB, *]; done) | (simp [mayB, *]; omega)), (Q.refl _).alloc _⟩
set_option maxHeartbeats 2000000 in
theorem rmay_other (k n : Int) (t : ByteArray) (b : Bool) (e : Int) (w : World) (h0 : k ≠ 0) (h1 : k ≠ 1) (h2 : k ≠ 2) (h3 : k ≠ 3) (h4 : k ≠ 4) :
    Calls Tryz.prog 23 #[vv k n t b e] w fun x w' => x = .returned (.bool (mayB k n t.toList b e)) ∧ Q w w' := by
  have H := hid (mayB_other (n := n) (t := t.toList) (b := b) (e := e) h0 h1 h2 h3 h4)
  unfold vv
  go_enter Tryz.func23, Tryz.ntmps23
  go_wp2
  all_goals go_ret
  all_goals exact ⟨vret_bool H.out, (Q.refl _).alloc _⟩
theorem rmay_any (k n : Int) (t : ByteArray) (b : Bool) (e : Int) (w : World) (hs : (t.size : Int) ≤ 9223372036854775000) :
    Calls Tryz.prog 23 #[vv k n t b e] w fun x w' => x = .returned (.bool (mayB k n t.toList b e)) ∧ Q w w' := by
  by_cases h0 : k = 0
  · subst h0; exact rmay_0 n t b e w
  by_cases h1 : k = 1
  · subst h1; exact rmay_1 n t b e w
  by_cases h2 : k = 2
  · subst h2; exact rmay_2 n t b e w hs
  by_cases h3 : k = 3
  · subst h3; exact rmay_3 n t b e w
  by_cases h4 : k = 4
  · subst h4; exact rmay_4 n t b e w
  exact rmay_other k n t b e w h0 h1 h2 h3 h4
theorem boxes {w W : World} {v0 v1 v2 v3 v4 u0 u1 u2 u3 u4 : Value} (q : Q ((w.alloc (.cells #[v0, v1, v2, v3, v4] 37)).alloc (.cells #[u0, u1, u2, u3, u4] 37)) W) :
    (W.cell? ⟨w.heap.size, 0, none⟩ = some v0 ∧ W.cell? ⟨w.heap.size, 1, none⟩ = some v1 ∧ W.cell? ⟨w.heap.size, 2, none⟩ = some v2 ∧ W.cell? ⟨w.heap.size, 3, none⟩ = some v3 ∧ W.cell? ⟨w.heap.size, 4, none⟩ = some v4) ∧
    (W.cell? ⟨w.heap.size + 1, 0, none⟩ = some u0 ∧ W.cell? ⟨w.heap.size + 1, 1, none⟩ = some u1 ∧ W.cell? ⟨w.heap.size + 1, 2, none⟩ = some u2 ∧ W.cell? ⟨w.heap.size + 1, 3, none⟩ = some u3 ∧ W.cell? ⟨w.heap.size + 1, 4, none⟩ = some u4) := by
  have h1 : w.heap.size < (w.alloc (.cells #[v0, v1, v2, v3, v4] 37)).heap.size := by rw [World.size_alloc]; omega
  have h2 : w.heap.size < ((w.alloc (.cells #[v0, v1, v2, v3, v4] 37)).alloc (.cells #[u0, u1, u2, u3, u4] 37)).heap.size := by rw [World.size_alloc]; omega
  have h3 : w.heap.size + 1 < ((w.alloc (.cells #[v0, v1, v2, v3, v4] 37)).alloc (.cells #[u0, u1, u2, u3, u4] 37)).heap.size := by rw [World.size_alloc, World.size_alloc]; omega
  have e1 := fun j => Q.cell (o := j) ((Q.refl (w.alloc (.cells #[v0, v1, v2, v3, v4] 37))).alloc (.cells #[u0, u1, u2, u3, u4] 37)) h1
  have e2 : w.heap.size + 1 = (w.alloc (.cells #[v0, v1, v2, v3, v4] 37)).heap.size := by rw [World.size_alloc]
  refine ⟨⟨?_, ?_, ?_, ?_, ?_⟩, ?_, ?_, ?_, ?_, ?_⟩
  all_goals first
    | (rw [q.cell h2, e1, World.cell?_alloc_new]; rfl)
    | (rw [q.cell h3, e2, World.cell?_alloc_new]; rfl)
structure Cv where
  k : Int
  n : Int
  t : ByteArray
  b : Bool
  e : Int
def Cv.may (x : Cv) : Bool := mayB x.k x.n x.t.toList x.b x.e
def cv0 : Cv := ⟨0, 0, ⟨#[]⟩, false, 0⟩
def wstep (a : Int) (x : Cv) : Int := if x.k = 4 ∧ x.may = true ∧ (a = 0 ∨ x.e < a) then x.e else a
def worst (l : List Cv) : Int := l.foldl wstep 0
structure At5 (w : World) (b o : Nat) (x : Cv) : Prop where
  c0 : w.cell? ⟨b, o, none⟩ = some (.int .i64 x.k)
  c1 : w.cell? ⟨b, o + 1, none⟩ = some (.int .i64 x.n)
  c2 : w.cell? ⟨b, o + 2, none⟩ = some (.string x.t)
  c3 : w.cell? ⟨b, o + 3, none⟩ = some (.bool x.b)
  c4 : w.cell? ⟨b, o + 4, none⟩ = some (.int .i64 x.e)
theorem At5.lt {w : World} {b o : Nat} {x : Cv} (h : At5 w b o x) : b < w.heap.size := World.block_lt_of_cell? w ⟨b, o, none⟩ h.c0
theorem At5.on {w w' : World} {b o : Nat} {x : Cv} (h : At5 w b o x) (q : Q w w') : At5 w' b o x := by
  have hl := h.lt
  constructor
  · rw [q.cell hl]; exact h.c0
  · rw [q.cell hl]; exact h.c1
  · rw [q.cell hl]; exact h.c2
  · rw [q.cell hl]; exact h.c3
  · rw [q.cell hl]; exact h.c4
set_option maxHeartbeats 2000000 in
theorem worst_row (b off len cap : Nat) (l : List Cv) (w : World) (hw : Std2 w) (hl : l.length = len) (hm : (len : Int) ≤ 1000)
    (hs : ∀ i, i < len → ((l.getD i cv0).t.size : Int) ≤ 9223372036854775000)
    (hc : ∀ i, i < len → At5 w b (off + i * 5) (l.getD i cv0)) :
    Calls Tryz.prog 38 #[.slice (some ⟨b, off, none⟩) len cap] w fun e w' => e = .returned (.int .i64 (worst l)) ∧ Q w w' := by
  have HC := hid hc
  have HL := hid hl
  have HW := hid hw
  have HS := hid hs
  clear hc hl hw hs
  go_enter Tryz.func38, Tryz.ntmps38
  go_wp2
  go_loopw [3, 8] (fun a i W => ∃ (k : Nat) (z : Int), k ≤ len ∧ i = .int .i64 k ∧ a = .int .i64 z ∧ Q w W ∧ Hid (z = (l.take k).foldl wstep 0)) (fun _ i _ => len - (intOf i).toNat)
  case atStart => exact ⟨0, 0, Nat.zero_le _, rfl, rfl, Q.refl _, rfl⟩
  case round =>
    obtain ⟨k, z, hk, rfl, rfl, hq, hz⟩ := hrel
    by_cases hlt : k < len
    · have a5 := (HC.out k hlt).on hq
      have hsz := HS.out k hlt
      have hst : Hid ((l.take (k + 1)).foldl wstep 0 = wstep z (l.getD k cv0)) := by
        show _ = _
        have hl := HL.out
        rw [List.take_succ_eq_append_getElem (by omega), List.foldl_append, ← hz.out]
        simp [List.getD_eq_getElem?_getD, List.getElem?_eq_getElem (show k < l.length by omega)]
      generalize l.getD k cv0 = x at *
      obtain ⟨xk, xn, xt, xb, xe⟩ := x
      obtain ⟨c0, c1, c2, c3, c4⟩ := a5
      simp only at c0 c1 c2 c3 c4 hsz
      by_cases h4 : xk = 4
      · subst h4
        have HM := hid (fun W (q : Q w W) => may_any 4 xn xt xb xe W (HW.out.on q) hsz)
        cases hA : mayB 4 xn xt.toList xb xe with
        | false =>
          rw [hA] at HM
          have HZ : Hid (z = (l.take (k + 1)).foldl wstep 0) := by show _ = _; rw [hst.out]; unfold wstep Cv.may; simp only [hA]; simp
          clear hA hsz
          go_wp2_with (go_at_call 80; refine (HM.out _ (hq.alloc _)).mono ?_; rintro x w1 ⟨rfl, q1⟩)
          go_roundw
          case rel => exact ⟨k + 1, z, by omega, by go_num, rfl, hq.trans (q1a q1), HZ⟩
          case measure => simp [intOf]; omega
        | true =>
          rw [hA] at HM
          by_cases h0 : z = 0
          · have HZ : Hid (xe = (l.take (k + 1)).foldl wstep 0) := by show _ = _; rw [hst.out]; unfold wstep Cv.may; simp only [hA]; simp [h0]
            subst h0
            clear hA hsz
            go_wp2_with (go_at_call 80; refine (HM.out _ (hq.alloc _)).mono ?_; rintro x w1 ⟨rfl, q1⟩; obtain ⟨g0, g1, g2, g3, g4⟩ := box0 q1)
            go_roundw
            case rel => exact ⟨k + 1, xe, by omega, by go_num, rfl, hq.trans (q1a q1), HZ⟩
            case measure => simp [intOf]; omega
          · have h0b : (z == 0) = false := beq_eq_false_iff_ne.2 h0
            by_cases hlz : xe < z
            · have HZ : Hid (xe = (l.take (k + 1)).foldl wstep 0) := by show _ = _; rw [hst.out]; unfold wstep Cv.may; simp only [hA]; simp [hlz]
              clear hA hsz h0
              go_wp2_with (go_at_call 80; refine (HM.out _ (hq.alloc _)).mono ?_; rintro x w1 ⟨rfl, q1⟩; obtain ⟨g0, g1, g2, g3, g4⟩ := box0 q1)
              go_roundw
              case rel => exact ⟨k + 1, xe, by omega, by go_num, rfl, hq.trans (q1a q1), HZ⟩
              case measure => simp [intOf]; omega
            · have HZ : Hid (z = (l.take (k + 1)).foldl wstep 0) := by show _ = _; rw [hst.out]; unfold wstep Cv.may; simp only [hA]; simp [hlz, h0]
              clear hA hsz h0
              go_wp2_with (go_at_call 80; refine (HM.out _ (hq.alloc _)).mono ?_; rintro x w1 ⟨rfl, q1⟩; obtain ⟨g0, g1, g2, g3, g4⟩ := box0 q1)
              go_roundw
              case rel => exact ⟨k + 1, z, by omega, by go_num, rfl, hq.trans (q1a q1), HZ⟩
              case measure => simp [intOf]; omega
      · have HZ : Hid (z = (l.take (k + 1)).foldl wstep 0) := by show _ = _; rw [hst.out]; unfold wstep; simp [h4]
        have h4b : (xk != 4) = true := bne_iff_ne.2 h4
        clear hsz
        go_wp2_with fail
        go_roundw
        case rel => exact ⟨k + 1, z, by omega, by go_num, rfl, hq.alloc _, HZ⟩
        case measure => simp [intOf]; omega
    · have HN : Hid (z = worst l) := by show _ = _; have h1 := hz.out; have h2 := HL.out; rw [List.take_of_length_le (by omega)] at h1; exact h1
      go_wp2
      go_ret
      exact ⟨ret_int HN.out, hq⟩
set_option maxHeartbeats 2000000 in
theorem rworst_row (b off len cap : Nat) (l : List Cv) (w : World) (hl : l.length = len) (hm : (len : Int) ≤ 1000)
    (hs : ∀ i, i < len → ((l.getD i cv0).t.size : Int) ≤ 9223372036854775000)
    (hc : ∀ i, i < len → At5 w b (off + i * 5) (l.getD i cv0)) :
    Calls Tryz.prog 22 #[.slice (some ⟨b, off, none⟩) len cap] w fun e w' => e = .returned (.int .i64 (worst l)) ∧ Q w w' := by
  have HC := hid hc
  have HL := hid hl
  have HS := hid hs
  clear hc hl hs
  go_enter Tryz.func22, Tryz.ntmps22
  go_wp2
  go_loopw [3, 4] (fun a i W => ∃ (k : Nat) (z : Int), k ≤ len ∧ i = .int .i64 k ∧ a = .int .i64 z ∧ Q w W ∧ Hid (z = (l.take k).foldl wstep 0)) (fun _ i _ => len - (intOf i).toNat)
  case atStart => exact ⟨0, 0, Nat.zero_le _, rfl, rfl, Q.refl _, rfl⟩
  case round =>
    obtain ⟨k, z, hk, rfl, rfl, hq, hz⟩ := hrel
    by_cases hlt : k < len
    · have a5 := (HC.out k hlt).on hq
      have hsz := HS.out k hlt
      have hst : Hid ((l.take (k + 1)).foldl wstep 0 = wstep z (l.getD k cv0)) := by
        show _ = _
        have hl := HL.out
        rw [List.take_succ_eq_append_getElem (by omega), List.foldl_append, ← hz.out]
        simp [List.getD_eq_getElem?_getD, List.getElem?_eq_getElem (show k < l.length by omega)]
      generalize l.getD k cv0 = x at *
      obtain ⟨xk, xn, xt, xb, xe⟩ := x
      have A5 := hid a5
      obtain ⟨c0, c1, c2, c3, c4⟩ := a5
      simp only at c0 c1 c2 c3 c4 hsz
      by_cases h4 : xk = 4
      · subst h4
        have HM := hid (fun W => rmay_any 4 xn xt xb xe W hsz)
        cases hA : mayB 4 xn xt.toList xb xe with
        | false =>
          rw [hA] at HM
          have HZ : Hid (z = (l.take (k + 1)).foldl wstep 0) := by show _ = _; rw [hst.out]; unfold wstep Cv.may; simp only [hA]; simp
          clear hA hsz
          go_wp2_with (go_at_call 23; refine (HM.out _).mono ?_; rintro x w1 ⟨rfl, q1⟩)
          go_roundw
          case rel => exact ⟨k + 1, z, by omega, by go_num, rfl, hq.trans q1, HZ⟩
          case measure => simp [intOf]; omega
        | true =>
          rw [hA] at HM
          by_cases h0 : z = 0
          · have HZ : Hid (xe = (l.take (k + 1)).foldl wstep 0) := by show _ = _; rw [hst.out]; unfold wstep Cv.may; simp only [hA]; simp [h0]
            subst h0
            clear hA hsz
            go_wp2_with (go_at_call 23; refine (HM.out _).mono ?_; rintro x w1 ⟨rfl, q1⟩; have g4 := (A5.out.on q1).c4; simp only at g4)
            go_roundw
            case rel => exact ⟨k + 1, xe, by omega, by go_num, rfl, hq.trans q1, HZ⟩
            case measure => simp [intOf]; omega
          · have h0b : (z == 0) = false := beq_eq_false_iff_ne.2 h0
            by_cases hlz : xe < z
            · have HZ : Hid (xe = (l.take (k + 1)).foldl wstep 0) := by show _ = _; rw [hst.out]; unfold wstep Cv.may; simp only [hA]; simp [hlz]
              clear hA hsz h0
              go_wp2_with (go_at_call 23; refine (HM.out _).mono ?_; rintro x w1 ⟨rfl, q1⟩; have g4 := (A5.out.on q1).c4; simp only at g4)
              go_roundw
              case rel => exact ⟨k + 1, xe, by omega, by go_num, rfl, hq.trans q1, HZ⟩
              case measure => simp [intOf]; omega
            · have HZ : Hid (z = (l.take (k + 1)).foldl wstep 0) := by show _ = _; rw [hst.out]; unfold wstep Cv.may; simp only [hA]; simp [hlz, h0]
              clear hA hsz h0
              go_wp2_with (go_at_call 23; refine (HM.out _).mono ?_; rintro x w1 ⟨rfl, q1⟩; have g4 := (A5.out.on q1).c4; simp only at g4)
              go_roundw
              case rel => exact ⟨k + 1, z, by omega, by go_num, rfl, hq.trans q1, HZ⟩
              case measure => simp [intOf]; omega
      · have HZ : Hid (z = (l.take (k + 1)).foldl wstep 0) := by show _ = _; rw [hst.out]; unfold wstep; simp [h4]
        have h4b : (xk == 4) = false := beq_eq_false_iff_ne.2 h4
        clear hsz
        go_wp2_with fail
        go_roundw
        case rel => exact ⟨k + 1, z, by omega, by go_num, rfl, hq, HZ⟩
        case measure => simp [intOf]; omega
    · have HN : Hid (z = worst l) := by show _ = _; have h1 := hz.out; have h2 := HL.out; rw [List.take_of_length_le (by omega)] at h1; exact h1
      go_wp2
      go_ret
      exact ⟨ret_int HN.out, hq⟩
theorem rmay_bx (k n : Int) (t : ByteArray) (b : Bool) (e : Int) (A : Bool) (w : World) (hs : (t.size : Int) ≤ 9223372036854775000) (hA : mayB k n t.toList b e = A) :
    Calls Tryz.prog 23 #[.agg #[.int .i64 k, .int .i64 n, .string t, .bool b, .int .i64 e]] (bx w k n t b e) fun x w' => x = .returned (.bool A) ∧ Q (bx w k n t b e) w' := by
  rw [← hA]
  exact rmay_any k n t b e _ hs
set_option maxHeartbeats 1000000 in
theorem rnumber_no (k n : Int) (t : ByteArray) (b : Bool) (e : Int) (w : World) (hs : (t.size : Int) ≤ 9223372036854775000) (hm : mayB k n t.toList b e = false) :
    Calls Tryz.prog 49 #[vv k n t b e] w fun x w' => x = .returned (.tuple #[.int .i64 0, .int .i64 5]) ∧ Q w w' := by
  have HC := hid (rmay_bx k n t b e false w hs hm)
  clear hm
  unfold vv
  go_enter Tryz.func49, Tryz.ntmps49
  go_wp2_with (go_at_call 23; refine HC.out.mono ?_; rintro x w1 ⟨rfl, q1⟩)
  go_ret2
  exact ⟨rfl, q1a q1⟩
set_option maxHeartbeats 1000000 in
theorem rtext_no (k n : Int) (t : ByteArray) (b : Bool) (e : Int) (w : World) (hs : (t.size : Int) ≤ 9223372036854775000) (hm : mayB k n t.toList b e = false) :
    Calls Tryz.prog 46 #[vv k n t b e] w fun x w' => x = .returned (.tuple #[.string ⟨#[]⟩, .int .i64 5]) ∧ Q w w' := by
  have HC := hid (rmay_bx k n t b e false w hs hm)
  clear hm
  unfold vv
  go_enter Tryz.func46, Tryz.ntmps46
  go_wp2_with (go_at_call 23; refine HC.out.mono ?_; rintro x w1 ⟨rfl, q1⟩)
  go_ret2
  exact ⟨rfl, q1a q1⟩
set_option maxHeartbeats 2000000 in
theorem rnumber_vk (k n : Int) (t : ByteArray) (b : Bool) (e : Int) (w : World) (hs : (t.size : Int) ≤ 250) (hk : Vk k n t b e) :
    Calls Tryz.prog 49 #[vv k n t b e] w fun x w' => x = .returned (.tuple #[.int .i64 (numN k n t.toList b), .int .i64 (numE k t.toList e)]) ∧ Q w w' := by
  have HC := hid (rmay_bx k n t b e true w (by omega) hk.may)
  unfold vv
  rcases hk with ⟨rfl, rfl, rfl, rfl, rfl⟩ | ⟨rfl, rfl, rfl, rfl⟩ | ⟨rfl, rfl, rfl, rfl, h⟩ | ⟨rfl, rfl, rfl, rfl⟩ | ⟨rfl, rfl, rfl, rfl, h1, h7⟩
  · skip
    go_enter Tryz.func49, Tryz.ntmps49
    go_wp2_with (go_at_call 23; refine HC.out.mono ?_; rintro x w1 ⟨rfl, q1⟩; obtain ⟨g0, g1, g2, g3, g4⟩ := box0 q1)
    go_ret2
    exact ⟨rfl, q1a q1⟩
  · skip
    go_enter Tryz.func49, Tryz.ntmps49
    go_wp2_with (go_at_call 23; refine HC.out.mono ?_; rintro x w1 ⟨rfl, q1⟩; obtain ⟨g0, g1, g2, g3, g4⟩ := box0 q1)
    go_ret2
    exact ⟨rfl, q1a q1⟩
  · skip
    have HR := hid (fun w => rparse_any t w (by omega))
    rw [← Lib.toList_data] at HR
    unfold RP at HR
    have hk0 : pf (parseO t.toList) = false → pk (parseO t.toList) = 0 := by
      generalize parseO t.toList = o
      cases o with
      | none => intro; rfl
      | some n => intro h; exact keep_no h
    obtain ⟨K, eK⟩ : ∃ K, pk (parseO t.toList) = K := ⟨_, rfl⟩
    have HN : Hid (numN 2 0 t.toList false = K) := eK
    clear h
    cases hF : pf (parseO t.toList) with
    | false =>
      have hz := hk0 hF
      have HE : Hid (numE 2 t.toList 0 = 5) := by show _ = _; unfold numE; rw [if_pos rfl, hF]; rfl
      rw [hF, hz] at HR
      rw [hz] at eK
      subst eK
      clear hk0 hF hz
      go_enter Tryz.func49, Tryz.ntmps49
      go_wp2_with (first | (go_at_call 23; refine HC.out.mono ?_; rintro x w1 ⟨rfl, q1⟩; obtain ⟨g0, g1, g2, g3, g4⟩ := box0 q1) | (go_at_call 97; refine (HR.out _).mono ?_; rintro x w2 ⟨rfl, q2⟩))
      go_ret2
      exact ⟨vret_ii HN.out.symm HE.out.symm, (q1a q1).trans q2⟩
    | true =>
      have HE : Hid (numE 2 t.toList 0 = 0) := by show _ = _; unfold numE; rw [if_pos rfl, hF]; rfl
      rw [hF, eK] at HR
      clear hk0 hF eK
      go_enter Tryz.func49, Tryz.ntmps49
      go_wp2_with (first | (go_at_call 23; refine HC.out.mono ?_; rintro x w1 ⟨rfl, q1⟩; obtain ⟨g0, g1, g2, g3, g4⟩ := box0 q1) | (go_at_call 97; refine (HR.out _).mono ?_; rintro x w2 ⟨rfl, q2⟩))
      go_ret2
      exact ⟨vret_ii HN.out.symm HE.out.symm, (q1a q1).trans q2⟩
  · skip
    cases b
    · go_enter Tryz.func49, Tryz.ntmps49
      go_wp2_with (go_at_call 23; refine HC.out.mono ?_; rintro x w1 ⟨rfl, q1⟩; obtain ⟨g0, g1, g2, g3, g4⟩ := box0 q1)
      go_ret2
      exact ⟨rfl, q1a q1⟩
    · go_enter Tryz.func49, Tryz.ntmps49
      go_wp2_with (go_at_call 23; refine HC.out.mono ?_; rintro x w1 ⟨rfl, q1⟩; obtain ⟨g0, g1, g2, g3, g4⟩ := box0 q1)
      go_ret2
      exact ⟨rfl, q1a q1⟩
  · skip
    go_enter Tryz.func49, Tryz.ntmps49
    go_wp2_with (go_at_call 23; refine HC.out.mono ?_; rintro x w1 ⟨rfl, q1⟩; obtain ⟨g0, g1, g2, g3, g4⟩ := box0 q1)
    go_region
    go_wp2
    go_ret2
    exact ⟨rfl, (q1a q1).drew⟩
set_option maxHeartbeats 2000000 in
theorem rtext_vk (k n : Int) (t : ByteArray) (b : Bool) (e : Int) (w : World) (hs : (t.size : Int) ≤ 250) (hn : Fx n) (hk : Vk k n t b e) :
    Calls Tryz.prog 46 #[vv k n t b e] w fun x w' => x = .returned (.tuple #[.string ⟨(txtL k n t.data.toList b).toArray⟩, .int .i64 (txtE k e)]) ∧ Q w w' := by
  have HC := hid (rmay_bx k n t b e true w (by omega) hk.may)
  unfold vv
  rcases hk with ⟨rfl, rfl, rfl, rfl, rfl⟩ | ⟨rfl, rfl, rfl, rfl⟩ | ⟨rfl, rfl, rfl, rfl, h⟩ | ⟨rfl, rfl, rfl, rfl⟩ | ⟨rfl, rfl, rfl, rfl, h1, h7⟩
  · skip
    go_enter Tryz.func46, Tryz.ntmps46
    go_wp2_with (go_at_call 23; refine HC.out.mono ?_; rintro x w1 ⟨rfl, q1⟩; obtain ⟨g0, g1, g2, g3, g4⟩ := box0 q1)
    go_ret2
    exact ⟨rfl, q1a q1⟩
  · skip
    have HP := hid (fun w => rprint_any n w hn)
    clear hn
    go_enter Tryz.func46, Tryz.ntmps46
    go_wp2_with (first | (go_at_call 23; refine HC.out.mono ?_; rintro x w1 ⟨rfl, q1⟩; obtain ⟨g0, g1, g2, g3, g4⟩ := box0 q1) | (go_at_call 95; refine (HP.out _).mono ?_; rintro x w2 ⟨rfl, q2⟩))
    go_ret2
    exact ⟨rfl, (q1a q1).trans q2⟩
  · skip
    clear h hn
    go_enter Tryz.func46, Tryz.ntmps46
    go_wp2_with (go_at_call 23; refine HC.out.mono ?_; rintro x w1 ⟨rfl, q1⟩; obtain ⟨g0, g1, g2, g3, g4⟩ := box0 q1)
    go_ret2
    exact ⟨rfl, q1a q1⟩
  · skip
    clear hn
    cases b
    · go_enter Tryz.func46, Tryz.ntmps46
      go_wp2_with (go_at_call 23; refine HC.out.mono ?_; rintro x w1 ⟨rfl, q1⟩; obtain ⟨g0, g1, g2, g3, g4⟩ := box0 q1)
      go_ret2
      exact ⟨rfl, q1a q1⟩
    · go_enter Tryz.func46, Tryz.ntmps46
      go_wp2_with (go_at_call 23; refine HC.out.mono ?_; rintro x w1 ⟨rfl, q1⟩; obtain ⟨g0, g1, g2, g3, g4⟩ := box0 q1)
      go_ret2
      exact ⟨rfl, q1a q1⟩
  · skip
    clear hn
    go_enter Tryz.func46, Tryz.ntmps46
    go_wp2_with (go_at_call 23; refine HC.out.mono ?_; rintro x w1 ⟨rfl, q1⟩; obtain ⟨g0, g1, g2, g3, g4⟩ := box0 q1)
    go_region
    go_wp2
    go_ret2
    exact ⟨rfl, (q1a q1).drew⟩
end Go.Proofs.YtfjpdopmojfchaaGreatDoor
