/- Package value and its reference: the worst error of many. -/
import Derived.Test.YtfjpdopmojfchaaGreatDoorW1
namespace Go.Proofs.YtfjpdopmojfchaaGreatDoor
open Go.RowKit
set_option linter.unusedVariables false
set_option linter.unusedSimpArgs false
/-- a value of a cell, its fields -/
structure Cv where
  k : Int
  n : Int
  t : ByteArray
  b : Bool
  e : Int
def Cv.may (x : Cv) : Bool := mayB x.k x.n x.t.toList x.b x.e
def cv0 : Cv := ⟨0, 0, ⟨#[]⟩, false, 0⟩
/-- the worst so far, and one more value -/
def wstep (a : Int) (x : Cv) : Int := if x.k = 4 ∧ x.may = true ∧ (a = 0 ∨ x.e < a) then x.e else a
def worst (l : List Cv) : Int := l.foldl wstep 0
/-- where a value's five cells lie -/
structure At5 (w : World) (b o : Nat) (x : Cv) : Prop where
  c0 : w.cell? ⟨b, o, none⟩ = some (.int .i64 x.k)
  c1 : w.cell? ⟨b, o + 1, none⟩ = some (.int .i64 x.n)
  c2 : w.cell? ⟨b, o + 2, none⟩ = some (.string x.t)
  c3 : w.cell? ⟨b, o + 3, none⟩ = some (.bool x.b)
  c4 : w.cell? ⟨b, o + 4, none⟩ = some (.int .i64 x.e)
theorem At5.lt {w : World} {b o : Nat} {x : Cv} (h : At5 w b o x) : b < w.heap.size := World.block_lt_of_cell? w ⟨b, o, none⟩ h.c0
theorem At5.on {w w' : World} {b o : Nat} {x : Cv} (h : At5 w b o x) (q : Q w w') : At5 w' b o x := by
  have hl := h.lt
  constructor
  · rw [q.cell hl]; exact h.c0
  · rw [q.cell hl]; exact h.c1
  · rw [q.cell hl]; exact h.c2
  · rw [q.cell hl]; exact h.c3
  · rw [q.cell hl]; exact h.c4
set_option maxHeartbeats 2000000 in
theorem worst_row (b off len cap : Nat) (l : List Cv) (w : World) (hw : Std2 w) (hl : l.length = len) (hm : (len : Int) ≤ 1000)
    (hs : ∀ i, i < len → ((l.getD i cv0).t.size : Int) ≤ 9223372036854775000)
    (hc : ∀ i, i < len → At5 w b (off + i * 5) (l.getD i cv0)) :
    Calls Tryz.prog 38 #[.slice (some ⟨b, off, none⟩) len cap] w fun e w' => e = .returned (.int .i64 (worst l)) ∧ Q w w' := by
  have HC := hid hc
  have HL := hid hl
  have HW := hid hw
  have HS := hid hs
  clear hc hl hw hs
  go_enter Tryz.func38, Tryz.ntmps38
  go_wp2
  go_loopw [3, 8] (fun a i W => ∃ (k : Nat) (z : Int), k ≤ len ∧ i = .int .i64 k ∧ a = .int .i64 z ∧ Q w W ∧ Hid (z = (l.take k).foldl wstep 0)) (fun _ i _ => len - (intOf i).toNat)
  case atStart => exact ⟨0, 0, Nat.zero_le _, rfl, rfl, Q.refl _, rfl⟩
  case round =>
    obtain ⟨k, z, hk, rfl, rfl, hq, hz⟩ := hrel
    by_cases hlt : k < len
    · have a5 := (HC.out k hlt).on hq
      have hsz := HS.out k hlt
      have hst : Hid ((l.take (k + 1)).foldl wstep 0 = wstep z (l.getD k cv0)) := by
        show _ = _
        have hl := HL.out
        rw [List.take_succ_eq_append_getElem (by omega), List.foldl_append, ← hz.out]
        simp [List.getD_eq_getElem?_getD, List.getElem?_eq_getElem (show k < l.length by omega)]
      generalize l.getD k cv0 = x at *
      obtain ⟨xk, xn, xt, xb, xe⟩ := x
      obtain ⟨c0, c1, c2, c3, c4⟩ := a5
      simp only at c0 c1 c2 c3 c4 hsz
      by_cases h4 : xk = 4
      · subst h4
        have HM := hid (fun W (q : Q w W) => may_any 4 xn xt xb xe W (HW.out.on q) hsz)
        cases hA : mayB 4 xn xt.toList xb xe with
        | false =>
          rw [hA] at HM
          have HZ : Hid (z = (l.take (k + 1)).foldl wstep 0) := by show _ = _; rw [hst.out]; unfold wstep Cv.may; simp only [hA]; simp
          clear hA hsz
          go_wp2_with (go_at_call 80; refine (HM.out _ (hq.alloc _)).mono ?_; rintro x w1 ⟨rfl, q1⟩)
          go_roundw
          case rel => exact ⟨k + 1, z, by omega, by go_num, rfl, hq.trans (q1a q1), HZ⟩
          case measure => simp [intOf]; omega
        | true =>
          rw [hA] at HM
          by_cases h0 : z = 0
          · have HZ : Hid (xe = (l.take (k + 1)).foldl wstep 0) := by show _ = _; rw [hst.out]; unfold wstep Cv.may; simp only [hA]; simp [h0]
            subst h0
            clear hA hsz
            go_wp2_with (go_at_call 80; refine (HM.out _ (hq.alloc _)).mono ?_; rintro x w1 ⟨rfl, q1⟩; obtain ⟨g0, g1, g2, g3, g4⟩ := box0 q1)
            go_roundw
            case rel => exact ⟨k + 1, xe, by omega, by go_num, rfl, hq.trans (q1a q1), HZ⟩
            case measure => simp [intOf]; omega
          · have h0b : (z == 0) = false := beq_eq_false_iff_ne.2 h0
            by_cases hlz : xe < z
            · have HZ : Hid (xe = (l.take (k + 1)).foldl wstep 0) := by show _ = _; rw [hst.out]; unfold wstep Cv.may; simp only [hA]; simp [hlz]
              clear hA hsz h0
              go_wp2_with (go_at_call 80; refine (HM.out _ (hq.alloc _)).mono ?_; rintro x w1 ⟨rfl, q1⟩; obtain ⟨g0, g1, g2, g3, g4⟩ := box0 q1)
              go_roundw
              case rel => exact ⟨k + 1, xe, by omega, by go_num, rfl, hq.trans (q1a q1), HZ⟩
              case measure => simp [intOf]; omega
            · have HZ : Hid (z = (l.take (k + 1)).foldl wstep 0) := by show _ = _; rw [hst.out]; unfold wstep Cv.may; simp only [hA]; simp [hlz, h0]
              clear hA hsz h0
              go_wp2_with (go_at_call 80; refine (HM.out _ (hq.alloc _)).mono ?_; rintro x w1 ⟨rfl, q1⟩; obtain ⟨g0, g1, g2, g3, g4⟩ := box0 q1)
              go_roundw
              case rel => exact ⟨k + 1, z, by omega, by go_num, rfl, hq.trans (q1a q1), HZ⟩
              case measure => simp [intOf]; omega
      · have HZ : Hid (z = (l.take (k + 1)).foldl wstep 0) := by show _ = _; rw [hst.out]; unfold wstep; simp [h4]
        have h4b : (xk != 4) = true := bne_iff_ne.2 h4
        clear hsz
        go_wp2_with fail
        go_roundw
        case rel => exact ⟨k + 1, z, by omega, by go_num, rfl, hq.alloc _, HZ⟩
        case measure => simp [intOf]; omega
    · have HN : Hid (z = worst l) := by show _ = _; have h1 := hz.out; have h2 := HL.out; rw [List.take_of_length_le (by omega)] at h1; exact h1
      go_wp2
      go_ret
      exact ⟨ret_int HN.out, hq⟩
set_option maxHeartbeats 2000000 in
theorem rworst_row (b off len cap : Nat) (l : List Cv) (w : World) (hl : l.length = len) (hm : (len : Int) ≤ 1000)
    (hs : ∀ i, i < len → ((l.getD i cv0).t.size : Int) ≤ 9223372036854775000)
    (hc : ∀ i, i < len → At5 w b (off + i * 5) (l.getD i cv0)) :
    Calls Tryz.prog 22 #[.slice (some ⟨b, off, none⟩) len cap] w fun e w' => e = .returned (.int .i64 (worst l)) ∧ Q w w' := by
  have HC := hid hc
  have HL := hid hl
  have HS := hid hs
  clear hc hl hs
  go_enter Tryz.func22, Tryz.ntmps22
  go_wp2
  go_loopw [3, 4] (fun a i W => ∃ (k : Nat) (z : Int), k ≤ len ∧ i = .int .i64 k ∧ a = .int .i64 z ∧ Q w W ∧ Hid (z = (l.take k).foldl wstep 0)) (fun _ i _ => len - (intOf i).toNat)
  case atStart => exact ⟨0, 0, Nat.zero_le _, rfl, rfl, Q.refl _, rfl⟩
  case round =>
    obtain ⟨k, z, hk, rfl, rfl, hq, hz⟩ := hrel
    by_cases hlt : k < len
    · have a5 := (HC.out k hlt).on hq
      have hsz := HS.out k hlt
      have hst : Hid ((l.take (k + 1)).foldl wstep 0 = wstep z (l.getD k cv0)) := by
        show _ = _
        have hl := HL.out
        rw [List.take_succ_eq_append_getElem (by omega), List.foldl_append, ← hz.out]
        simp [List.getD_eq_getElem?_getD, List.getElem?_eq_getElem (show k < l.length by omega)]
      generalize l.getD k cv0 = x at *
      obtain ⟨xk, xn, xt, xb, xe⟩ := x
      have A5 := hid a5
      obtain ⟨c0, c1, c2, c3, c4⟩ := a5
      simp only at c0 c1 c2 c3 c4 hsz
      by_cases h4 : xk = 4
      · subst h4
        have HM := hid (fun W => rmay_any 4 xn xt xb xe W hsz)
        cases hA : mayB 4 xn xt.toList xb xe with
        | false =>
          rw [hA] at HM
          have HZ : Hid (z = (l.take (k + 1)).foldl wstep 0) := by show _ = _; rw [hst.out]; unfold wstep Cv.may; simp only [hA]; simp
          clear hA hsz
          go_wp2_with (go_at_call 23; refine (HM.out _).mono ?_; rintro x w1 ⟨rfl, q1⟩)
          go_roundw
          case rel => exact ⟨k + 1, z, by omega, by go_num, rfl, hq.trans q1, HZ⟩
          case measure => simp [intOf]; omega
        | true =>
          rw [hA] at HM
          by_cases h0 : z = 0
          · have HZ : Hid (xe = (l.take (k + 1)).foldl wstep 0) := by show _ = _; rw [hst.out]; unfold wstep Cv.may; simp only [hA]; simp [h0]
            subst h0
            clear hA hsz
            go_wp2_with (go_at_call 23; refine (HM.out _).mono ?_; rintro x w1 ⟨rfl, q1⟩; have g4 := (A5.out.on q1).c4; simp only at g4)
            go_roundw
            case rel => exact ⟨k + 1, xe, by omega, by go_num, rfl, hq.trans q1, HZ⟩
            case measure => simp [intOf]; omega
          · have h0b : (z == 0) = false := beq_eq_false_iff_ne.2 h0
            by_cases hlz : xe < z
            · have HZ : Hid (xe = (l.take (k + 1)).foldl wstep 0) := by show _ = _; rw [hst.out]; unfold wstep Cv.may; simp only [hA]; simp [hlz]
              clear hA hsz h0
              go_wp2_with (go_at_call 23; refine (HM.out _).mono ?_; rintro x w1 ⟨rfl, q1⟩; have g4 := (A5.out.on q1).c4; simp only at g4)
              go_roundw
              case rel => exact ⟨k + 1, xe, by omega, by go_num, rfl, hq.trans q1, HZ⟩
              case measure => simp [intOf]; omega
            · have HZ : Hid (z = (l.take (k + 1)).foldl wstep 0) := by show _ = _; rw [hst.out]; unfold wstep Cv.may; simp only [hA]; simp [hlz, h0]
              clear hA hsz h0
              go_wp2_with (go_at_call 23; refine (HM.out _).mono ?_; rintro x w1 ⟨rfl, q1⟩; have g4 := (A5.out.on q1).c4; simp only at g4)
              go_roundw
              case rel => exact ⟨k + 1, z, by omega, by go_num, rfl, hq.trans q1, HZ⟩
              case measure => simp [intOf]; omega
      · have HZ : Hid (z = (l.take (k + 1)).foldl wstep 0) := by show _ = _; rw [hst.out]; unfold wstep; simp [h4]
        have h4b : (xk == 4) = false := beq_eq_false_iff_ne.2 h4
        clear hsz
        go_wp2_with fail
        go_roundw
        case rel => exact ⟨k + 1, z, by omega, by go_num, rfl, hq, HZ⟩
        case measure => simp [intOf]; omega
    · have HN : Hid (z = worst l) := by show _ = _; have h1 := hz.out; have h2 := HL.out; rw [List.take_of_length_le (by omega)] at h1; exact h1
      go_wp2
      go_ret
      exact ⟨ret_int HN.out, hq⟩
end Go.Proofs.YtfjpdopmojfchaaGreatDoor
