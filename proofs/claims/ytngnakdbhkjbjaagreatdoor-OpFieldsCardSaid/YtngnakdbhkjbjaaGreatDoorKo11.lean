/- References as texts: what is printed; Rectangles of operations: op.endsWithin, mayRects; counterpaneref10.inside. -/
import Derived.Test.YtngnakdbhkjbjaaGreatDoorKo00
import Derived.Test.YtngnakdbhkjbjaaGreatDoorKo01
import Derived.Test.YtngnakdbhkjbjaaGreatDoorKo07
set_option linter.unusedVariables false
set_option linter.unusedSimpArgs false
namespace Go.Proofs.YtngnakdbhkjbjaaGreatDoor
open Go.RowKit Go.Sort
theorem dec_small {m : Nat} (h : m < 10) : Lib.decDigits m = [UInt8.ofNat (48 + m % 10)] := by
  rw [Lib.decDigits_one h, Nat.mod_eq_of_lt h]
theorem nDigits_le (N : Nat) (h : N < 18446744073709551616) : Lib.nDigits N ≤ 20 := by
  rcases Nat.eq_zero_or_pos N with h0 | h0
  · subst h0
    have h1 := congrArg List.length (dec_small (m := 0) (by omega))
    rw [Lib.decDigits_length] at h1
    have h2 : ([UInt8.ofNat (48 + 0 % 10)] : List UInt8).length = 1 := rfl
    omega
  · have := Lib.numDigits_eq N h0 h
    split at this <;> omega
theorem Q.grow (w : World) (k : Nat) (os : Array Obj) : Q w (grow (w.drewN k) os) := by
  refine Q.trans ((Q.refl w).drewN k) ?_
  refine ⟨rfl, rfl, rfl, by simp [Go.Sort.grow], fun i hi => ?_⟩
  show ((w.drewN k).heap ++ os)[i]? = (w.drewN k).heap[i]?
  rw [Array.getElem?_append_left hi]
/-- the sheet's part of a text -/
def shX (sh : List UInt8) : List UInt8 := if sh.isEmpty then [] else sh ++ [33]
def prL (sh : List UInt8) (row col : Int) (ra ca : Bool) : List UInt8 := (((shX sh ++ sgS ca) ++ cnL col) ++ sgS ra) ++ Lib.decDigits (row + 1).toNat
/-- what is printed; nothing of a reference that may not be -/
def prR (sh : List UInt8) (row col : Int) (ra ca : Bool) : List UInt8 := if mayR sh row col then prL sh row col ra ca else []
theorem sg_len (b : Bool) : (sgS b).length ≤ 1 := by cases b <;> decide
theorem cn_len (n : Int) : (cnL n).length ≤ 9 := by
  unfold cnL
  split
  · exact nm_nine _ (by omega)
  · simp
theorem shX_len (l : List UInt8) : (shX l).length ≤ l.length + 1 := by
  unfold shX
  split
  · simp
  · simp
theorem dec_len (u : Nat) (h : u ≤ 2199023255552) : (Lib.decDigits u).length ≤ 20 := by
  rw [Lib.decDigits_length]
  exact nDigits_le u (by omega)
/-- the program's sums of texts -/
structure Cat (SH SA NM SB DC X1 X2 X3 X4 : ByteArray) : Prop where
  e1 : SH ++ SA = X1
  e2 : X1 ++ NM = X2
  e3 : X2 ++ SB = X3
  e4 : X3 ++ DC = X4
  z0 : SH.size ≤ 100000
  z1 : X1.size ≤ 100000
  z2 : X2.size ≤ 100000
  z3 : X3.size ≤ 100000
  z4 : X4.size ≤ 100000
  y1 : SA.size ≤ 100000
  y2 : NM.size ≤ 100000
  y3 : SB.size ≤ 100000
  y4 : DC.size ≤ 100000
theorem cat_of (sh : List UInt8) (row col : Int) (ra ca : Bool) (hs : sh.length ≤ 1000) (r0 : 0 ≤ row) (r1 : row < 2199023255552) :
    ∃ X1 X2 X3, Cat ⟨(shX sh).toArray⟩ ⟨(sgS ca).toArray⟩ ⟨(cnL col).toArray⟩ ⟨(sgS ra).toArray⟩ ⟨(Lib.decDigits (row + 1).toNat).toArray⟩ X1 X2 X3 ⟨(prL sh row col ra ca).toArray⟩ := by
  have h1 := shX_len sh
  have h2 := sg_len ca
  have h3 := sg_len ra
  have h4 := cn_len col
  have h5 := dec_len (row + 1).toNat (by omega)
  refine ⟨⟨(shX sh ++ sgS ca).toArray⟩, ⟨((shX sh ++ sgS ca) ++ cnL col).toArray⟩, ⟨(((shX sh ++ sgS ca) ++ cnL col) ++ sgS ra).toArray⟩, bytes_cat _ _, bytes_cat _ _, bytes_cat _ _, bytes_cat _ _, ?_, ?_, ?_, ?_, ?_, ?_, ?_, ?_, ?_⟩
  all_goals
    rw [size_mk]
    try unfold prL
    try simp only [List.length_append]
    omega
theorem fmt_any (n : Int) (w : World) (hw : Lib.TabIs Tryz.prog w "internal/strconv.uint64pow10" .u64 Lib.pow10Tab) (n0 : 0 ≤ n) (n1 : n ≤ 2199023255552) :
    Calls Tryz.prog 124 #[.int .i64 n, .int .i64 10] w fun e w' => e = .returned (.string ⟨(Lib.decDigits n.toNat).toArray⟩) ∧ Q w w' := by
  refine (Tryz.strconv_FormatInt_10 n (by omega) (by omega) w hw).mono ?_
  rintro e w' ⟨rfl, k, os, rfl⟩
  refine ⟨ret_str ?_, Q.grow w k os⟩
  obtain ⟨m, rfl⟩ := Int.eq_ofNat_of_zero_le n0
  rfl
/-- a reference in a block of its own -/
structure PB (w W : World) (sh : ByteArray) (row col : Int) (ra ca : Bool) : Prop where
  q : Q w W
  c0 : W.cell? ⟨w.heap.size, 0, none⟩ = some (.string sh)
  c1 : W.cell? ⟨w.heap.size, 1, none⟩ = some (.int .i64 row)
  c2 : W.cell? ⟨w.heap.size, 2, none⟩ = some (.int .i64 col)
  c3 : W.cell? ⟨w.heap.size, 3, none⟩ = some (.bool ra)
  c4 : W.cell? ⟨w.heap.size, 4, none⟩ = some (.bool ca)
theorem PB.start (w : World) (sh : ByteArray) (row col : Int) (ra ca : Bool) : PB w (w.alloc (.cells #[.string sh, .int .i64 row, .int .i64 col, .bool ra, .bool ca] 95)) sh row col ra ca := by
  refine ⟨(Q.refl _).alloc _, ?_, ?_, ?_, ?_, ?_⟩ <;> (rw [World.cell?_alloc_new]; rfl)
theorem PB.on {w W W' : World} {sh : ByteArray} {row col : Int} {ra ca : Bool} (h : PB w W sh row col ra ca) (q : Q W W') : PB w W' sh row col ra ca := by
  have hb : w.heap.size < W.heap.size := World.block_lt_of_cell? W ⟨w.heap.size, 0, none⟩ h.c0
  exact ⟨h.q.trans q, by rw [q.cell hb]; exact h.c0, by rw [q.cell hb]; exact h.c1, by rw [q.cell hb]; exact h.c2, by rw [q.cell hb]; exact h.c3, by rw [q.cell hb]; exact h.c4⟩
end Go.Proofs.YtngnakdbhkjbjaaGreatDoor
namespace Go.Proofs.YtngnakdbhkjbjaaGreatDoor
open Go.RowKit
/-- no end beyond m -/
def in1 (m : Int) (x : R.Rg.Rc) : Bool := decide (x.c ≤ m ∧ x.d ≤ m)
def inB (m : Int) (L : List R.Rg.Rc) : Bool := L.all (in1 m)
theorem in_no {m : Int} {L : List R.Rg.Rc} {k : Nat} (h : k < L.length) (hd : in1 m L[k] = false) : inB m L = false := by
  unfold inB
  rw [List.all_eq_false]
  exact ⟨_, List.getElem_mem h, by simp [hd]⟩
theorem in_succ {m : Int} {L : List R.Rg.Rc} {k : Nat} (h : k < L.length) (hd : in1 m L[k] = true) (ha : inB m (L.take k) = true) : inB m (L.take (k + 1)) = true := by
  unfold inB at *
  rw [List.take_succ_eq_append_getElem h, List.all_append, ha]
  simp [hd]
set_option maxRecDepth 100000 in
set_option maxHeartbeats 2000000 in
theorem ends_any (v : Value) (L : List R.Rg.Rc) (m : Int) (w : World) (h : R.Sl R.rc 4 w v L) : Calls Tryz.prog 49 #[v, .int .i64 m] w fun e w' => e = .returned (.bool (inB m L)) ∧ Q w w' := by
  have HS := hid h
  obtain ⟨ao, cap, rfl, h1, h2⟩ := h.len
  clear h
  have h3 : L.length ≤ 9223372036854775807 := Nat.le_trans h1 (by unfold maxLen at h2; omega)
  go_enter Tryz.func49, Tryz.ntmps49
  go_wp2
  go_loopw [9] (fun s W => ∃ (n : Nat), n ≤ L.length ∧ s = .int .i64 n ∧ Hid (inB m (L.take n) = true) ∧ Q w W) (fun s _ => L.length - (intOf s).toNat)
  case atStart => exact ⟨0, Nat.zero_le _, rfl, hid rfl, Q.refl _⟩
  case round =>
    obtain ⟨n, hn, rfl, ha, hq⟩ := hrel
    have HQ := hid hq
    clear hq
    by_cases hlt : n < L.length
    · have hlt' : (n : Int) < (L.length : Int) := by omega
      obtain ⟨g, off, cap', e, _, _, hc⟩ := (HS.out.on HQ.out).at hlt
      cases e
      cases hd : in1 m L[n]
      · have HN := hid (in_no hlt hd)
        have hm : m < max L[n].c L[n].d := by unfold in1 at hd; simp only [decide_eq_false_iff_not] at hd; omega
        clear hd
        generalize L[n] = x at *
        obtain ⟨xa, xb, xc, xd⟩ := x
        have c0 : wr.cell? ⟨g, off + n * 4, none⟩ = some (.int .i64 xa) := hc 0 _ rfl
        have c1 : wr.cell? ⟨g, off + n * 4 + 1, none⟩ = some (.int .i64 xb) := hc 1 _ rfl
        have c2 : wr.cell? ⟨g, off + n * 4 + 2, none⟩ = some (.int .i64 xc) := hc 2 _ rfl
        have c3 : wr.cell? ⟨g, off + n * 4 + 3, none⟩ = some (.int .i64 xd) := hc 3 _ rfl
        have hm' : m < max xc xd := hm
        rw [R.max_if] at hm'
        clear hc hm
        go_wp2
        all_goals first
          | (go_ret; exact ⟨ret_bool HN.out.symm, HQ.out.alloc _⟩)
          | (exfalso; omega)
      · have HN := hid (in_succ hlt hd ha.out)
        have hm : ¬ m < max L[n].c L[n].d := by unfold in1 at hd; simp only [decide_eq_true_eq] at hd; omega
        clear hd
        generalize L[n] = x at *
        obtain ⟨xa, xb, xc, xd⟩ := x
        have c0 : wr.cell? ⟨g, off + n * 4, none⟩ = some (.int .i64 xa) := hc 0 _ rfl
        have c1 : wr.cell? ⟨g, off + n * 4 + 1, none⟩ = some (.int .i64 xb) := hc 1 _ rfl
        have c2 : wr.cell? ⟨g, off + n * 4 + 2, none⟩ = some (.int .i64 xc) := hc 2 _ rfl
        have c3 : wr.cell? ⟨g, off + n * 4 + 3, none⟩ = some (.int .i64 xd) := hc 3 _ rfl
        have hm' : ¬ m < max xc xd := hm
        rw [R.max_if] at hm'
        clear hc hm
        go_wp2
        all_goals first
          | (go_roundw
             case rel => exact ⟨n + 1, by omega, by go_num, HN, HQ.out.alloc _⟩
             case measure => simp [intOf]; omega)
          | (exfalso; omega)
    · have HN : Hid (inB m L = true) := by
        show _ = _
        have := ha.out
        rw [List.take_of_length_le (by omega)] at this
        exact this
      go_wp2
      go_ret
      exact ⟨ret_bool HN.out.symm, HQ.out⟩
end Go.Proofs.YtngnakdbhkjbjaaGreatDoor
