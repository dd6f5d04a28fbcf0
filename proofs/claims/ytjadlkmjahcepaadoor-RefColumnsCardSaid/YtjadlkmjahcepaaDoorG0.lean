/- References as texts: what is printed. -/
import Derived.Test.YtjadlkmjahcepaaDoorH
import Derived.Test.YtjadlkmjahcepaaDoorC1
import Derived.Test.YtjadlkmjahcepaaDoorF0
namespace Go.Proofs.YtjadlkmjahcepaaDoor
open Go.RowKit
set_option linter.unusedVariables false
set_option linter.unusedSimpArgs false

/-- the sheet's part of a text -/
def shX (sh : List UInt8) : List UInt8 := if sh.isEmpty then [] else sh ++ [33]
def prL (sh : List UInt8) (row col : Int) (ra ca : Bool) : List UInt8 := (((shX sh ++ sgL ca) ++ cnL col) ++ sgL ra) ++ Lib.decDigits (row + 1).toNat
/-- what is printed; nothing of a reference that may not be -/
def prR (sh : List UInt8) (row col : Int) (ra ca : Bool) : List UInt8 := if mayR sh row col then prL sh row col ra ca else []
theorem sg_len (b : Bool) : (sgL b).length ≤ 1 := by cases b <;> decide
theorem cn_len (n : Int) : (cnL n).length ≤ 9 := by
  unfold cnL
  split
  · exact nm_nine _ (by omega)
  · simp
theorem shX_len (l : List UInt8) : (shX l).length ≤ l.length + 1 := by
  unfold shX
  split
  · simp
  · simp
theorem dec_len (u : Nat) (h : u ≤ 2199023255552) : (Lib.decDigits u).length ≤ 20 := by
  rw [Lib.decDigits_length]
  exact nDigits_le u (by omega)
/-- the program's sums of texts -/
structure Cat (SH SA NM SB DC X1 X2 X3 X4 : ByteArray) : Prop where
  e1 : SH ++ SA = X1
  e2 : X1 ++ NM = X2
  e3 : X2 ++ SB = X3
  e4 : X3 ++ DC = X4
  z0 : SH.size ≤ 100000
  z1 : X1.size ≤ 100000
  z2 : X2.size ≤ 100000
  z3 : X3.size ≤ 100000
  z4 : X4.size ≤ 100000
  y1 : SA.size ≤ 100000
  y2 : NM.size ≤ 100000
  y3 : SB.size ≤ 100000
  y4 : DC.size ≤ 100000
theorem cat_of (sh : List UInt8) (row col : Int) (ra ca : Bool) (hs : sh.length ≤ 1000) (r0 : 0 ≤ row) (r1 : row < 2199023255552) :
    ∃ X1 X2 X3, Cat ⟨(shX sh).toArray⟩ ⟨(sgL ca).toArray⟩ ⟨(cnL col).toArray⟩ ⟨(sgL ra).toArray⟩ ⟨(Lib.decDigits (row + 1).toNat).toArray⟩ X1 X2 X3 ⟨(prL sh row col ra ca).toArray⟩ := by
  have h1 := shX_len sh
  have h2 := sg_len ca
  have h3 := sg_len ra
  have h4 := cn_len col
  have h5 := dec_len (row + 1).toNat (by omega)
  refine ⟨⟨(shX sh ++ sgL ca).toArray⟩, ⟨((shX sh ++ sgL ca) ++ cnL col).toArray⟩, ⟨(((shX sh ++ sgL ca) ++ cnL col) ++ sgL ra).toArray⟩, bytes_cat _ _, bytes_cat _ _, bytes_cat _ _, bytes_cat _ _, ?_, ?_, ?_, ?_, ?_, ?_, ?_, ?_, ?_⟩
  all_goals
    rw [size_mk]
    try unfold prL
    try simp only [List.length_append]
    omega
theorem fmt_any (n : Int) (w : World) (hw : Std w) (n0 : 0 ≤ n) (n1 : n ≤ 2199023255552) :
    Calls Tryd.prog 30 #[.int .i64 n, .int .i64 10] w fun e w' => e = .returned (.string ⟨(Lib.decDigits n.toNat).toArray⟩) ∧ Q w w' := by
  refine (Tryd.strconv_FormatInt_10 n (by omega) (by omega) w hw.tab).mono ?_
  rintro e w' ⟨rfl, k, os, rfl⟩
  refine ⟨ret_str ?_, Q.grow w k os⟩
  obtain ⟨m, rfl⟩ := Int.eq_ofNat_of_zero_le n0
  rfl
/-- a reference in a block of its own -/
structure PB (w W : World) (sh : ByteArray) (row col : Int) (ra ca : Bool) : Prop where
  q : Q w W
  c0 : W.cell? ⟨w.heap.size, 0, none⟩ = some (.string sh)
  c1 : W.cell? ⟨w.heap.size, 1, none⟩ = some (.int .i64 row)
  c2 : W.cell? ⟨w.heap.size, 2, none⟩ = some (.int .i64 col)
  c3 : W.cell? ⟨w.heap.size, 3, none⟩ = some (.bool ra)
  c4 : W.cell? ⟨w.heap.size, 4, none⟩ = some (.bool ca)
theorem PB.start (w : World) (sh : ByteArray) (row col : Int) (ra ca : Bool) : PB w (w.alloc (.cells #[.string sh, .int .i64 row, .int .i64 col, .bool ra, .bool ca] 25)) sh row col ra ca := by
  refine ⟨(Q.refl _).alloc _, ?_, ?_, ?_, ?_, ?_⟩ <;> (rw [World.cell?_alloc_new]; rfl)
theorem PB.on {w W W' : World} {sh : ByteArray} {row col : Int} {ra ca : Bool} (h : PB w W sh row col ra ca) (q : Q W W') : PB w W' sh row col ra ca := by
  have hb : w.heap.size < W.heap.size := World.block_lt_of_cell? W ⟨w.heap.size, 0, none⟩ h.c0
  exact ⟨h.q.trans q, by rw [q.cell hb]; exact h.c0, by rw [q.cell hb]; exact h.c1, by rw [q.cell hb]; exact h.c2, by rw [q.cell hb]; exact h.c3, by rw [q.cell hb]; exact h.c4⟩
end Go.Proofs.YtjadlkmjahcepaaDoor
