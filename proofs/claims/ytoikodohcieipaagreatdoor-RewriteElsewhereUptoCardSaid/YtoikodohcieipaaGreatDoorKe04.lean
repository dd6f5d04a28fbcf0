/- counterpaneref5.count, walked;. -/
import Derived.Test.YtoikodohcieipaaGreatDoorKe03
import Derived.Test.YtoikodohcieipaaGreatDoorKe00
import Derived.Deep.RegionHeld3
import Derived.Deep.CutBlock
import Derived.Deep.CutRange
set_option linter.unusedVariables false
set_option linter.unusedSimpArgs false
set_option maxRecDepth 100000
set_option maxHeartbeats 8000000
namespace Go.Proofs.YtoikodohcieipaaGreatDoor
open Go.RowKit
theorem kid_size {k n : Int} {t : List UInt8} {b : Bool} {e : Int} {rs : List Rf} {ks : List Ex} (i : Nat) (h : i < ks.length) : SizeOf.sizeOf ks[i] < SizeOf.sizeOf (Ex.mk k n t b e rs ks) := by
  have := List.sizeOf_lt_of_mem (List.getElem_mem h)
  simp
  omega
def Ans (p : Prop) (e : Ending) : Prop := ∃ r : Bool, e = .returned (.bool r) ∧ (r = true ↔ p)
theorem Ans.no {p : Prop} (h : ¬ p) : Ans p (.returned (.bool false)) := ⟨false, rfl, by simp [h]⟩
theorem Ans.yes {p : Prop} (h : p) : Ans p (.returned (.bool true)) := ⟨true, rfl, by simp [h]⟩
theorem beq_no {α : Type} [BEq α] [LawfulBEq α] {a b : α} (h : a ≠ b) : (a == b) = false := by rw [beq_eq_false_iff_ne]; exact h
theorem str_no {a b : ByteArray} (h : a.data.toList ≠ b.data.toList) : (a.toList == b.toList) = false := by rw [Lib.toList_data, Lib.toList_data]; exact beq_no h
theorem str_eq {a b : ByteArray} (h : a.data.toList = b.data.toList) : a = b := by
  apply ByteArray.ext
  apply Array.ext'
  exact h
structure Two (w W : World) (k n : Int) (t : ByteArray) (b : Bool) (e : Int) (rv kv : Value) (k' n' : Int) (t' : ByteArray) (b' : Bool) (e' : Int) (rv' kv' : Value) : Prop where
  one : Bx w W (.int .i64 k) (.int .i64 n) (.string t) (.bool b) (.int .i64 e) rv kv
  lt : w.heap.size + 1 < W.heap.size
  g5 : W.cell? ⟨w.heap.size + 1, 5, none⟩ = some rv'
  g6 : W.cell? ⟨w.heap.size + 1, 6, none⟩ = some kv'
theorem Two.on {w W W' : World} {k n : Int} {t : ByteArray} {b : Bool} {e : Int} {rv kv : Value} {k' n' : Int} {t' : ByteArray} {b' : Bool} {e' : Int} {rv' kv' : Value} (h : Two w W k n t b e rv kv k' n' t' b' e' rv' kv') (q : Q W W') : Two w W' k n t b e rv kv k' n' t' b' e' rv' kv' :=
  ⟨h.one.on q, q.lt h.lt, (q.cell h.lt).trans h.g5, (q.cell h.lt).trans h.g6⟩
theorem Two.start (w : World) (k n : Int) (t : ByteArray) (b : Bool) (e : Int) (rv kv : Value) (k' n' : Int) (t' : ByteArray) (b' : Bool) (e' : Int) (rv' kv' : Value) (ty : TypeId) :
    Two w ((w.alloc (.cells #[.int .i64 k, .int .i64 n, .string t, .bool b, .int .i64 e, rv, kv] ty)).alloc (.cells #[.int .i64 k', .int .i64 n', .string t', .bool b', .int .i64 e', rv', kv'] ty)) k n t b e rv kv k' n' t' b' e' rv' kv' := by
  refine ⟨(Bx.start _ _ _ _ _ _ _ _ _).on ((Q.refl _).alloc _), by simp, ?_, ?_⟩
  · have e : w.heap.size + 1 = (w.alloc (.cells #[.int .i64 k, .int .i64 n, .string t, .bool b, .int .i64 e, rv, kv] ty)).heap.size := by simp
    rw [e]; simp [World.cell?_alloc_new]
  · have e : w.heap.size + 1 = (w.alloc (.cells #[.int .i64 k, .int .i64 n, .string t, .bool b, .int .i64 e, rv, kv] ty)).heap.size := by simp
    rw [e]; simp [World.cell?_alloc_new]
set_option maxHeartbeats 4000000 in
theorem eq_heads (k n : Int) (t : ByteArray) (b : Bool) (e : Int) (a1 : Option Addr) (l1 c1 : Nat) (a2 : Option Addr) (l2 c2 : Nat) (k' n' : Int) (t' : ByteArray) (b' : Bool) (e' : Int) (a3 : Option Addr) (l3 c3 : Nat) (a4 : Option Addr) (l4 c4 : Nat) (w : World)
    (h : ¬ (k = k' ∧ n = n' ∧ t.data.toList = t'.data.toList ∧ b = b' ∧ e = e' ∧ l1 = l3 ∧ l2 = l4)) :
    Calls Tryz.prog 13 #[.agg #[.int .i64 k, .int .i64 n, .string t, .bool b, .int .i64 e, .slice a1 l1 c1, .slice a2 l2 c2], .agg #[.int .i64 k', .int .i64 n', .string t', .bool b', .int .i64 e', .slice a3 l3 c3, .slice a4 l4 c4]] w fun x w' => x = .returned (.bool false) ∧ Q w w' := by
  by_cases h1 : k = k'
  · subst h1
    by_cases h2 : n = n'
    · subst h2
      by_cases h3 : t.data.toList = t'.data.toList
      · obtain rfl := str_eq h3
        by_cases h4 : b = b'
        · subst h4
          by_cases h5 : e = e'
          · subst h5
            by_cases h6 : l1 = l3
            · subst h6
              have h7 : l2 ≠ l4 := fun e => h ⟨rfl, rfl, rfl, rfl, rfl, rfl, e⟩
              have f7 : ((l2 : Int) == (l4 : Int)) = false := beq_no (by omega)
              clear h h3 h7
              go_enter Tryz.func13, Tryz.ntmps13
              go_wp2
              go_ret
              exact ⟨rfl, ((Q.refl _).alloc _).alloc _⟩
            · have f6 : ((l1 : Int) == (l3 : Int)) = false := beq_no (by omega)
              clear h h3 h6
              go_enter Tryz.func13, Tryz.ntmps13
              go_wp2
              go_ret
              exact ⟨rfl, ((Q.refl _).alloc _).alloc _⟩
          · have f5 : (e == e') = false := beq_no h5
            clear h h3
            go_enter Tryz.func13, Tryz.ntmps13
            go_wp2
            go_ret
            exact ⟨rfl, ((Q.refl _).alloc _).alloc _⟩
        · have f4 : b' = !b := by cases b <;> cases b' <;> simp_all
          subst f4
          clear h h3 h4
          cases b
          · go_enter Tryz.func13, Tryz.ntmps13
            go_wp2
            go_ret
            exact ⟨rfl, ((Q.refl _).alloc _).alloc _⟩
          · go_enter Tryz.func13, Tryz.ntmps13
            go_wp2
            go_ret
            exact ⟨rfl, ((Q.refl _).alloc _).alloc _⟩
      · have f3 := str_no h3
        clear h h3
        go_enter Tryz.func13, Tryz.ntmps13
        go_wp2
        go_ret
        exact ⟨rfl, ((Q.refl _).alloc _).alloc _⟩
    · have f2 : (n == n') = false := beq_no h2
      clear h
      go_enter Tryz.func13, Tryz.ntmps13
      go_wp2
      go_ret
      exact ⟨rfl, ((Q.refl _).alloc _).alloc _⟩
  · have f1 : (k == k') = false := beq_no h1
    clear h
    go_enter Tryz.func13, Tryz.ntmps13
    go_wp2
    go_ret
    exact ⟨rfl, ((Q.refl _).alloc _).alloc _⟩
end Go.Proofs.YtoikodohcieipaaGreatDoor
namespace Go.Proofs.YtoikodohcieipaaGreatDoor
open Go.RowKit Go.Sort
theorem dec_small {m : Nat} (h : m < 10) : Lib.decDigits m = [UInt8.ofNat (48 + m % 10)] := by
  rw [Lib.decDigits_one h, Nat.mod_eq_of_lt h]
theorem nDigits_le (N : Nat) (h : N < 18446744073709551616) : Lib.nDigits N ≤ 20 := by
  rcases Nat.eq_zero_or_pos N with h0 | h0
  · subst h0
    have h1 := congrArg List.length (dec_small (m := 0) (by omega))
    rw [Lib.decDigits_length] at h1
    have h2 : ([UInt8.ofNat (48 + 0 % 10)] : List UInt8).length = 1 := rfl
    omega
  · have := Lib.numDigits_eq N h0 h
    split at this <;> omega
theorem Q.grow (w : World) (k : Nat) (os : Array Obj) : Q w (grow (w.drewN k) os) := by
  refine Q.trans ((Q.refl w).drewN k) ?_
  refine ⟨rfl, rfl, rfl, by simp [Go.Sort.grow], fun i hi => ?_⟩
  show ((w.drewN k).heap ++ os)[i]? = (w.drewN k).heap[i]?
  rw [Array.getElem?_append_left hi]
def shX (sh : List UInt8) : List UInt8 := if sh.isEmpty then [] else sh ++ [33]
def prL (sh : List UInt8) (row col : Int) (ra ca : Bool) : List UInt8 := (((shX sh ++ sgS ca) ++ cnL col) ++ sgS ra) ++ Lib.decDigits (row + 1).toNat
def prR (sh : List UInt8) (row col : Int) (ra ca : Bool) : List UInt8 := if mayR sh row col then prL sh row col ra ca else []
theorem sg_len (b : Bool) : (sgS b).length ≤ 1 := by cases b <;> decide
theorem cn_len (n : Int) : (cnL n).length ≤ 9 := by
  unfold cnL
  split
  · exact nm_nine _ (by omega)
  · simp
theorem shX_len (l : List UInt8) : (shX l).length ≤ l.length + 1 := by
  unfold shX
  split
  · simp
  · simp
theorem dec_len (u : Nat) (h : u ≤ 2199023255552) : (Lib.decDigits u).length ≤ 20 := by
  rw [Lib.decDigits_length]
  exact nDigits_le u (by omega)
structure Cat (SH SA NM SB DC X1 X2 X3 X4 : ByteArray) : Prop where
  e1 : SH ++ SA = X1
  e2 : X1 ++ NM = X2
  e3 : X2 ++ SB = X3
  e4 : X3 ++ DC = X4
  z0 : SH.size ≤ 100000
  z1 : X1.size ≤ 100000
  z2 : X2.size ≤ 100000
  z3 : X3.size ≤ 100000
  z4 : X4.size ≤ 100000
  y1 : SA.size ≤ 100000
  y2 : NM.size ≤ 100000
  y3 : SB.size ≤ 100000
  y4 : DC.size ≤ 100000
theorem cat_of (sh : List UInt8) (row col : Int) (ra ca : Bool) (hs : sh.length ≤ 1000) (r0 : 0 ≤ row) (r1 : row < 2199023255552) :
    ∃ X1 X2 X3, Cat ⟨(shX sh).toArray⟩ ⟨(sgS ca).toArray⟩ ⟨(cnL col).toArray⟩ ⟨(sgS ra).toArray⟩ ⟨(Lib.decDigits (row + 1).toNat).toArray⟩ X1 X2 X3 ⟨(prL sh row col ra ca).toArray⟩ := by
  have h1 := shX_len sh
  have h2 := sg_len ca
  have h3 := sg_len ra
  have h4 := cn_len col
  have h5 := dec_len (row + 1).toNat (by omega)
  refine ⟨⟨(shX sh ++ sgS ca).toArray⟩, ⟨((shX sh ++ sgS ca) ++ cnL col).toArray⟩, ⟨(((shX sh ++ sgS ca) ++ cnL col) ++ sgS ra).toArray⟩, bytes_cat _ _, bytes_cat _ _, bytes_cat _ _, bytes_cat _ _, ?_, ?_, ?_, ?_, ?_, ?_, ?_, ?_, ?_⟩
  all_goals
    rw [size_mk]
    try unfold prL
    try simp only [List.length_append]
    omega
theorem fmt_any (n : Int) (w : World) (hw : Lib.TabIs Tryz.prog w "internal/strconv.uint64pow10" .u64 Lib.pow10Tab) (n0 : 0 ≤ n) (n1 : n ≤ 2199023255552) :
    Calls Tryz.prog 112 #[.int .i64 n, .int .i64 10] w fun e w' => e = .returned (.string ⟨(Lib.decDigits n.toNat).toArray⟩) ∧ Q w w' := by
  refine (Tryz.strconv_FormatInt_10 n (by omega) (by omega) w hw).mono ?_
  rintro e w' ⟨rfl, k, os, rfl⟩
  refine ⟨ret_str ?_, Q.grow w k os⟩
  obtain ⟨m, rfl⟩ := Int.eq_ofNat_of_zero_le n0
  rfl
structure PB (w W : World) (sh : ByteArray) (row col : Int) (ra ca : Bool) : Prop where
  q : Q w W
  c0 : W.cell? ⟨w.heap.size, 0, none⟩ = some (.string sh)
  c1 : W.cell? ⟨w.heap.size, 1, none⟩ = some (.int .i64 row)
  c2 : W.cell? ⟨w.heap.size, 2, none⟩ = some (.int .i64 col)
  c3 : W.cell? ⟨w.heap.size, 3, none⟩ = some (.bool ra)
  c4 : W.cell? ⟨w.heap.size, 4, none⟩ = some (.bool ca)
theorem PB.start (w : World) (sh : ByteArray) (row col : Int) (ra ca : Bool) : PB w (w.alloc (.cells #[.string sh, .int .i64 row, .int .i64 col, .bool ra, .bool ca] 40)) sh row col ra ca := by
  refine ⟨(Q.refl _).alloc _, ?_, ?_, ?_, ?_, ?_⟩ <;> (rw [World.cell?_alloc_new]; rfl)
theorem PB.on {w W W' : World} {sh : ByteArray} {row col : Int} {ra ca : Bool} (h : PB w W sh row col ra ca) (q : Q W W') : PB w W' sh row col ra ca := by
  have hb : w.heap.size < W.heap.size := World.block_lt_of_cell? W ⟨w.heap.size, 0, none⟩ h.c0
  exact ⟨h.q.trans q, by rw [q.cell hb]; exact h.c0, by rw [q.cell hb]; exact h.c1, by rw [q.cell hb]; exact h.c2, by rw [q.cell hb]; exact h.c3, by rw [q.cell hb]; exact h.c4⟩
end Go.Proofs.YtoikodohcieipaaGreatDoor
namespace Go.Proofs.YtoikodohcieipaaGreatDoor
open Go.RowKit
set_option maxHeartbeats 2000000 in
theorem print_plain (sh SH SA NM SB DC X1 X2 X3 X4 : ByteArray) (row col : Int) (ra ca : Bool) (w : World) (hz : sh.size ≤ 1000)
    (HM1 : Hid (∀ W, Calls Tryz.prog 108 #[.int .i64 row] W fun e w' => e = .returned (.bool true) ∧ w' = W))
    (HM2 : Hid (∀ W, Calls Tryz.prog 108 #[.int .i64 col] W fun e w' => e = .returned (.bool true) ∧ w' = W))
    (hE : (sh.toList == []) = true)
    (HS1 : Hid (∀ W, Calls Tryz.prog 110 #[.bool ca] W fun e w' => e = .returned (.string SA) ∧ w' = W))
    (HS2 : Hid (∀ W, Calls Tryz.prog 110 #[.bool ra] W fun e w' => e = .returned (.string SB) ∧ w' = W))
    (HN : Hid (∀ W, Calls Tryz.prog 111 #[.int .i64 col] W fun e w' => e = .returned (.string NM) ∧ Q W w'))
    (HF : Hid (∀ W, Q w W → Calls Tryz.prog 112 #[.int .i64 (row + 1), .int .i64 10] W fun e w' => e = .returned (.string DC) ∧ Q W w'))
    (r0 : 0 ≤ row) (r1 : row < 2199023255552) (hc : Cat ⟨#[]⟩ SA NM SB DC X1 X2 X3 X4) :
    Calls Tryz.prog 105 #[rv sh row col ra ca] w fun e w' => e = .returned (.string X4) ∧ Q w w' := by
  obtain ⟨e1, e2, e3, e4, z0, z1, z2, z3, z4, y1, y2, y3, y4⟩ := hc
  have k1 : ¬ 9223372036854775807 < SA.size := by omega
  have k2 : ¬ 9223372036854775807 < X1.size + NM.size := by omega
  have k3 : ¬ 9223372036854775807 < X2.size + SB.size := by omega
  have k4 : ¬ 9223372036854775807 < X3.size + DC.size := by omega
  have hwr : IntKind.i64.wrap (row + 1) = row + 1 := by rw [IntKind.wrap_i64]; omega
  have J := hid (PB.start w sh row col ra ca)
  go_enter Tryz.func105, Tryz.ntmps105
  go_upto_region 8 with (first | (go_at_call_of 108 row; refine (HM1.out _).mono ?_; rintro e w1 ⟨rfl, rfl⟩) | (go_at_call_of 108 col; refine (HM2.out _).mono ?_; rintro e w1 ⟨rfl, rfl⟩))
  have hk0 : Hid ((w.alloc (.cells #[.string sh, .int .i64 row, .int .i64 col, .bool ra, .bool ca] 40)).drew.cell? ⟨w.heap.size, 1, none⟩ = some (.int .i64 row) ∧ (w.alloc (.cells #[.string sh, .int .i64 row, .int .i64 col, .bool ra, .bool ca] 40)).drew.cell? ⟨w.heap.size, 2, none⟩ = some (.int .i64 col) ∧ (w.alloc (.cells #[.string sh, .int .i64 row, .int .i64 col, .bool ra, .bool ca] 40)).drew.cell? ⟨w.heap.size, 3, none⟩ = some (.bool ra) ∧ (w.alloc (.cells #[.string sh, .int .i64 row, .int .i64 col, .bool ra, .bool ca] 40)).drew.cell? ⟨w.heap.size, 4, none⟩ = some (.bool ca)) := ⟨J.out.c1, J.out.c2, J.out.c3, J.out.c4⟩
  go_region_held3 (fun W => W.cell? ⟨w.heap.size, 1, none⟩ = some (.int .i64 row) ∧ W.cell? ⟨w.heap.size, 2, none⟩ = some (.int .i64 col) ∧ W.cell? ⟨w.heap.size, 3, none⟩ = some (.bool ra) ∧ W.cell? ⟨w.heap.size, 4, none⟩ = some (.bool ca)) (with_reducible (first | exact hk0.out | exact hk1.out | exact hk2.out))
    (first
      | (go_at_call_of 110 ca; refine (HS1.out _).mono ?_; rintro r w9 ⟨rfl, rfl⟩)
      | (go_at_call_of 110 ra; refine (HS2.out _).mono ?_; rintro r w9 ⟨rfl, rfl⟩)
      | (go_at_call 111; refine (HN.out _).mono ?_; rintro r w5 ⟨rfl, q5⟩; replace J := hid (J.out.on (Q.trans (Q.drew (Q.refl _)) q5)); have hk1 : Hid (w5.cell? ⟨w.heap.size, 1, none⟩ = some (.int .i64 row) ∧ w5.cell? ⟨w.heap.size, 2, none⟩ = some (.int .i64 col) ∧ w5.cell? ⟨w.heap.size, 3, none⟩ = some (.bool ra) ∧ w5.cell? ⟨w.heap.size, 4, none⟩ = some (.bool ca)) := ⟨J.out.c1, J.out.c2, J.out.c3, J.out.c4⟩)
      | (go_at_call 112; refine (HF.out _ J.out.q).mono ?_; rintro r w6 ⟨rfl, q6⟩; replace J := hid (J.out.on q6); have hk2 : Hid (w6.cell? ⟨w.heap.size, 1, none⟩ = some (.int .i64 row) ∧ w6.cell? ⟨w.heap.size, 2, none⟩ = some (.int .i64 col) ∧ w6.cell? ⟨w.heap.size, 3, none⟩ = some (.bool ra) ∧ w6.cell? ⟨w.heap.size, 4, none⟩ = some (.bool ca)) := ⟨J.out.c1, J.out.c2, J.out.c3, J.out.c4⟩))
  go_wp2
  go_ret
  exact ⟨rfl, J.out.q⟩
set_option maxHeartbeats 2000000 in
theorem print_sheet (sh SH SA NM SB DC X1 X2 X3 X4 : ByteArray) (row col : Int) (ra ca : Bool) (w : World) (hz : sh.size ≤ 1000)
    (HM1 : Hid (∀ W, Calls Tryz.prog 108 #[.int .i64 row] W fun e w' => e = .returned (.bool true) ∧ w' = W))
    (HM2 : Hid (∀ W, Calls Tryz.prog 108 #[.int .i64 col] W fun e w' => e = .returned (.bool true) ∧ w' = W))
    (hE : (sh.toList == []) = false)
    (HI : Hid (∀ W, Q w W → Calls Tryz.prog 109 #[.string sh] W fun e w' => e = .returned (.bool true) ∧ Q W w')) (eS : sh ++ ⟨#[33]⟩ = SH)
    (HS1 : Hid (∀ W, Calls Tryz.prog 110 #[.bool ca] W fun e w' => e = .returned (.string SA) ∧ w' = W))
    (HS2 : Hid (∀ W, Calls Tryz.prog 110 #[.bool ra] W fun e w' => e = .returned (.string SB) ∧ w' = W))
    (HN : Hid (∀ W, Calls Tryz.prog 111 #[.int .i64 col] W fun e w' => e = .returned (.string NM) ∧ Q W w'))
    (HF : Hid (∀ W, Q w W → Calls Tryz.prog 112 #[.int .i64 (row + 1), .int .i64 10] W fun e w' => e = .returned (.string DC) ∧ Q W w'))
    (r0 : 0 ≤ row) (r1 : row < 2199023255552) (hc : Cat SH SA NM SB DC X1 X2 X3 X4) :
    Calls Tryz.prog 105 #[rv sh row col ra ca] w fun e w' => e = .returned (.string X4) ∧ Q w w' := by
  obtain ⟨e1, e2, e3, e4, z0, z1, z2, z3, z4, y1, y2, y3, y4⟩ := hc
  have k1 : ¬ 9223372036854775807 < SH.size + SA.size := by omega
  have k2 : ¬ 9223372036854775807 < X1.size + NM.size := by omega
  have k3 : ¬ 9223372036854775807 < X2.size + SB.size := by omega
  have k4 : ¬ 9223372036854775807 < X3.size + DC.size := by omega
  have hwr : IntKind.i64.wrap (row + 1) = row + 1 := by rw [IntKind.wrap_i64]; omega
  have J := hid (PB.start w sh row col ra ca)
  go_enter Tryz.func105, Tryz.ntmps105
  go_upto_region 8 with (first | (go_at_call_of 108 row; refine (HM1.out _).mono ?_; rintro e w1 ⟨rfl, rfl⟩) | (go_at_call_of 108 col; refine (HM2.out _).mono ?_; rintro e w1 ⟨rfl, rfl⟩) | (go_at_call 109; refine (HI.out _ (by repeat (first | exact Q.refl _ | refine Q.drewN ?_ _ | refine Q.alloc ?_ _))).mono ?_; rintro e w3 ⟨rfl, q3⟩; replace J := hid (J.out.on q3); have d0 := J.out.c0; have d1 := J.out.c1; have d2 := J.out.c2; have d3 := J.out.c3; have d4 := J.out.c4))
  have hk0 : Hid (w3.drew.cell? ⟨w.heap.size, 1, none⟩ = some (.int .i64 row) ∧ w3.drew.cell? ⟨w.heap.size, 2, none⟩ = some (.int .i64 col) ∧ w3.drew.cell? ⟨w.heap.size, 3, none⟩ = some (.bool ra) ∧ w3.drew.cell? ⟨w.heap.size, 4, none⟩ = some (.bool ca)) := ⟨J.out.c1, J.out.c2, J.out.c3, J.out.c4⟩
  go_region_held3 (fun W => W.cell? ⟨w.heap.size, 1, none⟩ = some (.int .i64 row) ∧ W.cell? ⟨w.heap.size, 2, none⟩ = some (.int .i64 col) ∧ W.cell? ⟨w.heap.size, 3, none⟩ = some (.bool ra) ∧ W.cell? ⟨w.heap.size, 4, none⟩ = some (.bool ca)) (with_reducible (first | exact hk0.out | exact hk1.out | exact hk2.out))
    (first
      | (go_at_call_of 110 ca; refine (HS1.out _).mono ?_; rintro r w9 ⟨rfl, rfl⟩)
      | (go_at_call_of 110 ra; refine (HS2.out _).mono ?_; rintro r w9 ⟨rfl, rfl⟩)
      | (go_at_call 111; refine (HN.out _).mono ?_; rintro r w5 ⟨rfl, q5⟩; replace J := hid (J.out.on (Q.trans (Q.drew (Q.refl _)) q5)); have hk1 : Hid (w5.cell? ⟨w.heap.size, 1, none⟩ = some (.int .i64 row) ∧ w5.cell? ⟨w.heap.size, 2, none⟩ = some (.int .i64 col) ∧ w5.cell? ⟨w.heap.size, 3, none⟩ = some (.bool ra) ∧ w5.cell? ⟨w.heap.size, 4, none⟩ = some (.bool ca)) := ⟨J.out.c1, J.out.c2, J.out.c3, J.out.c4⟩)
      | (go_at_call 112; refine (HF.out _ J.out.q).mono ?_; rintro r w6 ⟨rfl, q6⟩; replace J := hid (J.out.on q6); have hk2 : Hid (w6.cell? ⟨w.heap.size, 1, none⟩ = some (.int .i64 row) ∧ w6.cell? ⟨w.heap.size, 2, none⟩ = some (.int .i64 col) ∧ w6.cell? ⟨w.heap.size, 3, none⟩ = some (.bool ra) ∧ w6.cell? ⟨w.heap.size, 4, none⟩ = some (.bool ca)) := ⟨J.out.c1, J.out.c2, J.out.c3, J.out.c4⟩))
  go_wp2
  go_ret
  exact ⟨rfl, J.out.q⟩
set_option maxHeartbeats 1000000 in
theorem print_no (sh : ByteArray) (row col : Int) (ra ca f1 f2 fi : Bool) (w : World)
    (HM1 : Hid (∀ W, Calls Tryz.prog 108 #[.int .i64 row] W fun e w' => e = .returned (.bool f1) ∧ w' = W))
    (HM2 : Hid (∀ W, Calls Tryz.prog 108 #[.int .i64 col] W fun e w' => e = .returned (.bool f2) ∧ w' = W))
    (HI : Hid (∀ W, Q w W → Calls Tryz.prog 109 #[.string sh] W fun e w' => e = .returned (.bool fi) ∧ Q W w'))
    (h : f1 = false ∨ f2 = false ∨ ((sh.toList == []) = false ∧ fi = false)) :
    Calls Tryz.prog 105 #[rv sh row col ra ca] w fun e w' => e = .returned (.string ⟨#[]⟩) ∧ Q w w' := by
  cases f1
  · clear h
    go_enter Tryz.func105, Tryz.ntmps105
    go_wp2_with (first | (go_at_call_of 108 row; refine (HM1.out _).mono ?_; rintro e w1 ⟨rfl, rfl⟩) | (go_at_call_of 108 col; refine (HM2.out _).mono ?_; rintro e w1 ⟨rfl, rfl⟩))
    go_ret
    exact ⟨rfl, (Q.refl _).alloc _⟩
  cases f2
  · clear h
    go_enter Tryz.func105, Tryz.ntmps105
    go_wp2_with (first | (go_at_call_of 108 row; refine (HM1.out _).mono ?_; rintro e w1 ⟨rfl, rfl⟩) | (go_at_call_of 108 col; refine (HM2.out _).mono ?_; rintro e w1 ⟨rfl, rfl⟩))
    go_ret
    exact ⟨rfl, (Q.refl _).alloc _⟩
  obtain ⟨hE, rfl⟩ : (sh.toList == []) = false ∧ fi = false := by
    rcases h with h | h | h
    · cases h
    · cases h
    · exact h
  go_enter Tryz.func105, Tryz.ntmps105
  go_wp2_with (first | (go_at_call_of 108 row; refine (HM1.out _).mono ?_; rintro e w1 ⟨rfl, rfl⟩) | (go_at_call_of 108 col; refine (HM2.out _).mono ?_; rintro e w1 ⟨rfl, rfl⟩) | (go_at_call 109; refine (HI.out _ (by repeat (first | exact Q.refl _ | refine Q.drewN ?_ _ | refine Q.alloc ?_ _))).mono ?_; rintro e w3 ⟨rfl, q3⟩))
  go_ret
  exact ⟨rfl, ((Q.refl _).alloc _).trans q3⟩
theorem print_any (sh : ByteArray) (row col : Int) (ra ca : Bool) (w : World) (hw : Std w) (ht : ∀ W, Q w W → Lib.TabIs Tryz.prog W "internal/strconv.uint64pow10" .u64 Lib.pow10Tab) (hs : sh.size ≤ 1000) :
    Calls Tryz.prog 105 #[rv sh row col ra ca] w fun e w' => e = .returned (.string ⟨(prR sh.data.toList row col ra ca).toArray⟩) ∧ Q w w' := by
  have HM1 := fun W => mayline_any row W
  have HM2 := fun W => mayline_any col W
  have HI := fun W (q : Q w W) => id_any sh W (hw.on q) (by omega)
  have et := Lib.toList_data sh
  unfold prR mayR
  cases h1 : decide (0 ≤ row ∧ row < 2199023255552)
  · rw [h1] at HM1
    refine (print_no sh row col ra ca _ _ _ w HM1 HM2 HI (.inl rfl)).mono fun e w' g => ⟨?_, g.2⟩
    rw [g.1, Bool.false_and, Bool.and_false]
    rfl
  cases h2 : decide (0 ≤ col ∧ col < 2199023255552)
  · rw [h2] at HM2
    refine (print_no sh row col ra ca _ _ _ w HM1 HM2 HI (.inr (.inl rfl))).mono fun e w' g => ⟨?_, g.2⟩
    rw [g.1, Bool.and_false, Bool.and_false]
    rfl
  rw [h1] at HM1
  rw [h2] at HM2
  have b1 := of_decide_eq_true h1
  have b2 := of_decide_eq_true h2
  obtain ⟨X1, X2, X3, hc⟩ := cat_of sh.data.toList row col ra ca (by rw [len_data]; exact hs) b1.1 b1.2
  have HF := fun W (q : Q w W) => fmt_any (row + 1) W (ht W q) (by omega) (by omega)
  by_cases he : sh.toList = []
  · have he2 : sh.data.toList = [] := by rw [← et, he]
    rw [he2] at hc ⊢
    refine (print_plain sh ⟨#[]⟩ _ _ _ _ X1 X2 X3 _ row col ra ca w hs HM1 HM2 (by rw [he]; rfl) (fun W => asign_any ca W) (fun W => asign_any ra W) (fun W => name_any col W) HF b1.1 b1.2 hc).mono fun e w' g => ⟨?_, g.2⟩
    rw [g.1]
    rfl
  · have hei : sh.data.toList.isEmpty = false := by
      rw [← et]
      cases hh : sh.toList
      · exact absurd hh he
      · rfl
    cases hi : idB sh.data.toList
    · rw [hi] at HI
      refine (print_no sh row col ra ca _ _ _ w HM1 HM2 HI (.inr (.inr ⟨by simpa using he, rfl⟩))).mono fun e w' g => ⟨?_, g.2⟩
      rw [g.1, hei]
      rfl
    · rw [hi] at HI
      have eS : sh ++ ⟨#[33]⟩ = ⟨(shX sh.data.toList).toArray⟩ := by
        unfold shX
        rw [hei]
        have e := bytes_cat sh.data.toList [33]
        exact e
      refine (print_sheet sh _ _ _ _ _ X1 X2 X3 _ row col ra ca w hs HM1 HM2 (by simpa using he) HI eS (fun W => asign_any ca W) (fun W => asign_any ra W) (fun W => name_any col W) HF b1.1 b1.2 hc).mono fun e w' g => ⟨?_, g.2⟩
      rw [g.1, Bool.or_true]
      rfl
set_option maxHeartbeats 1000000 in
theorem letters_any (s : ByteArray) (w : World) (hp : 0 < s.size) (hs : s.size ≤ 4000000000) :
    Calls Tryz.prog 57 #[.string s] w fun e w' => e = .returned (.bool (allL s.data.toList)) ∧ w' = w := by
  have e0 := toList_ne hp
  go_enter Tryz.func57, Tryz.ntmps57
  go_wp2
  go_loop [3] (fun i => ∃ k : Nat, k ≤ s.size ∧ i = .int .i64 k ∧ Hid (allL (s.data.toList.take k) = true)) (fun i => s.size - (intOf i).toNat)
  case atStart => exact ⟨0, Nat.zero_le _, rfl, rfl⟩
  case round =>
    obtain ⟨k, hk, rfl, ha⟩ := hrel
    by_cases hlt : k < s.size
    · by_cases hd : let1 s[k] = true
      · have ha' : Hid (allL (s.data.toList.take (k + 1)) = true) := by
          show _ = _
          have := ha.out
          rw [take_snoc s k hlt, allL_app, this]
          unfold allL
          simp [hd]
        have b0 : 65 ≤ (s[k].toNat : Int) := by unfold let1 at hd; simp at hd; omega
        have b1 : (s[k].toNat : Int) ≤ 90 := by unfold let1 at hd; simp at hd; omega
        clear hd
        go_wp2
        go_round
        case rel => exact ⟨k + 1, by omega, by go_num, ha'⟩
        case measure => simp [intOf]; omega
      · have hN := hid (allL_no s k hlt (by simpa using hd))
        by_cases b0 : (s[k].toNat : Int) < 65
        · clear hd
          go_wp2
          go_ret
          exact ⟨ret_bool hN.out.symm, rfl⟩
        · have b1 : 90 < (s[k].toNat : Int) := by unfold let1 at hd; simp at hd; omega
          clear hd
          go_wp2
          go_ret
          exact ⟨ret_bool hN.out.symm, rfl⟩
    · have hN : Hid (allL s.data.toList = true) := by
        show _ = _
        have := ha.out
        rw [take_all s k (by omega)] at this
        exact this
      go_wp2
      go_ret
      exact ⟨ret_bool hN.out.symm, rfl⟩
theorem kind_num {t : List UInt8} {c : Bool} (h : V.pf (V.parseO t) = true) : kindJ t c = 1 := by unfold kindJ; rw [if_pos h]
theorem kind_ref {t : List UInt8} {c : Bool} (h : V.pf (V.parseO t) = false) (h' : refF t = true) : kindJ t c = 3 := by unfold kindJ; rw [if_neg (by simp [h]), if_pos h']
theorem kind_rest {t : List UInt8} {c : Bool} (h : V.pf (V.parseO t) = false) (h' : refF t = false) : kindJ t c = if t = tru ∨ t = fls ∨ (c = true ∧ allL t = true) then 4 else 0 := by unfold kindJ; rw [if_neg (by simp [h]), if_neg (by simp [h'])]
theorem tw_len (l : List UInt8) (p : UInt8 → Bool) : (l.takeWhile p).length ≤ l.length := (List.takeWhile_prefix _).length_le
theorem tw_take (l : List UInt8) (p : UInt8 → Bool) : l.take (l.takeWhile p).length = l.takeWhile p := by
  induction l with
  | nil => rfl
  | cons c r ih =>
    rw [List.takeWhile_cons]
    split
    · simp [ih]
    · rfl
theorem tw_drop (l : List UInt8) (p : UInt8 → Bool) : l.drop (l.takeWhile p).length = l.dropWhile p := by
  induction l with
  | nil => rfl
  | cons c r ih =>
    rw [List.takeWhile_cons, List.dropWhile_cons]
    split
    · simp [ih]
    · rfl
theorem tw_in (l : List UInt8) (p : UInt8 → Bool) (k : Nat) (h : k < (l.takeWhile p).length) (hk : k < l.length) : p l[k] = true := by
  induction l generalizing k with
  | nil => simp at hk
  | cons c r ih =>
    rw [List.takeWhile_cons] at h
    split at h
    · rename_i hc
      cases k with
      | zero => exact hc
      | succ k => exact ih k (by simpa using h) (by simpa using hk)
    · simp at h
theorem tw_out (l : List UInt8) (p : UInt8 → Bool) (h : (l.takeWhile p).length < l.length) : p (l[(l.takeWhile p).length]) = false := by
  induction l with
  | nil => simp at h
  | cons c r ih =>
    by_cases hc : p c = true
    · have e : (List.takeWhile p (c :: r)).length = (List.takeWhile p r).length + 1 := by rw [List.takeWhile_cons, if_pos hc]; rfl
      have h' : (List.takeWhile p r).length < r.length := by rw [e] at h; simpa using h
      have := ih h'
      simp only [e, List.getElem_cons_succ]
      exact this
    · have e : (List.takeWhile p (c :: r)).length = 0 := by rw [List.takeWhile_cons, if_neg hc]; rfl
      simp only [e, List.getElem_cons_zero]
      simpa using hc
end Go.Proofs.YtoikodohcieipaaGreatDoor
namespace Go.Proofs.YtoikodohcieipaaGreatDoor.V
open Go.RowKit
def mayB (k n : Int) (t : List UInt8) (b : Bool) (e : Int) : Bool :=
  if k = 0 then decide (n = 0) && (decide (t = []) && (!b && decide (e = 0)))
  else if k = 1 then decide (t = []) && (!b && decide (e = 0))
  else if k = 2 then decide (n = 0) && (!b && (decide (e = 0) && mtB t))
  else if k = 3 then decide (n = 0) && (decide (t = []) && decide (e = 0))
  else if k = 4 then decide (n = 0) && (decide (t = []) && (!b && (decide (1 ≤ e) && decide (e ≤ 7))))
  else false
theorem mtB_nil : mtB [] = true := by rfl
theorem enL_ne {e : Int} (h1 : 1 ≤ e) (h7 : e ≤ 7) : enL e ≠ [] := by
  rcases (by omega : e = 1 ∨ e = 2 ∨ e = 3 ∨ e = 4 ∨ e = 5 ∨ e = 6 ∨ e = 7) with rfl | rfl | rfl | rfl | rfl | rfl | rfl <;> decide
theorem mayB_other {k n : Int} {t : List UInt8} {b : Bool} {e : Int} (h0 : k ≠ 0) (h1 : k ≠ 1) (h2 : k ≠ 2) (h3 : k ≠ 3) (h4 : k ≠ 4) : false = mayB k n t b e := by
  unfold mayB
  rw [if_neg h0, if_neg h1, if_neg h2, if_neg h3, if_neg h4]
set_option maxHeartbeats 2000000 in
theorem may_other (k n : Int) (t : ByteArray) (b : Bool) (e : Int) (w : World) (h0 : k ≠ 0) (h1 : k ≠ 1) (h2 : k ≠ 2) (h3 : k ≠ 3) (h4 : k ≠ 4) :
    Calls Tryz.prog 88 #[vv k n t b e] w fun x w' => x = .returned (.bool (mayB k n t.toList b e)) ∧ Q w w' := by
  have H := hid (mayB_other (n := n) (t := t.toList) (b := b) (e := e) h0 h1 h2 h3 h4)
  unfold vv
  go_enter Tryz.func88, Tryz.ntmps88
  go_wp2
  go_ret
  exact ⟨vret_bool H.out, ((Q.refl _).alloc _).alloc _⟩
theorem box5 {w w1 : World} {v0 v1 v2 v3 v4 : Value} {o : Obj} (q : Q ((w.alloc (.cells #[v0, v1, v2, v3, v4] 133)).alloc o) w1) :
    w1.cell? ⟨w.heap.size, 0, none⟩ = some v0 ∧ w1.cell? ⟨w.heap.size, 4, none⟩ = some v4 := by
  have h1 : w.heap.size < (w.alloc (.cells #[v0, v1, v2, v3, v4] 133)).heap.size := by rw [World.size_alloc]; omega
  have hlt : w.heap.size < ((w.alloc (.cells #[v0, v1, v2, v3, v4] 133)).alloc o).heap.size := by rw [World.size_alloc]; omega
  have e1 := fun j => Q.cell (o := j) ((Q.refl (w.alloc (.cells #[v0, v1, v2, v3, v4] 133))).alloc o) h1
  refine ⟨?_, ?_⟩
  · rw [q.cell hlt, e1, World.cell?_alloc_new]; rfl
  · rw [q.cell hlt, e1, World.cell?_alloc_new]; rfl
theorem q2 {w w1 : World} {o o' : Obj} (q : Q ((w.alloc o).alloc o') w1) : Q w w1 := (((Q.refl _).alloc _).alloc _).trans q
set_option maxHeartbeats 2000000 in
theorem may_0 (n : Int) (t : ByteArray) (b : Bool) (e : Int) (w : World) (hw : Std w) (hs : (t.size : Int) ≤ 9223372036854775000) :
    Calls Tryz.prog 88 #[vv 0 n t b e] w fun x w' => x = .returned (.bool (mayB 0 n t.toList b e)) ∧ Q w w' := by
  have HW := hid hw
  have HM : mtB t.data.toList = mtB t.toList := by rw [Lib.toList_data]
  clear hw
  unfold vv
  go_enter Tryz.func88, Tryz.ntmps88
  go_wp2_with (go_at_call 104; refine (mayText_any t _ (HW.out.on (((Q.refl _).alloc _).alloc _)) hs).mono ?_; rintro x w1 ⟨rfl, q1⟩; obtain ⟨g0, g4⟩ := box5 q1)
  all_goals go_ret
  all_goals first
    | exact ⟨vret_bool (by simp [mayB, mtB_nil, *]), ((Q.refl _).alloc _).alloc _⟩
    | exact ⟨vret_bool (by simp_all [mayB, mtB_nil]), q2 q1⟩
set_option maxHeartbeats 2000000 in
theorem may_1 (n : Int) (t : ByteArray) (b : Bool) (e : Int) (w : World) (hw : Std w) (hs : (t.size : Int) ≤ 9223372036854775000) :
    Calls Tryz.prog 88 #[vv 1 n t b e] w fun x w' => x = .returned (.bool (mayB 1 n t.toList b e)) ∧ Q w w' := by
  have HW := hid hw
  have HM : mtB t.data.toList = mtB t.toList := by rw [Lib.toList_data]
  clear hw
  unfold vv
  go_enter Tryz.func88, Tryz.ntmps88
  go_wp2_with (go_at_call 104; refine (mayText_any t _ (HW.out.on (((Q.refl _).alloc _).alloc _)) hs).mono ?_; rintro x w1 ⟨rfl, q1⟩; obtain ⟨g0, g4⟩ := box5 q1)
  all_goals go_ret
  all_goals first
    | exact ⟨vret_bool (by simp [mayB, mtB_nil, *]), ((Q.refl _).alloc _).alloc _⟩
    | exact ⟨vret_bool (by simp_all [mayB, mtB_nil]), q2 q1⟩
set_option maxHeartbeats 2000000 in
theorem may_2 (n : Int) (t : ByteArray) (b : Bool) (e : Int) (w : World) (hw : Std w) (hs : (t.size : Int) ≤ 9223372036854775000) :
    Calls Tryz.prog 88 #[vv 2 n t b e] w fun x w' => x = .returned (.bool (mayB 2 n t.toList b e)) ∧ Q w w' := by
  have HW := hid hw
  have HM : mtB t.data.toList = mtB t.toList := by rw [Lib.toList_data]
  clear hw
  unfold vv
  go_enter Tryz.func88, Tryz.ntmps88
  go_wp2_with (go_at_call 104; refine (mayText_any t _ (HW.out.on (((Q.refl _).alloc _).alloc _)) hs).mono ?_; rintro x w1 ⟨rfl, q1⟩; obtain ⟨g0, g4⟩ := box5 q1)
  all_goals go_ret
  all_goals first
    | exact ⟨vret_bool (by simp [mayB, mtB_nil, *]), ((Q.refl _).alloc _).alloc _⟩
    | exact ⟨vret_bool (by simp_all [mayB, mtB_nil]), q2 q1⟩
set_option maxHeartbeats 2000000 in
theorem may_3 (n : Int) (t : ByteArray) (b : Bool) (e : Int) (w : World) (hw : Std w) (hs : (t.size : Int) ≤ 9223372036854775000) :
    Calls Tryz.prog 88 #[vv 3 n t b e] w fun x w' => x = .returned (.bool (mayB 3 n t.toList b e)) ∧ Q w w' := by
  have HW := hid hw
  have HM : mtB t.data.toList = mtB t.toList := by rw [Lib.toList_data]
  clear hw
  unfold vv
  go_enter Tryz.func88, Tryz.ntmps88
  go_wp2_with (go_at_call 104; refine (mayText_any t _ (HW.out.on (((Q.refl _).alloc _).alloc _)) hs).mono ?_; rintro x w1 ⟨rfl, q1⟩; obtain ⟨g0, g4⟩ := box5 q1)
  all_goals go_ret
  all_goals first
    | exact ⟨vret_bool (by simp [mayB, mtB_nil, *]), ((Q.refl _).alloc _).alloc _⟩
    | exact ⟨vret_bool (by simp_all [mayB, mtB_nil]), q2 q1⟩
set_option maxHeartbeats 2000000 in
theorem may_4 (n : Int) (t : ByteArray) (b : Bool) (e : Int) (w : World) (hw : Std w) (hs : (t.size : Int) ≤ 9223372036854775000) :
    Calls Tryz.prog 88 #[vv 4 n t b e] w fun x w' => x = .returned (.bool (mayB 4 n t.toList b e)) ∧ Q w w' := by
  have HW := hid hw
  have HM : mtB t.data.toList = mtB t.toList := by rw [Lib.toList_data]
  obtain ⟨X, eX⟩ : ∃ X : ByteArray, X = ⟨(enL e).toArray⟩ := ⟨_, rfl⟩
  have hX : X.toList = enL e := by rw [Lib.toList_data, eX]
  have HN := hid (fun w h => name_any e w h)
  rw [← eX] at HN
  clear hw eX
  by_cases he : 1 ≤ e ∧ e ≤ 7
  · have hx : (X.toList == []) = false := by rw [hX]; have := enL_ne he.1 he.2; cases h : enL e; exact absurd h this; rfl
    have h1 := he.1
    have h7 := he.2
    have d1 : decide (1 ≤ e) = true := by simpa using h1
    have d7 : decide (e ≤ 7) = true := by simpa using h7
    clear he hX
    unfold vv
    go_enter Tryz.func88, Tryz.ntmps88
    go_wp2_with (first | (go_at_call 104; refine (mayText_any t _ (HW.out.on (((Q.refl _).alloc _).alloc _)) hs).mono ?_; rintro x w1 ⟨rfl, q1⟩; obtain ⟨g0, g4⟩ := box5 q1) | (go_at_call 89; refine (HN.out _ (HW.out.on (q2 q1)).nam).mono ?_; rintro x w1 ⟨rfl, rfl⟩))
    all_goals go_ret
    all_goals first
      | exact ⟨vret_bool (by simp [mayB, mtB_nil, *]), ((Q.refl _).alloc _).alloc _⟩
      | exact ⟨vret_bool (by simp_all [mayB, mtB_nil]), q2 q1⟩
  · have hx : (X.toList == []) = true := by rw [hX, ← enL_no (by omega)]; rfl
    have d1 : (decide (1 ≤ e) && decide (e ≤ 7)) = false := by simp; omega
    clear he hX
    unfold vv
    go_enter Tryz.func88, Tryz.ntmps88
    go_wp2_with (first | (go_at_call 104; refine (mayText_any t _ (HW.out.on (((Q.refl _).alloc _).alloc _)) hs).mono ?_; rintro x w1 ⟨rfl, q1⟩; obtain ⟨g0, g4⟩ := box5 q1) | (go_at_call 89; refine (HN.out _ (HW.out.on (q2 q1)).nam).mono ?_; rintro x w1 ⟨rfl, rfl⟩))
    all_goals go_ret
    all_goals first
      | exact ⟨vret_bool (by unfold mayB; rw [d1]; simp), ((Q.refl _).alloc _).alloc _⟩
      | exact ⟨vret_bool (by unfold mayB; rw [d1]; simp), q2 q1⟩
theorem may_any (k n : Int) (t : ByteArray) (b : Bool) (e : Int) (w : World) (hw : Std w) (hs : (t.size : Int) ≤ 9223372036854775000) :
    Calls Tryz.prog 88 #[vv k n t b e] w fun x w' => x = .returned (.bool (mayB k n t.toList b e)) ∧ Q w w' := by
  by_cases h0 : k = 0
  · subst h0; exact may_0 n t b e w hw hs
  by_cases h1 : k = 1
  · subst h1; exact may_1 n t b e w hw hs
  by_cases h2 : k = 2
  · subst h2; exact may_2 n t b e w hw hs
  by_cases h3 : k = 3
  · subst h3; exact may_3 n t b e w hw hs
  by_cases h4 : k = 4
  · subst h4; exact may_4 n t b e w hw hs
  exact may_other k n t b e w h0 h1 h2 h3 h4
end Go.Proofs.YtoikodohcieipaaGreatDoor.V
namespace Go.Proofs.YtoikodohcieipaaGreatDoor
open Go.RowKit
theorem err_step (k : Nat) (h : k < 7) : ([1, 2, 3, 4, 5, 6, 7] : List Int).drop k = ((k : Int) + 1) :: ([1, 2, 3, 4, 5, 6, 7] : List Int).drop (k + 1) := by
  rcases (by omega : k = 0 ∨ k = 1 ∨ k = 2 ∨ k = 3 ∨ k = 4 ∨ k = 5 ∨ k = 6) with rfl | rfl | rfl | rfl | rfl | rfl | rfl <;> rfl
set_option maxHeartbeats 2000000 in
theorem rref_other (S A C T E R G : ByteArray) (k : Nat) (ca ra cf : Bool) (col n : Int) (w : World) (hs : S.size ≤ 4000000000) (hC : C.size ≤ 4000000000) (j : Nat) (hj : j < S.size) (hsj : (S[j].toNat : Int) = 33) (hno : Hid ((33 : UInt8) ∉ S.data.toList.take j)) (eA : S.extract 0 j = A) (eC : S.extract (j + 1) S.size = C)
    (HI : Hid (∀ W, Calls Tryz.prog 60 #[.string A] W fun e w' => e = .returned (.bool true) ∧ w' = W))
    (hd1 : Dl C T ca) (hd2 : Dl R G ra) (hk : Hid (k = lead T.data.toList)) (hkT : k ≤ T.size) (hT : T.size ≤ 4000000000) (eE : T.extract 0 k = E) (eR : T.extract k T.size = R)
    (HK : Hid (∀ W, Calls Tryz.prog 101 #[.string E] W fun e w' => e = .returned (.tuple #[.int .i64 col, .bool cf]) ∧ w' = W))
    (n0 : -1 ≤ n) (n1 : n ≤ 2199023255552)
    (HN : Hid (∀ W, Calls Tryz.prog 96 #[.string G, .int .i64 2199023255552] W fun e w' => e = .returned (.int .i64 n) ∧ w' = W)) :
    Calls Tryz.prog 83 #[.string S] w fun e w' => e = .returned (rfR A cf n col ra ca) ∧ Q w w' := by
  go_enter Tryz.func83, Tryz.ntmps83
  go_upto_block 0 with fail
  go_cut [0, 3, 5] from 10 to 32 (fun x o i W => x = .string C ∧ o = .bool false ∧ W = ((w.alloc Z25).alloc (R25 A false false)))
  case first =>
    go_wp2_with fail
    go_loop [0, 3, 5] (fun x o i => ∃ i' : Nat, x = .string S ∧ o = .bool false ∧ i' ≤ j ∧ i = .int .i64 i') (fun _ _ i => S.size - (intOf i).toNat)
    case atStart => exact ⟨0, rfl, rfl, Nat.zero_le _, rfl⟩
    case round =>
      obtain ⟨i, rfl, rfl, hi, rfl⟩ := hrel
      by_cases hlt : i < j
      · have hn' : ((S[i].toNat : Int) == 33) = false := byte_ne (n := 33) (by omega) (fun e => hno.out (by
          have h : S[i] ∈ S.data.toList.take (i + 1) := by rw [take_snoc S i (by omega)]; simp
          rw [e] at h
          exact List.mem_of_mem_take (i := i + 1) (by rw [List.take_take, Nat.min_eq_left (by omega)]; exact h)))
        have hlt' : i < S.size := by omega
        go_wp2_with fail
        go_round
        case rel => exact ⟨i + 1, rfl, rfl, by omega, by go_num⟩
        case measure => simp [intOf]; omega
      · obtain rfl : i = j := by omega
        go_wp2_with (go_at_call 60; refine (HI.out _).mono ?_; rintro e w1 ⟨rfl, rfl⟩)
        go_meet
        exact ⟨rfl, rfl, rfl⟩
  case rest =>
    obtain ⟨rfl, rfl, rfl⟩ := hcut
    go_upto_region 10 with fail
    go_cut [40] from 33 to 39 (fun x W => x = .bool ca ∧ W = ((w.alloc Z25).alloc (R25 A false false)))
    case first =>
      rcases hd1 with ⟨rfl, h, h36, eT⟩ | ⟨rfl, hne, rfl⟩
      · have h36' : (C[0].toNat : Int) = 36 := by rw [h36]; rfl
        clear h36
        go_wp2_with fail
        go_meet
        exact ⟨rfl, rfl⟩
      · by_cases hz : 0 < C.size
        · have h36' : ((C[0].toNat : Int) == 36) = false := byte_ne (n := 36) (by omega) (hne hz)
          clear hne
          go_wp2_with fail
          go_meet
          exact ⟨rfl, rfl⟩
        · clear hne
          go_wp2_with fail
          go_meet
          exact ⟨rfl, rfl⟩
    case rest =>
      obtain ⟨rfl, rfl⟩ := hcut
      go_upto_if 40 with fail
      go_cut [0] from 33 to 43 (fun x W => x = .string T ∧ W = ((w.alloc Z25).alloc (R25 A false ca)))
      case first =>
        rcases hd1 with ⟨rfl, h, h36, eT⟩ | ⟨rfl, hne, rfl⟩
        · go_wp2_with fail
          go_meet
          exact ⟨rfl, rfl⟩
        · go_wp2_with fail
          go_meet
          exact ⟨rfl, rfl⟩
      case rest =>
        obtain ⟨rfl, rfl⟩ := hcut
        go_upto_block 2 with fail
        go_cut [6] from 44 to 61 (fun x W => x = .int .i64 (k : Int) ∧ W = ((w.alloc Z25).alloc (R25 A false ca)))
        case first =>
          go_wp2_with fail
          go_loop [6] (fun i => ∃ j : Nat, j ≤ T.size ∧ i = .int .i64 j ∧ Hid (allL (T.data.toList.take j) = true)) (fun i => T.size - (intOf i).toNat)
          case atStart => exact ⟨0, Nat.zero_le _, rfl, rfl⟩
          case round =>
            obtain ⟨j, hj, rfl, ha⟩ := hrel
            by_cases hlt : j < T.size
            · by_cases hd : let1 T[j] = true
              · have ha' : Hid (allL (T.data.toList.take (j + 1)) = true) := by
                  show _ = _
                  have := ha.out
                  rw [take_snoc T j hlt, allL_app, this]
                  unfold allL
                  simp [hd]
                have b0 : 65 ≤ (T[j].toNat : Int) := by unfold let1 at hd; simp at hd; omega
                have b1 : (T[j].toNat : Int) ≤ 90 := by unfold let1 at hd; simp at hd; omega
                clear hd
                go_wp2_with fail
                go_round
                case rel => exact ⟨j + 1, by omega, by go_num, ha'⟩
                case measure => simp [intOf]; omega
              · have hN : Hid (j = k) := by
                  show _ = _
                  have h1 := lead_at (T.data.toList.take j) (T.data.toList.drop (j + 1)) T[j] ha.out (by simpa using hd)
                  rw [← drop_cons T j hlt, List.take_append_drop, List.length_take, len_data] at h1
                  have := hk.out
                  omega
                by_cases b0 : (T[j].toNat : Int) < 65
                · have b0' : ¬ 65 ≤ (T[j].toNat : Int) := by omega
                  clear hd b0
                  go_wp2_with fail
                  go_meet
                  exact ⟨by rw [hN.out], rfl⟩
                · have b1 : ¬ (T[j].toNat : Int) ≤ 90 := by unfold let1 at hd; simp at hd; omega
                  have b0' : 65 ≤ (T[j].toNat : Int) := by omega
                  clear hd b0
                  go_wp2_with fail
                  go_meet
                  exact ⟨by rw [hN.out], rfl⟩
            · have hN : Hid (j = k) := by
                show _ = _
                have := ha.out
                rw [take_all T j (by omega)] at this
                rw [hk.out, lead_all _ this, len_data]
                omega
              go_wp2_with fail
              go_meet
              exact ⟨by rw [hN.out], rfl⟩
        case rest =>
          obtain ⟨rfl, rfl⟩ := hcut
          go_upto_region 18 with (go_at_call 101; refine (HK.out _).mono ?_; rintro e w1 ⟨rfl, rfl⟩)
          go_upto_region 18 with fail
          go_cut [79] from 72 to 78 (fun x W => x = .bool ra ∧ W = ((w.alloc Z25).alloc (R25 A false ca)))
          case first =>
            rcases hd2 with ⟨rfl, h, h36, eT⟩ | ⟨rfl, hne, rfl⟩
            · have h36' : (R[0].toNat : Int) = 36 := by rw [h36]; rfl
              clear h36
              go_wp2_with fail
              go_meet
              exact ⟨rfl, rfl⟩
            · by_cases hz : 0 < R.size
              · have h36' : ((R[0].toNat : Int) == 36) = false := byte_ne (n := 36) (by omega) (hne hz)
                clear hne
                go_wp2_with fail
                go_meet
                exact ⟨rfl, rfl⟩
              · clear hne
                go_wp2_with fail
                go_meet
                exact ⟨rfl, rfl⟩
          case rest =>
            obtain ⟨rfl, rfl⟩ := hcut
            go_upto_if 79 with fail
            go_cut [0] from 72 to 82 (fun x W => x = .string G ∧ W = ((w.alloc Z25).alloc (R25 A ra ca)))
            case first =>
              rcases hd2 with ⟨rfl, h, h36, eT⟩ | ⟨rfl, hne, rfl⟩
              · go_wp2_with fail
                go_meet
                exact ⟨rfl, rfl⟩
              · go_wp2_with fail
                go_meet
                exact ⟨rfl, rfl⟩
            case rest =>
              obtain ⟨rfl, rfl⟩ := hcut
              have HV : Hid (rfR A cf n col ra ca = if cf = true ∧ 1 ≤ n then .tuple #[.agg #[.string A, .int .i64 (n - 1), .int .i64 col, .bool ra, .bool ca], .bool true] else .tuple #[.agg #[.string ⟨#[]⟩, .int .i64 0, .int .i64 0, .bool false, .bool false], .bool false]) := rfl
              cases cf
              · go_wp2_with (go_at_call 96; refine (HN.out _).mono ?_; rintro e w1 ⟨rfl, rfl⟩)
                refine bodyPost_ret (v := .tuple #[.agg #[.string ⟨#[]⟩, .int .i64 0, .int .i64 0, .bool false, .bool false], .bool false]) (by simp [results, Tryz.results83, go_sem]) rfl ⟨by rw [HV.out]; rfl, ?_⟩
                repeat' (first | with_reducible exact Q.refl _ | with_reducible refine Q.alloc ?_ _ | with_reducible refine Q.setCell ?_ (by omega) _)
              by_cases hn : n < 1
              · go_wp2_with (go_at_call 96; refine (HN.out _).mono ?_; rintro e w1 ⟨rfl, rfl⟩)
                refine bodyPost_ret (v := .tuple #[.agg #[.string ⟨#[]⟩, .int .i64 0, .int .i64 0, .bool false, .bool false], .bool false]) (by simp [results, Tryz.results83, go_sem]) rfl ⟨by rw [HV.out, if_neg (by omega)], ?_⟩
                repeat' (first | with_reducible exact Q.refl _ | with_reducible refine Q.alloc ?_ _ | with_reducible refine Q.setCell ?_ (by omega) _)
              · go_wp2_with (go_at_call 96; refine (HN.out _).mono ?_; rintro e w1 ⟨rfl, rfl⟩)
                refine bodyPost_ret (v := .tuple #[.agg #[.string A, .int .i64 (n - 1), .int .i64 col, .bool ra, .bool ca], .bool true]) (by simp [results, Tryz.results83, go_sem]) rfl ⟨by rw [HV.out, if_pos (by first | exact ⟨rfl, by omega⟩ | exact ⟨trivial, by omega⟩)], ?_⟩
                repeat' (first | with_reducible exact Q.refl _ | with_reducible refine Q.alloc ?_ _ | with_reducible refine Q.setCell ?_ (by omega) _)
set_option maxHeartbeats 2000000 in
theorem rref_none (S A C : ByteArray) (w : World) (hs : S.size ≤ 4000000000) (hC : C.size ≤ 4000000000) (j : Nat) (hj : j < S.size) (hsj : (S[j].toNat : Int) = 33) (hno : Hid ((33 : UInt8) ∉ S.data.toList.take j)) (eA : S.extract 0 j = A) (eC : S.extract (j + 1) S.size = C)
    (HI : Hid (∀ W, Calls Tryz.prog 60 #[.string A] W fun e w' => e = .returned (.bool false) ∧ w' = W))
    :
    Calls Tryz.prog 83 #[.string S] w fun e w' => e = .returned (rfR ⟨#[]⟩ false 0 0 false false) ∧ Q w w' := by
  go_enter Tryz.func83, Tryz.ntmps83
  go_wp2_with fail
  go_loop [0, 3, 5] (fun x o i => ∃ i' : Nat, x = .string S ∧ o = .bool false ∧ i' ≤ j ∧ i = .int .i64 i') (fun _ _ i => S.size - (intOf i).toNat)
  case atStart => exact ⟨0, rfl, rfl, Nat.zero_le _, rfl⟩
  case round =>
    obtain ⟨i, rfl, rfl, hi, rfl⟩ := hrel
    by_cases hlt : i < j
    · have hn' : ((S[i].toNat : Int) == 33) = false := byte_ne (n := 33) (by omega) (fun e => hno.out (by
        have h : S[i] ∈ S.data.toList.take (i + 1) := by rw [take_snoc S i (by omega)]; simp
        rw [e] at h
        exact List.mem_of_mem_take (i := i + 1) (by rw [List.take_take, Nat.min_eq_left (by omega)]; exact h)))
      have hlt' : i < S.size := by omega
      go_wp2_with fail
      go_round
      case rel => exact ⟨i + 1, rfl, rfl, by omega, by go_num⟩
      case measure => simp [intOf]; omega
    · obtain rfl : i = j := by omega
      go_wp2_with (go_at_call 60; refine (HI.out _).mono ?_; rintro e w1 ⟨rfl, rfl⟩)
      refine bodyPost_ret (v := .tuple #[.agg #[.string ⟨#[]⟩, .int .i64 0, .int .i64 0, .bool false, .bool false], .bool false]) (by simp [results, Tryz.results83, go_sem]) rfl ⟨rfl, ?_⟩
      repeat' (first | with_reducible exact Q.refl _ | with_reducible refine Q.alloc ?_ _ | with_reducible refine Q.setCell ?_ (by omega) _)
theorem dl_of (C : ByteArray) : Dl C ⟨(Lib.trimPrefix C.data.toList [36]).toArray⟩ (Lib.hasPrefix C.data.toList [36]) := by
  unfold Dl
  cases hb : Lib.hasPrefix C.data.toList [36]
  · refine .inr ⟨rfl, fun h e => ?_, ?_⟩
    · have h1 := drop_cons C 0 h
      rw [List.drop_zero] at h1
      rw [h1, e] at hb
      unfold Lib.hasPrefix at hb
      simp at hb
    · have : Lib.trimPrefix C.data.toList [36] = C.data.toList := by unfold Lib.trimPrefix; rw [hb]; rfl
      rw [this]
  · have hp : 0 < C.size := by
      rcases Nat.eq_zero_or_pos C.size with h | h
      · rw [show C.data.toList = [] from List.eq_nil_of_length_eq_zero (by rw [len_data]; exact h)] at hb
        unfold Lib.hasPrefix at hb
        simp at hb
      · exact h
    refine .inl ⟨rfl, hp, ?_, ?_⟩
    · have h1 := drop_cons C 0 hp
      rw [List.drop_zero] at h1
      rw [h1] at hb
      unfold Lib.hasPrefix at hb
      simp at hb
      exact hb.symm
    · apply bytes_eq
      rw [Lib.extract_data]
      have : Lib.trimPrefix C.data.toList [36] = C.data.toList.drop 1 := by unfold Lib.trimPrefix; rw [hb]; rfl
      rw [this]
      exact List.take_of_length_le (by rw [List.length_drop, len_data]; omega)
theorem numR_lo (l : List UInt8) (m : Nat) : -1 ≤ numR l m := by unfold numR; split <;> omega
theorem numR_hi (l : List UInt8) (m : Nat) : numR l m ≤ (m : Int) := by
  unfold numR
  split
  · rename_i h
    unfold numF at h
    simp only [Bool.and_eq_true, decide_eq_true_eq] at h
    omega
  · omega
theorem rf_eq (sh c : List UInt8) :
    rfR ⟨sh.toArray⟩ (colF ((Lib.trimPrefix c [36]).takeWhile let1)) (numR (Lib.trimPrefix ((Lib.trimPrefix c [36]).dropWhile let1) [36]) 2199023255552) (colK ((Lib.trimPrefix c [36]).takeWhile let1))
      (Lib.hasPrefix ((Lib.trimPrefix c [36]).dropWhile let1) [36]) (Lib.hasPrefix c [36]) = .tuple #[refA (if tailF c then tailT sh c else noT), .bool (tailF c)] := by
  unfold rfR tailF tailT numR colK
  cases colF ((Lib.trimPrefix c [36]).takeWhile let1)
  · rfl
  cases numF (Lib.trimPrefix ((Lib.trimPrefix c [36]).dropWhile let1) [36]) 2199023255552
  · rw [if_neg (by simp)]
    rfl
  generalize val (Lib.trimPrefix ((Lib.trimPrefix c [36]).dropWhile let1) [36]) = v
  by_cases h : v = 0
  · rw [if_neg (by simp; omega), decide_eq_false (by omega)]
    rfl
  · rw [if_pos (by simp; omega), decide_eq_true h]
    rfl
structure RT (C T E R G : ByteArray) (k : Nat) (ca ra cf : Bool) (col n : Int) : Prop where
  hd1 : Dl C T ca
  hd2 : Dl R G ra
  hk : k = lead T.data.toList
  hkT : k ≤ T.size
  hT : T.size ≤ 4000000000
  eE : T.extract 0 k = E
  eR : T.extract k T.size = R
  HK : ∀ W, Calls Tryz.prog 101 #[.string E] W fun e w' => e = .returned (.tuple #[.int .i64 col, .bool cf]) ∧ w' = W
  n0 : -1 ≤ n
  n1 : n ≤ 2199023255552
  HN : ∀ W, Calls Tryz.prog 96 #[.string G, .int .i64 2199023255552] W fun e w' => e = .returned (.int .i64 n) ∧ w' = W
theorem rt_of (C : ByteArray) (hs : C.size ≤ 4000000000) :
    ∃ T E R G, RT C T E R G (lead (Lib.trimPrefix C.data.toList [36])) (Lib.hasPrefix C.data.toList [36]) (Lib.hasPrefix ((Lib.trimPrefix C.data.toList [36]).dropWhile let1) [36])
      (colF ((Lib.trimPrefix C.data.toList [36]).takeWhile let1)) (colK ((Lib.trimPrefix C.data.toList [36]).takeWhile let1)) (numR (Lib.trimPrefix ((Lib.trimPrefix C.data.toList [36]).dropWhile let1) [36]) 2199023255552) := by
  have l1 := Lib.trimPrefix_le C.data.toList [36]
  rw [len_data] at l1
  have d1 := dl_of C
  generalize Lib.trimPrefix C.data.toList [36] = t at *
  have l2 := lead_le t
  have e1 : ((⟨t.toArray⟩ : ByteArray).extract 0 (lead t)).data.toList = t.takeWhile let1 := by
    rw [Lib.extract_data, ← take_lead]
    rfl
  have e2 : ((⟨t.toArray⟩ : ByteArray).extract (lead t) (⟨t.toArray⟩ : ByteArray).size).data.toList = t.dropWhile let1 := by
    rw [Lib.extract_data, ← drop_lead, size_mk]
    exact List.take_of_length_le (by simp)
  have l3 := Lib.trimPrefix_le (t.dropWhile let1) [36]
  have l4 : (t.dropWhile let1).length ≤ t.length := by rw [← drop_lead, List.length_drop]; omega
  have hK := fun W => rcol_any ((⟨t.toArray⟩ : ByteArray).extract 0 (lead t)) W (by rw [ByteArray.size_extract, size_mk]; omega)
  rw [e1] at hK
  have d2 := dl_of ((⟨t.toArray⟩ : ByteArray).extract (lead t) (⟨t.toArray⟩ : ByteArray).size)
  rw [e2] at d2
  exact ⟨_, _, _, _, d1, d2, rfl, by rw [size_mk]; exact l2, by rw [size_mk]; omega, rfl, rfl, hK, numR_lo _ _, numR_hi _ _,
    fun W => num_any ⟨(Lib.trimPrefix (t.dropWhile let1) [36]).toArray⟩ 2199023255552 2199023255552 W rfl (by omega) (by omega) (by rw [size_mk]; omega)⟩
theorem rref_any (s : ByteArray) (w : World) (hs : s.size ≤ 4000000000) :
    Calls Tryz.prog 83 #[.string s] w fun e w' => e = .returned (.tuple #[refA (refT s.data.toList), .bool (refF s.data.toList)]) ∧ Q w w' := by
  rcases cut_any 33 s.data.toList with ⟨a, b, ea, hna⟩ | hno
  · have ec := cut_at 33 a b hna
    rw [← ea] at ec
    obtain ⟨e1, e2⟩ := ref_other ec
    have hlen := congrArg List.length ea
    rw [len_data, List.length_append, List.length_cons] at hlen
    have hj : a.length < s.size := by omega
    have htake : s.data.toList.take a.length = a := by rw [ea, List.take_left]
    have hget : s[a.length] = 33 := by
      have h1 := drop_cons s a.length hj
      rw [ea, List.drop_left] at h1
      exact (List.cons.inj h1).1.symm
    have eA : s.extract 0 a.length = ⟨a.toArray⟩ := bytes_eq (by rw [Lib.extract_data]; exact htake)
    have eC : s.extract (a.length + 1) s.size = ⟨b.toArray⟩ := bytes_eq (by
      rw [Lib.extract_data, show s.data.toList.drop (a.length + 1) = b by
        have h1 := drop_cons s a.length hj
        rw [ea, List.drop_left] at h1
        rw [ea]
        exact (List.cons.inj h1).2.symm]
      exact List.take_of_length_le (by omega))
    have HI := fun W => rid_any ⟨a.toArray⟩ W (by rw [size_mk]; omega)
    simp only at HI
    rw [e1, e2]
    cases hi : idB a
    · rw [hi] at HI
      exact (rref_none s _ _ w hs (by rw [size_mk]; omega) a.length hj (by rw [hget]; rfl) (by show _ ∉ _; rw [htake]; exact hna) eA eC HI).mono fun e w' h => h
    · rw [hi] at HI
      obtain ⟨T, E, R, G, h⟩ := rt_of ⟨b.toArray⟩ (by rw [size_mk]; omega)
      refine (rref_other s _ _ T E R G _ _ _ _ _ _ w hs (by rw [size_mk]; omega) a.length hj (by rw [hget]; rfl) (by show _ ∉ _; rw [htake]; exact hna) eA eC HI h.hd1 h.hd2 h.hk h.hkT h.hT h.eE h.eR h.HK h.n0 h.n1 h.HN).mono fun e w' g => ⟨?_, g.2⟩
      rw [g.1, rf_eq a b, Bool.true_and]
  · have ec := cut_free 33 s.data.toList hno
    obtain ⟨e1, e2⟩ := ref_free ec
    rw [e1, e2]
    obtain ⟨T, E, R, G, h⟩ := rt_of s hs
    refine (rref_free s T E R G _ _ _ _ _ _ w hs hno h.hd1 h.hd2 h.hk h.hkT h.hT h.eE h.eR h.HK h.n0 h.n1 h.HN).mono fun e w' g => ⟨?_, g.2⟩
    rw [g.1]
    exact congrArg Ending.returned (rf_eq [] s.data.toList)
theorem Rd.shape {W : World} {x : Ex} {v : Value} (h : Rd W x v) : ∃ k n t b e a1 l1 c1 a2 l2 c2, v = .agg #[.int .i64 k, .int .i64 n, .string t, .bool b, .int .i64 e, .slice a1 l1 c1, .slice a2 l2 c2] := by
  obtain ⟨k, n, t, b, e, rs, ks, rv, kv, ao, cap, rfl, hp⟩ := h.prt
  obtain ⟨ar, cr, hr, _⟩ := hp.rl
  obtain rfl := hp.kl
  subst hr
  exact ⟨_, _, _, _, _, _, _, _, _, _, _, rfl⟩
theorem nodesL_take (ks : List Ex) (i : Nat) (h : i < ks.length) : nodes.nodesL (ks.take (i + 1)) = nodes.nodesL (ks.take i) + nodes ks[i] := by
  rw [List.take_succ_eq_append_getElem h, nodesL_snoc]
theorem nodesL_take_le (ks : List Ex) (i : Nat) : nodes.nodesL (ks.take i) ≤ nodes.nodesL ks := by
  induction ks generalizing i with
  | nil => simp
  | cons x xs ih =>
    cases i with
    | zero => simp [nodes.nodesL]
    | succ i => rw [List.take_succ_cons, nodes.nodesL, nodes.nodesL]; have := ih i; omega
def shl : Nat → Ex → Bool
  | 0, _ => false
  | m + 1, .mk _ _ _ _ _ _ ks => ks.all (shl m)
set_option maxHeartbeats 4000000 in
theorem pcount_any : ∀ (s : Nat) (x : Ex) (v : Value) (W : World) (M : Int) (m : Nat), SizeOf.sizeOf x ≤ s → M = (m : Int) → 1 ≤ m → m ≤ 201 → Rd W x v → Calls Tryz.prog 87 #[v, .int .i64 M] W fun e W' => e = .returned (.int .i64 (min (nodes x) m : Nat)) ∧ Q W W' := by
  intro s
  induction s with
  | zero =>
    intro x v W M m hs
    cases x with
    | mk k n t b e rs ks => simp at hs
  | succ s ih =>
    intro x v W M m hs hM h1 h201 hr
    obtain ⟨k, n, t, b, e, rs, ks, rv, kv, ao, cap, rfl, hp⟩ := hr.prt
    obtain ⟨ar, cr, hrv, _⟩ := hp.rl
    have HD : Hid (nodes x = 1 + nodes.nodesL ks) := hid (by rw [hp.ex, nodes])
    have IH := hid (fun (i : Nat) (h : i < ks.length) v W M m => ih ks[i] v W M m (by have := kid_size (k := k) (n := n) (t := t.data.toList) (b := b) (e := e) (rs := rs) i h; rw [← hp.ex] at this; omega))
    generalize nodes x = d at HD ⊢
    have HP := hid hp
    obtain rfl := hp.kl
    subst hrv
    have hroom : ks.length ≤ 9223372036854775807 := by have h1 := hp.le; have h2 := hp.mx; unfold maxLen at h2; omega
    clear hp hr ih hs
    subst hM
    go_enter Tryz.func87, Tryz.ntmps87
    go_wp2
    go_loopw [5, 11, 7] (fun y z _ W' => ∃ (i a : Nat), i ≤ ks.length ∧ y = .int .i64 (a : Int) ∧ z = .int .i64 (i : Int) ∧ a ≤ m ∧ Hid (Q W W') ∧ Hid (a = min (1 + nodes.nodesL (ks.take i)) m)) (fun _ z _ _ => ks.length - (intOf z).toNat)
    case atStart => exact ⟨0, 1, Nat.zero_le _, rfl, rfl, h1, hid ((Q.refl _).alloc _), by show _ = _; simp [nodes.nodesL]; omega⟩
    case round =>
      obtain ⟨i, a, hi, rfl, rfl, ha, hQ, hA⟩ := hrel
      by_cases hlt : i < ks.length
      · have hne : ks ≠ [] := by intro h; rw [h] at hlt; simp at hlt
        obtain ⟨b', off, rfl, hl⟩ := (HP.out.on hQ.out).kd hne
        obtain ⟨e0, e1, e2, e3, e4, e5, e6, hK⟩ := hl.kid i hlt
        obtain ⟨k', n', t', b1', e', a1', l1', c1', a2', l2', c2', hsh⟩ := hK.rd.shape
        simp only [Value.agg.injEq, Array.mk.injEq, List.cons.injEq, and_true] at hsh
        obtain ⟨rfl, rfl, rfl, rfl, rfl, rfl, rfl⟩ := hsh
        obtain ⟨h0, g1, h2, h3, h4, h5, h6, hrd⟩ := hK
        by_cases ham : a = m
        · have HA2 : Hid ((min d m : Nat) = m) := by
            show _ = _
            have := hA.out
            have := nodesL_take_le ks i
            have := HD.out
            omega
          have eam : ((a : Int) == (m : Int)) = true := by rw [ham]; exact beq_self_eq_true _
          have HAM := hid ham
          clear hl hrd hA ham
          go_wp2_with fail
          go_ret
          exact ⟨ret_int (by rw [HA2.out, HAM.out]), hQ.out.trans (by repeat (first | with_reducible exact Q.refl _ | with_reducible refine Q.alloc ?_ _))⟩
        · have eam : ((a : Int) == (m : Int)) = false := by rw [beq_eq_false_iff_ne]; omega
          have HRD := hid hrd
          have HI := hid (fun W1 (q : Q wr W1) => IH.out i hlt _ W1 ((m : Int) - (a : Int)) (m - a) (by omega) (by omega) (by omega) (Rd.on q _ _ HRD.out))
          have HA2 : Hid (a + min (nodes ks[i]) (m - a) = min (1 + nodes.nodesL (ks.take (i + 1))) m) := by
            show _ = _
            have := hA.out
            rw [nodesL_take ks i hlt]
            omega
          have hdl : min (nodes ks[i]) (m - a) ≤ m - a := Nat.min_le_right _ _
          generalize min (nodes ks[i]) (m - a) = dd at HI HA2 hdl
          clear hl hrd hA ham
          go_wp2_with (go_at_call 87; refine (HI.out _ (by repeat (first | with_reducible exact Q.refl _ | with_reducible refine Q.alloc ?_ _))).mono ?_; rintro e9 w9 ⟨rfl, q9⟩; have Q9 : Hid (Q wr w9) := hid (Q.trans (by repeat (first | with_reducible exact Q.refl _ | with_reducible refine Q.alloc ?_ _)) q9); clear q9)
          go_roundw
          case rel => exact ⟨i + 1, a + dd, by omega, by go_num, by go_num, by omega, hid (hQ.out.trans Q9.out), HA2⟩
          case measure => simp [intOf]; omega
      · have HA2 : Hid ((min d m : Nat) = a) := by
          show _ = _
          have := hA.out
          rw [List.take_of_length_le (by omega)] at this
          rw [HD.out, this]
        clear hA
        go_wp2_with fail
        go_ret
        exact ⟨ret_int (by rw [HA2.out]), hQ.out⟩
set_option maxHeartbeats 4000000 in
theorem shallow_any : ∀ (m : Nat) (x : Ex) (v : Value) (W : World) (M : Int), M = (m : Int) → m ≤ 100 → Rd W x v → Calls Tryz.prog 72 #[v, .int .i64 M] W fun e W' => e = .returned (.bool (shl m x)) ∧ Q W W' := by
  intro m
  induction m with
  | zero =>
    intro x v W M hM hm hr
    obtain ⟨k, n, t, b, e, a1, l1, c1, a2, l2, c2, rfl⟩ := hr.shape
    have HD : Hid (shl 0 x = false) := hid (by unfold shl; rfl)
    generalize shl 0 x = d at HD ⊢
    have e0 : (M == 0) = true := by rw [hM]; rfl
    clear hr hM
    go_enter Tryz.func72, Tryz.ntmps72
    go_wp2_with fail
    go_ret
    exact ⟨ret_bool HD.out.symm, (Q.refl _).alloc _⟩
  | succ m ih =>
    intro x v W M hM hm hr
    obtain ⟨k, n, t, b, e, rs, ks, rv, kv, ao, cap, rfl, hp⟩ := hr.prt
    obtain ⟨ar, cr, hrv, _⟩ := hp.rl
    have HD : Hid (shl (m + 1) x = ks.all (shl m)) := hid (by rw [hp.ex]; rfl)
    generalize shl (m + 1) x = d at HD ⊢
    have IH := hid (fun x v W h => ih x v W (M - 1) (by omega) (by omega) h)
    have e0 : (M == 0) = false := by rw [beq_eq_false_iff_ne]; omega
    have hM0 : 0 < M := by omega
    have hM1 : M ≤ 200 := by omega
    have HP := hid hp
    obtain rfl := hp.kl
    subst hrv
    have hroom : ks.length ≤ 9223372036854775807 := by have h1 := hp.le; have h2 := hp.mx; unfold maxLen at h2; omega
    clear hp hr ih hM
    go_enter Tryz.func72, Tryz.ntmps72
    go_wp2_with fail
    go_loopw [12, 6] (fun z _ W' => ∃ (i : Nat), i ≤ ks.length ∧ z = .int .i64 (i : Int) ∧ Hid (Q W W') ∧ Hid ((ks.take i).all (shl m) = true)) (fun z _ _ => ks.length - (intOf z).toNat)
    case atStart => exact ⟨0, Nat.zero_le _, rfl, hid ((Q.refl _).alloc _), rfl⟩
    case round =>
      obtain ⟨i, hi, rfl, hQ, hA⟩ := hrel
      by_cases hlt : i < ks.length
      · have hne : ks ≠ [] := by intro h; rw [h] at hlt; simp at hlt
        obtain ⟨b', off, rfl, hl⟩ := (HP.out.on hQ.out).kd hne
        obtain ⟨e0', e1, e2, e3, e4, e5, e6, hK⟩ := hl.kid i hlt
        obtain ⟨k', n', t', b1', e', a1', l1', c1', a2', l2', c2', hsh⟩ := hK.rd.shape
        simp only [Value.agg.injEq, Array.mk.injEq, List.cons.injEq, and_true] at hsh
        obtain ⟨rfl, rfl, rfl, rfl, rfl, rfl, rfl⟩ := hsh
        obtain ⟨h0, g1, h2, h3, h4, h5, h6, hrd⟩ := hK
        have HRD := hid hrd
        have HI := hid (fun W1 (q : Q wr W1) => IH.out ks[i] _ W1 (Rd.on q _ _ HRD.out))
        cases hb : shl m ks[i]
        · rw [hb] at HI
          have HA2 : Hid (d = false) := by
            show _ = _
            rw [HD.out, Bool.eq_false_iff]
            intro e
            rw [List.all_eq_true] at e
            have := e ks[i] (List.getElem_mem hlt)
            rw [hb] at this
            cases this
          clear hl hrd hA
          go_wp2_with (go_at_call 72; refine (HI.out _ (by repeat (first | with_reducible exact Q.refl _ | with_reducible refine Q.alloc ?_ _))).mono ?_; rintro e9 w9 ⟨rfl, q9⟩; have Q9 : Hid (Q wr w9) := hid (Q.trans (by repeat (first | with_reducible exact Q.refl _ | with_reducible refine Q.alloc ?_ _)) q9); clear q9)
          go_ret
          exact ⟨ret_bool HA2.out.symm, hQ.out.trans Q9.out⟩
        · rw [hb] at HI
          have HA2 : Hid ((ks.take (i + 1)).all (shl m) = true) := by
            show _ = _
            rw [List.take_succ_eq_append_getElem hlt, List.all_append, hA.out]
            simp [hb]
          clear hl hrd hA
          go_wp2_with (go_at_call 72; refine (HI.out _ (by repeat (first | with_reducible exact Q.refl _ | with_reducible refine Q.alloc ?_ _))).mono ?_; rintro e9 w9 ⟨rfl, q9⟩; have Q9 : Hid (Q wr w9) := hid (Q.trans (by repeat (first | with_reducible exact Q.refl _ | with_reducible refine Q.alloc ?_ _)) q9); clear q9)
          go_roundw
          case rel => exact ⟨i + 1, by omega, by go_num, hid (hQ.out.trans Q9.out), HA2⟩
          case measure => simp [intOf]; omega
      · have HA2 : Hid (d = true) := by
          show _ = _
          have := hA.out
          rw [List.take_of_length_le (by omega)] at this
          rw [HD.out, this]
        clear hA
        go_wp2_with fail
        go_ret
        exact ⟨ret_bool HA2.out.symm, hQ.out⟩
def mall (nd : Ex → Bool) : Ex → Bool
  | .mk k n t b e rs ks => nd (.mk k n t b e rs ks) && mallL nd ks
  where
  mallL (nd : Ex → Bool) : List Ex → Bool
  | [] => true
  | x :: xs => mall nd x && mallL nd xs
theorem mallL_all (nd : Ex → Bool) (ks : List Ex) : mall.mallL nd ks = ks.all (mall nd) := by
  induction ks with
  | nil => simp [mall.mallL]
  | cons x xs ih => rw [mall.mallL, ih, List.all_cons]
set_option maxHeartbeats 4000000 in
theorem mayall_any (nd : Ex → Bool) (G : World → Prop) (hG : ∀ W W', G W → Q W W' → G W') (P : Ex → Prop) (hP : ∀ k n t b e rs ks, P (.mk k n t b e rs ks) → ∀ y ∈ ks, P y) (HN : Hid (∀ x v W, G W → P x → Rd W x v → Calls Tryz.prog 73 #[v] W fun e W' => e = .returned (.bool (nd x)) ∧ Q W W')) :
    ∀ (s : Nat) (x : Ex) (v : Value) (W : World), SizeOf.sizeOf x ≤ s → G W → P x → Rd W x v → Calls Tryz.prog 50 #[v] W fun e W' => e = .returned (.bool (mall nd x)) ∧ Q W W' := by
  intro s
  induction s with
  | zero =>
    intro x v W hs
    cases x with
    | mk k n t b e rs ks => simp at hs
  | succ s ih =>
    intro x v W hs hg hpx hr
    have HNx := hid (fun W1 (q : Q W W1) => HN.out x v W1 (hG _ _ hg q) hpx (Rd.on q _ _ hr))
    obtain ⟨k, n, t, b, e, rs, ks, rv, kv, ao, cap, rfl, hp⟩ := hr.prt
    obtain ⟨ar, cr, hrv, _⟩ := hp.rl
    have HD : Hid (mall nd x = (nd x && ks.all (mall nd))) := hid (by rw [hp.ex, mall, mallL_all])
    have HPK : Hid (∀ i (h : i < ks.length), P ks[i]) := hid (fun i h => hP k n t.data.toList b e rs ks (hp.ex ▸ hpx) _ (List.getElem_mem h))
    have IH := hid (fun (i : Nat) (h : i < ks.length) v W => ih ks[i] v W (by have := kid_size (k := k) (n := n) (t := t.data.toList) (b := b) (e := e) (rs := rs) i h; rw [← hp.ex] at this; omega))
    generalize mall nd x = d at HD ⊢
    have HP := hid hp
    have HGW := hid hg
    obtain rfl := hp.kl
    subst hrv
    have hroom : ks.length ≤ 9223372036854775807 := by have h1 := hp.le; have h2 := hp.mx; unfold maxLen at h2; omega
    have HX := hid (Bx.start W (.int .i64 k) (.int .i64 n) (.string t) (.bool b) (.int .i64 e) (.slice ar rs.length cr) (.slice ao ks.length cap) 26)
    clear hp hr ih hs hg hpx
    cases hnd : nd x
    · rw [hnd] at HNx
      have HR : Hid (d = false) := by show _ = _; rw [HD.out, hnd]; rfl
      go_enter Tryz.func50, Tryz.ntmps50
      go_wp2_with (go_at_call 73; refine (HNx.out _ ((Q.refl _).alloc _)).mono ?_; rintro e9 w1 ⟨rfl, q1⟩; have Q1 : Hid (Q W w1) := hid (((Q.refl _).alloc _).trans q1); clear q1)
      go_ret
      exact ⟨ret_bool HR.out.symm, Q1.out⟩
    · rw [hnd] at HNx
      have HR : Hid (d = ks.all (mall nd)) := by show _ = _; rw [HD.out, hnd, Bool.true_and]
      go_enter Tryz.func50, Tryz.ntmps50
      go_wp2_with (go_at_call 73; refine (HNx.out _ ((Q.refl _).alloc _)).mono ?_; rintro e9 w1 ⟨rfl, q1⟩; have Q1 : Hid (Q W w1) := hid (((Q.refl _).alloc _).trans q1); have X1 := hid (HX.out.on q1); clear q1; have c6 := X1.out.g6)
      go_loopw [11, 4] (fun z _ W' => ∃ (i : Nat), i ≤ ks.length ∧ z = .int .i64 (i : Int) ∧ Hid (Q W W') ∧ Hid ((ks.take i).all (mall nd) = true)) (fun z _ _ => ks.length - (intOf z).toNat)
      case atStart => exact ⟨0, Nat.zero_le _, rfl, Q1, rfl⟩
      case round =>
        obtain ⟨i, hi, rfl, hQ, hA⟩ := hrel
        by_cases hlt : i < ks.length
        · have hne : ks ≠ [] := by intro h; rw [h] at hlt; simp at hlt
          obtain ⟨b', off, rfl, hl⟩ := (HP.out.on hQ.out).kd hne
          obtain ⟨e0', e1, e2, e3, e4, e5, e6, hK⟩ := hl.kid i hlt
          obtain ⟨k', n', t', b1', e', a1', l1', c1', a2', l2', c2', hsh⟩ := hK.rd.shape
          simp only [Value.agg.injEq, Array.mk.injEq, List.cons.injEq, and_true] at hsh
          obtain ⟨rfl, rfl, rfl, rfl, rfl, rfl, rfl⟩ := hsh
          obtain ⟨h0, g1, h2, h3, h4, h5, h6, hrd⟩ := hK
          have HRD := hid hrd
          have HI := hid (fun W1 (q : Q wr W1) => IH.out i hlt _ W1 (hG _ _ HGW.out (hQ.out.trans q)) (HPK.out i hlt) (Rd.on q _ _ HRD.out))
          cases hb : mall nd ks[i]
          · rw [hb] at HI
            have HA2 : Hid (d = false) := by
              show _ = _
              rw [HR.out, Bool.eq_false_iff]
              intro e
              rw [List.all_eq_true] at e
              have := e ks[i] (List.getElem_mem hlt)
              rw [hb] at this
              cases this
            clear hl hrd hA
            go_wp2_with (go_at_call 50; refine (HI.out _ (by repeat (first | with_reducible exact Q.refl _ | with_reducible refine Q.alloc ?_ _))).mono ?_; rintro e9 w9 ⟨rfl, q9⟩; have Q9 : Hid (Q wr w9) := hid (Q.trans (by repeat (first | with_reducible exact Q.refl _ | with_reducible refine Q.alloc ?_ _)) q9); clear q9)
            go_ret
            exact ⟨ret_bool HA2.out.symm, hQ.out.trans Q9.out⟩
          · rw [hb] at HI
            have HA2 : Hid ((ks.take (i + 1)).all (mall nd) = true) := by
              show _ = _
              rw [List.take_succ_eq_append_getElem hlt, List.all_append, hA.out]
              simp [hb]
            clear hl hrd hA
            go_wp2_with (go_at_call 50; refine (HI.out _ (by repeat (first | with_reducible exact Q.refl _ | with_reducible refine Q.alloc ?_ _))).mono ?_; rintro e9 w9 ⟨rfl, q9⟩; have Q9 : Hid (Q wr w9) := hid (Q.trans (by repeat (first | with_reducible exact Q.refl _ | with_reducible refine Q.alloc ?_ _)) q9); clear q9)
            go_roundw
            case rel => exact ⟨i + 1, by omega, by go_num, hid (hQ.out.trans Q9.out), HA2⟩
            case measure => simp [intOf]; omega
        · have HA2 : Hid (d = true) := by
            show _ = _
            have := hA.out
            rw [List.take_of_length_le (by omega)] at this
            rw [HR.out, this]
          clear hA
          go_wp2_with fail
          go_ret
          exact ⟨ret_bool HA2.out.symm, hQ.out⟩
def scanL (l : List UInt8) : Option (List Wd) × Nat := if 1000 < l.length then (none, 0) else
  match scanF l 0 [] with
  | (some L, n) => (some (L ++ [⟨7, [], l.length⟩]), 0)
  | (none, n) => (none, n)
theorem scanL_long {l : List UInt8} (h : 1000 < l.length) : scanL l = (none, 0) := by unfold scanL; rw [if_pos h]
theorem scanL_yes {l : List UInt8} {L : List Wd} {n : Nat} (h : ¬ 1000 < l.length) (e : scanF l 0 [] = (some L, n)) : scanL l = (some (L ++ [⟨7, [], l.length⟩]), 0) := by unfold scanL; rw [if_neg h, e]
theorem scanL_no {l : List UInt8} {n : Nat} (h : ¬ 1000 < l.length) (e : scanF l 0 [] = (none, n)) : scanL l = (none, n) := by unfold scanL; rw [if_neg h, e]
def ScanRet (o : Option (List Wd) × Nat) (e : Ending) (W : World) : Prop :=
  match o with
  | (some L, n) => ∃ v, e = .returned (.tuple #[v, .int .i64 0, .bool true]) ∧ Sl wd 3 W v L
  | (none, n) => e = .returned (.tuple #[.slice none 0 0, .int .i64 (n : Int), .bool false])
theorem ScanRet.no {o : Option (List Wd) × Nat} {n : Nat} {W : World} {k : Int} (h : o = (none, n)) (hk : k = (n : Int)) : ScanRet o (.returned (.tuple #[.slice none 0 0, .int .i64 k, .bool false])) W := by
  subst h
  subst hk
  rfl
theorem ScanRet.yes {o : Option (List Wd) × Nat} {L : List Wd} {W : World} {v : Value} (h : o = (some L, 0)) (hv : Sl wd 3 W v L) : ScanRet o (.returned (.tuple #[v, .int .i64 0, .bool true])) W := by
  subst h
  exact ⟨v, rfl, hv⟩
theorem drop_head (s : ByteArray) (k : Nat) (h : k < s.size) : s.data.toList.drop k ≠ [] := by
  rw [drop_cons s k h]; simp
structure Sw (W : World) (L : List Wd) (v : Value) (b off cap : Nat) : Prop where
  ev : v = .slice (some ⟨b, off, none⟩) L.length cap
  le : L.length ≤ cap
  mx : cap ≤ maxLen
  k : ∀ i (h : i < L.length), W.cell? ⟨b, off + i * 3, none⟩ = some (.int .i64 (L[i].k : Int))
  t : ∀ i (h : i < L.length), W.cell? ⟨b, off + i * 3 + 1, none⟩ = some (.string ⟨L[i].t.toArray⟩)
  p : ∀ i (h : i < L.length), W.cell? ⟨b, off + i * 3 + 2, none⟩ = some (.int .i64 (L[i].p : Int))
theorem sw_of {W : World} {v : Value} {L : List Wd} (h : Sl wd 3 W v L) (hl : 0 < L.length) : ∃ b off cap, Sw W L v b off cap := by
  obtain ⟨ao, cap, hv, h1, h2, h⟩ := h
  obtain ⟨b, off, rfl, hc⟩ := h hl
  exact ⟨b, off, cap, hv, h1, h2, fun i hi => hc i hi 0 _ rfl, fun i hi => hc i hi 1 _ rfl, fun i hi => hc i hi 2 _ rfl⟩
theorem ScanRet.some {L : List Wd} {n : Nat} {e : Ending} {W : World} (h : ScanRet (some L, n) e W) : ∃ v, e = .returned (.tuple #[v, .int .i64 0, .bool true]) ∧ Sl wd 3 W v L := h
set_option maxHeartbeats 1000000 in
theorem short_any (s : ByteArray) (n : Int) (w : World) (n0 : 0 ≤ n) (n1 : n ≤ 2000) :
    Calls Tryz.prog 10 #[.string s, .int .i64 n] w fun e w' => e = .returned (.string (if n < (s.size : Int) then s.extract 0 n.toNat else s)) ∧ w' = w := by
  by_cases h : n < (s.size : Int)
  · have HE := hid (if_pos h : (if n < (s.size : Int) then s.extract 0 n.toNat else s) = _)
    go_enter Tryz.func10, Tryz.ntmps10
    go_wp2
    go_ret
    exact ⟨ret_str rfl, rfl⟩
  · have HE := hid (if_neg h : (if n < (s.size : Int) then s.extract 0 n.toNat else s) = _)
    go_enter Tryz.func10, Tryz.ntmps10
    go_wp2
    go_ret
    exact ⟨ret_str rfl, rfl⟩
end Go.Proofs.YtoikodohcieipaaGreatDoor
