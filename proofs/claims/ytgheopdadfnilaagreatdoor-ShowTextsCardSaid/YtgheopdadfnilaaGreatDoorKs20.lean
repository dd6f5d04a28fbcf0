/- Small functions of show and value, walked; Small whole numbers as texts: fixnum.Print, value.Text, show.plain, show.constant; show.writeTree of leaves, walked; show.strength, walked; show.writeTree of a reference; show.writeSide, walked; What is printed of a tree that may be is read as that tree, plainly; Quotes doubled by strings.ReplaceAll, plainly; Contracts of the library's functions, laid at this dump by the shelf's tool. -/
import Derived.Test.YtgheopdadfnilaaGreatDoorKs11
import Derived.Test.YtgheopdadfnilaaGreatDoorKs01
import Derived.Test.YtgheopdadfnilaaGreatDoorKs02
import Derived.Test.YtgheopdadfnilaaGreatDoorKs19
import Derived.Test.YtgheopdadfnilaaGreatDoorKs17
import Derived.Lib.Replace
import Derived.Shelf.Strings.Builder1
import Derived.Shelf.Strings.Builder2
import Derived.Shelf.Strings.Trim
import Derived.Shelf.Small.Utf8
import Derived.Shelf.Small.Strs
import Derived.Shelf.Small.Wraps
import Derived.Shelf.Strconv.Itoa0
import Derived.Shelf.Strconv.Itoa1
import Derived.Shelf.LaysM
import Derived.Shelf.Strconv.Itoa2
import Derived.Shelf.Strconv.Itoa3
import Derived.Shelf.Strconv.Itoa4
import Derived.Shelf.Strconv.Clone
import Derived.Shelf.Strings.Search1
import Derived.Shelf.Strings.Search2
import Derived.Shelf.Strings.Search3
import Derived.Shelf.Strings.Cut
import Derived.Shelf.Strings.Count
import Derived.Shelf.Strings.Shaped
import Derived.Shelf.Strings.Prefix
import Derived.Shelf.Strings.Split
import Derived.Shelf.Strings.Replace
import Derived.Shelf.Strings.Runes
import Derived.Shelf.Strings.AsciiSet
import Derived.Shelf.Unicode.DecodeSlow
import Derived.Shelf.Unicode.DecodeAny
import Derived.Test.YtgheopdadfnilaaGreatDoorProg
import Derived.Test.YtgheopdadfnilaaGreatDoorKs00
import Derived.Test.YtgheopdadfnilaaGreatDoorKs06
namespace Go.Proofs.YtgheopdadfnilaaGreatDoor
open Go.RowKit
set_option linter.unusedVariables false
set_option linter.unusedSimpArgs false
/-- a value, as the program holds it -/
def vx (k n : Int) (t : ByteArray) (b : Bool) (e : Int) : Value := .agg #[.int .i64 k, .int .i64 n, .string t, .bool b, .int .i64 e]
set_option maxHeartbeats 2000000 in
theorem fault_any (k n : Int) (t : ByteArray) (b : Bool) (e : Int) (w : World) (hw : Std w) (hs : (t.size : Int) ≤ 9223372036854775000) :
    Calls Tryz.prog 115 #[vx k n t b e] w fun x w' => x = .returned (.int .i64 (if V.mayB k n t.toList b e then e else 5)) ∧ Q w w' := by
  have HM := hid (fun W' (q : Q w W') => V.may_any k n t b e W' (hw.on q) hs)
  generalize V.mayB k n t.toList b e = r at HM ⊢
  unfold V.vv at HM
  unfold vx
  clear hw
  cases r
  · go_enter Tryz.func115, Tryz.ntmps115
    go_wp2_with (go_at_call 43; refine (HM.out _ ((Q.refl _).alloc _)).mono ?_; rintro e9 w1 ⟨rfl, q1⟩; have Q1 : Hid (Q w w1) := hid (((Q.refl _).alloc _).trans q1); clear q1)
    go_ret
    exact ⟨rfl, Q1.out⟩
  · go_enter Tryz.func115, Tryz.ntmps115
    go_wp2_with (go_at_call 43; refine (HM.out _ ((Q.refl _).alloc _)).mono ?_; rintro e9 w1 ⟨rfl, q1⟩; have Q1 : Hid (Q w w1) := hid (((Q.refl _).alloc _).trans q1); have c4 : w1.cell? ⟨w.heap.size, 4, none⟩ = some (.int .i64 e) := (by rw [q1.cell (by simp)]; simp [World.cell?_alloc_new]); clear q1)
    go_ret
    exact ⟨rfl, Q1.out⟩
theorem readTruth_any (s : ByteArray) (w : World) : Calls Tryz.prog 116 #[.string s] w fun e w' => e = .returned (.tuple #[.bool (decide (s.data.toList = truW)), .int .i64 (if s.data.toList = truW ∨ s.data.toList = flsW then 0 else 5)]) ∧ w' = w := by
  have et := hid (Lib.toList_data s)
  by_cases h1 : s.data.toList = truW
  · have f1 : (s.toList == [84, 82, 85, 69]) = true := by rw [et.out, beq_iff_eq]; exact h1
    rw [if_pos (.inl h1), decide_eq_true h1]
    clear et h1
    go_enter Tryz.func116, Tryz.ntmps116
    go_wp2
    go_ret2
    exact ⟨rfl, rfl⟩
  · have f1 : (s.toList == [84, 82, 85, 69]) = false := by rw [et.out, beq_eq_false_iff_ne]; exact h1
    rw [decide_eq_false h1]
    by_cases h2 : s.data.toList = flsW
    · have f2 : (s.toList == [70, 65, 76, 83, 69]) = true := by rw [et.out, beq_iff_eq]; exact h2
      rw [if_pos (.inr h2)]
      clear et h1 h2
      go_enter Tryz.func116, Tryz.ntmps116
      go_wp2
      go_ret2
      exact ⟨rfl, rfl⟩
    · have f2 : (s.toList == [70, 65, 76, 83, 69]) = false := by rw [et.out, beq_eq_false_iff_ne]; exact h2
      rw [if_neg (fun e => e.elim h1 h2)]
      clear et h1 h2
      go_enter Tryz.func116, Tryz.ntmps116
      go_wp2
      go_ret2
      exact ⟨rfl, rfl⟩
theorem mt_true : V.mtB truW = true ∧ V.mtB flsW = true := by decide
set_option maxHeartbeats 2000000 in
/-- value.Truth of a text -/
theorem truth_text (t : ByteArray) (w : World) (hw : Std w) (hs : (t.size : Int) ≤ 9223372036854775000) :
    Calls Tryz.prog 80 #[vx 2 0 t false 0] w fun e w' => e = .returned (.tuple #[.bool (decide (t.data.toList = truW)), .int .i64 (if t.data.toList = truW ∨ t.data.toList = flsW then 0 else 5)]) ∧ Q w w' := by
  have HF := hid (fun W' (q : Q w W') => fault_any 2 0 t false 0 W' (hw.on q) hs)
  have HR := hid (fun W' => readTruth_any t W')
  have hm : V.mayB 2 0 t.toList false 0 = V.mtB t.toList := by simp [V.mayB]
  rw [hm] at HF
  clear hw hm
  by_cases hb : V.mtB t.toList = true
  · rw [hb, if_pos rfl] at HF
    generalize (if t.data.toList = truW ∨ t.data.toList = flsW then (0 : Int) else 5) = r at HR ⊢
    generalize decide (t.data.toList = truW) = d at HR ⊢
    unfold vx at HF ⊢
    clear hb
    go_enter Tryz.func80, Tryz.ntmps80
    go_wp2_with (first | (go_at_call 115; refine (HF.out _ ((Q.refl _).alloc _)).mono ?_; rintro e9 w1 ⟨rfl, q1⟩; have Q1 : Hid (Q w w1) := hid (((Q.refl _).alloc _).trans q1); have c0 : w1.cell? ⟨w.heap.size, 0, none⟩ = some (.int .i64 2) := (by rw [q1.cell (by simp)]; simp [World.cell?_alloc_new]); have c2 : w1.cell? ⟨w.heap.size, 2, none⟩ = some (.string t) := (by rw [q1.cell (by simp)]; simp [World.cell?_alloc_new]); clear q1) | (go_at_call 116; refine (HR.out _).mono ?_; rintro e9 w2 ⟨rfl, rfl⟩))
    go_ret2
    exact ⟨rfl, Q1.out⟩
  · have hb' : V.mtB t.toList = false := by simpa using hb
    rw [hb'] at HF
    have h1 : ¬ t.data.toList = truW := fun e => hb (by rw [Lib.toList_data, e]; exact mt_true.1)
    have h2 : ¬ t.data.toList = flsW := fun e => hb (by rw [Lib.toList_data, e]; exact mt_true.2)
    rw [if_neg (fun e => e.elim h1 h2), decide_eq_false h1]
    clear hb hb' h1 h2 HR
    unfold vx at HF ⊢
    go_enter Tryz.func80, Tryz.ntmps80
    go_wp2_with (go_at_call 115; refine (HF.out _ ((Q.refl _).alloc _)).mono ?_; rintro e9 w1 ⟨rfl, q1⟩; have Q1 : Hid (Q w w1) := hid (((Q.refl _).alloc _).trans q1); clear q1)
    go_ret2
    exact ⟨rfl, Q1.out⟩
/-- a block of the call's own -/
structure Cb (W : World) (q : Nat) (cs : List Value) : Prop where
  c : ∀ j u, cs[j]? = some u → W.cell? ⟨q, j, none⟩ = some u
  f : ∀ j, W.frozen? ⟨q, j, none⟩ = false
  l : q < W.heap.size
theorem Cb.on {W W' : World} {q : Nat} {cs : List Value} (h : Cb W q cs) (x : Q W W') : Cb W' q cs :=
  ⟨fun j u hu => (x.cell h.l).trans (h.c j u hu), fun j => (Below.frozen x h.l).trans (h.f j), x.lt h.l⟩
theorem cb_new (W : World) (cs : List Value) (t : TypeId) : Cb (W.alloc (.cells cs.toArray t)) W.heap.size cs :=
  ⟨fun j u hu => by rw [World.cell?_alloc_at _ _ _ _ rfl]; simpa using hu, fun j => by simp [World.frozen?_alloc_new], by simp⟩
set_option maxRecDepth 100000 in
/-- show.textValue -/
theorem textValue_any (s : ByteArray) (w : World) (hs : s.size ≤ 281474976710656) : Calls Tryz.prog 77 #[.string s] w fun e w' => e = .returned (vx 2 0 s false 0) ∧ Q w w' := by
  have HC := hid (fun W' => clone_any s W' hs)
  have HZ := hid (cb_new w [.int .i64 0, .int .i64 0, .string ⟨#[]⟩, .bool false, .int .i64 0] 37)
  unfold vx
  go_enter Tryz.func77, Tryz.ntmps77
  go_wp2_with (go_at_call 89; refine (HC.out _).mono ?_; rintro e9 w1 ⟨rfl, q1⟩; have Z1 := hid (HZ.out.on q1); have Q1 : Hid (Q w w1) := hid (((Q.refl _).alloc _).trans q1); clear q1; have d0 := Z1.out.c 0 _ rfl; have d1 := Z1.out.c 1 _ rfl; have d2 := Z1.out.c 2 _ rfl; have d3 := Z1.out.c 3 _ rfl; have d4 := Z1.out.c 4 _ rfl; have y0 := Z1.out.f 0; have y1 := Z1.out.f 1; have y2 := Z1.out.f 2; have y3 := Z1.out.f 3; have y4 := Z1.out.f 4)
  refine bodyPost_ret (v := .agg #[.int .i64 2, .int .i64 0, .string s, .bool false, .int .i64 0]) (by simp [results, Tryz.results77, go_sem, d0, d1, d2, d3, d4]) rfl ?_
  exact ⟨rfl, Q.setCell (Q.setCell (Q.setCell (Q.setCell (Q.setCell Q1.out (Nat.le_refl _) _) (Nat.le_refl _) _) (Nat.le_refl _) _) (Nat.le_refl _) _) (Nat.le_refl _) _⟩
end Go.Proofs.YtgheopdadfnilaaGreatDoor
namespace Go.Proofs.YtgheopdadfnilaaGreatDoor
open Go.RowKit
set_option linter.unusedVariables false
set_option linter.unusedSimpArgs false
set_option maxRecDepth 100000 in
set_option maxHeartbeats 2000000 in
theorem const_num (n : Int) (t : ByteArray) (b : Bool) (er : Int) (a1 a2 : Option Addr) (l1 c1 l2 c2 : Nat) (w : World) : Calls Tryz.prog 64 #[.agg #[.int .i64 1, .int .i64 n, .string t, .bool b, .int .i64 er, .slice a1 l1 c1, .slice a2 l2 c2]] w fun e w' => e = .returned (vx 1 n ⟨#[]⟩ false 0) ∧ Q w w' := by
  unfold vx
  go_enter Tryz.func64, Tryz.ntmps64
  go_wp2
  refine bodyPost_ret (v := .agg #[.int .i64 1, .int .i64 n, .string ⟨#[]⟩, .bool false, .int .i64 0]) (by simp [results, Tryz.results64, go_sem]) rfl ?_
  exact ⟨rfl, by repeat (first | with_reducible exact Q.refl _ | with_reducible refine Q.alloc ?_ _ | with_reducible refine Q.setCell ?_ (by simp) _)⟩
end Go.Proofs.YtgheopdadfnilaaGreatDoor
namespace Go.Proofs.YtgheopdadfnilaaGreatDoor
open Go.RowKit
set_option linter.unusedVariables false
set_option linter.unusedSimpArgs false
theorem flat_id (L : List Value) : flat (fun x : Value => [x]) L = L := by unfold flat; simp
theorem BuilderAt_on {T e : TypeId} {B b : Nat} {p : Value} {bs : List Value} {w w' : World} (h : Lib.BuilderAt T e B b p bs w) (q : Q w w') : Lib.BuilderAt T e B b p bs w' := by
  have hl := h.lt
  obtain ⟨hB, v, hb, ho, hne⟩ := h
  refine ⟨hB, v, (Q.block q hl).trans hb, ?_, hne⟩
  have h1 : Own (fun x : Value => [x]) e 1 B w v bs := by unfold Own; rw [flat_id]; exact ho
  have h2 := h1.on q
  unfold Own at h2
  rw [flat_id] at h2
  exact h2
theorem isb_on {T e : TypeId} {B b : Nat} {bs : List Value} {w w' : World} (h : Lib.IsBuilder T e B b bs w) (q : Q w w') : Lib.IsBuilder T e B b bs w' := by
  rcases h with h | h
  · exact .inl (BuilderAt_on h q)
  · exact .inr (BuilderAt_on h q)
/-- a builder that holds these bytes -/
def Bd (W0 W : World) (b : Nat) (bs : List UInt8) : Prop := Lib.IsBuilder 54 5 W0.heap.size b (Lib.byteCells bs) W ∧ Q W0 W
theorem Bd.on {W0 W W' : World} {b : Nat} {bs : List UInt8} (h : Bd W0 W b bs) (q : Q W W') : Bd W0 W' b bs := ⟨isb_on h.1 q, h.2.trans q⟩
/-- a text into it -/
theorem bd_write {W0 W : World} {b : Nat} {bs : List UInt8} (h : Bd W0 W b bs) (s : ByteArray) (hs : 0 < s.size) (hl : bs.length + s.size ≤ 1000000) : Calls Tryz.prog 58 #[.pointer (some ⟨b, 0, none⟩), .string s] W fun e W' => (∃ u, e = .returned u) ∧ Bd W0 W' b (bs ++ s.data.toList) ∧ Kp W W' := by
  refine (writeString_any W0.heap.size b _ s W h.1 hs (by rw [Lib.byteCells_length]; exact hl) h.2.size).mono ?_
  rintro e w' ⟨hu, h1, h2, h3⟩
  refine ⟨hu, ⟨.inr ?_, Below.trans h.2 h2⟩, h3⟩
  rw [Lib.byteCells_append]
  exact h1
theorem cb_heap {W : World} {q : Nat} {cs : List Value} (h : W.heap[q]? = some (.cells cs.toArray 26 (0, 0))) : Cb W q cs :=
  ⟨fun j u hu => by rw [Lib.cell_of_heap h]; simpa using hu, fun j => Lib.frozen_of_heap h j, heap_lt h⟩
/-- a tree is printed so -/
def Wri (x : Ex) (T : List UInt8) : Prop := ∀ (W0 W : World) (b : Nat) (bs : List UInt8) (v : Value), Gd W0 → Bd W0 W b bs → Rd W0 x v → bs.length + T.length ≤ 100000 → Calls Tryz.prog 28 #[.pointer (some ⟨b, 0, none⟩), v] W fun e W' => (∃ u, e = .returned u) ∧ Bd W0 W' b (bs ++ T) ∧ Kp W W'
end Go.Proofs.YtgheopdadfnilaaGreatDoor
namespace Go.Proofs.YtgheopdadfnilaaGreatDoor
open Go.RowKit
set_option linter.unusedVariables false
set_option linter.unusedSimpArgs false
/-- how strongly a node holds its parts together -/
def sgE (k : Int) (t : List UInt8) : Nat := if k ≠ 8 then 5 else if t = [42] ∨ t = [47] then 4 else if t = [43] ∨ t = [45] then 3 else if t = [38] then 2 else 1
theorem tl_eq {T : ByteArray} {l : List UInt8} (h : T.data.toList = l) : (T.toList == l) = true := by rw [Lib.toList_data, h]; simp
theorem tl_ne {T : ByteArray} {l : List UInt8} (h : T.data.toList ≠ l) : (T.toList == l) = false := by rw [Lib.toList_data, beq_eq_false_iff_ne]; exact h
set_option maxHeartbeats 2000000 in
theorem strength8 (k n : Int) (t : ByteArray) (b : Bool) (e : Int) (a1 a2 : Option Addr) (l1 c1 l2 c2 : Nat) (w : World) : Calls Tryz.prog 62 #[.agg #[.int .i64 k, .int .i64 n, .string t, .bool b, .int .i64 e, .slice a1 l1 c1, .slice a2 l2 c2]] w fun x w' => x = .returned (.int .i64 (sgE k t.data.toList : Int)) ∧ Q w w' := by
  unfold sgE
  by_cases hk : k ≠ 8
  · rw [if_pos hk]
    have f0 : (k == 8) = false := by simpa using hk
    clear hk
    go_enter Tryz.func62, Tryz.ntmps62
    go_wp2
    go_ret
    exact ⟨rfl, (Q.refl _).alloc _⟩
  · rw [if_neg hk]
    have hk' : k = 8 := by simpa using hk
    subst hk'
    clear hk
    by_cases h1 : t.data.toList = [42]
    · have f1 := tl_eq h1
      rw [if_pos (.inl h1)]
      clear h1
      go_enter Tryz.func62, Tryz.ntmps62
      go_wp2
      go_ret
      exact ⟨rfl, (Q.refl _).alloc _⟩
    · have f1 := tl_ne h1
      by_cases h2 : t.data.toList = [47]
      · have f2 := tl_eq h2
        rw [if_pos (.inr h2)]
        clear h1 h2
        go_enter Tryz.func62, Tryz.ntmps62
        go_wp2
        go_ret
        exact ⟨rfl, (Q.refl _).alloc _⟩
      · have f2 := tl_ne h2
        rw [if_neg (fun e => e.elim h1 h2)]
        by_cases h3 : t.data.toList = [43]
        · have f3 := tl_eq h3
          rw [if_pos (.inl h3)]
          clear h1 h2 h3
          go_enter Tryz.func62, Tryz.ntmps62
          go_wp2
          go_ret
          exact ⟨rfl, (Q.refl _).alloc _⟩
        · have f3 := tl_ne h3
          by_cases h4 : t.data.toList = [45]
          · have f4 := tl_eq h4
            rw [if_pos (.inr h4)]
            clear h1 h2 h3 h4
            go_enter Tryz.func62, Tryz.ntmps62
            go_wp2
            go_ret
            exact ⟨rfl, (Q.refl _).alloc _⟩
          · have f4 := tl_ne h4
            rw [if_neg (fun e => e.elim h3 h4)]
            by_cases h5 : t.data.toList = [38]
            · have f5 := tl_eq h5
              rw [if_pos h5]
              clear h1 h2 h3 h4 h5
              go_enter Tryz.func62, Tryz.ntmps62
              go_wp2
              go_ret
              exact ⟨rfl, (Q.refl _).alloc _⟩
            · have f5 := tl_ne h5
              rw [if_neg h5]
              clear h1 h2 h3 h4 h5
              go_enter Tryz.func62, Tryz.ntmps62
              go_wp2
              go_ret
              exact ⟨rfl, (Q.refl _).alloc _⟩
set_option maxRecDepth 100000 in
set_option maxHeartbeats 4000000 in
theorem pr_ref (r : Rf) (hs : r.1.length ≤ 1000) (hT : 0 < (prR r.1 r.2.1 r.2.2.1 r.2.2.2.1 r.2.2.2.2).length) : Wri (refE r) (prR r.1 r.2.1 r.2.2.1 r.2.2.2.1 r.2.2.2.2) := by
  intro W0 W b bs v hg hb hr hl
  obtain ⟨k, m, t, bb, er, rs, ks, rv', kv, ao, cap, rfl, hp⟩ := hr.prt
  have hx := hp.ex
  unfold refE at hx
  simp only [Ex.mk.injEq] at hx
  obtain ⟨rfl, rfl, ht, rfl, rfl, rfl, rfl⟩ := hx
  have hkl := hp.kl
  subst hkl
  obtain ⟨rb, ro, rc, hrv, _, hrc, hra⟩ := hp.rl.at (i := 0) (by simp)
  subst hrv
  obtain ⟨sh, row, col, ra, ca⟩ := r
  simp only at hs hT hl ⊢
  have r0 : W0.cell? ⟨rb, ro, none⟩ = some (.string ⟨sh.toArray⟩) := by have := hra 0 _ rfl; simpa using this
  have r1 : W0.cell? ⟨rb, ro + 1, none⟩ = some (.int .i64 row) := by have := hra 1 _ rfl; simpa using this
  have r2 : W0.cell? ⟨rb, ro + 2, none⟩ = some (.int .i64 col) := by have := hra 2 _ rfl; simpa using this
  have r3 : W0.cell? ⟨rb, ro + 3, none⟩ = some (.bool ra) := by have := hra 3 _ rfl; simpa using this
  have r4 : W0.cell? ⟨rb, ro + 4, none⟩ = some (.bool ca) := by have := hra 4 _ rfl; simpa using this
  have hlt : rb < W0.heap.size := World.block_lt_of_cell? W0 _ r0
  have HG := hid hg
  have HB := hid hb
  have HPr := hid (fun W' (g : Gd W') => print_any ⟨sh.toArray⟩ row col ra ca W' g.1 g.2 (by rw [size_mk]; exact hs))
  obtain ⟨T, hTT⟩ : ∃ T : ByteArray, (⟨(prR sh row col ra ca).toArray⟩ : ByteArray) = T := ⟨_, rfl⟩
  have hTl : T.data.toList = prR sh row col ra ca := by rw [← hTT]
  have hT0 : 0 < T.size := by rw [← len_data, hTl]; exact hT
  have hl' : bs.length + T.size ≤ 1000000 := by rw [← len_data, hTl]; omega
  rw [show (⟨sh.toArray⟩ : ByteArray).data.toList = sh from rfl, hTT] at HPr
  rw [← hTl]
  clear hr hg hb hl hp hra hs hT hTl hTT
  go_enter Tryz.func28, Tryz.ntmps28
  go_upto_region 1 with fail
  have Z1 := hid (cb_new W [.int .i64 5, .int .i64 0, .string t, .bool false, .int .i64 0, .slice (some ⟨rb, ro, none⟩) 1 rc, .slice ao 0 cap] 26)
  have B1 := hid (HB.out.on ((Q.refl W).alloc (.cells #[.int .i64 5, .int .i64 0, .string t, .bool false, .int .i64 0, .slice (some ⟨rb, ro, none⟩) 1 rc, .slice ao 0 cap] 26)))
  rw [show ([.int .i64 5, .int .i64 0, .string t, .bool false, .int .i64 0, .slice (some ⟨rb, ro, none⟩) 1 rc, .slice ao 0 cap] : List Value).toArray = #[.int .i64 5, .int .i64 0, .string t, .bool false, .int .i64 0, .slice (some ⟨rb, ro, none⟩) 1 rc, .slice ao 0 cap] from rfl] at Z1
  have K1 := hid (Kp.of ((Q.refl W).alloc (.cells #[.int .i64 5, .int .i64 0, .string t, .bool false, .int .i64 0, .slice (some ⟨rb, ro, none⟩) 1 rc, .slice ao 0 cap] 26)))
  generalize W.alloc (.cells #[.int .i64 5, .int .i64 0, .string t, .bool false, .int .i64 0, .slice (some ⟨rb, ro, none⟩) 1 rc, .slice ao 0 cap] 26) = W1 at Z1 B1 K1 ⊢
  generalize W.heap.size = b1 at Z1 ⊢
  have d0 := Z1.out.c 0 _ rfl
  have d1 := Z1.out.c 1 _ rfl
  have d2 := Z1.out.c 2 _ rfl
  have d3 := Z1.out.c 3 _ rfl
  have d4 := Z1.out.c 4 _ rfl
  have d5 := Z1.out.c 5 _ rfl
  have d6 := Z1.out.c 6 _ rfl
  have x0 := (B1.out.2.cell hlt).trans r0
  have x1 := (B1.out.2.cell hlt).trans r1
  have x2 := (B1.out.2.cell hlt).trans r2
  have x3 := (B1.out.2.cell hlt).trans r3
  have x4 := (B1.out.2.cell hlt).trans r4
  generalize (⟨sh.toArray⟩ : ByteArray) = S at HPr x0
  unfold rv at HPr
  clear r0 r1 r2 r3 r4
  go_wp2_with (first | (go_at_call 60; refine (HPr.out _ (HG.out.on B1.out.2)).mono ?_; rintro e9 w3 ⟨rfl, q3⟩; have B3 := hid (B1.out.on q3); have K3 := hid (K1.out.trans (Kp.of q3)); clear q3) | (go_at_call 58; refine (bd_write B3.out T hT0 hl').mono ?_; rintro e9 w4 ⟨⟨u, rfl⟩, b4, k4⟩; have B4 := hid b4; have K4 := hid (K3.out.trans k4); clear b4 k4))
  go_end0
  exact ⟨⟨_, rfl⟩, B4.out, K4.out⟩
end Go.Proofs.YtgheopdadfnilaaGreatDoor
namespace Go.Proofs.YtgheopdadfnilaaGreatDoor
open Go.RowKit
set_option linter.unusedVariables false
set_option linter.unusedSimpArgs false
/-- in brackets, or not -/
def brk (br : Bool) (T : List UInt8) : List UInt8 := if br then 40 :: (T ++ [41]) else T
set_option maxRecDepth 100000 in
set_option maxHeartbeats 4000000 in
theorem side_any (x : Ex) (T : List UInt8) (hx : Wri x T) (W0 W : World) (b : Nat) (bs : List UInt8) (v : Value) (br : Bool) (hg : Gd W0) (hb : Bd W0 W b bs) (hr : Rd W0 x v) (hl : bs.length + (brk br T).length ≤ 100000) : Calls Tryz.prog 61 #[.pointer (some ⟨b, 0, none⟩), v, .bool br] W fun e W' => (∃ u, e = .returned u) ∧ Bd W0 W' b (bs ++ brk br T) ∧ Kp W W' := by
  have HX := hid (fun W' bs' (h : Bd W0 W' b bs') (hl' : bs'.length + T.length ≤ 100000) => hx W0 W' b bs' v hg h hr hl')
  obtain ⟨k, m, t, bb, er, a1, l1, c1, a2, l2, c2, rfl⟩ := hr.shape
  have HB := hid hb
  clear hr hg hb
  cases br with
  | false =>
    rw [show brk false T = T from rfl] at hl ⊢
    go_enter Tryz.func61, Tryz.ntmps61
    go_upto_region 1 with fail
    have H1 := hid (heap_alloc_new W (.cells #[.int .i64 k, .int .i64 m, .string t, .bool bb, .int .i64 er, .slice a1 l1 c1, .slice a2 l2 c2] 26))
    have B1 := hid (HB.out.on ((Q.refl W).alloc (.cells #[.int .i64 k, .int .i64 m, .string t, .bool bb, .int .i64 er, .slice a1 l1 c1, .slice a2 l2 c2] 26)))
    have K1 := hid (Kp.of ((Q.refl W).alloc (.cells #[.int .i64 k, .int .i64 m, .string t, .bool bb, .int .i64 er, .slice a1 l1 c1, .slice a2 l2 c2] 26)))
    generalize W.alloc (.cells #[.int .i64 k, .int .i64 m, .string t, .bool bb, .int .i64 er, .slice a1 l1 c1, .slice a2 l2 c2] 26) = W1 at H1 B1 K1 ⊢
    generalize W.heap.size = b1 at H1 ⊢
    have Z1 := hid (cb_heap (cs := [.int .i64 k, .int .i64 m, .string t, .bool bb, .int .i64 er, .slice a1 l1 c1, .slice a2 l2 c2]) H1.out)
    have d0 := Z1.out.c 0 _ rfl
    have d1 := Z1.out.c 1 _ rfl
    have d2 := Z1.out.c 2 _ rfl
    have d3 := Z1.out.c 3 _ rfl
    have d4 := Z1.out.c 4 _ rfl
    have d5 := Z1.out.c 5 _ rfl
    have d6 := Z1.out.c 6 _ rfl
    go_wp2_with (go_at_call 28; refine (HX.out _ _ B1.out (by omega)).mono ?_; rintro e9 w4 ⟨⟨u, rfl⟩, b4, k4⟩; have B4 := hid b4; have K4 := hid (K1.out.trans k4); clear b4 k4)
    refine bodyPost_ret (v := .tuple #[]) (by simp [results, Tryz.results61, go_sem]) rfl ?_
    exact ⟨⟨_, rfl⟩, B4.out, K4.out⟩
  | true =>
    have hl2 : bs.length + T.length + 2 ≤ 100000 := by
      unfold brk at hl
      simp at hl
      omega
    have HBE : Hid (((bs ++ [40]) ++ T) ++ [41] = bs ++ brk true T) := by show _ = _; unfold brk; simp
    rw [← HBE.out]
    clear HBE
    go_enter Tryz.func61, Tryz.ntmps61
    go_upto_region 1 with fail
    have H1 := hid (heap_alloc_new W (.cells #[.int .i64 k, .int .i64 m, .string t, .bool bb, .int .i64 er, .slice a1 l1 c1, .slice a2 l2 c2] 26))
    have B1 := hid (HB.out.on ((Q.refl W).alloc (.cells #[.int .i64 k, .int .i64 m, .string t, .bool bb, .int .i64 er, .slice a1 l1 c1, .slice a2 l2 c2] 26)))
    have K1 := hid (Kp.of ((Q.refl W).alloc (.cells #[.int .i64 k, .int .i64 m, .string t, .bool bb, .int .i64 er, .slice a1 l1 c1, .slice a2 l2 c2] 26)))
    generalize W.alloc (.cells #[.int .i64 k, .int .i64 m, .string t, .bool bb, .int .i64 er, .slice a1 l1 c1, .slice a2 l2 c2] 26) = W1 at H1 B1 K1 ⊢
    generalize W.heap.size = b1 at H1 ⊢
    have Z1 := hid (cb_heap (cs := [.int .i64 k, .int .i64 m, .string t, .bool bb, .int .i64 er, .slice a1 l1 c1, .slice a2 l2 c2]) H1.out)
    have d0 := Z1.out.c 0 _ rfl
    have d1 := Z1.out.c 1 _ rfl
    have d2 := Z1.out.c 2 _ rfl
    have d3 := Z1.out.c 3 _ rfl
    have d4 := Z1.out.c 4 _ rfl
    have d5 := Z1.out.c 5 _ rfl
    have d6 := Z1.out.c 6 _ rfl
    go_wp2_with (first | (go_at_call 28; refine (HX.out _ _ B2.out (by rw [List.length_append]; simp only [List.length_cons, List.length_nil]; omega)).mono ?_; rintro e9 w3 ⟨⟨u, rfl⟩, b3, k3⟩; have B3 := hid b3; have K3 := hid (K2.out.trans k3); clear b3 k3) | (go_at_call 58; refine (bd_write B3.out ⟨#[41]⟩ (by decide) (by show _ + 1 ≤ 1000000; simp only [List.length_append, List.length_cons, List.length_nil]; omega)).mono ?_; rintro e9 w4 ⟨⟨u, rfl⟩, b4, k4⟩; have B4 := hid b4; have K4 := hid (K3.out.trans k4); clear b4 k4) | (go_at_call 58; refine (bd_write B1.out ⟨#[40]⟩ (by decide) (by show bs.length + 1 ≤ 1000000; omega)).mono ?_; rintro e9 w2 ⟨⟨u, rfl⟩, b2, k2⟩; have B2 := hid b2; have K2 := hid (K1.out.trans k2); have Z2 := hid (cb_heap (cs := [.int .i64 k, .int .i64 m, .string t, .bool bb, .int .i64 er, .slice a1 l1 c1, .slice a2 l2 c2]) ((k2 _ _ _ H1.out).trans H1.out)); clear b2 k2; have x0 := Z2.out.c 0 _ rfl; have x1 := Z2.out.c 1 _ rfl; have x2 := Z2.out.c 2 _ rfl; have x3 := Z2.out.c 3 _ rfl; have x4 := Z2.out.c 4 _ rfl; have x5 := Z2.out.c 5 _ rfl; have x6 := Z2.out.c 6 _ rfl))
    go_end0
    exact ⟨⟨_, rfl⟩, B4.out, K4.out⟩
end Go.Proofs.YtgheopdadfnilaaGreatDoor
namespace Go.Proofs.YtgheopdadfnilaaGreatDoor
open Go.RowKit
set_option linter.unusedVariables false
set_option linter.unusedSimpArgs false
def zRf : Rf := ([], 0, 0, false, false)
/-- the text of a node, of the texts of its kids -/
def nodeT (k n : Int) (t : List UInt8) (b : Bool) (e : Int) (rs : List Rf) (ks : List Ex) (ts : List (List UInt8)) : List UInt8 :=
  if k = 1 then V.printL n
  else if k = 2 then 34 :: (dbl t ++ [34])
  else if k = 3 then (if b then truW else flsW)
  else if k = 4 then enL e
  else if k = 5 then prf (rs.getD 0 zRf)
  else if k = 6 then prf (rs.getD 0 zRf) ++ 58 :: prf (rs.getD 1 zRf)
  else if k = 7 then 45 :: brk (decide ((ks.getD 0 zeroE).k = 8)) (ts.getD 0 [])
  else if k = 8 then brk (decide (sgE (ks.getD 0 zeroE).k (ks.getD 0 zeroE).t < sgE 8 t)) (ts.getD 0 []) ++ t ++ brk (decide (sgE (ks.getD 1 zeroE).k (ks.getD 1 zeroE).t ≤ sgE 8 t)) (ts.getD 1 [])
  else t ++ 40 :: (joinT ts ++ [41])
/-- the text of a tree -/
def fmE : Ex → List UInt8
  | .mk k n t b e rs ks => nodeT k n t b e rs ks (fmL ks)
  where
  fmL : List Ex → List (List UInt8)
  | [] => []
  | x :: xs => fmE x :: fmL xs
theorem fmL_map (ks : List Ex) : fmE.fmL ks = ks.map fmE := by
  induction ks with
  | nil => simp [fmE.fmL]
  | cons x xs ih => rw [fmE.fmL, ih, List.map_cons]
theorem fm_num (n : Int) : fmE (numE n) = V.printL n := by simp [numE, fmE, nodeT]
theorem fm_text (t : List UInt8) : fmE (textE t) = 34 :: (dbl t ++ [34]) := by simp [textE, fmE, nodeT]
theorem fm_bool (b : Bool) : fmE (boolE b) = if b then truW else flsW := by simp [boolE, fmE, nodeT]
theorem fm_err (e : Nat) : fmE (errE e) = enL e := by simp [errE, fmE, nodeT]
theorem fm_ref (r : Rf) : fmE (refE r) = prf r := by simp [refE, fmE, nodeT]
theorem fm_range (r q : Rf) : fmE (rangeE r q) = prf r ++ 58 :: prf q := by simp [rangeE, fmE, nodeT]
theorem fm_neg (x : Ex) : fmE (negE x) = 45 :: brk (decide (x.k = 8)) (fmE x) := by simp [negE, fmE, nodeT, fmL_map]
theorem fm_bin (o : List UInt8) (x y : Ex) : fmE (binE o x y) = brk (decide (sgE x.k x.t < sgE 8 o)) (fmE x) ++ o ++ brk (decide (sgE y.k y.t ≤ sgE 8 o)) (fmE y) := by simp [binE, fmE, nodeT, fmL_map]
theorem fm_call (t : List UInt8) (ks : List Ex) : fmE (callE t ks) = t ++ 40 :: (joinT (ks.map fmE) ++ [41]) := by simp [callE, fmE, nodeT, fmL_map]
/-- numbers that a machine holds -/
def Rn : Ex → Prop
  | .mk _ n _ _ _ _ ks => n ≤ 9223372036854775807 ∧ RnL ks
  where
  RnL : List Ex → Prop
  | [] => True
  | x :: xs => Rn x ∧ RnL xs
theorem rn_kid : ∀ {ks : List Ex}, Rn.RnL ks → ∀ y ∈ ks, Rn y
  | [], _, y, hy => absurd hy (by simp)
  | x :: xs, h, y, hy => by
    rw [Rn.RnL] at h
    simp at hy
    rcases hy with rfl | hy
    · exact h.1
    · exact rn_kid h.2 y hy
theorem rnL_of : ∀ {ks : List Ex}, (∀ y ∈ ks, Rn y) → Rn.RnL ks
  | [], _ => by rw [Rn.RnL]; trivial
  | x :: xs, h => by rw [Rn.RnL]; exact ⟨h x (by simp), rnL_of fun y hy => h y (List.mem_cons_of_mem _ hy)⟩
/-- what a tree that may be is -/
theorem may_cases (x : Ex) (h : mayN x = true) : (∃ n, x = numE n ∧ 0 ≤ n) ∨ (∃ t, x = textE t ∧ V.mtB t = true) ∨ (∃ b, x = boolE b) ∨ (∃ e : Nat, x = errE e ∧ enL e ≠ [] ∧ errN (enL e) = e) ∨ (∃ r : Rf, x = refE r ∧ mayR r.1 r.2.1 r.2.2.1 = true) ∨
    (∃ r q : Rf, x = rangeE r q ∧ mayR r.1 r.2.1 r.2.2.1 = true ∧ mayR q.1 q.2.1 q.2.2.1 = true ∧ q.1 = []) ∨ (∃ y, x = negE y) ∨ (∃ o y z, x = binE o y z ∧ 1 ≤ lvl o) ∨ (∃ t ks, x = callE t ks ∧ namF t = true ∧ ks.length ≤ 30) := by
  obtain ⟨k, n, t, b, e, rs, ks⟩ := x
  rw [mayN] at h
  by_cases h1 : k = 1
  · subst h1
    rw [if_pos rfl] at h
    simp only [Bool.and_eq_true, bareB, decide_eq_true_eq] at h
    obtain ⟨h0, -, rfl, rfl, rfl, hr, hk⟩ := h
    rw [List.eq_nil_of_length_eq_zero hr, List.eq_nil_of_length_eq_zero hk]
    exact .inl ⟨n, rfl, h0⟩
  rw [if_neg h1] at h
  by_cases h2 : k = 2
  · subst h2
    rw [if_pos rfl] at h
    simp only [Bool.and_eq_true, bareB, decide_eq_true_eq] at h
    obtain ⟨h0, rfl, -, rfl, rfl, hr, hk⟩ := h
    rw [List.eq_nil_of_length_eq_zero hr, List.eq_nil_of_length_eq_zero hk]
    refine .inr (.inl ⟨t, rfl, ?_⟩)
    simpa [V.mayB] using h0
  rw [if_neg h2] at h
  by_cases h3 : k = 3
  · subst h3
    rw [if_pos rfl] at h
    simp only [Bool.and_eq_true, bareB, decide_eq_true_eq] at h
    obtain ⟨-, rfl, rfl, -, rfl, hr, hk⟩ := h
    rw [List.eq_nil_of_length_eq_zero hr, List.eq_nil_of_length_eq_zero hk]
    exact .inr (.inr (.inl ⟨b, rfl⟩))
  rw [if_neg h3] at h
  by_cases h4 : k = 4
  · subst h4
    rw [if_pos rfl] at h
    simp only [Bool.and_eq_true, bareB, decide_eq_true_eq] at h
    obtain ⟨h0, rfl, rfl, rfl, -, hr, hk⟩ := h
    rw [List.eq_nil_of_length_eq_zero hr, List.eq_nil_of_length_eq_zero hk]
    have hs := (sc_err h0).2
    refine .inr (.inr (.inr (.inl ⟨errN (enL e), ?_, ?_, ?_⟩)))
    · unfold errE
      rw [hs]
    · rw [hs]; exact h0
    · rw [hs]
  rw [if_neg h4] at h
  by_cases h5 : k = 5
  · subst h5
    rw [if_pos rfl] at h
    simp only [Bool.and_eq_true, bareB, decide_eq_true_eq] at h
    obtain ⟨h0, rfl, rfl, rfl, rfl, -, hk⟩ := h
    rw [List.eq_nil_of_length_eq_zero hk]
    match rs, h0 with
    | [r], h0 => exact .inr (.inr (.inr (.inr (.inl ⟨r, rfl, h0⟩))))
    | [], h0 => cases h0
    | _ :: _ :: _, h0 => cases h0
  rw [if_neg h5] at h
  by_cases h6 : k = 6
  · subst h6
    rw [if_pos rfl] at h
    simp only [Bool.and_eq_true, bareB, decide_eq_true_eq] at h
    obtain ⟨h0, rfl, rfl, rfl, rfl, -, hk⟩ := h
    rw [List.eq_nil_of_length_eq_zero hk]
    match rs, h0 with
    | [r, q], h0 =>
      unfold rngB at h0
      simp only [Bool.and_eq_true, decide_eq_true_eq] at h0
      exact .inr (.inr (.inr (.inr (.inr (.inl ⟨r, q, rfl, h0.1, h0.2.1, h0.2.2⟩)))))
    | [], h0 => cases h0
    | [_], h0 => cases h0
    | _ :: _ :: _ :: _, h0 => cases h0
  rw [if_neg h6] at h
  by_cases h7 : k = 7
  · subst h7
    rw [if_pos rfl] at h
    simp only [Bool.and_eq_true, bareB, decide_eq_true_eq] at h
    obtain ⟨h0, rfl, rfl, rfl, rfl, hr, -⟩ := h
    rw [List.eq_nil_of_length_eq_zero hr]
    match ks, h0 with
    | [y], h0 => exact .inr (.inr (.inr (.inr (.inr (.inr (.inl ⟨y, rfl⟩))))))
    | [], h0 => simp at h0
    | _ :: _ :: _, h0 => simp at h0
  rw [if_neg h7] at h
  by_cases h8 : k = 8
  · subst h8
    rw [if_pos rfl] at h
    simp only [Bool.and_eq_true, bareB, decide_eq_true_eq] at h
    obtain ⟨⟨ho, h0⟩, rfl, -, rfl, rfl, hr, -⟩ := h
    rw [List.eq_nil_of_length_eq_zero hr]
    match ks, h0 with
    | [y, z], h0 => exact .inr (.inr (.inr (.inr (.inr (.inr (.inr (.inl ⟨t, y, z, rfl, ho⟩)))))))
    | [], h0 => simp at h0
    | [_], h0 => simp at h0
    | _ :: _ :: _ :: _, h0 => simp at h0
  rw [if_neg h8] at h
  by_cases h9 : k = 9
  · subst h9
    rw [if_pos rfl] at h
    simp only [Bool.and_eq_true, bareB, decide_eq_true_eq] at h
    obtain ⟨⟨ho, h0⟩, rfl, -, rfl, rfl, hr, -⟩ := h
    rw [List.eq_nil_of_length_eq_zero hr]
    exact .inr (.inr (.inr (.inr (.inr (.inr (.inr (.inr ⟨t, ks, rfl, ho, h0⟩)))))))
  rw [if_neg h9] at h
  cases h
theorem sg_bin {o : List UInt8} (h : 1 ≤ lvl o) : sgE 8 o = lvl o := by
  rcases lvl_cases h with rfl | rfl | rfl | rfl | rfl | rfl | rfl | rfl | rfl | rfl | rfl <;> decide
theorem sg_not {x : Ex} (h : x.k ≠ 8) : sgE x.k x.t = 5 := by unfold sgE; rw [if_pos h]
/-- what is told of a tree's text: its words, and what is read of them -/
def Told (x : Ex) : Prop := ∃ ws, Sc (fmE x) ws ∧ (x.k = 8 → 1 ≤ lvl x.t ∧ RdTo EE x ws (lvl x.t)) ∧ (x.k ≠ 8 → Reads EE x ws)
theorem Told.leaf {x : Ex} {ws : Ws} (h : x.k ≠ 8) (hs : Sc (fmE x) ws) (hr : Reads EE x ws) : Told x := ⟨ws, hs, fun e => absurd e h, fun _ => hr⟩
/-- any tree -/
theorem Told.any {x : Ex} (h : Told x) : ∃ ws n, 1 ≤ n ∧ Sc (fmE x) ws ∧ RdTo EE x ws n := by
  obtain ⟨ws, h1, h2, h3⟩ := h
  by_cases e : x.k = 8
  · exact ⟨ws, _, (h2 e).1, h1, (h2 e).2⟩
  · exact ⟨ws, 5, by omega, h1, (h3 e).to⟩
/-- a side that must bind at least so -/
theorem Told.side {x : Ex} (h : Told x) {n : Nat} (hn : n ≤ 5) : ∃ ws m, n ≤ m ∧ Sc (brk (decide (sgE x.k x.t < n)) (fmE x)) ws ∧ RdTo EE x ws m := by
  obtain ⟨ws, h1, h2, h3⟩ := h
  by_cases e : x.k = 8
  · obtain ⟨g1, g2⟩ := h2 e
    have es : sgE x.k x.t = lvl x.t := by rw [e]; exact sg_bin g1
    rw [es]
    by_cases hb : lvl x.t < n
    · rw [decide_eq_true hb]
      exact ⟨_, 5, hn, sc_brk h1, (reads_brk g2 g1).to⟩
    · rw [decide_eq_false hb]
      exact ⟨ws, _, by omega, h1, g2⟩
  · rw [sg_not e, decide_eq_false (by omega)]
    exact ⟨ws, 5, hn, h1, (h3 e).to⟩
theorem Told.neg {x : Ex} (h : Told x) : ∃ ws, Sc (brk (decide (x.k = 8)) (fmE x)) ws ∧ Reads EE x ws := by
  obtain ⟨ws, h1, h2, h3⟩ := h
  by_cases e : x.k = 8
  · obtain ⟨g1, g2⟩ := h2 e
    rw [decide_eq_true e]
    exact ⟨_, sc_brk h1, reads_brk g2 g1⟩
  · rw [decide_eq_false e]
    exact ⟨ws, h1, h3 e⟩
theorem told_args : ∀ (ks : List Ex), (∀ y ∈ ks, Told y) → ∃ ps : List (Ex × Ws), ps.map (·.1) = ks ∧ (∀ p ∈ ps, ∃ n, 1 ≤ n ∧ RdTo EE p.1 p.2 n) ∧ (∀ p ∈ ps, Sc (fmE p.1) p.2)
  | [], _ => ⟨[], rfl, by simp, by simp⟩
  | x :: ks, h => by
    obtain ⟨ps, e, h1, h2⟩ := told_args ks (fun y hy => h y (List.mem_cons_of_mem _ hy))
    obtain ⟨ws, n, hn, g1, g2⟩ := (h x (by simp)).any
    refine ⟨(x, ws) :: ps, by simp [e], ?_, ?_⟩
    · intro p hp
      rcases List.mem_cons.1 hp with rfl | hp
      · exact ⟨n, hn, g2⟩
      · exact h1 p hp
    · intro p hp
      rcases List.mem_cons.1 hp with rfl | hp
      · exact g1
      · exact h2 p hp
theorem told_call {t : List UInt8} {ks : List Ex} (hn : namF t = true) (hl : ks.length ≤ 30) (h : ∀ y ∈ ks, Told y) : Told (callE t ks) := by
  have hf := nam_facts hn
  cases ks with
  | nil =>
    refine Told.leaf (x := callE t []) (by simp [callE]) ?_ (reads_call0 hf.2.2 hn)
    rw [fm_call]
    exact sc_call0 hn
  | cons y ks =>
    obtain ⟨ps, e, h1, h2⟩ := told_args (y :: ks) h
    have h0 : ps ≠ [] := by rintro rfl; cases e
    have hsc := sc_args (ps.map fun p => (fmE p.1, p.2)) (by simpa using h0) (by
      intro q hq
      obtain ⟨p, hp, rfl⟩ := List.mem_map.1 hq
      exact h2 p hp)
    simp only [List.map_map] at hsc
    have e1 : (ps.map ((fun x : List UInt8 × Ws => x.1) ∘ fun p : Ex × Ws => (fmE p.1, p.2))) = (y :: ks).map fmE := by
      rw [← e, List.map_map]
      rfl
    have e2 : (ps.map ((fun x : List UInt8 × Ws => x.2) ∘ fun p : Ex × Ws => (fmE p.1, p.2))) = ps.map (·.2) := rfl
    rw [e1, e2] at hsc
    have hr := reads_call hf.2.2 hn ps h0 (by have := congrArg List.length e; simp at this hl; omega) hsc.hw h1
    rw [e] at hr
    refine Told.leaf (by simp [callE]) ?_ hr
    rw [fm_call]
    exact sc_call hn hsc
theorem mall_kids {k n : Int} {t : List UInt8} {b : Bool} {e : Int} {rs : List Rf} {ks : List Ex} (h : mall mayN (.mk k n t b e rs ks) = true) : mayN (.mk k n t b e rs ks) = true ∧ ∀ y ∈ ks, mall mayN y = true := by
  rw [mall, mallL_all] at h
  simp only [Bool.and_eq_true, List.all_eq_true] at h
  exact h
theorem nodes_lt {ks : List Ex} {y : Ex} (h : y ∈ ks) : nodes y ≤ nodes.nodesL ks := by
  induction ks with
  | nil => cases h
  | cons x xs ih =>
    rw [nodes.nodesL]
    rcases List.mem_cons.1 h with rfl | h
    · omega
    · have := ih h
      omega
theorem told_all : ∀ (m : Nat) (x : Ex), nodes x ≤ m → mall mayN x = true → Rn x → Told x := by
  intro m
  induction m with
  | zero =>
    intro x h
    obtain ⟨k, n, t, b, e, rs, ks⟩ := x
    rw [nodes] at h
    omega
  | succ m ih =>
    intro x hm hx hr
    obtain ⟨hn, hk⟩ : mayN x = true ∧ ∀ y ∈ x.ks, mall mayN y = true := by
      obtain ⟨k, n, t, b, e, rs, ks⟩ := x
      exact mall_kids hx
    have hkr : ∀ y ∈ x.ks, Rn y := by
      obtain ⟨k, n, t, b, e, rs, ks⟩ := x
      rw [Rn] at hr
      exact rn_kid hr.2
    have hkm : ∀ y ∈ x.ks, nodes y ≤ m := by
      obtain ⟨k, n, t, b, e, rs, ks⟩ := x
      rw [nodes] at hm
      intro y hy
      have := nodes_lt (show y ∈ ks from hy)
      omega
    have IH : ∀ y ∈ x.ks, Told y := fun y hy => ih y (hkm y hy) (hk y hy) (hkr y hy)
    rcases may_cases x hn with ⟨n, rfl, h0⟩ | ⟨t, rfl, h0⟩ | ⟨b, rfl⟩ | ⟨e, rfl, h0, h1⟩ | ⟨r, rfl, h0⟩ | ⟨r, q, rfl, h0, h1, h2⟩ | ⟨y, rfl⟩ | ⟨o, y, z, rfl, h0⟩ | ⟨t, ks, rfl, h0, h1⟩
    · have hn' : n ≤ 9223372036854775807 := by unfold numE at hr; rw [Rn] at hr; exact hr.1
      have hs := sc_num h0 hn'
      refine Told.leaf (by simp [numE]) (by rw [fm_num]; exact hs.1) ?_
      have := reads_num (E := EE) hs.2.1
      rw [hs.2.2] at this
      exact this
    · exact Told.leaf (by simp [textE]) (by rw [fm_text]; exact sc_text h0) (reads_text t)
    · refine Told.leaf (by simp [boolE]) (by rw [fm_bool]; exact sc_bool b) ?_
      have := reads_bool (E := EE) (t := if b then truW else flsW) (by cases b <;> simp)
      have e : decide ((if b then truW else flsW) = truW) = b := by cases b <;> decide
      rw [e] at this
      exact this
    · refine Told.leaf (by simp [errE]) (by rw [fm_err]; exact (sc_err h0).1) ?_
      have := reads_err (E := EE) (enL e)
      rw [show EE.err (enL e) = e from h1] at this
      exact this
    · have hs := sc_ref h0
      refine Told.leaf (by simp [refE]) (by rw [fm_ref]; exact hs.1) ?_
      have := reads_ref (E := EE) hs.2.1
      rw [hs.2.2.1] at this
      exact this
    · have hs := sc_ref h0
      have hs' := sc_ref h1
      refine Told.leaf (by simp [rangeE]) (by rw [fm_range]; exact sc_range h0 h1) ?_
      have := reads_range (E := EE) hs.2.1 hs'.2.1 (by rw [hs'.2.2.1]; exact h2)
      rw [hs.2.2.1, hs'.2.2.1] at this
      exact this
    · obtain ⟨ws, g1, g2⟩ := (IH y (by simp [negE])).neg
      exact Told.leaf (by simp [negE]) (by rw [fm_neg]; exact sc_neg g1) (reads_neg g2)
    · have hl := lvl_le o
      obtain ⟨wy, my, g1, g2, g3⟩ := (IH y (by simp [binE])).side (n := lvl o) (by omega)
      obtain ⟨wz, mz, k1, k2, k3⟩ := (IH z (by simp [binE])).side (n := lvl o + 1) (by omega)
      refine ⟨_, ?_, fun _ => ⟨h0, rdto_bin h0 g3 g1 k3 k1⟩, fun e => absurd rfl e⟩
      rw [fm_bin, sg_bin h0]
      have e : decide (sgE z.k z.t ≤ lvl o) = decide (sgE z.k z.t < lvl o + 1) := decide_eq_decide.2 (by omega)
      rw [e]
      exact sc_bin h0 g2 k2
    · exact told_call h0 h1 (fun y hy => IH y hy)
/-- all of the words of a printed tree, and what the program's reader reads of them -/
theorem fm_read {x : Ex} (hm : mall mayN x = true) (hr : Rn x) (hl : (fmE x).length ≤ 1000) : ∃ L f j, scanL (fmE x) = (some L, 0) ∧ ptF EE L f 1 0 = some (some (x, j)) ∧ kAt L j = 7 := by
  obtain ⟨ws, n, hn, h1, f, h2⟩ := (told_all (nodes x) x (Nat.le_refl _) hm hr).any
  have h3 := h1.sc [] [] nx_nil scan_nil
  rw [List.append_nil, List.append_nil] at h3
  obtain ⟨L, h4, h5⟩ := scan_l h3 hl
  have h6 : Wds L 0 (L.map fun w => (w.k, w.t)) := wds_map (L := L) L [] rfl
  rw [h5] at h6
  obtain ⟨h6, h7, -⟩ := h6.app
  have s : stg L (0 + ws.length) = 0 := by unfold stg; rw [if_neg (by rw [h7.2.1]; simp)]
  have q := h2 L 0 1 (Nat.le_refl _) hn h6 (by rw [isW_of h7]; simp) (by omega) 1 _ (rd_stop (E := EE) (x := x) (show stg L (0 + ws.length) < 1 by omega))
  exact ⟨L, f + 1, _, h4, q, h7.2.1⟩
end Go.Proofs.YtgheopdadfnilaaGreatDoor
namespace Go.Proofs.YtgheopdadfnilaaGreatDoor
set_option linter.unusedVariables false
set_option linter.unusedSimpArgs false
theorem ix_nil : Lib.index [] [34] = -1 := by decide
theorem ix_hit (r : List UInt8) : Lib.index (34 :: r) [34] = ((0 : Nat) : Int) := by rw [Lib.index]; simp
theorem ix_past {c : UInt8} (r : List UInt8) (h : c ≠ 34) : Lib.index (c :: r) [34] = if Lib.index r [34] = -1 then -1 else Lib.index r [34] + 1 := by
  rw [Lib.index]
  have e : List.isPrefixOf [34] (c :: r) = false := by
    show ((34 : UInt8) == c && List.isPrefixOf [] r) = false
    rw [beq_eq_false_iff_ne.2 (Ne.symm h)]
    rfl
  simp [e]
theorem rk_none {t : List UInt8} (h : Lib.index t [34] = -1) (k : Nat) : Lib.replaceK [34] [34, 34] k t = t := by
  cases k with
  | zero => rfl
  | succ k => rw [Lib.replaceK, h]; rfl
theorem rk_dbl : ∀ (t : List UInt8) (k : Nat), Lib.count t [34] ≤ k → Lib.replaceK [34] [34, 34] k t = dbl t
  | [], k, _ => by rw [rk_none ix_nil]; rfl
  | c :: r, k, hk => by
    rw [dbl]
    by_cases h : c = 34
    · subst h
      rw [if_pos rfl]
      have hc := Lib.count_hit (s := 34 :: r) (sub := [34]) (by simp) (ix_hit r)
      rw [show (34 :: r).drop (0 + [(34 : UInt8)].length) = r from rfl] at hc
      obtain ⟨k', rfl⟩ : ∃ k', k = k' + 1 := ⟨k - 1, by omega⟩
      rw [Lib.replaceK_hit [34] [34, 34] k' (34 :: r) 0 (ix_hit r)]
      have := rk_dbl r k' (by omega)
      simp only [List.take_zero, List.nil_append, List.length_cons, List.length_nil, Nat.zero_add, List.drop_succ_cons, List.drop_zero, this]
      rfl
    · rw [if_neg h]
      have hi := ix_past r h
      rcases Lib.index_spec r [34] with ⟨e, -⟩ | ⟨i, e, -, -, -⟩
      · rw [if_pos e] at hi
        rw [rk_none hi, ← rk_dbl r _ (Nat.le_refl _), rk_none e]
      · rw [if_neg (by omega), e] at hi
        have hi' : Lib.index (c :: r) [34] = ((i + 1 : Nat) : Int) := by omega
        have c1 := Lib.count_hit (s := c :: r) (sub := [34]) (by simp) hi'
        have c2 := Lib.count_hit (s := r) (sub := [34]) (by simp) e
        rw [show (c :: r).drop (i + 1 + [(34 : UInt8)].length) = r.drop (i + [(34 : UInt8)].length) from rfl] at c1
        obtain ⟨k', rfl⟩ : ∃ k', k = k' + 1 := ⟨k - 1, by omega⟩
        have ih := rk_dbl r (k' + 1) (by omega)
        rw [Lib.replaceK_hit [34] [34, 34] k' r i e] at ih
        rw [Lib.replaceK_hit [34] [34, 34] k' (c :: r) (i + 1) hi']
        rw [show (c :: r).drop (i + 1 + [(34 : UInt8)].length) = r.drop (i + [(34 : UInt8)].length) from rfl, List.take_succ_cons, ← ih]
        rfl
theorem replace_dbl (t : List UInt8) : Lib.replaceAll t [34] [34, 34] = dbl t := by
  unfold Lib.replaceAll Lib.replace Lib.replaceNum
  rw [if_neg (by decide), if_pos (.inl (by omega))]
  exact rk_dbl t _ (Nat.le_refl _)
theorem dbl_len (t : List UInt8) : (dbl t).length ≤ 2 * t.length := by
  induction t with
  | nil => simp [dbl]
  | cons c t ih =>
    rw [dbl]
    split
    · simp only [List.length_cons]; omega
    · simp only [List.length_cons]; omega
end Go.Proofs.YtgheopdadfnilaaGreatDoor
namespace Go.Proofs
open Go.Shelf
def Tryz.lays162_ren : Go.Shelf.Ren := ⟨fun | 162 => 169 | 232 => 188 | 227 => 189 | 234 => 190 | 236 => 191 | 228 => 199 | 271 => 200 | 151 => 201 | 120 => 204 | 197 => 132 | 152 => 205 | 260 => 155 | 137 => 206 | 119 => 207 | 224 => 173 | 225 => 172 | 217 => 171 | 266 => 192 | n => n, fun | 9 => 9 | 4 => 4 | 3 => 3 | 5 => 5 | 117 => 201 | 116 => 200 | 0 => 0 | 124 => 204 | 21 => 21 | 105 => 158 | 46 => 151 | 119 => 171 | 139 => 174 | 138 => 173 | n => n, fun | 3 => 1 | 4 => 2 | n => n⟩
theorem Tryz.lays162 : Go.Proofs.Lays.n162 Tryz.prog Tryz.lays162_ren := {
  mixed := by kernel_rfl
  f119 := Tryz.func207.trans (congrArg some (by kernel_rfl))
  f120 := Tryz.func204.trans (congrArg some (by kernel_rfl))
  f137 := Tryz.func206.trans (congrArg some (by kernel_rfl))
  f151 := Tryz.func201.trans (congrArg some (by kernel_rfl))
  f152 := Tryz.func205.trans (congrArg some (by kernel_rfl))
  f162 := Tryz.func169.trans (congrArg some (by kernel_rfl))
  f197 := Tryz.func132.trans (congrArg some (by kernel_rfl))
  f217 := Tryz.func171.trans (congrArg some (by kernel_rfl))
  f224 := Tryz.func173.trans (congrArg some (by kernel_rfl))
  f225 := Tryz.func172.trans (congrArg some (by kernel_rfl))
  f227 := Tryz.func189.trans (congrArg some (by kernel_rfl))
  f228 := Tryz.func199.trans (congrArg some (by kernel_rfl))
  f232 := Tryz.func188.trans (congrArg some (by kernel_rfl))
  f234 := Tryz.func190.trans (congrArg some (by kernel_rfl))
  f236 := Tryz.func191.trans (congrArg some (by kernel_rfl))
  f260 := Tryz.func155.trans (congrArg some (by kernel_rfl))
  f266 := Tryz.func192.trans (congrArg some (by kernel_rfl))
  f271 := Tryz.func200.trans (congrArg some (by kernel_rfl))
  t0 := Tryz.underlying0
  a0 := Tryz.isAgg0
  z0 := Tryz.sizeOf0
  v0 := Tryz.zeroValue0
  t3 := Tryz.underlying3
  a3 := Tryz.isAgg3
  z3 := Tryz.sizeOf3
  v3 := Tryz.zeroValue3
  t4 := Tryz.underlying4
  a4 := Tryz.isAgg4
  z4 := Tryz.sizeOf4
  v4 := Tryz.zeroValue4
  t5 := Tryz.underlying5
  a5 := Tryz.isAgg5
  z5 := Tryz.sizeOf5
  v5 := Tryz.zeroValue5
  t9 := Tryz.underlying9
  a9 := Tryz.isAgg9
  z9 := Tryz.sizeOf9
  v9 := Tryz.zeroValue9
  t21 := Tryz.underlying21
  a21 := Tryz.isAgg21
  z21 := Tryz.sizeOf21
  v21 := Tryz.zeroValue21
  t46 := Tryz.underlying151
  a46 := Tryz.isAgg151
  z46 := Tryz.sizeOf151
  v46 := Tryz.zeroValue151
  t105 := Tryz.underlying158
  a105 := Tryz.isAgg158
  z105 := Tryz.sizeOf158
  v105 := Tryz.zeroValue158
  t116 := Tryz.underlying200
  a116 := Tryz.isAgg200
  z116 := Tryz.sizeOf200
  t117 := Tryz.underlying201
  a117 := Tryz.isAgg201
  z117 := Tryz.sizeOf201
  v117 := Tryz.zeroValue201
  t119 := Tryz.underlying171
  a119 := Tryz.isAgg171
  z119 := Tryz.sizeOf171
  t124 := Tryz.underlying204
  a124 := Tryz.isAgg204
  z124 := Tryz.sizeOf204
  v124 := Tryz.zeroValue204
  t138 := Tryz.underlying173
  a138 := Tryz.isAgg173
  z138 := Tryz.sizeOf173
  v138 := Tryz.zeroValue173
  t139 := Tryz.underlying174
  a139 := Tryz.isAgg174
  z139 := Tryz.sizeOf174
  v139 := Tryz.zeroValue174
  g3 := by kernel_rfl
  g4 := by kernel_rfl }
open Go.RowKit in
/-- strings.TrimRight: "TrimRight returns a slice of the string s, with all trailing Unicode code points contained in cutset removed.": AT A cutset OF ONE ASCII BYTE. The world is as it was. (LAID: no walk: one application.) -/
theorem Tryz.strings_TrimRight_one (s : ByteArray) (c : UInt8) (hc : c.toNat < 128) (w : World) (hs : s.size ≤ 9223372036854775807) :
    Calls Tryz.prog 169 #[.string s, .string ⟨#[c]⟩] w fun e w' => e = .returned (.string ⟨(Lib.trimRightB s.data.toList c).toArray⟩) ∧ w' = w := Any.strings_TrimRight_one Tryz.lays162 s c hc w hs
def Tryz.lays285_ren : Go.Shelf.Ren := ⟨fun | 285 => 159 | n => n, fun | 37 => 52 | 53 => 98 | 3 => 3 | 4 => 4 | 51 => 189 | 9 => 9 | 5 => 5 | 0 => 0 | n => n, fun | n => n⟩
theorem Tryz.lays285 : Go.Proofs.Lays.n285 Tryz.prog Tryz.lays285_ren := {
  mixed := by kernel_rfl
  f285 := Tryz.func159.trans (congrArg some (by kernel_rfl))
  t0 := Tryz.underlying0
  a0 := Tryz.isAgg0
  z0 := Tryz.sizeOf0
  v0 := Tryz.zeroValue0
  t3 := Tryz.underlying3
  a3 := Tryz.isAgg3
  z3 := Tryz.sizeOf3
  v3 := Tryz.zeroValue3
  t4 := Tryz.underlying4
  a4 := Tryz.isAgg4
  z4 := Tryz.sizeOf4
  v4 := Tryz.zeroValue4
  t5 := Tryz.underlying5
  a5 := Tryz.isAgg5
  z5 := Tryz.sizeOf5
  v5 := Tryz.zeroValue5
  t9 := Tryz.underlying9
  a9 := Tryz.isAgg9
  z9 := Tryz.sizeOf9
  v9 := Tryz.zeroValue9
  t37 := Tryz.underlying52
  a37 := Tryz.isAgg52
  z37 := Tryz.sizeOf52
  v37 := Tryz.zeroValue52
  t51 := Tryz.underlying189
  a51 := Tryz.isAgg189
  z51 := Tryz.sizeOf189
  v51 := Tryz.zeroValue189
  t53 := Tryz.underlying98
  a53 := Tryz.isAgg98
  z53 := Tryz.sizeOf98
  v53 := Tryz.zeroValue98 }
open Go.RowKit Go.Sort Go.Lib in
/-- internal/strconv.formatBase10: "formatBase10 formats the decimal representation of u into a. The caller is responsible for ensuring that a is big enough to hold u. If a is too big, leading zeros will be filled in as needed.": THE ROW HOLDS u's DIGITS ('FmtInv .. 0 ..': every place t holds 'dg u (len - 1 - t)'); all else is as it was but for the count of draws. (LAID: no walk: one application.) -/
theorem Tryz.internal_strconv_formatBase10 (blk off cap : Nat) (u : Nat) (d : Array UInt8) (w : World) (hH : Holds (fun (b : UInt8) => Value.int .u8 (b.toNat : Int)) w blk off d) (hu : u < 10 ^ d.size) (hu64 : u < 18446744073709551616) (hsz : d.size < 4611686018427387904) :
    Calls Tryz.prog 159 #[.slice (some ⟨blk, off, none⟩) d.size cap, .int .u64 u] w fun e w' =>
      e = .returned (.tuple #[]) ∧ ∃ (n v' : Nat) (dk : Array UInt8), w' = (putRow (fun (b : UInt8) => Value.int .u8 (b.toNat : Int)) w blk off dk).drewN n ∧ FmtInv d.size u 0 v' dk := Any.internal_strconv_formatBase10 Tryz.lays285 blk off cap u d w hH hu hu64 hsz
def Tryz.lays155_ren : Go.Shelf.Ren := ⟨fun | 155 => 59 | 154 => 95 | 138 => 129 | 165 => 130 | 143 => 131 | 166 => 58 | 197 => 132 | 169 => 29 | 195 => 151 | 218 => 152 | 240 => 94 | 241 => 153 | 219 => 154 | 260 => 155 | 276 => 128 | 277 => 170 | 217 => 171 | 225 => 172 | 224 => 173 | 267 => 174 | 266 => 192 | 314 => 193 | n => n, fun | 9 => 9 | 3 => 3 | 4 => 4 | 72 => 54 | 0 => 0 | 76 => 90 | 105 => 158 | 21 => 21 | 5 => 5 | 70 => 51 | 20 => 20 | 37 => 52 | 75 => 89 | 127 => 95 | 164 => 154 | 46 => 151 | 119 => 171 | 139 => 174 | 138 => 173 | 146 => 205 | 51 => 189 | 80 => 56 | n => n, fun | 1 => 3 | 3 => 1 | 4 => 2 | n => n⟩
theorem Tryz.lays155 : Go.Proofs.Lays.n155 Tryz.prog Tryz.lays155_ren := {
  mixed := by kernel_rfl
  f138 := Tryz.func129.trans (congrArg some (by kernel_rfl))
  f143 := Tryz.func131.trans (congrArg some (by kernel_rfl))
  f154 := Tryz.func95.trans (congrArg some (by kernel_rfl))
  f155 := Tryz.func59.trans (congrArg some (by kernel_rfl))
  f165 := Tryz.func130.trans (congrArg some (by kernel_rfl))
  f166 := Tryz.func58.trans (congrArg some (by kernel_rfl))
  f169 := Tryz.func29.trans (congrArg some (by kernel_rfl))
  f195 := Tryz.func151.trans (congrArg some (by kernel_rfl))
  f197 := Tryz.func132.trans (congrArg some (by kernel_rfl))
  f217 := Tryz.func171.trans (congrArg some (by kernel_rfl))
  f218 := Tryz.func152.trans (congrArg some (by kernel_rfl))
  f219 := Tryz.func154.trans (congrArg some (by kernel_rfl))
  f224 := Tryz.func173.trans (congrArg some (by kernel_rfl))
  f225 := Tryz.func172.trans (congrArg some (by kernel_rfl))
  f240 := Tryz.func94.trans (congrArg some (by kernel_rfl))
  f241 := Tryz.func153.trans (congrArg some (by kernel_rfl))
  f260 := Tryz.func155.trans (congrArg some (by kernel_rfl))
  f266 := Tryz.func192.trans (congrArg some (by kernel_rfl))
  f267 := Tryz.func174.trans (congrArg some (by kernel_rfl))
  f276 := Tryz.func128.trans (congrArg some (by kernel_rfl))
  f277 := Tryz.func170.trans (congrArg some (by kernel_rfl))
  f314 := Tryz.func193.trans (congrArg some (by kernel_rfl))
  t0 := Tryz.underlying0
  a0 := Tryz.isAgg0
  z0 := Tryz.sizeOf0
  v0 := Tryz.zeroValue0
  t3 := Tryz.underlying3
  a3 := Tryz.isAgg3
  z3 := Tryz.sizeOf3
  v3 := Tryz.zeroValue3
  t4 := Tryz.underlying4
  a4 := Tryz.isAgg4
  z4 := Tryz.sizeOf4
  v4 := Tryz.zeroValue4
  t5 := Tryz.underlying5
  a5 := Tryz.isAgg5
  z5 := Tryz.sizeOf5
  v5 := Tryz.zeroValue5
  t9 := Tryz.underlying9
  a9 := Tryz.isAgg9
  z9 := Tryz.sizeOf9
  v9 := Tryz.zeroValue9
  t20 := Tryz.underlying20
  a20 := Tryz.isAgg20
  z20 := Tryz.sizeOf20
  v20 := Tryz.zeroValue20
  t21 := Tryz.underlying21
  a21 := Tryz.isAgg21
  z21 := Tryz.sizeOf21
  v21 := Tryz.zeroValue21
  t37 := Tryz.underlying52
  a37 := Tryz.isAgg52
  z37 := Tryz.sizeOf52
  v37 := Tryz.zeroValue52
  t46 := Tryz.underlying151
  a46 := Tryz.isAgg151
  z46 := Tryz.sizeOf151
  v46 := Tryz.zeroValue151
  t51 := Tryz.underlying189
  a51 := Tryz.isAgg189
  z51 := Tryz.sizeOf189
  v51 := Tryz.zeroValue189
  t70 := Tryz.underlying51
  a70 := Tryz.isAgg51
  z70 := Tryz.sizeOf51
  v70 := Tryz.zeroValue51
  t72 := Tryz.underlying54
  a72 := Tryz.isAgg54
  z72 := Tryz.sizeOf54
  v72 := Tryz.zeroValue54
  t75 := Tryz.underlying89
  a75 := Tryz.isAgg89
  z75 := Tryz.sizeOf89
  v75 := Tryz.zeroValue89
  t76 := Tryz.underlying90
  a76 := Tryz.isAgg90
  z76 := Tryz.sizeOf90
  v76 := Tryz.zeroValue90
  t105 := Tryz.underlying158
  a105 := Tryz.isAgg158
  z105 := Tryz.sizeOf158
  v105 := Tryz.zeroValue158
  t119 := Tryz.underlying171
  a119 := Tryz.isAgg171
  z119 := Tryz.sizeOf171
  t127 := Tryz.underlying95
  a127 := Tryz.isAgg95
  z127 := Tryz.sizeOf95
  v127 := Tryz.zeroValue95
  t138 := Tryz.underlying173
  a138 := Tryz.isAgg173
  z138 := Tryz.sizeOf173
  v138 := Tryz.zeroValue173
  t139 := Tryz.underlying174
  a139 := Tryz.isAgg174
  z139 := Tryz.sizeOf174
  v139 := Tryz.zeroValue174
  t146 := Tryz.underlying205
  a146 := Tryz.isAgg205
  z146 := Tryz.sizeOf205
  v146 := Tryz.zeroValue205
  t164 := Tryz.underlying154
  a164 := Tryz.isAgg154
  z164 := Tryz.sizeOf154
  v164 := Tryz.zeroValue154
  g1 := by kernel_rfl
  g3 := by kernel_rfl
  g4 := by kernel_rfl }
theorem Tryz.Builder_Extra_155 : Builder.Extra Tryz.prog Tryz.lays155_ren := {
  sizeBuilder := by kernel_rfl
  liesBuilder := by kernel_rfl
  t5 := Tryz.underlying5
  a5 := Tryz.isAgg5
  z5 := Tryz.sizeOf5
  v5 := Tryz.zeroValue5
  infoByte := by kernel_rfl
  cellsByte := by kernel_rfl
  sizeByte := by kernel_rfl
  neB5 := by decide }
open Go.RowKit Go.Lib in
/-- strings.ReplaceAll: "ReplaceAll returns a copy of the string s with all non-overlapping instances of old replaced by new.": AT AN old THAT IS NOT EMPTY: 'Lib.replaceAll s old new'. (LAID: no walk: one application.) -/
theorem Tryz.strings_ReplaceAll (s old new : ByteArray) (m : Int) (w : World) (hs : s.size < 4294967281) (hm : w.cell? ⟨3, 0, none⟩ = some (.int .i64 m)) (h1 : 1 ≤ old.size) (hlen : s.size + Lib.countB s old * new.size ≤ 140737488355328) :
    Calls Tryz.prog 59 #[.string s, .string old, .string new] w fun e w' =>
      e = .returned (.string ⟨(Lib.replaceAll s.data.toList old.data.toList new.data.toList).toArray⟩) ∧ Below w.heap.size w w' := Any.strings_ReplaceAll Tryz.lays155 Tryz.Builder_Extra_155 s old new m w hs hm h1 hlen
end Go.Proofs
