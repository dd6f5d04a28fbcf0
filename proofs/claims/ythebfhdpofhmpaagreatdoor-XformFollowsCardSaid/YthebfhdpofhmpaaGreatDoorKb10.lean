/- op.May of blank cells and of lines: these operations' fields. -/
import Derived.Test.YthebfhdpofhmpaaGreatDoorKb09
import Derived.Test.YthebfhdpofhmpaaGreatDoorKb00
import Derived.Test.YthebfhdpofhmpaaGreatDoorKb08
import Derived.Test.YthebfhdpofhmpaaGreatDoorKb02
import Derived.Test.YthebfhdpofhmpaaGreatDoorKb04
import Derived.Test.YthebfhdpofhmpaaGreatDoorKb03
import Derived.Test.YthebfhdpofhmpaaGreatDoorProg
import Derived.Deep.CutBlock
import Derived.BigRegion
import Derived.Shelf.Abstract
import Derived.OwnWalkIn
import Derived.TacticsInMore
import Derived.LoopNIn
import Derived.LoopIn
import Derived.Maps.AppendAt
import Derived.Test.YthebfhdpofhmpaaGreatDoorKb07
import Derived.Shelf.Strconv.Itoa4
import Derived.Deep.RegionHeld3
import Derived.Deep.CutRange
import Derived.BigQuiet
import Derived.Test.YthebfhdpofhmpaaGreatDoorKb06
import Derived.Lib.AppendStr
import Derived.Lib.ItoaMem
import Derived.Great.Ranges
import Derived.Great.Walk
import Derived.Laws.ResultCell
import Derived.Great.BuildSlice
import Derived.Laws.CopyOwn
import Derived.WalkSpells
import Derived.Lib.SliceRun
import Derived.Test.YthebfhdpofhmpaaGreatDoorKb05
import Derived.Deep.AppendLies
import Derived.Lib.Builder
import Derived.Shelf.Bytes.SlEqualAll
set_option linter.unusedVariables false
set_option linter.unusedSimpArgs false
set_option maxRecDepth 100000
set_option maxHeartbeats 8000000
namespace Go.Proofs.YthebfhdpofhmpaaGreatDoor
open Go.RowKit
def so (k : Int) (sh : ByteArray) (r c lk la lt : Int) : Rv := ⟨k, sh, r, c, false, 0, 0, ⟨#[]⟩, false, 0, 0, 0, ⟨#[]⟩, false, 0, none, 0, 0, none, 0, 0, lk, la, lt, none, 0, 0, 0, ⟨#[]⟩⟩
theorem so_eq (k : Int) (sh : ByteArray) (V : World) : Calls Tryz.prog 35 #[(so k sh 0 0 0 0 0).v, (so k sh 0 0 0 0 0).v] V fun e V' => e = .returned (.bool true) ∧ Q V V' :=
  opeq_any (so k sh 0 0 0 0 0) (so k sh 0 0 0 0 0) zeroE zeroE [] [] true V ⟨rd_zero V, R.sl_nil V⟩ ⟨rd_zero V, R.sl_nil V⟩ (by decide) (by decide) (by decide) ⟨fun _ => ⟨rfl, rfl, rfl, rfl, ⟨rfl, rfl, rfl⟩, rfl, rfl, rfl, rfl, ⟨rfl, rfl, rfl, rfl, rfl⟩, rfl⟩, fun _ => rfl⟩
theorem may_set (sh : ByteArray) (r c : Int) (w : World) (hg : Gd w) (hs : sh.size < 4294967281) : Calls Tryz.prog 22 #[(so 1 sh r c 0 0 0).v] w fun e V' => e = .returned (.bool (lnB r && (lnB c && true) && (idB sh.data.toList && true))) ∧ Q w V' := by
  have HE := hid (fun V (q : Q w V) => so_eq 1 sh V)
  unfold Rv.v so at HE ⊢
  exact om1 1 sh (.int .i64 r) (.int .i64 c) (.bool false) (.int .i64 0) (.int .i64 0) (.string ⟨#[]⟩) (.bool false) (.int .i64 0) (.int .i64 0) (.int .i64 0) (.string ⟨#[]⟩) (.bool false) (.int .i64 0) (.slice none 0 0) (.slice none 0 0) (.int .i64 0) (.int .i64 0) (.int .i64 0) (.slice none 0 0) (.int .i64 0) (.string ⟨#[]⟩) w (lnB r) (lnB c) true (idB sh.data.toList) true (by decide) (hid (by kernel_rfl)) (hid (fun V q => (mayLine_any' r V).mono fun e V' h => ⟨h.1, h.2 ▸ Q.refl _⟩)) (hid (fun V q => (mayLine_any' c V).mono fun e V' h => ⟨h.1, h.2 ▸ Q.refl _⟩)) (hid (fun V q => smay_val 0 0 ⟨#[]⟩ false 0 0 0 ⟨#[]⟩ false 0 none 0 0 none 0 0 zeroE V (hg.on q) (by decide) (by decide) (rd_zero V))) (hid (fun V q => id_any sh V (hg.on q).1 hs)) HE
theorem l_may (lk la lt : Int) (V : World) : Calls Tryz.prog 30 #[.agg #[.int .i64 lk, .int .i64 la, .int .i64 lt]] V fun e V' => e = .returned (.bool (L.mayB lk la lt)) ∧ Q V V' :=
  (L.may_any lk la lt V).mono fun e V' h => ⟨h.1, h.2 ▸ (Q.refl _).alloc _⟩
theorem may_row (sh : ByteArray) (lk la lt : Int) (w : World) (hg : Gd w) (hs : sh.size < 4294967281) : Calls Tryz.prog 22 #[(so 2 sh 0 0 lk la lt).v] w fun e V' => e = .returned (.bool (L.mayB lk la lt && (idB sh.data.toList && true))) ∧ Q w V' := by
  have HE := hid (fun V (q : Q w V) => so_eq 2 sh V)
  unfold Rv.v so at HE ⊢
  exact om2 2 sh (.int .i64 0) (.int .i64 0) (.bool false) (.int .i64 0) (.int .i64 0) (.string ⟨#[]⟩) (.bool false) (.int .i64 0) (.int .i64 0) (.int .i64 0) (.string ⟨#[]⟩) (.bool false) (.int .i64 0) (.slice none 0 0) (.slice none 0 0) (.int .i64 lk) (.int .i64 la) (.int .i64 lt) (.slice none 0 0) (.int .i64 0) (.string ⟨#[]⟩) w (L.mayB lk la lt) (idB sh.data.toList) true (by decide) (by decide) (hid (by kernel_rfl)) (hid (fun V q => l_may lk la lt V)) (hid (fun V q => id_any sh V (hg.on q).1 hs)) HE
theorem may_col (sh : ByteArray) (lk la lt : Int) (w : World) (hg : Gd w) (hs : sh.size < 4294967281) : Calls Tryz.prog 22 #[(so 3 sh 0 0 lk la lt).v] w fun e V' => e = .returned (.bool (L.mayB lk la lt && (idB sh.data.toList && true))) ∧ Q w V' := by
  have HE := hid (fun V (q : Q w V) => so_eq 3 sh V)
  unfold Rv.v so at HE ⊢
  exact om3 3 sh (.int .i64 0) (.int .i64 0) (.bool false) (.int .i64 0) (.int .i64 0) (.string ⟨#[]⟩) (.bool false) (.int .i64 0) (.int .i64 0) (.int .i64 0) (.string ⟨#[]⟩) (.bool false) (.int .i64 0) (.slice none 0 0) (.slice none 0 0) (.int .i64 lk) (.int .i64 la) (.int .i64 lt) (.slice none 0 0) (.int .i64 0) (.string ⟨#[]⟩) w (L.mayB lk la lt) (idB sh.data.toList) true (by decide) (by decide) (by decide) (hid (by kernel_rfl)) (hid (fun V q => l_may lk la lt V)) (hid (fun V q => id_any sh V (hg.on q).1 hs)) HE
theorem may_rem (sh : ByteArray) (w : World) (hg : Gd w) (hs : sh.size < 4294967281) : Calls Tryz.prog 22 #[(so 7 sh 0 0 0 0 0).v] w fun e V' => e = .returned (.bool (idB sh.data.toList && true)) ∧ Q w V' := by
  have HE := hid (fun V (q : Q w V) => so_eq 7 sh V)
  unfold Rv.v so at HE ⊢
  exact om7 7 sh (.int .i64 0) (.int .i64 0) (.bool false) (.int .i64 0) (.int .i64 0) (.string ⟨#[]⟩) (.bool false) (.int .i64 0) (.int .i64 0) (.int .i64 0) (.string ⟨#[]⟩) (.bool false) (.int .i64 0) (.slice none 0 0) (.slice none 0 0) (.int .i64 0) (.int .i64 0) (.int .i64 0) (.slice none 0 0) (.int .i64 0) (.string ⟨#[]⟩) w (idB sh.data.toList) true (by decide) (by decide) (by decide) (by decide) (by decide) (by decide) (by decide) (hid (by kernel_rfl)) (hid (fun V q => id_any sh V (hg.on q).1 hs)) HE
theorem Rv.len (x : Rv) : x.L.length = 23 := rfl
theorem Rv.one (x : Rv) : x.L.toArray.all (·.oneCell') = true := by
  cases x
  unfold Rv.L
  kernel_rfl
theorem Rv.ones (x : Rv) : ∀ u ∈ x.L, u.oneCell' = true := fun u hu => Array.all_eq_true_iff_forall_mem.1 x.one u (by simpa using hu)
def zero23 : Array Value := #[.int .i64 0, .string ⟨#[]⟩, .int .i64 0, .int .i64 0, .bool false, .int .i64 0, .int .i64 0, .string ⟨#[]⟩, .bool false, .int .i64 0, .int .i64 0, .int .i64 0, .string ⟨#[]⟩, .bool false, .int .i64 0, .slice none 0 0, .slice none 0 0, .int .i64 0, .int .i64 0, .int .i64 0, .slice none 0 0, .int .i64 0, .string ⟨#[]⟩]
theorem wpl_lay (w : World) {ops : Array Oper} {rest : List Oper} {o : Oper} {a : Act} {Q : Exit → Act → World → Prop} (x y : Operand) (ho : o.op = .store 40 x y) (hgd : o.guard = none) (z : Rv)
    (hx : a.eval x = .pointer (some ⟨w.heap.size, 0, none⟩)) (hy : a.eval y = .agg z.L.toArray)
    {W : World} (hW : W = w.alloc (.cells zero23 40)) (h : wpList Tryz.prog ops Q rest (a.put o.dst undef) (w.alloc (.cells z.L.toArray 40))) : wpList Tryz.prog ops Q (o :: rest) a W := by
  subst hW
  refine wpList_store_row hgd 40 x y ho w.heap.size z.L.toArray hx hy 40 zero23 (heap_alloc_last w _) info35 rfl z.one ?_
  rw [World.setRow_alloc_new]
  exact h
structure Bk (W : World) (t : TypeId) (q : Nat) (cs : Array Value) : Prop where
  h : W.heap[q]? = some (.cells cs t (0, 0))
theorem Bk.c {W : World} {t : TypeId} {q : Nat} {cs : Array Value} (h : Bk W t q cs) (j : Nat) (u : Value) (hu : cs[j]? = some u) : W.cell? ⟨q, j, none⟩ = some u := by
  rw [cell_of_row W q j _ _ _ h.h]
  exact hu
theorem Bk.f {W : World} {t : TypeId} {q : Nat} {cs : Array Value} (h : Bk W t q cs) (j : Nat) : W.frozen? ⟨q, j, none⟩ = false := frozen_of_row W q j _ _ h.h
theorem Bk.l {W : World} {t : TypeId} {q : Nat} {cs : Array Value} (h : Bk W t q cs) : q < W.heap.size := (Array.getElem?_eq_some_iff.1 h.h).1
theorem Bk.on {W W' : World} {t : TypeId} {q : Nat} {cs : Array Value} (h : Bk W t q cs) (x : Q W W') : Bk W' t q cs := ⟨(Below.block x q h.l).trans h.h⟩
theorem bk_new (W : World) (t : TypeId) (cs : Array Value) : Bk (W.alloc (.cells cs t)) t W.heap.size cs := ⟨heap_alloc_last W _⟩
theorem Bk.put {W : World} {t : TypeId} {q : Nat} {cs : Array Value} (h : Bk W t q cs) (j : Nat) (d : Value) : Bk (W.setCell ⟨q, j, none⟩ d) t q (cs.setIfInBounds j d) := by
  refine ⟨?_⟩
  rw [setCell_eq_setRow W q j _ _ _ d h.h, setRow_heap W q _ _ _ _ h.h]
theorem Bk.oth {W : World} {t : TypeId} {q p : Nat} {cs : Array Value} (h : Bk W t q cs) (hp : q ≠ p) (j : Nat) (d : Value) : Bk (W.setCell ⟨p, j, none⟩ d) t q cs :=
  ⟨(heap_setCell_other W _ q d hp).trans h.h⟩
theorem Bk.row {W : World} {t : TypeId} {q : Nat} {cs : Array Value} (h : Bk W t q cs) (cs' : Array Value) : Bk (W.setRow q cs') t q cs' := ⟨setRow_heap W q _ _ _ _ h.h⟩
theorem Bk.orow {W : World} {t : TypeId} {q p : Nat} {cs : Array Value} (h : Bk W t q cs) (hp : q ≠ p) (cs' : Array Value) : Bk (W.setRow p cs') t q cs := ⟨(setRow_other W p q cs' hp).trans h.h⟩
theorem Q.row {a w : World} (h : Q a w) {g : Nat} (hg : a.heap.size ≤ g) (cs : Array Value) : Q a (w.setRow g cs) :=
  ⟨h.os, h.tape, h.output, by rw [setRow_size]; exact h.size, fun i hi => by rw [setRow_other _ _ _ _ (by omega)]; exact Below.block h i hi⟩
theorem results_cell2 {P : Program} {fn : Func} {p u : Tmp} {ty : TypeId} (h : fn.results = #[.cell p ty, .tmp u]) (tmps : Array Value) (w : World) (g : Nat) (t : TypeId) (cs : Array Value) (fr : Nat × Nat) (d : TypeDesc)
    (hp : tmps.getD p undef = .pointer (some ⟨g, 0, none⟩)) (hg : w.heap[g]? = some (.cells cs t fr))
    (hu : P.underlying ty = some d) (hd : (match d with | .struct _ | .array _ _ => true | _ => false) = true) (hi : (P.info? ty).map (·.size) = some cs.size) :
    (results fn tmps).run P w = .ok (.tuple #[.agg cs, tmps.getD u undef]) w := by
  have hp' : tmps[p]?.getD undef = .pointer (some ⟨g, 0, none⟩) := by simpa using hp
  simp [results, h, hp', asAddr, run_loadVar_row w g t ty cs fr d hg hu hd hi]
theorem results_cell3 {P : Program} {fn : Func} {p u v : Tmp} {ty : TypeId} (h : fn.results = #[.cell p ty, .tmp u, .tmp v]) (tmps : Array Value) (w : World) (g : Nat) (t : TypeId) (cs : Array Value) (fr : Nat × Nat) (d : TypeDesc)
    (hp : tmps.getD p undef = .pointer (some ⟨g, 0, none⟩)) (hg : w.heap[g]? = some (.cells cs t fr))
    (hu : P.underlying ty = some d) (hd : (match d with | .struct _ | .array _ _ => true | _ => false) = true) (hi : (P.info? ty).map (·.size) = some cs.size) :
    (results fn tmps).run P w = .ok (.tuple #[.agg cs, tmps.getD u undef, tmps.getD v undef]) w := by
  have hp' : tmps[p]?.getD undef = .pointer (some ⟨g, 0, none⟩) := by simpa using hp
  simp [results, h, hp', asAddr, run_loadVar_row w g t ty cs fr d hg hu hd hi]
def aL (x : Rv) : List Value := x.L ++ [.bool true]
theorem aL_len (x : Rv) : (aL x).length = 24 := rfl
theorem aL_get {x : Rv} {j : Nat} {u : Value} (h : x.L[j]? = some u) : (aL x).toArray[j]? = some u := by
  have hj := (List.getElem?_eq_some_iff.1 h).1
  rw [List.getElem?_toArray]
  unfold aL
  rw [List.getElem?_append_left hj]
  exact h
theorem aL_one (x : Rv) : (aL x).toArray.all (·.oneCell') = true := by
  cases x
  unfold aL Rv.L
  kernel_rfl
theorem aL_ones (x : Rv) : ∀ u ∈ aL x, u.oneCell' = true := fun u hu => Array.all_eq_true_iff_forall_mem.1 (aL_one x) u (by simpa using hu)
def zero24 : Array Value := #[.int .i64 0, .string ⟨#[]⟩, .int .i64 0, .int .i64 0, .bool false, .int .i64 0, .int .i64 0, .string ⟨#[]⟩, .bool false, .int .i64 0, .int .i64 0, .int .i64 0, .string ⟨#[]⟩, .bool false, .int .i64 0, .slice none 0 0, .slice none 0 0, .int .i64 0, .int .i64 0, .int .i64 0, .slice none 0 0, .int .i64 0, .string ⟨#[]⟩, .bool false]
theorem info40 : (Tryz.prog.info? 40).map (·.size) = some 23 := by kernel_rfl
theorem info57 : (Tryz.prog.info? 57).map (·.size) = some 24 := by kernel_rfl
theorem info57y : (Tryz.prog.info? 57).map (fun i => (i.zero, i.size, i.bytes)) = some (some (.agg zero24), 24, 272) := by kernel_rfl
theorem Rv.v_eq (x : Rv) : x.v = .agg x.L.toArray := rfl
theorem info57z : (Tryz.prog.info? 57).map (·.zero) = some (some (.agg zero24)) := by kernel_rfl
structure T3 (w w3 : World) (t1 t2 t3 : TypeId) (A B C : Array Value) (b3 b4 b6 : Nat) : Prop where
  a : Bk w3 t1 b3 A
  b : Bk w3 t2 b4 B
  r : Bk w3 t3 b6 C
  n1 : b3 ≠ b6
  n2 : b4 ≠ b6
  n3 : b3 ≠ b4
  l : w.heap.size ≤ b3
  lb : w.heap.size ≤ b4
  l6 : w.heap.size ≤ b6
  q : Q w w3
theorem t3_new (w : World) (t1 t2 t3 : TypeId) (A B C : Array Value) : T3 w (((w.alloc (.cells A t1)).alloc (.cells B t2)).alloc (.cells C t3)) t1 t2 t3 A B C w.heap.size (w.heap.size + 1) (w.heap.size + 1 + 1) := by
  have h2 := bk_new (w.alloc (.cells A t1)) t2 B
  have h3 := bk_new ((w.alloc (.cells A t1)).alloc (.cells B t2)) t3 C
  rw [show (w.alloc (.cells A t1)).heap.size = w.heap.size + 1 by simp] at h2
  rw [show ((w.alloc (.cells A t1)).alloc (.cells B t2)).heap.size = w.heap.size + 1 + 1 by simp] at h3
  exact ⟨(bk_new w t1 A).on (((Q.refl _).alloc _).alloc _), h2.on ((Q.refl _).alloc _), h3, by omega, by omega, by omega, Nat.le_refl _, by omega, by omega, (((Q.refl w).alloc _).alloc _).alloc _⟩
theorem T3.on {w w3 w4 : World} {t1 t2 t3 : TypeId} {A B C : Array Value} {b3 b4 b6 : Nat} (h : T3 w w3 t1 t2 t3 A B C b3 b4 b6) (q : Q w3 w4) : T3 w w4 t1 t2 t3 A B C b3 b4 b6 :=
  ⟨h.a.on q, h.b.on q, h.r.on q, h.n1, h.n2, h.n3, h.l, h.lb, h.l6, h.q.trans q⟩
structure T2 (w w3 : World) (t1 t3 : TypeId) (A C : Array Value) (b3 b6 : Nat) : Prop where
  a : Bk w3 t1 b3 A
  r : Bk w3 t3 b6 C
  n1 : b3 ≠ b6
  l : w.heap.size ≤ b3
  l6 : w.heap.size ≤ b6
  q : Q w w3
theorem t2_new (w : World) (t1 t3 : TypeId) (A C : Array Value) : T2 w ((w.alloc (.cells A t1)).alloc (.cells C t3)) t1 t3 A C w.heap.size (w.heap.size + 1) := by
  have h2 := bk_new (w.alloc (.cells A t1)) t3 C
  rw [show (w.alloc (.cells A t1)).heap.size = w.heap.size + 1 by simp] at h2
  exact ⟨(bk_new w t1 A).on ((Q.refl _).alloc _), h2, by omega, Nat.le_refl _, by omega, ((Q.refl w).alloc _).alloc _⟩
theorem T2.on {w w3 w4 : World} {t1 t3 : TypeId} {A C : Array Value} {b3 b6 : Nat} (h : T2 w w3 t1 t3 A C b3 b6) (q : Q w3 w4) : T2 w w4 t1 t3 A C b3 b6 :=
  ⟨h.a.on q, h.r.on q, h.n1, h.l, h.l6, h.q.trans q⟩
def z7a : Array Value := #[.int .i64 0, .int .i64 0, .string ⟨#[]⟩, .bool false, .int .i64 0, .slice none 0 0, .slice none 0 0]
set_option maxHeartbeats 1000000 in
theorem count_z (m : Int) (w : World) : Calls Tryz.prog 103 #[.agg z7a, .int .i64 m] w fun e V' => e = .returned (.int .i64 1) ∧ Q w V' := by
  unfold z7a
  go_enter Tryz.func103, Tryz.ntmps103
  go_wp2
  go_loopw [11, 5] (fun s t W => s = .int .i64 0 ∧ t = .int .i64 1 ∧ Hid (Q w W)) (fun _ _ _ => 0)
  case atStart => exact ⟨rfl, rfl, hid ((Q.refl _).alloc _)⟩
  case round =>
    obtain ⟨rfl, rfl, hq⟩ := hrel
    go_wp2_with fail
    go_ret
    exact ⟨rfl, hq.out⟩
theorem pcount_z (w : World) : Calls Tryz.prog 86 #[.agg z7a] w fun e V' => e = .returned (.int .i64 1) ∧ Q w V' := by
  have HC := hid (fun m V => count_z m V)
  unfold z7a at HC ⊢
  go_enter Tryz.func86, Tryz.ntmps86
  go_wp2_with (go_at_call 103; refine (HC.out _ _).mono ?_; rintro e w1 ⟨rfl, q1⟩; have Q1 := hid q1; clear q1)
  go_ret
  exact ⟨rfl, ((Q.refl _).alloc _).trans Q1.out⟩
set_option maxHeartbeats 1000000 in
theorem shallow_z (w : World) : Calls Tryz.prog 92 #[.agg z7a, .int .i64 50] w fun e V' => e = .returned (.bool true) ∧ Q w V' := by
  unfold z7a
  go_enter Tryz.func92, Tryz.ntmps92
  go_wp2
  go_loopw [12, 4] (fun s t W => s = .int .i64 0 ∧ t = .bool false ∧ Hid (Q w W)) (fun _ _ _ => 0)
  case atStart => exact ⟨rfl, rfl, hid ((Q.refl _).alloc _)⟩
  case round =>
    obtain ⟨rfl, rfl, hq⟩ := hrel
    go_wp2_with fail
    go_ret
    exact ⟨rfl, hq.out⟩
theorem fits_z (w : World) : Calls Tryz.prog 65 #[.agg z7a] w fun e V' => e = .returned (.bool true) ∧ Q w V' := by
  have HC := hid (fun V => pcount_z V)
  have HS := hid (fun V => shallow_z V)
  have HT := hid (bk_new w 35 z7a)
  have HQ : Hid (Q w (w.alloc (.cells z7a 35))) := hid ((Q.refl _).alloc _)
  unfold z7a at HC HS HT HQ ⊢
  go_enter Tryz.func65, Tryz.ntmps65
  go_upto_region 1 with fail
  generalize w.alloc _ = w1 at HT HQ ⊢
  generalize w.heap.size = b1 at HT ⊢
  go_wp2_with (first
    | (with_reducible refine wpList_load_row (by with_unfolding_all rfl) 35 _ (by with_unfolding_all rfl) b1 (by with_unfolding_all rfl) 35 _ (0, 0) _ HT.out.h Tryz.underlying35 (by with_unfolding_all rfl) (by with_unfolding_all kernel_rfl) ?_)
    | (go_at_call 86; refine (HC.out _).mono ?_; rintro e w2 ⟨rfl, q1⟩; have Q1 := hid (HQ.out.trans q1); have HT1 := hid (HT.out.on q1); clear q1; have d0 := HT1.out.c 0 _ rfl; have d1 := HT1.out.c 1 _ rfl; have d2 := HT1.out.c 2 _ rfl; have d3 := HT1.out.c 3 _ rfl; have d4 := HT1.out.c 4 _ rfl; have d5 := HT1.out.c 5 _ rfl; have d6 := HT1.out.c 6 _ rfl)
    | (go_at_call 92; refine (HS.out _).mono ?_; rintro e w3 ⟨rfl, q1⟩; have Q2 := hid (Q1.out.trans q1); clear q1))
  go_ret
  exact ⟨rfl, Q2.out⟩
theorem info35x : (Tryz.prog.info? 40).map (fun i => (i.zero, i.size)) = some (some (.agg zero23), 23) := by kernel_rfl
theorem sl_lit23 (W : World) (xs : List Rv) (hl : xs.length ≤ 1000) : Sl Rv.L 23 (W.alloc (.cells (flat Rv.L xs).toArray 40)) (.slice (some ⟨W.heap.size, 0, none⟩) xs.length xs.length) xs := by
  refine ⟨some ⟨W.heap.size, 0, none⟩, xs.length, rfl, Nat.le_refl _, by unfold maxLen; omega, fun _ => ⟨W.heap.size, 0, rfl, fun i hi j u hu => ?_⟩⟩
  have hj : j < 23 := (List.getElem?_eq_some_iff.1 hu).1
  rw [World.cell?_alloc_at _ _ _ _ rfl]
  rw [← hu, ← flat_at Rv.L Rv.len xs i hi j hj]
  simp
end Go.Proofs.YthebfhdpofhmpaaGreatDoor
namespace Go.Proofs.YthebfhdpofhmpaaGreatDoor
open Go.RowKit
open IV
set_option linter.unusedVariables false
set_option linter.unusedSimpArgs false
theorem up_same9 {v : Nat → Value} {d : Nat} {x : Value} : up v d x d = x := if_pos rfl
theorem up_ne9 {v : Nat → Value} {d t : Nat} {x : Value} (h : t ≠ d) : up v d x t = v t := if_neg h
theorem ul_ne9 {L : Nat → Bool} {i j : Nat} (h : j ≠ i) : ul L i j = L j := if_neg h
structure SI (w : World) (P A B : World → Prop) (s : Nat) (ix : Nat → Nat) (ds : List Nat) (val : Nat → Value) (L : Nat → Bool) (v : Nat → Value) (W : World) : Prop where
  st : ∀ W W', Q W W' → (P W → P W') ∧ (A W → A W') ∧ (B W → B W')
  ns : ∀ t ∈ ds, ix t ≠ s
  q : Q w W
  p : P W
  a : L s = false → A W
  b : L s = true → B W
  mv : ∀ t ∈ ds, L (ix t) = true → v t = val t
theorem SI.m {w : World} {P A B : World → Prop} {s : Nat} {ix : Nat → Nat} {ds : List Nat} {val : Nat → Value} {L : Nat → Bool} {v : Nat → Value} {W W' : World} (J : SI w P A B s ix ds val L v W) (q : Q W W') (i t : Nat) (hi : s ≠ i) (hj : ∀ t' ∈ ds, ix t' = i → t' = t) :
    SI w P A B s ix ds val (ul L i) (up v t (val t)) W' := by
  obtain ⟨h1, h2, h3⟩ := J.st W W' q
  refine ⟨J.st, J.ns, J.q.trans q, h1 J.p, fun h => h2 (J.a ?_), fun h => h3 (J.b ?_), fun t' ht' h => ?_⟩
  · rwa [ul_ne9 hi] at h
  · rwa [ul_ne9 hi] at h
  · by_cases e : t' = t
    · subst e; exact up_same9
    · have : ix t' ≠ i := fun e' => e (hj t' ht' e')
      rw [ul_ne9 this] at h
      rw [up_ne9 e]
      exact J.mv t' ht' h
theorem SI.put {w : World} {P A B : World → Prop} {s : Nat} {ix : Nat → Nat} {ds : List Nat} {val : Nat → Value} {L : Nat → Bool} {v : Nat → Value} {W W' : World} (J : SI w P A B s ix ds val L v W) (q : Q w W') (p : P W') (b : B W') :
    SI w P A B s ix ds val (ul L s) v W' :=
  ⟨J.st, J.ns, q, p, fun h => absurd ((show ul L s s = true from if_pos rfl).symm.trans h) (by decide), fun _ => b, fun t ht h => J.mv t ht (by rwa [ul_ne9 (J.ns t ht)] at h)⟩
theorem SI.same {w : World} {P A B : World → Prop} {s : Nat} {ix : Nat → Nat} {ds : List Nat} {val : Nat → Value} {L : Nat → Bool} {v : Nat → Value} {W W' : World} (J : SI w P A B s ix ds val L v W) (i : Nat) (hi : s ≠ i) (hn : ∀ t ∈ ds, ix t ≠ i) (q : Q w W') (p : P W') (ha : A W → A W') (hb : B W → B W') :
    SI w P A B s ix ds val (ul L i) v W' :=
  ⟨J.st, J.ns, q, p, fun h => ha (J.a (by rwa [ul_ne9 hi] at h)), fun h => hb (J.b (by rwa [ul_ne9 hi] at h)), fun t ht h => J.mv t ht (by rwa [ul_ne9 (hn t ht)] at h)⟩
section
variable {ops : Array Oper} {Q : Exit → Act → World → Prop} {a0 : Act} {ds : List Nat} {J : (Nat → Value) → World → Prop} {v : Nat → Value} {w : World} {i : Nat} {o : Oper} {d : Nat}
theorem opw_lrow (ty : TypeId) (x : Operand) (g : Nat) (t : TypeId) (cs : Array Value) (de : TypeDesc) (ho : ops[i]? = some o) (hg : o.guard = none) (hop : o.op = .load ty x) (hd : o.dst = some d) (hm : d ∈ ds) (hx : (frm a0 ds v).eval x = .pointer (some ⟨g, 0, none⟩))
    (hb : Bk w t g cs) (hdd : (match de with | .struct _ | .array _ _ => true | _ => false) = true) (hu : Tryz.prog.underlying ty = some de) (hi : (Tryz.prog.info? ty).map (·.size) = some cs.size) (hI : J (up v d (.agg cs)) w) :
    WO Tryz.prog ops Q i (Ks a0 ds J) (frm a0 ds v) w :=
  opw_wp ho hg (wp_load_row ty x hop g hx t cs (0, 0) _ hb.h hu (by cases de <;> first | exact hdd | rfl | cases hdd) hi (ks_put hd hm hI))
theorem opw_lmid (ty : TypeId) (x : Operand) (b off : Nat) (cs : List Value) (de : TypeDesc) (ho : ops[i]? = some o) (hg : o.guard = none) (hop : o.op = .load ty x) (hd : o.dst = some d) (hm : d ∈ ds) (hx : (frm a0 ds v).eval x = .pointer (some ⟨b, off, none⟩))
    (hb : w.rangeAt b off cs) (hu : Tryz.prog.underlying ty = some de) (hdd : de.isRow = true) (hi : (Tryz.prog.info? ty).map (·.size) = some cs.length) (hI : J (up v d (.agg cs.toArray)) w) :
    WO Tryz.prog ops Q i (Ks a0 ds J) (frm a0 ds v) w :=
  opw_wp ho hg (wp_load_mid ty x hop b off hx cs _ hb hu hdd hi (ks_put hd hm hI))
theorem opw_srow (ty : TypeId) (x y : Operand) (g : Nat) (t : TypeId) (old cells : Array Value) (ho : ops[i]? = some o) (hg : o.guard = none) (hop : o.op = .store ty x y) (hd : o.dst = none) (hx : (frm a0 ds v).eval x = .pointer (some ⟨g, 0, none⟩)) (hy : (frm a0 ds v).eval y = .agg cells)
    (hb : Bk w t g old) (hi : (Tryz.prog.info? ty).map (·.size) = some cells.size) (hold : old.size = cells.size) (h1 : cells.all (·.oneCell') = true) (hI : J v (w.setRow g cells)) :
    WO Tryz.prog ops Q i (Ks a0 ds J) (frm a0 ds v) w :=
  opw_wp ho hg (wp_store_row ty x y hop g cells hx hy t old hb.h hi hold h1 (ks_non hd hI))
theorem opw_bld (ty : TypeId) (parts : Array (Nat × Operand)) (cs : Array Value) (ho : ops[i]? = some o) (hg : o.guard = none) (hop : o.op = .build ty parts) (hd : o.dst = some d) (hm : d ∈ ds)
    (hf : Tryz.prog.built ty (parts.map fun (i, x) => (i, (frm a0 ds v).eval x)).toList = some cs) (hI : J (up v d (.agg cs)) w) :
    WO Tryz.prog ops Q i (Ks a0 ds J) (frm a0 ds v) w :=
  opw_wp ho hg (wp_build ty parts hop (by rw [hf]; rfl) (by rw [hf]; exact ks_put hd hm hI))
end
theorem frm_out {a0 : Act} {ds : List Nat} {v : Nat → Value} {d : Nat} (hm : d ∉ ds) : (frm a0 ds v).eval (.tmp d) = a0.tmps.getD d undef := by
  show (ds.foldl (fun t d => t.setIfInBounds d (v d)) a0.tmps).getD d undef = _
  rw [Array.getD_eq_getD_getElem?, fold_get, if_neg hm, Array.getD_eq_getD_getElem?]
theorem built_a (x : Rv) : Tryz.prog.built 57 [(0, .agg x.L.toArray), (1, .bool true)] = some (aL x).toArray := by
  cases x
  unfold aL Rv.L
  kernel_rfl
end Go.Proofs.YthebfhdpofhmpaaGreatDoor
namespace Go.Proofs.YthebfhdpofhmpaaGreatDoor
open Go.RowKit
open IV
def vCop (x : Rv) (b1 : Nat) (t : Nat) : Value := if t = 3 then .pointer (some ⟨b1, 1, none⟩) else if t = 4 then .string x.sh else if t = 5 then .string x.sh else if t = 6 then .pointer (some ⟨b1, 22, none⟩) else if t = 7 then .string x.nm else if t = 8 then .string x.nm else if t = 9 then .pointer (some ⟨b1, 1, none⟩) else .pointer (some ⟨b1, 22, none⟩)
def iCop (t : Nat) : Nat := if t = 10 then 8 else t - 3
theorem Bk.same {W : World} {t : TypeId} {q : Nat} {cs : Array Value} (h : Bk W t q cs) (j : Nat) (d : Value) (hd : cs[j]? = some d) : Bk (W.setCell ⟨q, j, none⟩ d) t q cs := by
  have h1 := h.put j d
  rwa [show cs.setIfInBounds j d = cs from by
    apply Array.ext
    · simp
    · intro i h1 h2
      by_cases e : i = j
      · subst e
        rw [Array.getElem_setIfInBounds_self]
        rw [Array.getElem?_eq_getElem h2] at hd
        exact (Option.some.inj hd).symm
      · rw [Array.getElem_setIfInBounds_ne h2 (Ne.symm e)]] at h1
def tr7 (x : Rv) : List Value := [.int .i64 x.tk, .int .i64 x.tm, .string x.tt, .bool x.tb, .int .i64 x.te, .slice x.a1 x.l1 x.c1, .slice x.a2 x.l2 x.c2]
theorem Bk.range {W : World} {t : TypeId} {q : Nat} {cs : Array Value} (h : Bk W t q cs) (o : Nat) (l : List Value) (hl : ∀ j u, l[j]? = some u → cs[o + j]? = some u) : W.rangeAt q o l := fun j u hu => h.c (o + j) u (hl j u hu)
theorem x_tr7 (x : Rv) : ∀ j u, (tr7 x)[j]? = some u → x.L.toArray[10 + j]? = some u := by
  intro j u hu
  have hj : j < 7 := (List.getElem?_eq_some_iff.1 hu).1
  rcases j with _ | _ | _ | _ | _ | _ | _ | j
  all_goals first
    | exact hu
    | omega
theorem Bk.sameL {W : World} {t : TypeId} {q : Nat} {cs : Array Value} : ∀ (l : List Value) (o : Nat) (W : World), Bk W t q cs → (∀ j u, l[j]? = some u → cs[o + j]? = some u) → Bk (W.setCells q o l) t q cs
  | [], _, _, h, _ => h
  | v :: l, o, W, h, hl => Bk.sameL (W := W) l (o + 1) _ (h.same o v (hl 0 v rfl)) (fun j u hu => by rw [show o + 1 + j = o + (j + 1) by omega]; exact hl (j + 1) u hu)
theorem Bk.othL {W : World} {t : TypeId} {q p : Nat} {cs : Array Value} (hp : q ≠ p) : ∀ (l : List Value) (o : Nat) (W : World), Bk W t q cs → Bk (W.setCells p o l) t q cs
  | [], _, _, h => h
  | v :: l, o, W, h => Bk.othL (W := W) hp l (o + 1) _ (h.oth hp o v)
theorem Bk.there {W : World} {t : TypeId} {q : Nat} {cs : Array Value} (h : Bk W t q cs) (o n : Nat) (hl : o + n ≤ cs.size) : W.there q o n := fun j hj =>
  ⟨by rw [h.c (o + j) _ (Array.getElem?_eq_getElem (by omega))]; rfl, h.f _⟩
theorem info35e : (Tryz.prog.info? 35).map (·.size) = some 7 := by kernel_rfl
set_option maxHeartbeats 4000000 in
theorem copied_any (x : Rv) (w : World) (hsh : x.sh.size ≤ 1000) (hnm : x.nm.size ≤ 1000) (hvt : x.vt.size ≤ 1000)
    (hS : ∀ V, Q w V → Calls Tryz.prog 26 #[.agg (tr7 x).toArray, .string x.sh, .string ⟨#[]⟩] V fun e V' => e = .returned (.agg (tr7 x).toArray) ∧ Q V V')
    (hR : ∀ V, Q w V → Calls Tryz.prog 27 #[.slice x.ra x.rl x.rc] V fun e V' => e = .returned (.slice x.ra x.rl x.rc) ∧ Q V V') :
    Calls Tryz.prog 21 #[x.v] w fun e V' => e = .returned x.v ∧ Q w V' := by
  rw [Rv.v_eq]
  have HS := hid hS
  have HR := hid hR
  have HC1 := hid (fun V => clone_any x.sh V (by omega))
  have HC2 := hid (fun V => clone_any x.nm V (by omega))
  have HC3 := hid (fun V => clone_any x.vt V (by omega))
  have HT := hid (t2_new w 40 40 x.L.toArray zero23)
  unfold zero23 at HT
  clear hS hR hsh hnm hvt
  go_enter Tryz.func21, Tryz.ntmps21
  go_upto_region 1 with fail
  generalize (w.alloc (.cells x.L.toArray 40)).alloc _ = w1 at HT ⊢
  generalize w.heap.size + 1 = b2 at HT ⊢
  obtain ⟨b1, hb1⟩ : ∃ b1, w.heap.size = b1 := ⟨_, rfl⟩
  have HL : Hid (w.heap.size ≤ b1) := hid (Nat.le_of_eq hb1)
  have HT9 : Hid (T2 w w1 40 40 x.L.toArray zero23 b1 b2) := hid (by have := HT.out; rw [hb1] at this; exact this)
  clear HT
  rw [hb1]
  refine wp_region_invw (by kernel_rfl) [3, 4, 5, 6, 7, 8, 9, 10] (SI w (fun W => Bk W 40 b1 x.L.toArray ∧ Bk W 40 b2 zero23) (fun W => True) (fun W => True) 11 iCop [3, 4, 5, 6, 7, 8, 9, 10] (vCop x b1)) (by kernel_rfl) (steps_list ⟨?o0, ?o1, ?o2, ?o3, ?o4, ?o5, ?o6, ?o7, ?o8, ?o9, trivial⟩)
    ⟨fun W W' q => ⟨fun h => ⟨h.1.on q, h.2.on q⟩, id, id⟩, by decide, HT9.out.q.drew, ⟨HT9.out.a.on (Q.refl _).drew, HT9.out.r.on (Q.refl _).drew⟩, fun _ => trivial, fun _ => trivial, fun _ _ h => absurd h Bool.false_ne_true⟩ ?rest
  case o0 =>
    intro L v W J hL hd
    refine opw_val rfl rfl rfl (by decide) (by simp only [frm, List.foldl_cons, List.foldl_nil, List.setIfInBounds_toArray, List.set_cons_zero, List.set_cons_succ]; (go_simp) <;> (first | exact ⟨⟨rfl, rfl⟩, rfl⟩ | exact ⟨rfl, rfl⟩ | with_reducible rfl)) ?_
    exact J.m (Q.refl _) 0 3 (by decide) (by decide)
  case o1 =>
    intro L v W J hL hd
    have h0 : v 3 = .pointer (some ⟨b1, 1, none⟩) := J.mv 3 (by decide) (hd 0 (by decide))
    have c0 := J.p.1.c 1 (.string x.sh) rfl
    refine opw_val rfl rfl rfl (by decide) (by simp only [frm, List.foldl_cons, List.foldl_nil, List.setIfInBounds_toArray, List.set_cons_zero, List.set_cons_succ]; (go_simp) <;> (first | exact ⟨⟨rfl, rfl⟩, rfl⟩ | exact ⟨rfl, rfl⟩ | with_reducible rfl)) ?_
    exact J.m (Q.refl _) 1 4 (by decide) (by decide)
  case o2 =>
    intro L v W J hL hd
    have h0 : v 4 = .string x.sh := J.mv 4 (by decide) (hd 1 (by decide))
    refine opw_call rfl rfl rfl (by decide) (by simp only [frm, List.foldl_cons, List.foldl_nil, List.setIfInBounds_toArray, List.set_cons_zero, List.set_cons_succ]; (go_simp) <;> (first | exact ⟨⟨rfl, rfl⟩, rfl⟩ | exact ⟨rfl, rfl⟩ | with_reducible rfl)) ?_
    refine (HC1.out _).mono ?_
    rintro e W1 ⟨rfl, q1⟩
    exact ⟨_, rfl, J.m q1 2 5 (by decide) (by decide)⟩
  case o3 =>
    intro L v W J hL hd
    refine opw_val rfl rfl rfl (by decide) (by simp only [frm, List.foldl_cons, List.foldl_nil, List.setIfInBounds_toArray, List.set_cons_zero, List.set_cons_succ]; (go_simp) <;> (first | exact ⟨⟨rfl, rfl⟩, rfl⟩ | exact ⟨rfl, rfl⟩ | with_reducible rfl)) ?_
    exact J.m (Q.refl _) 3 6 (by decide) (by decide)
  case o4 =>
    intro L v W J hL hd
    have h0 : v 6 = .pointer (some ⟨b1, 22, none⟩) := J.mv 6 (by decide) (hd 3 (by decide))
    have c0 := J.p.1.c 22 (.string x.nm) rfl
    refine opw_val rfl rfl rfl (by decide) (by simp only [frm, List.foldl_cons, List.foldl_nil, List.setIfInBounds_toArray, List.set_cons_zero, List.set_cons_succ]; (go_simp) <;> (first | exact ⟨⟨rfl, rfl⟩, rfl⟩ | exact ⟨rfl, rfl⟩ | with_reducible rfl)) ?_
    exact J.m (Q.refl _) 4 7 (by decide) (by decide)
  case o5 =>
    intro L v W J hL hd
    have h0 : v 7 = .string x.nm := J.mv 7 (by decide) (hd 4 (by decide))
    refine opw_call rfl rfl rfl (by decide) (by simp only [frm, List.foldl_cons, List.foldl_nil, List.setIfInBounds_toArray, List.set_cons_zero, List.set_cons_succ]; (go_simp) <;> (first | exact ⟨⟨rfl, rfl⟩, rfl⟩ | exact ⟨rfl, rfl⟩ | with_reducible rfl)) ?_
    refine (HC2.out _).mono ?_
    rintro e W1 ⟨rfl, q1⟩
    exact ⟨_, rfl, J.m q1 5 8 (by decide) (by decide)⟩
  case o6 =>
    intro L v W J hL hd
    refine opw_val rfl rfl rfl (by decide) (by simp only [frm, List.foldl_cons, List.foldl_nil, List.setIfInBounds_toArray, List.set_cons_zero, List.set_cons_succ]; (go_simp) <;> (first | exact ⟨⟨rfl, rfl⟩, rfl⟩ | exact ⟨rfl, rfl⟩ | with_reducible rfl)) ?_
    exact J.m (Q.refl _) 6 9 (by decide) (by decide)
  case o7 =>
    intro L v W J hL hd
    have h0 : v 9 = .pointer (some ⟨b1, 1, none⟩) := J.mv 9 (by decide) (hd 6 (by decide))
    have h1 : v 5 = .string x.sh := J.mv 5 (by decide) (hd 2 (by decide))
    have c0 := J.p.1.c 1 (.string x.sh) rfl
    have f0 := J.p.1.f 1
    refine opw_non rfl rfl rfl (by simp only [frm, List.foldl_cons, List.foldl_nil, List.setIfInBounds_toArray, List.set_cons_zero, List.set_cons_succ]; (go_simp) <;> (first | exact ⟨⟨rfl, rfl⟩, rfl⟩ | exact ⟨rfl, rfl⟩ | with_reducible rfl)) ?_
    exact J.same 7 (by decide) (by decide) (J.q.setCell HL.out _) ⟨J.p.1.same 1 _ rfl, J.p.2.oth (Ne.symm HT9.out.n1) _ _⟩ id id
  case o8 =>
    intro L v W J hL hd
    refine opw_val rfl rfl rfl (by decide) (by simp only [frm, List.foldl_cons, List.foldl_nil, List.setIfInBounds_toArray, List.set_cons_zero, List.set_cons_succ]; (go_simp) <;> (first | exact ⟨⟨rfl, rfl⟩, rfl⟩ | exact ⟨rfl, rfl⟩ | with_reducible rfl)) ?_
    exact J.m (Q.refl _) 8 10 (by decide) (by decide)
  case o9 =>
    intro L v W J hL hd
    have h0 : v 10 = .pointer (some ⟨b1, 22, none⟩) := J.mv 10 (by decide) (hd 8 (by decide))
    have h1 : v 8 = .string x.nm := J.mv 8 (by decide) (hd 5 (by decide))
    have c0 := J.p.1.c 22 (.string x.nm) rfl
    have f0 := J.p.1.f 22
    refine opw_non rfl rfl rfl (by simp only [frm, List.foldl_cons, List.foldl_nil, List.setIfInBounds_toArray, List.set_cons_zero, List.set_cons_succ]; (go_simp) <;> (first | exact ⟨⟨rfl, rfl⟩, rfl⟩ | exact ⟨rfl, rfl⟩ | with_reducible rfl)) ?_
    exact J.same 9 (by decide) (by decide) (J.q.setCell HL.out _) ⟨J.p.1.same 22 _ rfl, J.p.2.oth (Ne.symm HT9.out.n1) _ _⟩ id id
  intro L v w3 hall J
  have HT3 : Hid (T2 w w3 40 40 x.L.toArray zero23 b1 b2) := hid ⟨J.p.1, J.p.2, HT9.out.n1, by omega, HT9.out.l6, J.q⟩
  simp only [frm, List.foldl_cons, List.foldl_nil, List.setIfInBounds_toArray, List.set_cons_zero, List.set_cons_succ]
  clear hall J HT9
  have c7 := HT3.out.a.c 7 (.string x.vt) rfl
  have f7 := HT3.out.a.f 7
  go_upto_region 3 with (go_at_call 25; refine (HC3.out _).mono ?_; rintro e9 w4 ⟨rfl, q9⟩; have HT4 := hid (HT3.out.on q9); clear q9; have d7 := HT4.out.a.c 7 (.string x.vt) rfl; have g7 := HT4.out.a.f 7)
  have HT5 : Hid (T2 w (w4.setCell ⟨b1, 7, none⟩ (.string x.vt)) 40 40 x.L.toArray zero23 b1 b2) := hid ⟨HT4.out.a.same 7 _ rfl, HT4.out.r.oth (Ne.symm HT4.out.n1) _ _, HT4.out.n1, HT4.out.l, HT4.out.l6, HT4.out.q.setCell HT4.out.l _⟩
  clear HT3 HT4 c7 f7 d7 g7
  generalize w4.setCell ⟨b1, 7, none⟩ (.string x.vt) = w5 at HT5 ⊢
  have c1 := HT5.out.a.c 1 (.string x.sh) rfl
  go_upto_region 4 with (first
    | (with_reducible refine wpList_load_mid (by with_unfolding_all rfl) 35 _ (by with_unfolding_all rfl) b1 10 (by with_unfolding_all rfl) (tr7 x) _ (HT5.out.a.range 10 (tr7 x) (x_tr7 x)) Tryz.underlying35 (by with_unfolding_all rfl) (by with_unfolding_all exact info35e) ?_)
    | (go_at_call 26; refine (HS.out _ HT5.out.q).mono ?_; rintro e9 w6 ⟨rfl, q9⟩; have HT6 := hid (HT5.out.on q9); clear q9)
    | (with_reducible refine wpList_store_mid (by with_unfolding_all rfl) 35 _ _ (by with_unfolding_all rfl) b1 10 (tr7 x).toArray (by with_unfolding_all rfl) (by with_unfolding_all rfl) (by with_unfolding_all exact HT6.out.a.there 10 7 (by show 17 ≤ 23; decide)) (by with_unfolding_all exact info35e) (by with_unfolding_all rfl) ?_))
  have HT7 : Hid (T2 w (w6.setCells b1 10 (tr7 x)) 40 40 x.L.toArray zero23 b1 b2) := hid ⟨Bk.sameL (W := w6) (tr7 x) 10 w6 HT6.out.a (x_tr7 x), Bk.othL (W := w6) (Ne.symm HT6.out.n1) (tr7 x) 10 w6 HT6.out.r, HT6.out.n1, HT6.out.l, HT6.out.l6, Q.cells HT6.out.l _ _ HT6.out.q⟩
  clear HT5 HT6 c1
  generalize w6.setCells b1 10 _ = w7 at HT7 ⊢
  have c20 := HT7.out.a.c 20 (.slice x.ra x.rl x.rc) rfl
  go_upto_region 5 with (go_at_call 27; refine (HR.out _ HT7.out.q).mono ?_; rintro e9 w8 ⟨rfl, q9⟩; have HT8 := hid (HT7.out.on q9); clear q9; have d20 := HT8.out.a.c 20 (.slice x.ra x.rl x.rc) rfl; have g20 := HT8.out.a.f 20)
  have HT10 : Hid (T2 w (w8.setCell ⟨b1, 20, none⟩ (.slice x.ra x.rl x.rc)) 40 40 x.L.toArray zero23 b1 b2) := hid ⟨HT8.out.a.same 20 _ rfl, HT8.out.r.oth (Ne.symm HT8.out.n1) _ _, HT8.out.n1, HT8.out.l, HT8.out.l6, HT8.out.q.setCell HT8.out.l _⟩
  clear HT7 HT8 c20 d20 g20
  generalize w8.setCell ⟨b1, 20, none⟩ _ = w10 at HT10 ⊢
  go_wp2_with (first
    | (with_reducible refine wpList_load_row (by with_unfolding_all rfl) 40 _ (by with_unfolding_all rfl) b1 (by with_unfolding_all rfl) 40 x.L.toArray (0, 0) _ HT10.out.a.h Tryz.underlying40 (by with_unfolding_all rfl) (by with_unfolding_all exact info40) ?_)
    | (with_reducible refine wpList_store_row (by with_unfolding_all rfl) 40 _ _ (by with_unfolding_all rfl) b2 x.L.toArray (by with_unfolding_all rfl) (by with_unfolding_all rfl) 40 _ HT10.out.r.h (by with_unfolding_all exact info40) (by with_unfolding_all rfl) x.one ?_))
  refine bodyPost_ret (v := .agg x.L.toArray) (results_cell_row Tryz.results21 _ _ b2 40 x.L.toArray (0, 0) _ (by rfl) (HT10.out.r.row _).h Tryz.underlying40 rfl info40) rfl ?_
  exact ⟨rfl, HT10.out.q.row HT10.out.l6 _⟩
set_option maxHeartbeats 4000000 in
theorem mayNode_z (w : World) : Calls Tryz.prog 93 #[.agg z7a] w fun e V' => e = .returned (.bool false) ∧ Q w V' := by
  unfold z7a
  go_enter Tryz.func93, Tryz.ntmps93
  go_upto_region 1 with fail
  go_region
  all_goals
    go_wp2_with fail
    go_ret
    exact ⟨rfl, (((Q.refl _).alloc _).alloc _).drew⟩
theorem info35f : (Tryz.prog.info? 35).map (·.size) = some 7 := by kernel_rfl
set_option maxHeartbeats 1000000 in
theorem mayAll_z (w : World) : Calls Tryz.prog 66 #[.agg z7a] w fun e V' => e = .returned (.bool false) ∧ Q w V' := by
  have HC := hid (fun V => mayNode_z V)
  have HT := hid (bk_new w 35 z7a)
  have HQ : Hid (Q w (w.alloc (.cells z7a 35))) := hid ((Q.refl _).alloc _)
  unfold z7a at HC HT HQ ⊢
  go_enter Tryz.func66, Tryz.ntmps66
  go_upto_region 1 with fail
  generalize w.alloc _ = w1 at HT HQ ⊢
  generalize w.heap.size = b1 at HT ⊢
  go_wp2_with (first
    | (with_reducible refine wpList_load_row (by with_unfolding_all rfl) 35 _ (by with_unfolding_all rfl) b1 (by with_unfolding_all rfl) 35 _ (0, 0) _ HT.out.h Tryz.underlying35 (by with_unfolding_all rfl) (by with_unfolding_all exact info35f) ?_)
    | (go_at_call 93; refine (HC.out _).mono ?_; rintro e w2 ⟨rfl, q1⟩; have Q1 := hid (HQ.out.trans q1); clear q1))
  go_ret
  exact ⟨rfl, Q1.out⟩
set_option maxHeartbeats 1000000 in
theorem pmay_z (w : World) : Calls Tryz.prog 42 #[.agg z7a] w fun e V' => e = .returned (.bool false) ∧ Q w V' := by
  have HC := hid (fun V => fits_z V)
  have HD := hid (fun V => mayAll_z V)
  have HT := hid (bk_new w 35 z7a)
  have HQ : Hid (Q w (w.alloc (.cells z7a 35))) := hid ((Q.refl _).alloc _)
  unfold z7a at HC HD HT HQ ⊢
  go_enter Tryz.func42, Tryz.ntmps42
  go_upto_region 1 with fail
  generalize w.alloc _ = w1 at HT HQ ⊢
  generalize w.heap.size = b1 at HT ⊢
  go_wp2_with (first
    | (with_reducible refine wpList_load_row (by with_unfolding_all rfl) 35 _ (by with_unfolding_all rfl) b1 (by with_unfolding_all rfl) 35 _ (0, 0) _ HT.out.h Tryz.underlying35 (by with_unfolding_all rfl) (by with_unfolding_all exact info35f) ?_)
    | (go_at_call 65; refine (HC.out _).mono ?_; rintro e w2 ⟨rfl, q1⟩; have Q1 := hid (HQ.out.trans q1); have HT1 := hid (HT.out.on q1); clear q1; have d0 := HT1.out.c 0 _ rfl; have d1 := HT1.out.c 1 _ rfl; have d2 := HT1.out.c 2 _ rfl; have d3 := HT1.out.c 3 _ rfl; have d4 := HT1.out.c 4 _ rfl; have d5 := HT1.out.c 5 _ rfl; have d6 := HT1.out.c 6 _ rfl)
    | (go_at_call 66; refine (HD.out _).mono ?_; rintro e w3 ⟨rfl, q1⟩; have Q2 := hid (Q1.out.trans q1); clear q1))
  go_ret
  exact ⟨rfl, Q2.out⟩
set_option maxHeartbeats 1000000 in
theorem fitsap_z (b : Nat) (w : World) (h : Bk w 35 b z7a) : Calls Tryz.prog 60 #[.slice (some ⟨b, 0, none⟩) 1 1] w fun e V' => e = .returned (.bool true) ∧ Q w V' := by
  have HC := hid (fun V => pcount_z V)
  have HT := hid h
  clear h
  unfold z7a at HC HT
  go_enter Tryz.func60, Tryz.ntmps60
  go_wp2_with (first
    | (with_reducible refine wpList_load_row (by with_unfolding_all rfl) 35 _ (by with_unfolding_all rfl) b (by with_unfolding_all rfl) 35 _ (0, 0) _ HT.out.h Tryz.underlying35 (by with_unfolding_all rfl) (by with_unfolding_all exact info35f) ?_)
    | (go_at_call 86; refine (HC.out _).mono ?_; rintro e w2 ⟨rfl, q1⟩; have Q1 := hid q1; clear q1))
  go_ret
  exact ⟨rfl, Q1.out⟩
theorem Q.qp {a w w' : World} {P : Nat → Prop} (h : Q a w) (q : Qp P w w') (hp : ∀ i, P i → a.heap.size ≤ i) : Q a w' :=
  ⟨q.os.trans h.os, q.tape.trans h.tape, q.output.trans h.output, Nat.le_trans h.size q.size, fun i hi => (q.block i (Nat.lt_of_lt_of_le hi h.size) (fun e => by have := hp i e; omega)).trans (Below.block h i hi)⟩
theorem Qp.of {w w' : World} (q : Q w w') : Qp (fun _ => False) w w' := ⟨q.os, q.tape, q.output, q.size, fun i hi _ => Below.block q i hi⟩
theorem Bk.qp {W W' : World} {t : TypeId} {b : Nat} {cs : Array Value} {P : Nat → Prop} (h : Bk W t b cs) (q : Qp P W W') (hp : ¬ P b) : Bk W' t b cs := ⟨(q.block b h.l hp).trans h.h⟩
structure Cz (w W : World) (b2 b3 b4 b5 : Nat) (L : List Sc) : Prop where
  r : Bk W 35 b2 z7a
  l : Bk W 35 b3 z7a
  m : Bk W 106 b4 #[.bool true, .map none]
  q : Q w W
  l2 : w.heap.size ≤ b2
  l3 : w.heap.size ≤ b3
  n : b2 ≠ b3
  n4 : b4 ≠ b3
  kp : ∃ X ov, Wk W b5 X ov L ∧ ∀ i, X i → w.heap.size ≤ i ∧ i ≠ b2 ∧ i ≠ b3 ∧ i ≠ b4
theorem Cz.on {w W W' : World} {b2 b3 b4 b5 : Nat} {L : List Sc} (h : Cz w W b2 b3 b4 b5 L) (q : Q W W') : Cz w W' b2 b3 b4 b5 L := by
  obtain ⟨X, ov, hk, hx⟩ := h.kp
  exact ⟨h.r.on q, h.l.on q, h.m.on q, h.q.trans q, h.l2, h.l3, h.n, h.n4, X, ov, hk.qp (Qp.of q) (fun _ e => e.elim), hx⟩
theorem Cz.set {w W : World} {b2 b3 b4 b5 : Nat} {L : List Sc} (h : Cz w W b2 b3 b4 b5 L) (j : Nat) (d : Value) (hd : z7a[j]? = some d) : Cz w (W.setCell ⟨b3, j, none⟩ d) b2 b3 b4 b5 L := by
  obtain ⟨X, ov, hk, hx⟩ := h.kp
  exact ⟨h.r.oth h.n _ _, h.l.same _ _ hd, h.m.oth h.n4 _ _, h.q.setCell h.l3 _, h.l2, h.l3, h.n, h.n4, X, ov, hk.qp (P := fun i => i = b3) ((Qp.refl _ _).set _ _ (.inl rfl)) (fun i e x => (hx i x).2.2.1 e), hx⟩
theorem Cz.enter {w W : World} {b2 b3 b4 b5 : Nat} (h : Cz w W b2 b3 b4 b5 []) : Calls Tryz.prog 61 #[.pointer (some ⟨b5, 0, none⟩), .slice (some ⟨b3, 0, none⟩) 1 1] W fun e W' => (∃ u, e = .returned u) ∧ Cz w W' b2 b3 b4 b5 [(b3, 0, 1, 1)] := by
  obtain ⟨X, ov, hk, hx⟩ := h.kp
  refine (enter_any b5 X ov [] b3 0 1 1 W hk (by decide) (by decide) (by decide)).mono ?_
  rintro e W' ⟨hu, ov', h1, h2, h3⟩
  have s0 := h.q.size
  refine ⟨hu, h.r.qp h2 (fun e => (hx _ e).2.1 rfl), h.l.qp h2 (fun e => (hx _ e).2.2.1 rfl), h.m.qp h2 (fun e => (hx _ e).2.2.2 rfl), h.q.qp h2 (fun i e => (hx i e).1), h.l2, h.l3, h.n, h.n4, _, ov', h1, ?_⟩
  rintro i (e | e)
  · exact hx i e
  · rcases h3 i e with e | e
    · exact hx i e
    · have := h.r.l
      have := h.l.l
      have := h.m.l
      exact ⟨by omega, by omega, by omega, by omega⟩
theorem Cz.next1 {w W : World} {b2 b3 b4 b5 : Nat} (h : Cz w W b2 b3 b4 b5 [(b3, 0, 1, 1)]) : Calls Tryz.prog 62 #[.pointer (some ⟨b5, 0, none⟩)] W fun e W' => e = .returned (.pointer (some ⟨b3, 0, none⟩)) ∧ Cz w W' b2 b3 b4 b5 [] := by
  obtain ⟨X, ov, hk, hx⟩ := h.kp
  refine (next_one b5 X ov [] b3 0 1 W hk (by decide) (by decide)).mono ?_
  rintro e W' ⟨he, ⟨ov', h1⟩, h2⟩
  exact ⟨he, h.r.qp h2 (fun e => (hx _ e).2.1 rfl), h.l.qp h2 (fun e => (hx _ e).2.2.1 rfl), h.m.qp h2 (fun e => (hx _ e).2.2.2 rfl), h.q.qp h2 (fun i e => (hx i e).1), h.l2, h.l3, h.n, h.n4, X, ov', h1, hx⟩
theorem Cz.next0 {w W : World} {b2 b3 b4 b5 : Nat} (h : Cz w W b2 b3 b4 b5 []) : Calls Tryz.prog 62 #[.pointer (some ⟨b5, 0, none⟩)] W fun e W' => e = .returned (.pointer none) ∧ Cz w W' b2 b3 b4 b5 [] := by
  obtain ⟨X, ov, hk, hx⟩ := h.kp
  exact (next_nil b5 X ov W hk).mono fun e W' h1 => ⟨h1.1, by rw [h1.2]; exact h⟩
theorem cz_start {w w2 : World} {b1 b2 b3 : Nat} (h : T3 w w2 35 35 35 z7a z7a z7a b1 b2 b3) : Cz w ((w2.alloc (.cells #[.bool true, .map none] 106)).alloc (.cells #[.slice none 0 0] 109)) b2 b3 w2.heap.size (w2.heap.size + 1) [] := by
  have q : Q w2 ((w2.alloc (.cells #[.bool true, .map none] 106)).alloc (.cells #[.slice none 0 0] 109)) := ((Q.refl _).alloc _).alloc _
  have hb : Bk ((w2.alloc (.cells #[.bool true, .map none] 106)).alloc (.cells #[.slice none 0 0] 109)) 109 (w2.heap.size + 1) #[.slice none 0 0] := by
    have := bk_new (w2.alloc (.cells #[.bool true, .map none] 106)) 109 #[.slice none 0 0]
    rwa [show (w2.alloc (.cells #[.bool true, .map none] 106)).heap.size = w2.heap.size + 1 by simp] at this
  have l2 := h.b.l
  have l3 := h.r.l
  have s0 := h.q.size
  refine ⟨h.b.on q, h.r.on q, (bk_new w2 106 #[.bool true, .map none]).on ((Q.refl _).alloc _), h.q.trans q, h.lb, h.l6, h.n2, by omega, fun i => i = w2.heap.size + 1, .slice none 0 0, ⟨hb.c 0 _ rfl, hb.f 0, own_nil _, rfl, fun j e => by cases e⟩, ?_⟩
  rintro i rfl
  exact ⟨by omega, by omega, by omega, by omega⟩
set_option maxHeartbeats 4000000 in
theorem copied_z (w : World) : Calls Tryz.prog 41 #[.agg z7a] w fun e V' => e = .returned (.agg z7a) ∧ Q w V' := by
  have HF := hid (fun b V h => fitsap_z b V h)
  have HT := hid (t3_new w 35 35 35 z7a z7a z7a)
  unfold z7a at HT ⊢
  go_enter Tryz.func41, Tryz.ntmps41
  go_upto_region 2 with fail
  generalize ((w.alloc _).alloc _).alloc _ = w1 at HT ⊢
  generalize w.heap.size + 1 + 1 = b3 at HT ⊢
  generalize w.heap.size + 1 = b2 at HT ⊢
  obtain ⟨b1, hb1⟩ : ∃ b1, w.heap.size = b1 := ⟨_, rfl⟩
  have HT9 : Hid (T3 w w1 35 35 35 z7a z7a z7a b1 b2 b3) := hid (by have := HT.out; rw [hb1] at this; exact this)
  clear HT
  rw [hb1]
  go_upto_region 4 with (go_at_call 60; refine (HF.out _ _ HT9.out.r).mono ?_; rintro e9 w2 ⟨rfl, q2⟩; have HT2 := hid (HT9.out.on q2); clear q2)
  have HZ := hid (cz_start HT2.out)
  clear HT2 HT9 hb1 HF
  generalize (w2.alloc _).alloc _ = w3 at HZ ⊢
  generalize w2.heap.size + 1 = b5 at HZ ⊢
  generalize w2.heap.size = b4 at HZ ⊢
  go_wp2_with (first
    | (go_at_call 61; refine (HZ.out.enter).mono ?_; rintro e9 w4 ⟨⟨u9, rfl⟩, hz9⟩; have HZ4 := hid hz9; clear hz9)
    | (go_at_call 62; refine (HZ4.out.next1).mono ?_; rintro e9 w5 ⟨rfl, hz9⟩; have HZ5 := hid hz9; clear hz9))
  go_loopw [6, 7, 8] (fun v _ _ W => Hid (Cz w W b2 b3 b4 b5 []) ∧ (v = .pointer (some ⟨b3, 0, none⟩) ∨ v = .pointer none)) (fun v _ _ _ => match v with | .pointer (some _) => 1 | _ => 0)
  case atStart => exact ⟨HZ5, .inl rfl⟩
  case round =>
    obtain ⟨HC, rfl | rfl⟩ := hrel
    · clear HZ HZ4 HZ5
      have HCl := hid (fun V => clone_any ⟨#[]⟩ V (by decide))
      have c2 := HC.out.l.c 2 _ rfl
      have f2 := HC.out.l.f 2
      go_upto_region 9 with (go_at_call 25; refine (HCl.out _).mono ?_; rintro e9 w6 ⟨rfl, q9⟩; have HD := hid (HC.out.on q9); clear q9; have d2 := HD.out.l.c 2 _ rfl; have g2 := HD.out.l.f 2)
      have HE := hid (HD.out.set 2 (.string ⟨#[]⟩) rfl)
      clear HC HD c2 f2 d2 g2 HCl
      generalize w6.setCell _ _ = w7 at HE ⊢
      have HR := hid (fun V => copiedRefs_nil 0 V)
      have c5 := HE.out.l.c 5 _ rfl
      go_upto_region 10 with (go_at_call 63; refine (HR.out _).mono ?_; rintro e9 w8 ⟨rfl, q9⟩; have HF := hid (HE.out.on q9); clear q9; have d5 := HF.out.l.c 5 _ rfl; have g5 := HF.out.l.f 5)
      have HG := hid (HF.out.set 5 (.slice none 0 0) rfl)
      clear HE HF c5 d5 g5 HR
      generalize w8.setCell _ _ = w9 at HG ⊢
      have c6 := HG.out.l.c 6 _ rfl
      have HO := hid (fun V (h : Bk V 106 b4 #[.bool true, .map none]) => of_nil b4 0 0 V (h.c 0 _ rfl))
      go_upto_region 12 with (go_at_call 64; refine (HO.out _ HG.out.m).mono ?_; rintro e9 w10 ⟨rfl, q9⟩; have HH := hid (HG.out.on q9); clear q9; have d6 := HH.out.l.c 6 _ rfl; have g6 := HH.out.l.f 6)
      have HI := hid (HH.out.set 6 (.slice none 0 0) rfl)
      clear HG HH c6 d6 g6 HO
      generalize w10.setCell _ _ = w11 at HI ⊢
      have HN := hid (fun V => enter_nil b5 0 none V)
      go_wp2_with (first
        | (go_at_call 61; refine (HN.out _).mono ?_; rintro e9 w12 ⟨⟨u99, rfl⟩, rfl⟩; have HK := hid HI.out)
        | (go_at_call 62; refine (HK.out.next0).mono ?_; rintro e9 w13 ⟨rfl, hz9⟩; have HK5 := hid hz9; clear hz9))
      go_roundw
      case rel => exact ⟨HK5, .inr rfl⟩
      case measure => simp
    · clear HZ HZ4 HZ5
      have ct : HC.out.l.c 0 _ rfl = HC.out.l.c 0 _ rfl := rfl
      go_wp2_with (first
        | (with_reducible refine wpList_load_row (by with_unfolding_all rfl) 35 _ (by with_unfolding_all rfl) b3 (by with_unfolding_all rfl) 35 z7a (0, 0) _ HC.out.l.h Tryz.underlying35 (by with_unfolding_all rfl) (by with_unfolding_all exact info35f) ?_)
        | (with_reducible refine wpList_store_row (by with_unfolding_all rfl) 35 _ _ (by with_unfolding_all rfl) b2 z7a (by with_unfolding_all rfl) (by with_unfolding_all rfl) 35 _ HC.out.r.h (by with_unfolding_all exact info35f) (by with_unfolding_all rfl) (by with_unfolding_all kernel_rfl) ?_))
      refine bodyPost_ret (v := .agg _) (results_cell_row Tryz.results41 _ _ b2 35 _ (0, 0) _ (by rfl) (HC.out.r.row _).h Tryz.underlying35 rfl info35f) rfl ?_
      exact ⟨rfl, HC.out.q.row HC.out.l2 _⟩
set_option maxHeartbeats 1000000 in
theorem sheet_z (home : ByteArray) (w : World) : Calls Tryz.prog 26 #[.agg z7a, .string home, .string ⟨#[]⟩] w fun e V' => e = .returned (.agg z7a) ∧ Q w V' := by
  have HC := hid (fun V => copied_z V)
  have HM := hid (fun V => pmay_z V)
  have HT := hid (t2_new w 35 35 z7a z7a)
  unfold z7a at HC HM HT ⊢
  go_enter Tryz.func26, Tryz.ntmps26
  go_upto_region 1 with fail
  generalize (w.alloc _).alloc _ = w1 at HT ⊢
  generalize w.heap.size + 1 = b2 at HT ⊢
  obtain ⟨b1, hb1⟩ : ∃ b1, w.heap.size = b1 := ⟨_, rfl⟩
  have HT9 : Hid (T2 w w1 35 35 z7a z7a b1 b2) := hid (by have := HT.out; rw [hb1] at this; exact this)
  unfold z7a at HT9
  clear HT
  rw [hb1]
  go_upto_region 2 with (first
    | (with_reducible refine wpList_load_row (by with_unfolding_all rfl) 35 _ (by with_unfolding_all rfl) b1 (by with_unfolding_all rfl) 35 _ (0, 0) _ HT9.out.a.h Tryz.underlying35 (by with_unfolding_all rfl) (by with_unfolding_all exact info35f) ?_)
    | (go_at_call 41; refine (HC.out _).mono ?_; rintro e w2 ⟨rfl, q1⟩; have HT1 := hid (HT9.out.on q1); clear q1))
  have HB := hid (bk_new w2 35 #[.int .i64 0, .int .i64 0, .string ⟨#[]⟩, .bool false, .int .i64 0, .slice none 0 0, .slice none 0 0])
  have HT3 := hid (HT1.out.on ((Q.refl w2).alloc (.cells #[.int .i64 0, .int .i64 0, .string ⟨#[]⟩, .bool false, .int .i64 0, .slice none 0 0, .slice none 0 0] 35)))
  generalize w2.alloc _ = w3 at HB HT3 ⊢
  generalize w2.heap.size = b3 at HB ⊢
  go_wp2_with (first
    | (with_reducible refine wpList_load_row (by with_unfolding_all rfl) 35 _ (by with_unfolding_all rfl) b1 (by with_unfolding_all rfl) 35 _ (0, 0) _ HT3.out.a.h Tryz.underlying35 (by with_unfolding_all rfl) (by with_unfolding_all exact info35f) ?_)
    | (go_at_call 42; refine (HM.out _).mono ?_; rintro e w4 ⟨rfl, q1⟩; have HT4 := hid (HT3.out.on q1); have HB4 := hid (HB.out.on q1); clear q1)
    | (with_reducible refine wpList_load_row (by with_unfolding_all rfl) 35 _ (by with_unfolding_all rfl) b3 (by with_unfolding_all rfl) 35 _ (0, 0) _ HB4.out.h Tryz.underlying35 (by with_unfolding_all rfl) (by with_unfolding_all exact info35f) ?_)
    | (with_reducible refine wpList_store_row (by with_unfolding_all rfl) 35 _ _ (by with_unfolding_all rfl) b2 z7a (by with_unfolding_all rfl) (by with_unfolding_all rfl) 35 _ HT4.out.r.h (by with_unfolding_all exact info35f) (by with_unfolding_all rfl) (by with_unfolding_all kernel_rfl) ?_))
  refine bodyPost_ret (v := .agg _) (results_cell_row Tryz.results26 _ _ b2 35 _ (0, 0) _ (by rfl) (HT4.out.r.row _).h Tryz.underlying35 rfl info35f) rfl ?_
  exact ⟨rfl, HT4.out.q.row HT4.out.l6 _⟩
theorem sclone_nil (w : World) : Calls Tryz.prog 27 #[.slice none 0 0] w fun e V' => e = .returned (.slice none 0 0) ∧ Q w V' := by
  have qT : ∀ (w : World) (a : Option Addr) (n c n' c' : Nat), (binOp .eql 38 (.slice a n c) (.slice none n' c')).run Tryz.prog w = .ok (.bool a.isNone) w := fun w a n c n' c' => Lib.run_eql_slice_nil w _ _ a n c n' c' Tryz.underlying38
  go_enter Tryz.func27, Tryz.ntmps27
  go_wp2
  go_ret
  exact ⟨rfl, Q.refl _⟩
theorem so_copied (k : Int) (sh : ByteArray) (r c lk la lt : Int) (w : World) (hs : sh.size ≤ 1000) : Calls Tryz.prog 21 #[(so k sh r c lk la lt).v] w fun e V' => e = .returned (so k sh r c lk la lt).v ∧ Q w V' :=
  copied_any (so k sh r c lk la lt) w hs (Nat.zero_le 1000) (Nat.zero_le 1000) (fun V q => sheet_z sh V) (fun V q => sclone_nil V)
set_option maxHeartbeats 4000000 in
theorem told_any (x : Rv) (w : World) (hC : ∀ V, Q w V → Calls Tryz.prog 21 #[x.v] V fun e V' => e = .returned x.v ∧ Q V V') :
    Calls Tryz.prog 18 #[.agg (aL x).toArray] w fun e V' => e = .returned x.v ∧ Q w V' := by
  rw [Rv.v_eq] at hC ⊢
  have HC := hid hC
  have HT := hid (t2_new w 57 40 (aL x).toArray zero23)
  unfold zero23 at HT
  clear hC
  go_enter Tryz.func18, Tryz.ntmps18
  go_upto_region 1 with fail
  generalize (w.alloc _).alloc _ = w1 at HT ⊢
  generalize w.heap.size + 1 = b2 at HT ⊢
  obtain ⟨b1, hb1⟩ : ∃ b1, w.heap.size = b1 := ⟨_, rfl⟩
  have HT9 : Hid (T2 w w1 57 40 (aL x).toArray zero23 b1 b2) := hid (by have := HT.out; rw [hb1] at this; exact this)
  clear HT
  rw [hb1]
  go_wp2_with (first
    | (with_reducible refine wpList_load_mid (by with_unfolding_all rfl) 40 _ (by with_unfolding_all rfl) b1 0 (by with_unfolding_all rfl) x.L _ (HT9.out.a.range 0 x.L (fun j u hu => by rw [Nat.zero_add]; exact aL_get hu)) Tryz.underlying40 (by with_unfolding_all rfl) (by with_unfolding_all exact info40) ?_)
    | (go_at_call 21; refine (HC.out _ HT9.out.q).mono ?_; rintro e w2 ⟨rfl, q1⟩; have HT1 := hid (HT9.out.on q1); clear q1)
    | (with_reducible refine wpList_store_row (by with_unfolding_all rfl) 40 _ _ (by with_unfolding_all rfl) b2 x.L.toArray (by with_unfolding_all rfl) (by with_unfolding_all rfl) 40 _ HT1.out.r.h (by with_unfolding_all exact info40) (by with_unfolding_all rfl) x.one ?_))
  refine bodyPost_ret (v := .agg _) (results_cell_row Tryz.results18 _ _ b2 40 _ (0, 0) _ (by rfl) (HT1.out.r.row _).h Tryz.underlying40 rfl info40) rfl ?_
  exact ⟨rfl, HT1.out.q.row HT1.out.l6 _⟩
structure Ch (ch : List (Nat × Nat)) (L : Nat → Bool) : Prop where
  h : ∀ p ∈ ch, L p.1 = true → L p.2 = true
theorem Ch.m {ch : List (Nat × Nat)} {L : Nat → Bool} (h : Ch ch L) (i : Nat) (js : List Nat) (h1 : ∀ p ∈ ch, p.1 = i → p.2 ∈ js) (h2 : ∀ j ∈ js, L j = true) : Ch ch (ul L i) := ⟨fun p hp e => by
  by_cases e2 : p.2 = i
  · rw [e2]; exact if_pos rfl
  · rw [ul_ne9 e2]
    by_cases e1 : p.1 = i
    · exact h2 _ (h1 p hp e1)
    · rw [ul_ne9 e1] at e
      exact h.h p hp e⟩
theorem Ch.no {ch : List (Nat × Nat)} {L : Nat → Bool} (h : Ch ch L) {i j : Nat} (hp : (i, j) ∈ ch) (hj : L j = false) : L i = false := by
  cases e : L i with
  | false => rfl
  | true => exact absurd ((h.h _ hp e).symm.trans hj) (by decide)
def ln3 (x : Rv) : List Value := [.int .i64 x.lk, .int .i64 x.la, .int .i64 x.lt]
theorem x_ln3 (x : Rv) : ∀ j u, (ln3 x)[j]? = some u → x.L.toArray[17 + j]? = some u := by
  intro j u hu
  have hj : j < 3 := (List.getElem?_eq_some_iff.1 hu).1
  rcases j with _ | _ | _ | j
  all_goals first
    | exact hu
    | omega
theorem info28e : (Tryz.prog.info? 28).map (·.size) = some 3 := by kernel_rfl
def Rv.mv (x : Rv) (rows : Bool) (i : Int) : Rv := if rows then { x with row := i } else { x with col := i }
def Rv.at (x : Rv) (rows : Bool) : Int := if rows then x.row else x.col
def vShf (y : Rv) (b3 b4 off : Nat) (i i2 : Int) (t : Nat) : Value := if t = 42 then .pointer (some ⟨b4, 17, none⟩) else if t = 43 then .agg (ln3 y).toArray else if t = 46 then .int .i64 i else if t = 47 then .int .i64 i2 else .pointer (some ⟨b3, off, none⟩)
theorem l_ix (y : Rv) (i : Int) (V : World) : Calls Tryz.prog 56 #[.agg (ln3 y).toArray, .int .i64 i] V fun e V' => e = .returned (.int .i64 (L.ix y.lk y.la y.lt i)) ∧ Q V V' := L.index_any y.lk y.la y.lt i V
set_option maxHeartbeats 16000000 in
theorem shifted_same (x y : Rv) (p rows b : Bool) (w : World) (hk : x.k = 1) (hf : x.f = false) (hy : y.k = if rows then 2 else 3) (hs : x.sh = y.sh)
    (hm : ∀ V, Q w V → Calls Tryz.prog 22 #[(x.mv rows (L.ix y.lk y.la y.lt (x.at rows))).v] V fun e V' => e = .returned (.bool b) ∧ Q V V') :
    Calls Tryz.prog 37 #[x.v, y.v, .bool p] w fun e V' => e = .returned (.tuple #[.agg (if b then (x.mv rows (L.ix y.lk y.la y.lt (x.at rows))).L.toArray else zero23), .bool b]) ∧ Q w V' := by
  rw [Rv.v_eq, Rv.v_eq]
  rw [Rv.v_eq] at hm
  have HM := hid hm
  have HX := hid (fun V => l_ix y (x.at rows) V)
  have HT := hid (t3_new w 40 40 40 x.L.toArray y.L.toArray zero23)
  unfold zero23 at HT
  have es : (x.sh.toList == y.sh.toList) = true := by rw [hs]; simp
  have k1 : (x.k == 1) = true := by rw [hk]; rfl
  clear hm hs
  generalize hi2 : L.ix y.lk y.la y.lt (x.at rows) = i2 at HM HX ⊢
  generalize hi : x.at rows = i at HX
  obtain ⟨off, HO⟩ : ∃ off, Hid (off = if rows then 2 else 3) := ⟨_, hid rfl⟩
  have HOff : Hid (x.L.toArray[off]? = some (.int .i64 i) ∧ x.L.toArray.setIfInBounds off (.int .i64 i2) = (x.mv rows i2).L.toArray) := hid (by
    rw [HO.out, ← hi]
    cases rows <;> exact ⟨rfl, rfl⟩)
  clear hi hi2
  generalize x.mv rows i2 = x2 at HM HOff ⊢
  cases rows
  · simp only [if_true, if_false, Bool.false_eq_true] at hy HO
    have HO2 := HO.out
    subst HO2
    have ky2 : (y.k == 2) = decide (y.k = 2) := rfl
    have ky3 : (y.k == 3) = decide (y.k = 3) := rfl
    rw [hy] at ky2 ky3
    simp only [Int.reduceEq, decide_true, decide_false] at ky2 ky3
    go_enter Tryz.func37, Tryz.ntmps37
    go_upto_region 1 with fail
    generalize ((w.alloc (.cells x.L.toArray 40)).alloc (.cells y.L.toArray 40)).alloc _ = w3 at HT ⊢
    generalize w.heap.size + 1 + 1 = b6 at HT ⊢
    generalize w.heap.size + 1 = b4 at HT ⊢
    obtain ⟨b3, hb3⟩ : ∃ b3, w.heap.size = b3 := ⟨_, rfl⟩
    have HT9 : Hid (T3 w w3 40 40 40 x.L.toArray y.L.toArray zero23 b3 b4 b6) := hid (by have := HT.out; rw [hb3] at this; exact this)
    clear HT
    have HT := HT9
    clear HT9
    rw [hb3]
    have k4 := HT.out.b.c 0 (.int .i64 y.k) rfl
    have k3 := HT.out.a.c 0 (.int .i64 x.k) rfl
    have e3 := HT.out.a.c 1 (.string x.sh) rfl
    have e4 := HT.out.b.c 1 (.string y.sh) rfl
    have f3 := HT.out.a.c 4 (.bool x.f) rfl
    rw [hf] at f3
    rw [hy] at k4
    go_upto_region 10 with fail
    clear k4 k3 e3 e4 f3
    refine wp_region_invw (by kernel_rfl) [41, 42, 43, 44, 45, 46, 47, 48] (fun L v W => SI w (fun W => Bk W 40 b4 y.L.toArray ∧ Bk W 40 b6 zero23) (fun W => Bk W 40 b3 x.L.toArray) (fun W => Bk W 40 b3 x2.L.toArray) 8 (fun t => t - 41) [41, 42, 43, 44, 45, 46, 47, 48] (vShf y b3 b4 3 i i2) L v W ∧ Ch [(8, 6), (6, 5)] L) (by kernel_rfl) (steps_list ⟨?o0, ?o1, ?o2, ?o3, ?o4, ?o5, ?o6, ?o7, ?o8, trivial⟩)
      ⟨⟨fun W W' q => ⟨fun h => ⟨h.1.on q, h.2.on q⟩, fun h => h.on q, fun h => h.on q⟩, by decide, HT.out.q.drew, ⟨HT.out.b.on (Q.refl _).drew, HT.out.r.on (Q.refl _).drew⟩, fun _ => HT.out.a.on (Q.refl _).drew, fun h => absurd h Bool.false_ne_true, fun _ _ h => absurd h Bool.false_ne_true⟩, ⟨fun _ _ h => absurd h Bool.false_ne_true⟩⟩ ?rest
    case o0 =>
      intro L v W J hL hd
      refine opw_val rfl rfl rfl (by decide) (by simp only [frm, List.foldl_cons, List.foldl_nil, List.setIfInBounds_toArray, List.set_cons_zero, List.set_cons_succ]; (go_simp) <;> (first | exact ⟨⟨rfl, rfl⟩, rfl⟩ | exact ⟨rfl, rfl⟩ | with_reducible rfl)) ?_
      exact ⟨J.1.m (Q.refl _) 0 41 (by decide) (by decide), J.2.m 0 [] (by decide) (fun j hj => hd j (by revert hj; revert j; decide))⟩
    case o1 =>
      intro L v W J hL hd
      refine opw_val rfl rfl rfl (by decide) (by simp only [frm, List.foldl_cons, List.foldl_nil, List.setIfInBounds_toArray, List.set_cons_zero, List.set_cons_succ]; (go_simp) <;> (first | exact ⟨⟨rfl, rfl⟩, rfl⟩ | exact ⟨rfl, rfl⟩ | with_reducible rfl)) ?_
      exact ⟨J.1.m (Q.refl _) 1 42 (by decide) (by decide), J.2.m 1 [] (by decide) (fun j hj => hd j (by revert hj; revert j; decide))⟩
    case o2 =>
      intro L v W J hL hd
      have h42 : v 42 = .pointer (some ⟨b4, 17, none⟩) := J.1.mv 42 (by decide) (hd 1 (by decide))
      exact opw_lmid 28 (.tmp 42) b4 17 (ln3 y) _ rfl rfl rfl rfl (by decide) ((frm_eval (by decide) (by rfl)).trans h42) (J.1.p.1.range 17 (ln3 y) (x_ln3 y)) Tryz.underlying28 rfl info28e ⟨J.1.m (Q.refl _) 2 43 (by decide) (by decide), J.2.m 2 [] (by decide) (fun j hj => hd j (by revert hj; revert j; decide))⟩
    case o3 =>
      intro L v W J hL hd
      refine opw_val rfl rfl rfl (by decide) (by simp only [frm, List.foldl_cons, List.foldl_nil, List.setIfInBounds_toArray, List.set_cons_zero, List.set_cons_succ]; (go_simp) <;> (first | exact ⟨⟨rfl, rfl⟩, rfl⟩ | exact ⟨rfl, rfl⟩ | with_reducible rfl)) ?_
      exact ⟨J.1.m (Q.refl _) 3 44 (by decide) (by decide), J.2.m 3 [] (by decide) (fun j hj => hd j (by revert hj; revert j; decide))⟩
    case o4 =>
      intro L v W J hL hd
      have h44 : v 44 = .pointer (some ⟨b3, _, none⟩) := J.1.mv 44 (by decide) (hd 3 (by decide))
      refine opw_val rfl rfl rfl (by decide) (by simp only [frm, List.foldl_cons, List.foldl_nil, List.setIfInBounds_toArray, List.set_cons_zero, List.set_cons_succ]; (go_simp) <;> (first | exact ⟨⟨rfl, rfl⟩, rfl⟩ | exact ⟨rfl, rfl⟩ | with_reducible rfl)) ?_
      exact ⟨J.1.m (Q.refl _) 4 45 (by decide) (by decide), J.2.m 4 [] (by decide) (fun j hj => hd j (by revert hj; revert j; decide))⟩
    case o5 =>
      intro L v W J hL hd
      have h45 : v 45 = .pointer (some ⟨b3, _, none⟩) := J.1.mv 45 (by decide) (hd 4 (by decide))
      have c0 := (J.1.a (J.2.no (by decide) (J.2.no (i := 6) (by decide) hL))).c _ (.int .i64 i) HOff.out.1
      refine opw_val rfl rfl rfl (by decide) (by simp only [frm, List.foldl_cons, List.foldl_nil, List.setIfInBounds_toArray, List.set_cons_zero, List.set_cons_succ]; (go_simp) <;> (first | exact ⟨⟨rfl, rfl⟩, rfl⟩ | exact ⟨rfl, rfl⟩ | with_reducible rfl)) ?_
      exact ⟨J.1.m (Q.refl _) 5 46 (by decide) (by decide), J.2.m 5 [] (by decide) (fun j hj => hd j (by revert hj; revert j; decide))⟩
    case o6 =>
      intro L v W J hL hd
      have h43 : v 43 = .agg (ln3 y).toArray := J.1.mv 43 (by decide) (hd 2 (by decide))
      have h46 : v 46 = .int .i64 i := J.1.mv 46 (by decide) (hd 5 (by decide))
      refine opw_call rfl rfl rfl (by decide) (by simp only [frm, List.foldl_cons, List.foldl_nil, List.setIfInBounds_toArray, List.set_cons_zero, List.set_cons_succ]; (go_simp) <;> (first | exact ⟨⟨rfl, rfl⟩, rfl⟩ | exact ⟨rfl, rfl⟩ | with_reducible rfl)) ?_
      refine (HX.out _).mono ?_
      rintro e W1 ⟨rfl, q1⟩
      exact ⟨_, rfl, ⟨J.1.m (q1) 6 47 (by decide) (by decide), J.2.m 6 [5] (by decide) (fun j hj => hd j (by revert hj; revert j; decide))⟩⟩
    case o7 =>
      intro L v W J hL hd
      have h41 : v 41 = .pointer (some ⟨b3, _, none⟩) := J.1.mv 41 (by decide) (hd 0 (by decide))
      refine opw_val rfl rfl rfl (by decide) (by simp only [frm, List.foldl_cons, List.foldl_nil, List.setIfInBounds_toArray, List.set_cons_zero, List.set_cons_succ]; (go_simp) <;> (first | exact ⟨⟨rfl, rfl⟩, rfl⟩ | exact ⟨rfl, rfl⟩ | with_reducible rfl)) ?_
      exact ⟨J.1.m (Q.refl _) 7 48 (by decide) (by decide), J.2.m 7 [] (by decide) (fun j hj => hd j (by revert hj; revert j; decide))⟩
    case o8 =>
      intro L v W J hL hd
      have h48 : v 48 = .pointer (some ⟨b3, _, none⟩) := J.1.mv 48 (by decide) (hd 7 (by decide))
      have h47 : v 47 = .int .i64 i2 := J.1.mv 47 (by decide) (hd 6 (by decide))
      have hA := J.1.a hL
      have c0 := hA.c _ (.int .i64 i) HOff.out.1
      have f0 := hA.f 3
      refine opw_non rfl rfl rfl (by simp only [frm, List.foldl_cons, List.foldl_nil, List.setIfInBounds_toArray, List.set_cons_zero, List.set_cons_succ]; (go_simp) <;> (first | exact ⟨⟨rfl, rfl⟩, rfl⟩ | exact ⟨rfl, rfl⟩ | with_reducible rfl)) ?_
      exact ⟨J.1.put (J.1.q.setCell HT.out.l _) ⟨J.1.p.1.oth (Ne.symm HT.out.n3) _ _, J.1.p.2.oth (Ne.symm HT.out.n1) _ _⟩ (HOff.out.2 ▸ hA.put _ _), J.2.m 8 [6] (by decide) (fun j hj => hd j (by revert hj; revert j; decide))⟩
    intro L v w4 hall J
    have HT4 : Hid (T3 w w4 40 40 40 x2.L.toArray y.L.toArray zero23 b3 b4 b6) := hid ⟨J.1.b (hall 8 (by decide)), J.1.p.1, J.1.p.2, HT.out.n1, HT.out.n2, HT.out.n3, HT.out.l, HT.out.lb, HT.out.l6, J.1.q⟩
    simp only [frm, List.foldl_cons, List.foldl_nil, List.setIfInBounds_toArray, List.set_cons_zero, List.set_cons_succ]
    clear hall J HT HX HO HOff
    cases b
    all_goals
      go_wp2_with (first
        | (with_reducible refine wpList_load_row (by with_unfolding_all rfl) 40 _ (by with_unfolding_all rfl) b3 (by with_unfolding_all rfl) 40 x2.L.toArray (0, 0) _ HT4.out.a.h Tryz.underlying40 (by with_unfolding_all rfl) (by with_unfolding_all exact info40) ?_)
        | (go_at_call 22; refine (HM.out _ HT4.out.q).mono ?_; rintro e9 w5 ⟨rfl, q9⟩; have HT5 := hid (HT4.out.on q9); clear q9)
        | (with_reducible refine wpList_load_row (by with_unfolding_all rfl) 40 _ (by with_unfolding_all rfl) b3 (by with_unfolding_all rfl) 40 x2.L.toArray (0, 0) _ HT5.out.a.h Tryz.underlying40 (by with_unfolding_all rfl) (by with_unfolding_all exact info40) ?_)
        | (with_reducible refine wpl_buildt 40 _ (by with_unfolding_all rfl) (by with_unfolding_all rfl) zero23 (by with_unfolding_all kernel_rfl) ?_)
        | (with_reducible refine wpList_store_row (by with_unfolding_all rfl) 40 _ _ (by with_unfolding_all rfl) b6 zero23 (by with_unfolding_all rfl) (by with_unfolding_all rfl) 40 _ HT5.out.r.h (by with_unfolding_all exact info40) (by with_unfolding_all rfl) (by with_unfolding_all kernel_rfl) ?_)
        | (with_reducible refine wpList_store_row (by with_unfolding_all rfl) 40 _ _ (by with_unfolding_all rfl) b6 x2.L.toArray (by with_unfolding_all rfl) (by with_unfolding_all rfl) 40 _ HT5.out.r.h (by with_unfolding_all exact info40) (by with_unfolding_all rfl) x2.one ?_))
      refine bodyPost_ret (v := .tuple #[.agg _, .bool _]) (results_cell2 Tryz.results37 _ _ b6 40 _ (0, 0) _ (by rfl) (HT5.out.r.row _).h Tryz.underlying40 rfl info40) rfl ?_
      exact ⟨rfl, HT5.out.q.row HT5.out.l6 _⟩
  · simp only [if_true, if_false, Bool.false_eq_true] at hy HO
    have HO2 := HO.out
    subst HO2
    have ky2 : (y.k == 2) = decide (y.k = 2) := rfl
    have ky3 : (y.k == 3) = decide (y.k = 3) := rfl
    rw [hy] at ky2 ky3
    simp only [Int.reduceEq, decide_true, decide_false] at ky2 ky3
    go_enter Tryz.func37, Tryz.ntmps37
    go_upto_region 1 with fail
    generalize ((w.alloc (.cells x.L.toArray 40)).alloc (.cells y.L.toArray 40)).alloc _ = w3 at HT ⊢
    generalize w.heap.size + 1 + 1 = b6 at HT ⊢
    generalize w.heap.size + 1 = b4 at HT ⊢
    obtain ⟨b3, hb3⟩ : ∃ b3, w.heap.size = b3 := ⟨_, rfl⟩
    have HT9 : Hid (T3 w w3 40 40 40 x.L.toArray y.L.toArray zero23 b3 b4 b6) := hid (by have := HT.out; rw [hb3] at this; exact this)
    clear HT
    have HT := HT9
    clear HT9
    rw [hb3]
    have k4 := HT.out.b.c 0 (.int .i64 y.k) rfl
    have k3 := HT.out.a.c 0 (.int .i64 x.k) rfl
    have e3 := HT.out.a.c 1 (.string x.sh) rfl
    have e4 := HT.out.b.c 1 (.string y.sh) rfl
    have f3 := HT.out.a.c 4 (.bool x.f) rfl
    rw [hf] at f3
    rw [hy] at k4
    go_upto_region 10 with fail
    clear k4 k3 e3 e4 f3
    refine wp_region_invw (by kernel_rfl) [41, 42, 43, 44, 45, 46, 47, 48] (fun L v W => SI w (fun W => Bk W 40 b4 y.L.toArray ∧ Bk W 40 b6 zero23) (fun W => Bk W 40 b3 x.L.toArray) (fun W => Bk W 40 b3 x2.L.toArray) 8 (fun t => t - 41) [41, 42, 43, 44, 45, 46, 47, 48] (vShf y b3 b4 2 i i2) L v W ∧ Ch [(8, 6), (6, 5)] L) (by kernel_rfl) (steps_list ⟨?u0, ?u1, ?u2, ?u3, ?u4, ?u5, ?u6, ?u7, ?u8, trivial⟩)
      ⟨⟨fun W W' q => ⟨fun h => ⟨h.1.on q, h.2.on q⟩, fun h => h.on q, fun h => h.on q⟩, by decide, HT.out.q.drew, ⟨HT.out.b.on (Q.refl _).drew, HT.out.r.on (Q.refl _).drew⟩, fun _ => HT.out.a.on (Q.refl _).drew, fun h => absurd h Bool.false_ne_true, fun _ _ h => absurd h Bool.false_ne_true⟩, ⟨fun _ _ h => absurd h Bool.false_ne_true⟩⟩ ?restu
    case u0 =>
      intro L v W J hL hd
      refine opw_val rfl rfl rfl (by decide) (by simp only [frm, List.foldl_cons, List.foldl_nil, List.setIfInBounds_toArray, List.set_cons_zero, List.set_cons_succ]; (go_simp) <;> (first | exact ⟨⟨rfl, rfl⟩, rfl⟩ | exact ⟨rfl, rfl⟩ | with_reducible rfl)) ?_
      exact ⟨J.1.m (Q.refl _) 0 41 (by decide) (by decide), J.2.m 0 [] (by decide) (fun j hj => hd j (by revert hj; revert j; decide))⟩
    case u1 =>
      intro L v W J hL hd
      refine opw_val rfl rfl rfl (by decide) (by simp only [frm, List.foldl_cons, List.foldl_nil, List.setIfInBounds_toArray, List.set_cons_zero, List.set_cons_succ]; (go_simp) <;> (first | exact ⟨⟨rfl, rfl⟩, rfl⟩ | exact ⟨rfl, rfl⟩ | with_reducible rfl)) ?_
      exact ⟨J.1.m (Q.refl _) 1 42 (by decide) (by decide), J.2.m 1 [] (by decide) (fun j hj => hd j (by revert hj; revert j; decide))⟩
    case u2 =>
      intro L v W J hL hd
      have h42 : v 42 = .pointer (some ⟨b4, 17, none⟩) := J.1.mv 42 (by decide) (hd 1 (by decide))
      exact opw_lmid 28 (.tmp 42) b4 17 (ln3 y) _ rfl rfl rfl rfl (by decide) ((frm_eval (by decide) (by rfl)).trans h42) (J.1.p.1.range 17 (ln3 y) (x_ln3 y)) Tryz.underlying28 rfl info28e ⟨J.1.m (Q.refl _) 2 43 (by decide) (by decide), J.2.m 2 [] (by decide) (fun j hj => hd j (by revert hj; revert j; decide))⟩
    case u3 =>
      intro L v W J hL hd
      refine opw_val rfl rfl rfl (by decide) (by simp only [frm, List.foldl_cons, List.foldl_nil, List.setIfInBounds_toArray, List.set_cons_zero, List.set_cons_succ]; (go_simp) <;> (first | exact ⟨⟨rfl, rfl⟩, rfl⟩ | exact ⟨rfl, rfl⟩ | with_reducible rfl)) ?_
      exact ⟨J.1.m (Q.refl _) 3 44 (by decide) (by decide), J.2.m 3 [] (by decide) (fun j hj => hd j (by revert hj; revert j; decide))⟩
    case u4 =>
      intro L v W J hL hd
      have h44 : v 44 = .pointer (some ⟨b3, _, none⟩) := J.1.mv 44 (by decide) (hd 3 (by decide))
      refine opw_val rfl rfl rfl (by decide) (by simp only [frm, List.foldl_cons, List.foldl_nil, List.setIfInBounds_toArray, List.set_cons_zero, List.set_cons_succ]; (go_simp) <;> (first | exact ⟨⟨rfl, rfl⟩, rfl⟩ | exact ⟨rfl, rfl⟩ | with_reducible rfl)) ?_
      exact ⟨J.1.m (Q.refl _) 4 45 (by decide) (by decide), J.2.m 4 [] (by decide) (fun j hj => hd j (by revert hj; revert j; decide))⟩
    case u5 =>
      intro L v W J hL hd
      have h45 : v 45 = .pointer (some ⟨b3, _, none⟩) := J.1.mv 45 (by decide) (hd 4 (by decide))
      have c0 := (J.1.a (J.2.no (by decide) (J.2.no (i := 6) (by decide) hL))).c _ (.int .i64 i) HOff.out.1
      refine opw_val rfl rfl rfl (by decide) (by simp only [frm, List.foldl_cons, List.foldl_nil, List.setIfInBounds_toArray, List.set_cons_zero, List.set_cons_succ]; (go_simp) <;> (first | exact ⟨⟨rfl, rfl⟩, rfl⟩ | exact ⟨rfl, rfl⟩ | with_reducible rfl)) ?_
      exact ⟨J.1.m (Q.refl _) 5 46 (by decide) (by decide), J.2.m 5 [] (by decide) (fun j hj => hd j (by revert hj; revert j; decide))⟩
    case u6 =>
      intro L v W J hL hd
      have h43 : v 43 = .agg (ln3 y).toArray := J.1.mv 43 (by decide) (hd 2 (by decide))
      have h46 : v 46 = .int .i64 i := J.1.mv 46 (by decide) (hd 5 (by decide))
      refine opw_call rfl rfl rfl (by decide) (by simp only [frm, List.foldl_cons, List.foldl_nil, List.setIfInBounds_toArray, List.set_cons_zero, List.set_cons_succ]; (go_simp) <;> (first | exact ⟨⟨rfl, rfl⟩, rfl⟩ | exact ⟨rfl, rfl⟩ | with_reducible rfl)) ?_
      refine (HX.out _).mono ?_
      rintro e W1 ⟨rfl, q1⟩
      exact ⟨_, rfl, ⟨J.1.m (q1) 6 47 (by decide) (by decide), J.2.m 6 [5] (by decide) (fun j hj => hd j (by revert hj; revert j; decide))⟩⟩
    case u7 =>
      intro L v W J hL hd
      have h41 : v 41 = .pointer (some ⟨b3, _, none⟩) := J.1.mv 41 (by decide) (hd 0 (by decide))
      refine opw_val rfl rfl rfl (by decide) (by simp only [frm, List.foldl_cons, List.foldl_nil, List.setIfInBounds_toArray, List.set_cons_zero, List.set_cons_succ]; (go_simp) <;> (first | exact ⟨⟨rfl, rfl⟩, rfl⟩ | exact ⟨rfl, rfl⟩ | with_reducible rfl)) ?_
      exact ⟨J.1.m (Q.refl _) 7 48 (by decide) (by decide), J.2.m 7 [] (by decide) (fun j hj => hd j (by revert hj; revert j; decide))⟩
    case u8 =>
      intro L v W J hL hd
      have h48 : v 48 = .pointer (some ⟨b3, _, none⟩) := J.1.mv 48 (by decide) (hd 7 (by decide))
      have h47 : v 47 = .int .i64 i2 := J.1.mv 47 (by decide) (hd 6 (by decide))
      have hA := J.1.a hL
      have c0 := hA.c _ (.int .i64 i) HOff.out.1
      have f0 := hA.f 2
      refine opw_non rfl rfl rfl (by simp only [frm, List.foldl_cons, List.foldl_nil, List.setIfInBounds_toArray, List.set_cons_zero, List.set_cons_succ]; (go_simp) <;> (first | exact ⟨⟨rfl, rfl⟩, rfl⟩ | exact ⟨rfl, rfl⟩ | with_reducible rfl)) ?_
      exact ⟨J.1.put (J.1.q.setCell HT.out.l _) ⟨J.1.p.1.oth (Ne.symm HT.out.n3) _ _, J.1.p.2.oth (Ne.symm HT.out.n1) _ _⟩ (HOff.out.2 ▸ hA.put _ _), J.2.m 8 [6] (by decide) (fun j hj => hd j (by revert hj; revert j; decide))⟩
    intro L v w4 hall J
    have HT4 : Hid (T3 w w4 40 40 40 x2.L.toArray y.L.toArray zero23 b3 b4 b6) := hid ⟨J.1.b (hall 8 (by decide)), J.1.p.1, J.1.p.2, HT.out.n1, HT.out.n2, HT.out.n3, HT.out.l, HT.out.lb, HT.out.l6, J.1.q⟩
    simp only [frm, List.foldl_cons, List.foldl_nil, List.setIfInBounds_toArray, List.set_cons_zero, List.set_cons_succ]
    clear hall J HT HX HO HOff
    cases b
    all_goals
      go_wp2_with (first
        | (with_reducible refine wpList_load_row (by with_unfolding_all rfl) 40 _ (by with_unfolding_all rfl) b3 (by with_unfolding_all rfl) 40 x2.L.toArray (0, 0) _ HT4.out.a.h Tryz.underlying40 (by with_unfolding_all rfl) (by with_unfolding_all exact info40) ?_)
        | (go_at_call 22; refine (HM.out _ HT4.out.q).mono ?_; rintro e9 w5 ⟨rfl, q9⟩; have HT5 := hid (HT4.out.on q9); clear q9)
        | (with_reducible refine wpList_load_row (by with_unfolding_all rfl) 40 _ (by with_unfolding_all rfl) b3 (by with_unfolding_all rfl) 40 x2.L.toArray (0, 0) _ HT5.out.a.h Tryz.underlying40 (by with_unfolding_all rfl) (by with_unfolding_all exact info40) ?_)
        | (with_reducible refine wpl_buildt 40 _ (by with_unfolding_all rfl) (by with_unfolding_all rfl) zero23 (by with_unfolding_all kernel_rfl) ?_)
        | (with_reducible refine wpList_store_row (by with_unfolding_all rfl) 40 _ _ (by with_unfolding_all rfl) b6 zero23 (by with_unfolding_all rfl) (by with_unfolding_all rfl) 40 _ HT5.out.r.h (by with_unfolding_all exact info40) (by with_unfolding_all rfl) (by with_unfolding_all kernel_rfl) ?_)
        | (with_reducible refine wpList_store_row (by with_unfolding_all rfl) 40 _ _ (by with_unfolding_all rfl) b6 x2.L.toArray (by with_unfolding_all rfl) (by with_unfolding_all rfl) 40 _ HT5.out.r.h (by with_unfolding_all exact info40) (by with_unfolding_all rfl) x2.one ?_))
      refine bodyPost_ret (v := .tuple #[.agg _, .bool _]) (results_cell2 Tryz.results37 _ _ b6 40 _ (0, 0) _ (by rfl) (HT5.out.r.row _).h Tryz.underlying40 rfl info40) rfl ?_
      exact ⟨rfl, HT5.out.q.row HT5.out.l6 _⟩
end Go.Proofs.YthebfhdpofhmpaaGreatDoor
namespace Go.Proofs.YthebfhdpofhmpaaGreatDoor
open Go.RowKit
set_option maxHeartbeats 1000000 in
theorem behind_keep (x y : Rv) (p : Bool) (w : World) (h2 : (y.k == 2) = false) (h3 : (y.k == 3) = false) (h7 : (y.k == 7) = false) (hk : (x.k == y.k) = false) :
    Calls Tryz.prog 24 #[x.v, y.v, .bool p] w fun e V' => e = .returned (.tuple #[x.v, .bool true]) ∧ Q w V' := by
  rw [Rv.v_eq, Rv.v_eq]
  have HT := hid (t3_new w 40 40 40 x.L.toArray y.L.toArray zero23)
  unfold zero23 at HT
  cases p
  all_goals
    go_enter Tryz.func24, Tryz.ntmps24
    go_upto_region 1 with fail
    generalize ((w.alloc (.cells x.L.toArray 40)).alloc (.cells y.L.toArray 40)).alloc _ = w3 at HT ⊢
    generalize w.heap.size + 1 + 1 = b6 at HT ⊢
    generalize w.heap.size + 1 = b4 at HT ⊢
    generalize w.heap.size = b3 at HT ⊢
    have k4 := HT.out.b.c 0 (.int .i64 y.k) rfl
    have k3 := HT.out.a.c 0 (.int .i64 x.k) rfl
    have e3 := HT.out.a.c 1 (.string x.sh) rfl
    have e4 := HT.out.b.c 1 (.string y.sh) rfl
    go_wp2_with (first
      | (with_reducible refine wpList_load_row (by with_unfolding_all rfl) 40 _ (by with_unfolding_all rfl) b3 (by with_unfolding_all rfl) 40 x.L.toArray (0, 0) _ HT.out.a.h Tryz.underlying40 (by with_unfolding_all rfl) (by with_unfolding_all exact info40) ?_)
      | (with_reducible refine wpList_store_row (by with_unfolding_all rfl) 40 _ _ (by with_unfolding_all rfl) b6 x.L.toArray (by with_unfolding_all rfl) (by with_unfolding_all rfl) 40 _ HT.out.r.h (by with_unfolding_all exact info40) (by with_unfolding_all rfl) x.one ?_))
    refine bodyPost_ret (v := .tuple #[x.v, .bool true]) (results_cell2 Tryz.results24 _ _ b6 40 x.L.toArray (0, 0) _ (by rfl) (HT.out.r.row _).h Tryz.underlying40 rfl info40) rfl ?_
    exact ⟨rfl, HT.out.q.row HT.out.l6 _⟩
set_option maxHeartbeats 4000000 in
theorem shifted_far (x y : Rv) (p : Bool) (w : World) (hf : x.f = false) (hs : x.sh ≠ y.sh)
    (hm : ∀ V, Q w V → Calls Tryz.prog 22 #[x.v] V fun e V' => e = .returned (.bool true) ∧ Q V V') :
    Calls Tryz.prog 37 #[x.v, y.v, .bool p] w fun e V' => e = .returned (.tuple #[x.v, .bool true]) ∧ Q w V' := by
  rw [Rv.v_eq, Rv.v_eq]
  rw [Rv.v_eq] at hm
  have HM := hid hm
  have HT := hid (t3_new w 40 40 40 x.L.toArray y.L.toArray zero23)
  unfold zero23 at HT
  have es : (x.sh.toList == y.sh.toList) = false := by rw [Lib.toList_data, Lib.toList_data, beq_eq_false_iff_ne]; exact fun e => hs (ByteArray.ext (Array.toList_inj.1 e))
  clear hm hs
  go_enter Tryz.func37, Tryz.ntmps37
  go_upto_region 1 with fail
  generalize ((w.alloc (.cells x.L.toArray 40)).alloc (.cells y.L.toArray 40)).alloc _ = w3 at HT ⊢
  generalize w.heap.size + 1 + 1 = b6 at HT ⊢
  generalize w.heap.size + 1 = b4 at HT ⊢
  obtain ⟨b3, hb3⟩ : ∃ b3, w.heap.size = b3 := ⟨_, rfl⟩
  have HT9 : Hid (T3 w w3 40 40 40 x.L.toArray y.L.toArray zero23 b3 b4 b6) := hid (by have := HT.out; rw [hb3] at this; exact this)
  clear HT
  have HT := HT9
  clear HT9
  rw [hb3]
  have k4 := HT.out.b.c 0 (.int .i64 y.k) rfl
  have e3 := HT.out.a.c 1 (.string x.sh) rfl
  have e4 := HT.out.b.c 1 (.string y.sh) rfl
  have f3 := HT.out.a.c 4 (.bool x.f) rfl
  rw [hf] at f3
  go_wp2_with (first
    | (with_reducible refine wpList_load_row (by with_unfolding_all rfl) 40 _ (by with_unfolding_all rfl) b3 (by with_unfolding_all rfl) 40 x.L.toArray (0, 0) _ HT.out.a.h Tryz.underlying40 (by with_unfolding_all rfl) (by with_unfolding_all exact info40) ?_)
    | (go_at_call 22; refine (HM.out _ HT.out.q).mono ?_; rintro e9 w5 ⟨rfl, q9⟩; have HT5 := hid (HT.out.on q9); clear q9)
    | (with_reducible refine wpList_load_row (by with_unfolding_all rfl) 40 _ (by with_unfolding_all rfl) b3 (by with_unfolding_all rfl) 40 x.L.toArray (0, 0) _ HT5.out.a.h Tryz.underlying40 (by with_unfolding_all rfl) (by with_unfolding_all exact info40) ?_)
    | (with_reducible refine wpList_store_row (by with_unfolding_all rfl) 40 _ _ (by with_unfolding_all rfl) b6 x.L.toArray (by with_unfolding_all rfl) (by with_unfolding_all rfl) 40 _ HT5.out.r.h (by with_unfolding_all exact info40) (by with_unfolding_all rfl) x.one ?_))
  refine bodyPost_ret (v := .tuple #[.agg _, .bool _]) (results_cell2 Tryz.results37 _ _ b6 40 _ (0, 0) _ (by rfl) (HT5.out.r.row _).h Tryz.underlying40 rfl info40) rfl ?_
  exact ⟨rfl, HT5.out.q.row HT5.out.l6 _⟩
theorem zero_one : zero23.all (·.oneCell') = true := by kernel_rfl
set_option maxHeartbeats 4000000 in
theorem bereft_same (x : Rv) (w : World) :
    Calls Tryz.prog 38 #[x.v, .string x.sh] w fun e V' => e = .returned (.tuple #[.agg zero23, .bool false]) ∧ Q w V' := by
  rw [Rv.v_eq]
  have HT := hid (t2_new w 40 40 x.L.toArray zero23)
  unfold zero23 at HT
  have es : (x.sh.toList == x.sh.toList) = true := by simp
  go_enter Tryz.func38, Tryz.ntmps38
  go_upto_region 1 with fail
  generalize (w.alloc (.cells x.L.toArray 40)).alloc _ = w1 at HT ⊢
  generalize w.heap.size + 1 = b2 at HT ⊢
  obtain ⟨b1, hb1⟩ : ∃ b1, w.heap.size = b1 := ⟨_, rfl⟩
  have HT9 : Hid (T2 w w1 40 40 x.L.toArray zero23 b1 b2) := hid (by have := HT.out; rw [hb1] at this; exact this)
  clear HT
  rw [hb1]
  have e3 := HT9.out.a.c 1 (.string x.sh) rfl
  go_wp2_with (first
    | (with_reducible refine wpl_buildt 40 _ (by with_unfolding_all rfl) (by with_unfolding_all rfl) zero23 (by with_unfolding_all kernel_rfl) ?_)
    | (with_reducible refine wpList_store_row (by with_unfolding_all rfl) 40 _ _ (by with_unfolding_all rfl) b2 zero23 (by with_unfolding_all rfl) (by with_unfolding_all rfl) 40 _ HT9.out.r.h (by with_unfolding_all exact info40) (by with_unfolding_all rfl) zero_one ?_))
  refine bodyPost_ret (v := .tuple #[.agg _, .bool _]) (results_cell2 Tryz.results38 _ _ b2 40 _ (0, 0) _ (by rfl) (HT9.out.r.row _).h Tryz.underlying40 rfl info40) rfl ?_
  exact ⟨rfl, HT9.out.q.row HT9.out.l6 _⟩
set_option maxHeartbeats 4000000 in
theorem behind_line (x y z : Rv) (p b : Bool) (w : World) (hy : y.k = 2 ∨ y.k = 3)
    (hS : ∀ V, Q w V → Calls Tryz.prog 37 #[x.v, y.v, .bool p] V fun e V' => e = .returned (.tuple #[z.v, .bool b]) ∧ Q V V') :
    Calls Tryz.prog 24 #[x.v, y.v, .bool p] w fun e V' => e = .returned (.tuple #[z.v, .bool b]) ∧ Q w V' := by
  rw [Rv.v_eq, Rv.v_eq, Rv.v_eq]
  rw [Rv.v_eq, Rv.v_eq, Rv.v_eq] at hS
  have HS := hid hS
  have HT := hid (t3_new w 40 40 40 x.L.toArray y.L.toArray zero23)
  unfold zero23 at HT
  clear hS
  rcases hy with hy | hy
  all_goals
    go_enter Tryz.func24, Tryz.ntmps24
    go_upto_region 1 with fail
    generalize ((w.alloc (.cells x.L.toArray 40)).alloc (.cells y.L.toArray 40)).alloc _ = w3 at HT ⊢
    generalize w.heap.size + 1 + 1 = b6 at HT ⊢
    generalize w.heap.size + 1 = b4 at HT ⊢
    obtain ⟨b3, hb3⟩ : ∃ b3, w.heap.size = b3 := ⟨_, rfl⟩
    have HT9 : Hid (T3 w w3 40 40 40 x.L.toArray y.L.toArray zero23 b3 b4 b6) := hid (by have := HT.out; rw [hb3] at this; exact this)
    clear HT
    have HT := HT9
    clear HT9
    rw [hb3]
    have k4 := HT.out.b.c 0 (.int .i64 y.k) rfl
    rw [hy] at k4
    go_wp2_with (first
      | (with_reducible refine wpList_load_row (by with_unfolding_all rfl) 40 _ (by with_unfolding_all rfl) b3 (by with_unfolding_all rfl) 40 x.L.toArray (0, 0) _ HT.out.a.h Tryz.underlying40 (by with_unfolding_all rfl) (by with_unfolding_all exact info40) ?_)
      | (with_reducible refine wpList_load_row (by with_unfolding_all rfl) 40 _ (by with_unfolding_all rfl) b4 (by with_unfolding_all rfl) 40 y.L.toArray (0, 0) _ HT.out.b.h Tryz.underlying40 (by with_unfolding_all rfl) (by with_unfolding_all exact info40) ?_)
      | (go_at_call 37; refine (HS.out _ HT.out.q).mono ?_; rintro e9 w5 ⟨rfl, q9⟩; have HT5 := hid (HT.out.on q9); clear q9)
      | (with_reducible refine wpList_store_row (by with_unfolding_all rfl) 40 _ _ (by with_unfolding_all rfl) b6 z.L.toArray (by with_unfolding_all rfl) (by with_unfolding_all rfl) 40 _ HT5.out.r.h (by with_unfolding_all exact info40) (by with_unfolding_all rfl) z.one ?_))
    refine bodyPost_ret (v := .tuple #[.agg _, .bool _]) (results_cell2 Tryz.results24 _ _ b6 40 _ (0, 0) _ (by rfl) (HT5.out.r.row _).h Tryz.underlying40 rfl info40) rfl ?_
    exact ⟨rfl, HT5.out.q.row HT5.out.l6 _⟩
set_option maxHeartbeats 4000000 in
theorem behind_rem (x y : Rv) (p : Bool) (w : World) (hy : y.k = 7) (hs : x.sh = y.sh) :
    Calls Tryz.prog 24 #[x.v, y.v, .bool p] w fun e V' => e = .returned (.tuple #[.agg zero23, .bool false]) ∧ Q w V' := by
  have HB := hid (fun V => bereft_same x V)
  rw [hs] at HB
  rw [Rv.v_eq] at HB
  rw [Rv.v_eq, Rv.v_eq]
  have HT := hid (t3_new w 40 40 40 x.L.toArray y.L.toArray zero23)
  unfold zero23 at HT
  clear hs
  go_enter Tryz.func24, Tryz.ntmps24
  go_upto_region 1 with fail
  generalize ((w.alloc (.cells x.L.toArray 40)).alloc (.cells y.L.toArray 40)).alloc _ = w3 at HT ⊢
  generalize w.heap.size + 1 + 1 = b6 at HT ⊢
  generalize w.heap.size + 1 = b4 at HT ⊢
  obtain ⟨b3, hb3⟩ : ∃ b3, w.heap.size = b3 := ⟨_, rfl⟩
  have HT9 : Hid (T3 w w3 40 40 40 x.L.toArray y.L.toArray zero23 b3 b4 b6) := hid (by have := HT.out; rw [hb3] at this; exact this)
  clear HT
  have HT := HT9
  clear HT9
  rw [hb3]
  have k4 := HT.out.b.c 0 (.int .i64 y.k) rfl
  have e4 := HT.out.b.c 1 (.string y.sh) rfl
  rw [hy] at k4
  go_wp2_with (first
    | (with_reducible refine wpList_load_row (by with_unfolding_all rfl) 40 _ (by with_unfolding_all rfl) b3 (by with_unfolding_all rfl) 40 x.L.toArray (0, 0) _ HT.out.a.h Tryz.underlying40 (by with_unfolding_all rfl) (by with_unfolding_all exact info40) ?_)
    | (go_at_call 38; refine (HB.out _).mono ?_; rintro e9 w5 ⟨rfl, q9⟩; have HT5 := hid (HT.out.on q9); clear q9)
    | (with_reducible refine wpList_store_row (by with_unfolding_all rfl) 40 _ _ (by with_unfolding_all rfl) b6 zero23 (by with_unfolding_all rfl) (by with_unfolding_all rfl) 40 _ HT5.out.r.h (by with_unfolding_all exact info40) (by with_unfolding_all rfl) zero_one ?_))
  refine bodyPost_ret (v := .tuple #[.agg _, .bool _]) (results_cell2 Tryz.results24 _ _ b6 40 _ (0, 0) _ (by rfl) (HT5.out.r.row _).h Tryz.underlying40 rfl info40) rfl ?_
  exact ⟨rfl, HT5.out.q.row HT5.out.l6 _⟩
end Go.Proofs.YthebfhdpofhmpaaGreatDoor
namespace Go.Proofs.YthebfhdpofhmpaaGreatDoor
open Go.RowKit
open IV
def aB (x : Rv) (b : Bool) : List Value := x.L ++ [.bool b]
theorem aB_one (x : Rv) (b : Bool) : (aB x b).toArray.all (·.oneCell') = true := by
  cases x
  unfold aB Rv.L
  cases b <;> kernel_rfl
theorem aB_get {x : Rv} {b : Bool} {j : Nat} {u : Value} (h : x.L[j]? = some u) : (aB x b).toArray[j]? = some u := by
  have hj := (List.getElem?_eq_some_iff.1 h).1
  rw [List.getElem?_toArray]
  unfold aB
  rw [List.getElem?_append_left hj]
  exact h
theorem built_b (x : Rv) (b : Bool) : Tryz.prog.built 57 [(0, .agg x.L.toArray), (1, .bool b)] = some (aB x b).toArray := by
  cases x
  unfold aB Rv.L
  cases b <;> kernel_rfl
set_option maxHeartbeats 4000000 in
theorem abehind_any (x y z : Rv) (p b : Bool) (w : World) (hB : ∀ V, Q w V → Calls Tryz.prog 24 #[x.v, y.v, .bool p] V fun e V' => e = .returned (.tuple #[z.v, .bool b]) ∧ Q V V') :
    Calls Tryz.prog 20 #[.agg (aL x).toArray, .agg (aL y).toArray, .bool p] w fun e V' => e = .returned (.tuple #[.agg (aB z b).toArray, .bool b]) ∧ Q w V' := by
  rw [Rv.v_eq, Rv.v_eq, Rv.v_eq] at hB
  have HB := hid hB
  have HT := hid (t3_new w 57 57 57 (aL x).toArray (aL y).toArray zero24)
  unfold zero24 at HT
  clear hB
  go_enter Tryz.func20, Tryz.ntmps20
  go_upto_region 1 with fail
  generalize ((w.alloc _).alloc _).alloc _ = w3 at HT ⊢
  generalize w.heap.size + 1 + 1 = b6 at HT ⊢
  generalize w.heap.size + 1 = b4 at HT ⊢
  obtain ⟨b3, hb3⟩ : ∃ b3, w.heap.size = b3 := ⟨_, rfl⟩
  have HT9 : Hid (T3 w w3 57 57 57 (aL x).toArray (aL y).toArray zero24 b3 b4 b6) := hid (by have := HT.out; rw [hb3] at this; exact this)
  clear HT
  rw [hb3]
  have c3 := HT9.out.a.c 23 (.bool true) rfl
  have c4 := HT9.out.b.c 23 (.bool true) rfl
  go_upto_region 4 with (first
    | (with_reducible refine wpList_load_mid (by with_unfolding_all rfl) 40 _ (by with_unfolding_all rfl) b3 0 (by with_unfolding_all rfl) x.L _ (HT9.out.a.range 0 x.L (fun j u hu => by rw [Nat.zero_add]; exact aL_get hu)) Tryz.underlying40 (by with_unfolding_all rfl) (by with_unfolding_all exact info40) ?_)
    | (with_reducible refine wpList_load_mid (by with_unfolding_all rfl) 40 _ (by with_unfolding_all rfl) b4 0 (by with_unfolding_all rfl) y.L _ (HT9.out.b.range 0 y.L (fun j u hu => by rw [Nat.zero_add]; exact aL_get hu)) Tryz.underlying40 (by with_unfolding_all rfl) (by with_unfolding_all exact info40) ?_)
    | (go_at_call 24; refine (HB.out _ HT9.out.q).mono ?_; rintro e w4 ⟨rfl, q1⟩; have HT1 := hid (HT9.out.on q1); clear q1)
    | (with_reducible refine wpl_lay w4 _ _ (by with_unfolding_all rfl) (by with_unfolding_all rfl) z (by with_unfolding_all rfl) (by with_unfolding_all rfl) (by with_unfolding_all rfl) ?_))
  have HC := hid (bk_new w4 40 z.L.toArray)
  have HT2 := hid (HT1.out.on ((Q.refl w4).alloc (.cells z.L.toArray 40)))
  clear HT1 HT9 c3 c4 hb3
  generalize w4.alloc (.cells z.L.toArray 40) = w5 at HC HT2 ⊢
  generalize w4.heap.size = b8 at HC ⊢
  go_wp2_with (first
    | (with_reducible refine wpList_load_row (by with_unfolding_all rfl) 40 _ (by with_unfolding_all rfl) b8 (by with_unfolding_all rfl) 40 _ (0, 0) _ HC.out.h Tryz.underlying40 (by with_unfolding_all rfl) (by with_unfolding_all exact info40) ?_)
    | (with_reducible refine wpl_buildt 57 _ (by with_unfolding_all rfl) (by with_unfolding_all rfl) (aB z b).toArray (by with_unfolding_all exact built_b z b) ?_)
    | (with_reducible refine wpList_store_row (by with_unfolding_all rfl) 57 _ _ (by with_unfolding_all rfl) b6 (aB z b).toArray (by with_unfolding_all rfl) (by with_unfolding_all rfl) 57 _ HT2.out.r.h (by with_unfolding_all exact info57) (by with_unfolding_all rfl) (aB_one z b) ?_))
  refine bodyPost_ret (v := .tuple #[.agg _, .bool _]) (results_cell2 Tryz.results20 _ _ b6 57 _ (0, 0) _ (by rfl) (HT2.out.r.row _).h Tryz.underlying57 rfl info57) rfl ?_
  exact ⟨rfl, HT2.out.q.row HT2.out.l6 _⟩
def vAsk (x : Rv) (t : Nat) : Value := if t = 3 then .agg x.L.toArray else if t = 4 then .agg x.L.toArray else if t = 5 then .bool true else .agg (aL x).toArray
set_option maxHeartbeats 4000000 in
theorem ask_any (x : Rv) (w : World) (hm : ∀ V, Q w V → Calls Tryz.prog 22 #[x.v] V fun e V' => e = .returned (.bool true) ∧ Q V V') :
    Calls Tryz.prog 15 #[x.v] w fun e V' => e = .returned (.agg (aL x).toArray) ∧ Q w V' := by
  rw [Rv.v_eq] at hm ⊢
  have HM := hid hm
  have HT := hid (t2_new w 40 57 x.L.toArray zero24)
  unfold zero24 at HT
  clear hm
  go_enter Tryz.func15, Tryz.ntmps15
  go_upto_region 1 with fail
  generalize (w.alloc (.cells x.L.toArray 40)).alloc _ = w1 at HT ⊢
  generalize w.heap.size + 1 = b2 at HT ⊢
  have hb6 := hid HT.out.l6
  obtain ⟨b1, hb1⟩ : ∃ b1, w.heap.size = b1 := ⟨_, rfl⟩
  have HT9 : Hid (T2 w w1 40 57 x.L.toArray zero24 b1 b2) := hid (by have := HT.out; rw [hb1] at this; exact this)
  clear HT
  rw [hb1]
  refine wp_region_invw (by kernel_rfl) [3, 4, 5, 6] (SI w (fun W => Bk W 40 b1 x.L.toArray) (fun W => Bk W 57 b2 zero24) (fun W => Bk W 57 b2 (aL x).toArray) 4 (fun t => t - 3) [3, 4, 5, 6] (vAsk x)) (by kernel_rfl) (steps_list ⟨?o0, ?o1, ?o2, ?o3, ?o4, trivial⟩)
    ⟨fun W W' q => ⟨fun h => h.on q, fun h => h.on q, fun h => h.on q⟩, by decide, HT9.out.q.drew, HT9.out.a.on (Q.refl _).drew, fun _ => HT9.out.r.on (Q.refl _).drew, fun h => absurd h Bool.false_ne_true, fun _ _ h => absurd h Bool.false_ne_true⟩ ?rest
  case o0 =>
    intro L v W J hL hd
    exact opw_lrow 40 _ b1 40 x.L.toArray _ rfl rfl rfl rfl (by decide) (by rfl) J.p rfl Tryz.underlying40 info40 (J.m (Q.refl _) 0 3 (by decide) (by decide))
  case o1 =>
    intro L v W J hL hd
    exact opw_lrow 40 _ b1 40 x.L.toArray _ rfl rfl rfl rfl (by decide) (by rfl) J.p rfl Tryz.underlying40 info40 (J.m (Q.refl _) 1 4 (by decide) (by decide))
  case o2 =>
    intro L v W J hL hd
    have h4 : v 4 = .agg x.L.toArray := J.mv 4 (by decide) (hd 1 (by decide))
    refine opw_call rfl rfl rfl (by decide) (by simp only [frm, List.foldl_cons, List.foldl_nil, List.setIfInBounds_toArray, List.set_cons_zero, List.set_cons_succ]; (go_simp) <;> (first | exact ⟨⟨rfl, rfl⟩, rfl⟩ | exact ⟨rfl, rfl⟩ | with_reducible rfl)) ?_
    refine (HM.out _ J.q).mono ?_
    rintro e W1 ⟨rfl, q1⟩
    exact ⟨_, rfl, J.m q1 2 5 (by decide) (by decide)⟩
  case o3 =>
    intro L v W J hL hd
    have h3 : v 3 = .agg x.L.toArray := J.mv 3 (by decide) (hd 0 (by decide))
    have h5 : v 5 = .bool true := J.mv 5 (by decide) (hd 2 (by decide))
    refine opw_bld 57 _ (aL x).toArray rfl rfl rfl rfl (by decide) ?_ (J.m (Q.refl _) 3 6 (by decide) (by decide))
    simp only [frm, List.foldl_cons, List.foldl_nil, List.setIfInBounds_toArray, List.set_cons_zero, List.set_cons_succ]
    go_simp
    exact built_a x
  case o4 =>
    intro L v W J hL hd
    have h6 : v 6 = .agg (aL x).toArray := J.mv 6 (by decide) (hd 3 (by decide))
    exact opw_srow 57 _ _ b2 57 zero24 (aL x).toArray rfl rfl rfl rfl (by rfl) ((frm_eval (by decide) (by rfl)).trans h6) (J.a hL) info57 rfl (aL_one x) (J.put (J.q.row HT9.out.l6 _) (J.p.orow HT9.out.n1 _) ((J.a hL).row _))
  intro L v w3 hall J
  have B2 := hid (J.b (hall 4 (by decide)))
  have Q3 := hid J.q
  simp only [frm, List.foldl_cons, List.foldl_nil, List.setIfInBounds_toArray, List.set_cons_zero, List.set_cons_succ]
  clear hall J
  go_wp2_with fail
  refine bodyPost_ret (v := .agg (aL x).toArray) (results_cell_row Tryz.results15 _ _ b2 57 (aL x).toArray (0, 0) _ (by rfl) B2.out.h Tryz.underlying57 rfl info57) rfl ?_
  exact ⟨rfl, Q3.out⟩
end Go.Proofs.YthebfhdpofhmpaaGreatDoor
namespace Go.Proofs.YthebfhdpofhmpaaGreatDoor
open Go.RowKit
theorem info35y : (Tryz.prog.info? 40).map (fun i => (i.zero, i.size, i.bytes)) = some (some (.agg zero23), 23, 264) := by kernel_rfl
theorem wpl_bs1 {w : World} {ops : Array Oper} {rest : List Oper} {o : Oper} {a : Act} {Q : Exit → Act → World → Prop} (t e : TypeId) (k : Nat) (z C : Array Value) (hu : Tryz.prog.underlying t = some (.slice e)) (hi : (Tryz.prog.info? e).map (fun i => (i.zero, i.size)) = some (some (.agg z), k)) (hk : 0 < k ∧ k ≤ 1000)
    (parts : Array (Nat × Operand)) (ho : o.op = .buildSlice t 1 parts) (hw : Region.wanted o (yielded ops a.tmps) = true)
    (hf : Instr.fill (fun i => some (i * k, k)) ((Array.range (1 * k)).map (z[· % z.size]!)) (parts.map fun (i, x) => (i, a.eval x)).toList = some C)
    (h : wpList Tryz.prog ops Q rest (a.put o.dst (.slice (some ⟨w.heap.size, 0, none⟩) 1 1)) (w.alloc (.cells C e))) : wpList Tryz.prog ops Q (o :: rest) a w := by
  simp only [wpList, hw, if_true]
  cases hq : Tryz.prog.info? e with
  | none =>
    rw [hq] at hi
    cases hi
  | some ie =>
    rw [hq] at hi
    simp only [Option.map_some, Option.some.injEq, Prod.mk.injEq] at hi
    obtain ⟨hz, hs⟩ := hi
    refine .inl (wp_buildSlice t e 1 parts ho C ie (.agg z) hu hq hz (by rw [hs]; omega) (by rw [hs]; omega) ?_ h)
    rw [hs]
    exact hf
end Go.Proofs.YthebfhdpofhmpaaGreatDoor
