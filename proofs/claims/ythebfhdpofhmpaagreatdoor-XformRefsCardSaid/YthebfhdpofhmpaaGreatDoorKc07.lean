/- Package value: which values may be; Small functions of show . -/
import Derived.Test.YthebfhdpofhmpaaGreatDoorKc05
import Derived.Test.YthebfhdpofhmpaaGreatDoorKc00
import Derived.Shelf.Strconv.Itoa4
import Derived.Test.YthebfhdpofhmpaaGreatDoorProg
import Derived.Deep.RegionHeld3
import Derived.Deep.CutBlock
import Derived.Deep.CutRange
import Derived.BigQuiet
import Derived.Maps.AppendAt
import Derived.Shelf.Unicode.ValidAny
import Derived.Handy
import Derived.Laws.AppendOwn
import Derived.Laws.AppendOwnNone
import Derived.Laws.OwnMore
import Derived.OneCell
import Derived.Shelf.Small.Wraps
import Derived.Shelf.Strconv.Itoa0
import Derived.Shelf.Strconv.Itoa1
import Derived.Shelf.LaysM
import Derived.Shelf.Strconv.Clone
import Derived.Shelf.Strings.Search1
import Derived.Shelf.Strings.Search2
import Derived.Shelf.Strings.Cut
import Derived.Shelf.Strings.Shaped
import Derived.Shelf.Strings.Prefix
import Derived.Laws.Bits64b
import Derived.Deep.RegionHeld
import Derived.Test.YthebfhdpofhmpaaGreatDoorCards
import Derived.Test.YthebfhdpofhmpaaGreatDoorTie
import Derived.ProofKit
import Derived.OpenShut
import Derived.Deep.DeepHandedRow
import Derived.Lib.LaidTab
import Derived.Lib.LaidU8T
import Derived.Stop.LaidErr
set_option linter.unusedVariables false
set_option linter.unusedSimpArgs false
set_option maxRecDepth 100000
set_option maxHeartbeats 8000000
namespace Go.Proofs.YthebfhdpofhmpaaGreatDoor.V
open Go.RowKit
def mayB (k n : Int) (t : List UInt8) (b : Bool) (e : Int) : Bool :=
  if k = 0 then decide (n = 0) && (decide (t = []) && (!b && decide (e = 0)))
  else if k = 1 then decide (t = []) && (!b && decide (e = 0))
  else if k = 2 then decide (n = 0) && (!b && (decide (e = 0) && mtB t))
  else if k = 3 then decide (n = 0) && (decide (t = []) && decide (e = 0))
  else if k = 4 then decide (n = 0) && (decide (t = []) && (!b && (decide (1 ≤ e) && decide (e ≤ 7))))
  else false
theorem mtB_nil : mtB [] = true := by rfl
theorem enL_ne {e : Int} (h1 : 1 ≤ e) (h7 : e ≤ 7) : enL e ≠ [] := by
  rcases (by omega : e = 1 ∨ e = 2 ∨ e = 3 ∨ e = 4 ∨ e = 5 ∨ e = 6 ∨ e = 7) with rfl | rfl | rfl | rfl | rfl | rfl | rfl <;> decide
theorem mayB_other {k n : Int} {t : List UInt8} {b : Bool} {e : Int} (h0 : k ≠ 0) (h1 : k ≠ 1) (h2 : k ≠ 2) (h3 : k ≠ 3) (h4 : k ≠ 4) : false = mayB k n t b e := by
  unfold mayB
  rw [if_neg h0, if_neg h1, if_neg h2, if_neg h3, if_neg h4]
set_option maxHeartbeats 2000000 in
theorem may_other (k n : Int) (t : ByteArray) (b : Bool) (e : Int) (w : World) (h0 : k ≠ 0) (h1 : k ≠ 1) (h2 : k ≠ 2) (h3 : k ≠ 3) (h4 : k ≠ 4) :
    Calls Tryz.prog 46 #[vv k n t b e] w fun x w' => x = .returned (.bool (mayB k n t.toList b e)) ∧ Q w w' := by
  have H := hid (mayB_other (n := n) (t := t.toList) (b := b) (e := e) h0 h1 h2 h3 h4)
  unfold vv
  go_enter Tryz.func46, Tryz.ntmps46
  go_wp2
  go_ret
  exact ⟨vret_bool H.out, ((Q.refl _).alloc _).alloc _⟩
theorem box5 {w w1 : World} {v0 v1 v2 v3 v4 : Value} {o : Obj} (q : Q ((w.alloc (.cells #[v0, v1, v2, v3, v4] 31)).alloc o) w1) :
    w1.cell? ⟨w.heap.size, 0, none⟩ = some v0 ∧ w1.cell? ⟨w.heap.size, 4, none⟩ = some v4 := by
  have h1 : w.heap.size < (w.alloc (.cells #[v0, v1, v2, v3, v4] 31)).heap.size := by rw [World.size_alloc]; omega
  have hlt : w.heap.size < ((w.alloc (.cells #[v0, v1, v2, v3, v4] 31)).alloc o).heap.size := by rw [World.size_alloc]; omega
  have e1 := fun j => Q.cell (o := j) ((Q.refl (w.alloc (.cells #[v0, v1, v2, v3, v4] 31))).alloc o) h1
  refine ⟨?_, ?_⟩
  · rw [q.cell hlt, e1, World.cell?_alloc_new]; rfl
  · rw [q.cell hlt, e1, World.cell?_alloc_new]; rfl
theorem q2 {w w1 : World} {o o' : Obj} (q : Q ((w.alloc o).alloc o') w1) : Q w w1 := (((Q.refl _).alloc _).alloc _).trans q
set_option maxHeartbeats 2000000 in
theorem may_0 (n : Int) (t : ByteArray) (b : Bool) (e : Int) (w : World) (hw : Std w) (hs : (t.size : Int) ≤ 9223372036854775000) :
    Calls Tryz.prog 46 #[vv 0 n t b e] w fun x w' => x = .returned (.bool (mayB 0 n t.toList b e)) ∧ Q w w' := by
  have HW := hid hw
  have HM : mtB t.data.toList = mtB t.toList := by rw [Lib.toList_data]
  clear hw
  unfold vv
  go_enter Tryz.func46, Tryz.ntmps46
  go_wp2_with (go_at_call 68; refine (mayText_any t _ (HW.out.on (((Q.refl _).alloc _).alloc _)) hs).mono ?_; rintro x w1 ⟨rfl, q1⟩; obtain ⟨g0, g4⟩ := box5 q1)
  all_goals go_ret
  all_goals first
    | exact ⟨vret_bool (by simp [mayB, mtB_nil, *]), ((Q.refl _).alloc _).alloc _⟩
    | exact ⟨vret_bool (by simp_all [mayB, mtB_nil]), q2 q1⟩
set_option maxHeartbeats 2000000 in
theorem may_1 (n : Int) (t : ByteArray) (b : Bool) (e : Int) (w : World) (hw : Std w) (hs : (t.size : Int) ≤ 9223372036854775000) :
    Calls Tryz.prog 46 #[vv 1 n t b e] w fun x w' => x = .returned (.bool (mayB 1 n t.toList b e)) ∧ Q w w' := by
  have HW := hid hw
  have HM : mtB t.data.toList = mtB t.toList := by rw [Lib.toList_data]
  clear hw
  unfold vv
  go_enter Tryz.func46, Tryz.ntmps46
  go_wp2_with (go_at_call 68; refine (mayText_any t _ (HW.out.on (((Q.refl _).alloc _).alloc _)) hs).mono ?_; rintro x w1 ⟨rfl, q1⟩; obtain ⟨g0, g4⟩ := box5 q1)
  all_goals go_ret
  all_goals first
    | exact ⟨vret_bool (by simp [mayB, mtB_nil, *]), ((Q.refl _).alloc _).alloc _⟩
    | exact ⟨vret_bool (by simp_all [mayB, mtB_nil]), q2 q1⟩
set_option maxHeartbeats 2000000 in
theorem may_2 (n : Int) (t : ByteArray) (b : Bool) (e : Int) (w : World) (hw : Std w) (hs : (t.size : Int) ≤ 9223372036854775000) :
    Calls Tryz.prog 46 #[vv 2 n t b e] w fun x w' => x = .returned (.bool (mayB 2 n t.toList b e)) ∧ Q w w' := by
  have HW := hid hw
  have HM : mtB t.data.toList = mtB t.toList := by rw [Lib.toList_data]
  clear hw
  unfold vv
  go_enter Tryz.func46, Tryz.ntmps46
  go_wp2_with (go_at_call 68; refine (mayText_any t _ (HW.out.on (((Q.refl _).alloc _).alloc _)) hs).mono ?_; rintro x w1 ⟨rfl, q1⟩; obtain ⟨g0, g4⟩ := box5 q1)
  all_goals go_ret
  all_goals first
    | exact ⟨vret_bool (by simp [mayB, mtB_nil, *]), ((Q.refl _).alloc _).alloc _⟩
    | exact ⟨vret_bool (by simp_all [mayB, mtB_nil]), q2 q1⟩
set_option maxHeartbeats 2000000 in
theorem may_3 (n : Int) (t : ByteArray) (b : Bool) (e : Int) (w : World) (hw : Std w) (hs : (t.size : Int) ≤ 9223372036854775000) :
    Calls Tryz.prog 46 #[vv 3 n t b e] w fun x w' => x = .returned (.bool (mayB 3 n t.toList b e)) ∧ Q w w' := by
  have HW := hid hw
  have HM : mtB t.data.toList = mtB t.toList := by rw [Lib.toList_data]
  clear hw
  unfold vv
  go_enter Tryz.func46, Tryz.ntmps46
  go_wp2_with (go_at_call 68; refine (mayText_any t _ (HW.out.on (((Q.refl _).alloc _).alloc _)) hs).mono ?_; rintro x w1 ⟨rfl, q1⟩; obtain ⟨g0, g4⟩ := box5 q1)
  all_goals go_ret
  all_goals first
    | exact ⟨vret_bool (by simp [mayB, mtB_nil, *]), ((Q.refl _).alloc _).alloc _⟩
    | exact ⟨vret_bool (by simp_all [mayB, mtB_nil]), q2 q1⟩
set_option maxHeartbeats 2000000 in
theorem may_4 (n : Int) (t : ByteArray) (b : Bool) (e : Int) (w : World) (hw : Std w) (hs : (t.size : Int) ≤ 9223372036854775000) :
    Calls Tryz.prog 46 #[vv 4 n t b e] w fun x w' => x = .returned (.bool (mayB 4 n t.toList b e)) ∧ Q w w' := by
  have HW := hid hw
  have HM : mtB t.data.toList = mtB t.toList := by rw [Lib.toList_data]
  obtain ⟨X, eX⟩ : ∃ X : ByteArray, X = ⟨(enL e).toArray⟩ := ⟨_, rfl⟩
  have hX : X.toList = enL e := by rw [Lib.toList_data, eX]
  have HN := hid (fun w h => name_any e w h)
  rw [← eX] at HN
  clear hw eX
  by_cases he : 1 ≤ e ∧ e ≤ 7
  · have hx : (X.toList == []) = false := by rw [hX]; have := enL_ne he.1 he.2; cases h : enL e; exact absurd h this; rfl
    have h1 := he.1
    have h7 := he.2
    have d1 : decide (1 ≤ e) = true := by simpa using h1
    have d7 : decide (e ≤ 7) = true := by simpa using h7
    clear he hX
    unfold vv
    go_enter Tryz.func46, Tryz.ntmps46
    go_wp2_with (first | (go_at_call 68; refine (mayText_any t _ (HW.out.on (((Q.refl _).alloc _).alloc _)) hs).mono ?_; rintro x w1 ⟨rfl, q1⟩; obtain ⟨g0, g4⟩ := box5 q1) | (go_at_call 69; refine (HN.out _ (HW.out.on (q2 q1)).nam).mono ?_; rintro x w1 ⟨rfl, rfl⟩))
    all_goals go_ret
    all_goals first
      | exact ⟨vret_bool (by simp [mayB, mtB_nil, *]), ((Q.refl _).alloc _).alloc _⟩
      | exact ⟨vret_bool (by simp_all [mayB, mtB_nil]), q2 q1⟩
  · have hx : (X.toList == []) = true := by rw [hX, ← enL_no (by omega)]; rfl
    have d1 : (decide (1 ≤ e) && decide (e ≤ 7)) = false := by simp; omega
    clear he hX
    unfold vv
    go_enter Tryz.func46, Tryz.ntmps46
    go_wp2_with (first | (go_at_call 68; refine (mayText_any t _ (HW.out.on (((Q.refl _).alloc _).alloc _)) hs).mono ?_; rintro x w1 ⟨rfl, q1⟩; obtain ⟨g0, g4⟩ := box5 q1) | (go_at_call 69; refine (HN.out _ (HW.out.on (q2 q1)).nam).mono ?_; rintro x w1 ⟨rfl, rfl⟩))
    all_goals go_ret
    all_goals first
      | exact ⟨vret_bool (by unfold mayB; rw [d1]; simp), ((Q.refl _).alloc _).alloc _⟩
      | exact ⟨vret_bool (by unfold mayB; rw [d1]; simp), q2 q1⟩
theorem may_any (k n : Int) (t : ByteArray) (b : Bool) (e : Int) (w : World) (hw : Std w) (hs : (t.size : Int) ≤ 9223372036854775000) :
    Calls Tryz.prog 46 #[vv k n t b e] w fun x w' => x = .returned (.bool (mayB k n t.toList b e)) ∧ Q w w' := by
  by_cases h0 : k = 0
  · subst h0; exact may_0 n t b e w hw hs
  by_cases h1 : k = 1
  · subst h1; exact may_1 n t b e w hw hs
  by_cases h2 : k = 2
  · subst h2; exact may_2 n t b e w hw hs
  by_cases h3 : k = 3
  · subst h3; exact may_3 n t b e w hw hs
  by_cases h4 : k = 4
  · subst h4; exact may_4 n t b e w hw hs
  exact may_other k n t b e w h0 h1 h2 h3 h4
end Go.Proofs.YthebfhdpofhmpaaGreatDoor.V
namespace Go.Proofs.YthebfhdpofhmpaaGreatDoor
open Go.RowKit
def vx (k n : Int) (t : ByteArray) (b : Bool) (e : Int) : Value := .agg #[.int .i64 k, .int .i64 n, .string t, .bool b, .int .i64 e]
structure Cb (W : World) (q : Nat) (cs : List Value) : Prop where
  c : ∀ j u, cs[j]? = some u → W.cell? ⟨q, j, none⟩ = some u
  f : ∀ j, W.frozen? ⟨q, j, none⟩ = false
  l : q < W.heap.size
theorem Cb.on {W W' : World} {q : Nat} {cs : List Value} (h : Cb W q cs) (x : Q W W') : Cb W' q cs :=
  ⟨fun j u hu => (x.cell h.l).trans (h.c j u hu), fun j => (Below.frozen x h.l).trans (h.f j), x.lt h.l⟩
theorem cb_new (W : World) (cs : List Value) (t : TypeId) : Cb (W.alloc (.cells cs.toArray t)) W.heap.size cs :=
  ⟨fun j u hu => by rw [World.cell?_alloc_at _ _ _ _ rfl]; simpa using hu, fun j => by simp [World.frozen?_alloc_new], by simp⟩
def Gd (W : World) : Prop := Std W ∧ ∀ W', Q W W' → Lib.TabIs Tryz.prog W' "internal/strconv.uint64pow10" .u64 Lib.pow10Tab
theorem Gd.on {W W' : World} (h : Gd W) (q : Q W W') : Gd W' := ⟨h.1.on q, fun W2 q2 => h.2 W2 (q.trans q2)⟩
theorem rd_zero (W : World) : Rd W zeroE (.agg #[.int .i64 0, .int .i64 0, .string ⟨#[]⟩, .bool false, .int .i64 0, .slice none 0 0, .slice none 0 0]) := Rdg.rd _ _ (rdg_zero (fun _ => True) W)
set_option maxHeartbeats 2000000 in
theorem veq_same (k n : Int) (t : ByteArray) (b : Bool) (e : Int) (w : World) : Calls Tryz.prog 45 #[vx k n t b e, vx k n t b e] w fun x w' => x = .returned (.bool true) ∧ Q w w' := by
  unfold vx
  have e0 : (k == k) = true := by simp
  have e1 : (n == n) = true := by simp
  have e2 : (t.toList == t.toList) = true := by simp
  have e3 : (b == b) = true := by simp
  have e4 : (e == e) = true := by simp
  go_enter Tryz.func45, Tryz.ntmps45
  go_wp2_with fail
  go_ret
  exact ⟨rfl, ((Q.refl _).alloc _).alloc _⟩
set_option maxHeartbeats 2000000 in
theorem veq_kind (k n : Int) (t : ByteArray) (b : Bool) (e : Int) (k' n' : Int) (t' : ByteArray) (b' : Bool) (e' : Int) (w : World) (h : k ≠ k') : Calls Tryz.prog 45 #[vx k n t b e, vx k' n' t' b' e'] w fun x w' => x = .returned (.bool false) ∧ Q w w' := by
  unfold vx
  have e0 : (k == k') = false := by simpa using h
  clear h
  go_enter Tryz.func45, Tryz.ntmps45
  go_wp2_with fail
  go_ret
  exact ⟨rfl, ((Q.refl _).alloc _).alloc _⟩
theorem bytes_of (s : ByteArray) : (⟨s.data.toList.toArray⟩ : ByteArray) = s := by
  apply ByteArray.ext
  simp
set_option maxHeartbeats 2000000 in
theorem print_plain (sh SH SA NM SB DC X1 X2 X3 X4 : ByteArray) (row col : Int) (ra ca : Bool) (w : World) (hz : sh.size ≤ 1000)
    (HM1 : Hid (∀ W, Calls Tryz.prog 150 #[.int .i64 row] W fun e w' => e = .returned (.bool true) ∧ w' = W))
    (HM2 : Hid (∀ W, Calls Tryz.prog 150 #[.int .i64 col] W fun e w' => e = .returned (.bool true) ∧ w' = W))
    (hE : (sh.toList == []) = true)
    (HS1 : Hid (∀ W, Calls Tryz.prog 151 #[.bool ca] W fun e w' => e = .returned (.string SA) ∧ w' = W))
    (HS2 : Hid (∀ W, Calls Tryz.prog 151 #[.bool ra] W fun e w' => e = .returned (.string SB) ∧ w' = W))
    (HN : Hid (∀ W, Calls Tryz.prog 152 #[.int .i64 col] W fun e w' => e = .returned (.string NM) ∧ Q W w'))
    (HF : Hid (∀ W, Q w W → Calls Tryz.prog 153 #[.int .i64 (row + 1), .int .i64 10] W fun e w' => e = .returned (.string DC) ∧ Q W w'))
    (r0 : 0 ≤ row) (r1 : row < 2199023255552) (hc : Cat ⟨#[]⟩ SA NM SB DC X1 X2 X3 X4) :
    Calls Tryz.prog 128 #[rv sh row col ra ca] w fun e w' => e = .returned (.string X4) ∧ Q w w' := by
  obtain ⟨e1, e2, e3, e4, z0, z1, z2, z3, z4, y1, y2, y3, y4⟩ := hc
  have k1 : ¬ 9223372036854775807 < SA.size := by omega
  have k2 : ¬ 9223372036854775807 < X1.size + NM.size := by omega
  have k3 : ¬ 9223372036854775807 < X2.size + SB.size := by omega
  have k4 : ¬ 9223372036854775807 < X3.size + DC.size := by omega
  have hwr : IntKind.i64.wrap (row + 1) = row + 1 := by rw [IntKind.wrap_i64]; omega
  have J := hid (PB.start w sh row col ra ca)
  go_enter Tryz.func128, Tryz.ntmps128
  go_upto_region 8 with (first | (go_at_call_of 150 row; refine (HM1.out _).mono ?_; rintro e w1 ⟨rfl, rfl⟩) | (go_at_call_of 150 col; refine (HM2.out _).mono ?_; rintro e w1 ⟨rfl, rfl⟩))
  have hk0 : Hid ((w.alloc (.cells #[.string sh, .int .i64 row, .int .i64 col, .bool ra, .bool ca] 46)).drew.cell? ⟨w.heap.size, 1, none⟩ = some (.int .i64 row) ∧ (w.alloc (.cells #[.string sh, .int .i64 row, .int .i64 col, .bool ra, .bool ca] 46)).drew.cell? ⟨w.heap.size, 2, none⟩ = some (.int .i64 col) ∧ (w.alloc (.cells #[.string sh, .int .i64 row, .int .i64 col, .bool ra, .bool ca] 46)).drew.cell? ⟨w.heap.size, 3, none⟩ = some (.bool ra) ∧ (w.alloc (.cells #[.string sh, .int .i64 row, .int .i64 col, .bool ra, .bool ca] 46)).drew.cell? ⟨w.heap.size, 4, none⟩ = some (.bool ca)) := ⟨J.out.c1, J.out.c2, J.out.c3, J.out.c4⟩
  go_region_held3 (fun W => W.cell? ⟨w.heap.size, 1, none⟩ = some (.int .i64 row) ∧ W.cell? ⟨w.heap.size, 2, none⟩ = some (.int .i64 col) ∧ W.cell? ⟨w.heap.size, 3, none⟩ = some (.bool ra) ∧ W.cell? ⟨w.heap.size, 4, none⟩ = some (.bool ca)) (with_reducible (first | exact hk0.out | exact hk1.out | exact hk2.out))
    (first
      | (go_at_call_of 151 ca; refine (HS1.out _).mono ?_; rintro r w9 ⟨rfl, rfl⟩)
      | (go_at_call_of 151 ra; refine (HS2.out _).mono ?_; rintro r w9 ⟨rfl, rfl⟩)
      | (go_at_call 152; refine (HN.out _).mono ?_; rintro r w5 ⟨rfl, q5⟩; replace J := hid (J.out.on (Q.trans (Q.drew (Q.refl _)) q5)); have hk1 : Hid (w5.cell? ⟨w.heap.size, 1, none⟩ = some (.int .i64 row) ∧ w5.cell? ⟨w.heap.size, 2, none⟩ = some (.int .i64 col) ∧ w5.cell? ⟨w.heap.size, 3, none⟩ = some (.bool ra) ∧ w5.cell? ⟨w.heap.size, 4, none⟩ = some (.bool ca)) := ⟨J.out.c1, J.out.c2, J.out.c3, J.out.c4⟩)
      | (go_at_call 153; refine (HF.out _ J.out.q).mono ?_; rintro r w6 ⟨rfl, q6⟩; replace J := hid (J.out.on q6); have hk2 : Hid (w6.cell? ⟨w.heap.size, 1, none⟩ = some (.int .i64 row) ∧ w6.cell? ⟨w.heap.size, 2, none⟩ = some (.int .i64 col) ∧ w6.cell? ⟨w.heap.size, 3, none⟩ = some (.bool ra) ∧ w6.cell? ⟨w.heap.size, 4, none⟩ = some (.bool ca)) := ⟨J.out.c1, J.out.c2, J.out.c3, J.out.c4⟩))
  go_wp2
  go_ret
  exact ⟨rfl, J.out.q⟩
set_option maxHeartbeats 2000000 in
theorem print_sheet (sh SH SA NM SB DC X1 X2 X3 X4 : ByteArray) (row col : Int) (ra ca : Bool) (w : World) (hz : sh.size ≤ 1000)
    (HM1 : Hid (∀ W, Calls Tryz.prog 150 #[.int .i64 row] W fun e w' => e = .returned (.bool true) ∧ w' = W))
    (HM2 : Hid (∀ W, Calls Tryz.prog 150 #[.int .i64 col] W fun e w' => e = .returned (.bool true) ∧ w' = W))
    (hE : (sh.toList == []) = false)
    (HI : Hid (∀ W, Q w W → Calls Tryz.prog 34 #[.string sh] W fun e w' => e = .returned (.bool true) ∧ Q W w')) (eS : sh ++ ⟨#[33]⟩ = SH)
    (HS1 : Hid (∀ W, Calls Tryz.prog 151 #[.bool ca] W fun e w' => e = .returned (.string SA) ∧ w' = W))
    (HS2 : Hid (∀ W, Calls Tryz.prog 151 #[.bool ra] W fun e w' => e = .returned (.string SB) ∧ w' = W))
    (HN : Hid (∀ W, Calls Tryz.prog 152 #[.int .i64 col] W fun e w' => e = .returned (.string NM) ∧ Q W w'))
    (HF : Hid (∀ W, Q w W → Calls Tryz.prog 153 #[.int .i64 (row + 1), .int .i64 10] W fun e w' => e = .returned (.string DC) ∧ Q W w'))
    (r0 : 0 ≤ row) (r1 : row < 2199023255552) (hc : Cat SH SA NM SB DC X1 X2 X3 X4) :
    Calls Tryz.prog 128 #[rv sh row col ra ca] w fun e w' => e = .returned (.string X4) ∧ Q w w' := by
  obtain ⟨e1, e2, e3, e4, z0, z1, z2, z3, z4, y1, y2, y3, y4⟩ := hc
  have k1 : ¬ 9223372036854775807 < SH.size + SA.size := by omega
  have k2 : ¬ 9223372036854775807 < X1.size + NM.size := by omega
  have k3 : ¬ 9223372036854775807 < X2.size + SB.size := by omega
  have k4 : ¬ 9223372036854775807 < X3.size + DC.size := by omega
  have hwr : IntKind.i64.wrap (row + 1) = row + 1 := by rw [IntKind.wrap_i64]; omega
  have J := hid (PB.start w sh row col ra ca)
  go_enter Tryz.func128, Tryz.ntmps128
  go_upto_region 8 with (first | (go_at_call_of 150 row; refine (HM1.out _).mono ?_; rintro e w1 ⟨rfl, rfl⟩) | (go_at_call_of 150 col; refine (HM2.out _).mono ?_; rintro e w1 ⟨rfl, rfl⟩) | (go_at_call 34; refine (HI.out _ (by repeat (first | exact Q.refl _ | refine Q.drewN ?_ _ | refine Q.alloc ?_ _))).mono ?_; rintro e w3 ⟨rfl, q3⟩; replace J := hid (J.out.on q3); have d0 := J.out.c0; have d1 := J.out.c1; have d2 := J.out.c2; have d3 := J.out.c3; have d4 := J.out.c4))
  have hk0 : Hid (w3.drew.cell? ⟨w.heap.size, 1, none⟩ = some (.int .i64 row) ∧ w3.drew.cell? ⟨w.heap.size, 2, none⟩ = some (.int .i64 col) ∧ w3.drew.cell? ⟨w.heap.size, 3, none⟩ = some (.bool ra) ∧ w3.drew.cell? ⟨w.heap.size, 4, none⟩ = some (.bool ca)) := ⟨J.out.c1, J.out.c2, J.out.c3, J.out.c4⟩
  go_region_held3 (fun W => W.cell? ⟨w.heap.size, 1, none⟩ = some (.int .i64 row) ∧ W.cell? ⟨w.heap.size, 2, none⟩ = some (.int .i64 col) ∧ W.cell? ⟨w.heap.size, 3, none⟩ = some (.bool ra) ∧ W.cell? ⟨w.heap.size, 4, none⟩ = some (.bool ca)) (with_reducible (first | exact hk0.out | exact hk1.out | exact hk2.out))
    (first
      | (go_at_call_of 151 ca; refine (HS1.out _).mono ?_; rintro r w9 ⟨rfl, rfl⟩)
      | (go_at_call_of 151 ra; refine (HS2.out _).mono ?_; rintro r w9 ⟨rfl, rfl⟩)
      | (go_at_call 152; refine (HN.out _).mono ?_; rintro r w5 ⟨rfl, q5⟩; replace J := hid (J.out.on (Q.trans (Q.drew (Q.refl _)) q5)); have hk1 : Hid (w5.cell? ⟨w.heap.size, 1, none⟩ = some (.int .i64 row) ∧ w5.cell? ⟨w.heap.size, 2, none⟩ = some (.int .i64 col) ∧ w5.cell? ⟨w.heap.size, 3, none⟩ = some (.bool ra) ∧ w5.cell? ⟨w.heap.size, 4, none⟩ = some (.bool ca)) := ⟨J.out.c1, J.out.c2, J.out.c3, J.out.c4⟩)
      | (go_at_call 153; refine (HF.out _ J.out.q).mono ?_; rintro r w6 ⟨rfl, q6⟩; replace J := hid (J.out.on q6); have hk2 : Hid (w6.cell? ⟨w.heap.size, 1, none⟩ = some (.int .i64 row) ∧ w6.cell? ⟨w.heap.size, 2, none⟩ = some (.int .i64 col) ∧ w6.cell? ⟨w.heap.size, 3, none⟩ = some (.bool ra) ∧ w6.cell? ⟨w.heap.size, 4, none⟩ = some (.bool ca)) := ⟨J.out.c1, J.out.c2, J.out.c3, J.out.c4⟩))
  go_wp2
  go_ret
  exact ⟨rfl, J.out.q⟩
set_option maxHeartbeats 1000000 in
theorem print_no (sh : ByteArray) (row col : Int) (ra ca f1 f2 fi : Bool) (w : World)
    (HM1 : Hid (∀ W, Calls Tryz.prog 150 #[.int .i64 row] W fun e w' => e = .returned (.bool f1) ∧ w' = W))
    (HM2 : Hid (∀ W, Calls Tryz.prog 150 #[.int .i64 col] W fun e w' => e = .returned (.bool f2) ∧ w' = W))
    (HI : Hid (∀ W, Q w W → Calls Tryz.prog 34 #[.string sh] W fun e w' => e = .returned (.bool fi) ∧ Q W w'))
    (h : f1 = false ∨ f2 = false ∨ ((sh.toList == []) = false ∧ fi = false)) :
    Calls Tryz.prog 128 #[rv sh row col ra ca] w fun e w' => e = .returned (.string ⟨#[]⟩) ∧ Q w w' := by
  cases f1
  · clear h
    go_enter Tryz.func128, Tryz.ntmps128
    go_wp2_with (first | (go_at_call_of 150 row; refine (HM1.out _).mono ?_; rintro e w1 ⟨rfl, rfl⟩) | (go_at_call_of 150 col; refine (HM2.out _).mono ?_; rintro e w1 ⟨rfl, rfl⟩))
    go_ret
    exact ⟨rfl, (Q.refl _).alloc _⟩
  cases f2
  · clear h
    go_enter Tryz.func128, Tryz.ntmps128
    go_wp2_with (first | (go_at_call_of 150 row; refine (HM1.out _).mono ?_; rintro e w1 ⟨rfl, rfl⟩) | (go_at_call_of 150 col; refine (HM2.out _).mono ?_; rintro e w1 ⟨rfl, rfl⟩))
    go_ret
    exact ⟨rfl, (Q.refl _).alloc _⟩
  obtain ⟨hE, rfl⟩ : (sh.toList == []) = false ∧ fi = false := by
    rcases h with h | h | h
    · cases h
    · cases h
    · exact h
  go_enter Tryz.func128, Tryz.ntmps128
  go_wp2_with (first | (go_at_call_of 150 row; refine (HM1.out _).mono ?_; rintro e w1 ⟨rfl, rfl⟩) | (go_at_call_of 150 col; refine (HM2.out _).mono ?_; rintro e w1 ⟨rfl, rfl⟩) | (go_at_call 34; refine (HI.out _ (by repeat (first | exact Q.refl _ | refine Q.drewN ?_ _ | refine Q.alloc ?_ _))).mono ?_; rintro e w3 ⟨rfl, q3⟩))
  go_ret
  exact ⟨rfl, ((Q.refl _).alloc _).trans q3⟩
theorem print_any (sh : ByteArray) (row col : Int) (ra ca : Bool) (w : World) (hw : Std w) (ht : ∀ W, Q w W → Lib.TabIs Tryz.prog W "internal/strconv.uint64pow10" .u64 Lib.pow10Tab) (hs : sh.size ≤ 1000) :
    Calls Tryz.prog 128 #[rv sh row col ra ca] w fun e w' => e = .returned (.string ⟨(prR sh.data.toList row col ra ca).toArray⟩) ∧ Q w w' := by
  have HM1 := fun W => mayline_any row W
  have HM2 := fun W => mayline_any col W
  have HI := fun W (q : Q w W) => id_any sh W (hw.on q) (by omega)
  have et := Lib.toList_data sh
  unfold prR mayR
  cases h1 : decide (0 ≤ row ∧ row < 2199023255552)
  · rw [h1] at HM1
    refine (print_no sh row col ra ca _ _ _ w HM1 HM2 HI (.inl rfl)).mono fun e w' g => ⟨?_, g.2⟩
    rw [g.1, Bool.false_and, Bool.and_false]
    rfl
  cases h2 : decide (0 ≤ col ∧ col < 2199023255552)
  · rw [h2] at HM2
    refine (print_no sh row col ra ca _ _ _ w HM1 HM2 HI (.inr (.inl rfl))).mono fun e w' g => ⟨?_, g.2⟩
    rw [g.1, Bool.and_false, Bool.and_false]
    rfl
  rw [h1] at HM1
  rw [h2] at HM2
  have b1 := of_decide_eq_true h1
  have b2 := of_decide_eq_true h2
  obtain ⟨X1, X2, X3, hc⟩ := cat_of sh.data.toList row col ra ca (by rw [len_data]; exact hs) b1.1 b1.2
  have HF := fun W (q : Q w W) => fmt_any (row + 1) W (ht W q) (by omega) (by omega)
  by_cases he : sh.toList = []
  · have he2 : sh.data.toList = [] := by rw [← et, he]
    rw [he2] at hc ⊢
    refine (print_plain sh ⟨#[]⟩ _ _ _ _ X1 X2 X3 _ row col ra ca w hs HM1 HM2 (by rw [he]; rfl) (fun W => asign_any ca W) (fun W => asign_any ra W) (fun W => name_any col W) HF b1.1 b1.2 hc).mono fun e w' g => ⟨?_, g.2⟩
    rw [g.1]
    rfl
  · have hei : sh.data.toList.isEmpty = false := by
      rw [← et]
      cases hh : sh.toList
      · exact absurd hh he
      · rfl
    cases hi : idB sh.data.toList
    · rw [hi] at HI
      refine (print_no sh row col ra ca _ _ _ w HM1 HM2 HI (.inr (.inr ⟨by simpa using he, rfl⟩))).mono fun e w' g => ⟨?_, g.2⟩
      rw [g.1, hei]
      rfl
    · rw [hi] at HI
      have eS : sh ++ ⟨#[33]⟩ = ⟨(shX sh.data.toList).toArray⟩ := by
        unfold shX
        rw [hei]
        have e := bytes_cat sh.data.toList [33]
        exact e
      refine (print_sheet sh _ _ _ _ _ X1 X2 X3 _ row col ra ca w hs HM1 HM2 (by simpa using he) HI eS (fun W => asign_any ca W) (fun W => asign_any ra W) (fun W => name_any col W) HF b1.1 b1.2 hc).mono fun e w' g => ⟨?_, g.2⟩
      rw [g.1, Bool.or_true]
      rfl
set_option maxHeartbeats 8000000 in
theorem bare_any (k n : Int) (t : ByteArray) (b : Bool) (e : Int) (a1 : Option Addr) (l1 c1 : Nat) (a2 : Option Addr) (l2 c2 : Nat) (W : World) : Calls Tryz.prog 111 #[.agg #[.int .i64 k, .int .i64 n, .string t, .bool b, .int .i64 e, .slice a1 l1 c1, .slice a2 l2 c2]] W fun e' W' => e' = .returned (.bool (decide (n = 0 ∧ t.data.toList = [] ∧ b = false ∧ e = 0 ∧ l1 = 0 ∧ l2 = 0))) ∧ Q W W' := by
  have et := hid (toL t)
  by_cases q0 : n = 0
  · skip
    have f0 : (n == 0) = true := by rw [q0]; rfl
    by_cases q1 : t.data.toList = []
    · skip
      have f1 : (t.toList == []) = true := by rw [et.out]; rw [q1]; rfl
      by_cases q2 : b = false
      · skip
        have f2 : b = false := q2
        by_cases q3 : e = 0
        · skip
          have f3 : (e == 0) = true := by rw [q3]; rfl
          by_cases q4 : l1 = 0
          · skip
            have f4 : ((l1 : Int) == 0) = true := by rw [q4]; rfl
            by_cases q5 : l2 = 0
            · skip
              have f5 : ((l2 : Int) == 0) = true := by rw [q5]; rfl
              have HR : Hid (decide (n = 0 ∧ t.data.toList = [] ∧ b = false ∧ e = 0 ∧ l1 = 0 ∧ l2 = 0) = true) := by show _ = _; exact decide_eq_true ⟨q0, q1, q2, q3, q4, q5⟩
              generalize decide (n = 0 ∧ t.data.toList = [] ∧ b = false ∧ e = 0 ∧ l1 = 0 ∧ l2 = 0) = r at HR ⊢
              clear et q0 q1 q2 q3 q4 q5
              go_enter Tryz.func111, Tryz.ntmps111
              go_wp2_with fail
              go_ret
              exact ⟨ret_bool HR.out.symm, (Q.refl _).alloc _⟩
            · skip
              have f5 : ((l2 : Int) == 0) = false := by rw [beq_eq_false_iff_ne]; omega
              have HR : Hid (decide (n = 0 ∧ t.data.toList = [] ∧ b = false ∧ e = 0 ∧ l1 = 0 ∧ l2 = 0) = false) := by show _ = _; exact decide_eq_false (fun hh => q5 hh.2.2.2.2.2)
              generalize decide (n = 0 ∧ t.data.toList = [] ∧ b = false ∧ e = 0 ∧ l1 = 0 ∧ l2 = 0) = r at HR ⊢
              clear et q0 q1 q2 q3 q4 q5
              go_enter Tryz.func111, Tryz.ntmps111
              go_wp2_with fail
              go_ret
              exact ⟨ret_bool HR.out.symm, (Q.refl _).alloc _⟩
          · skip
            have f4 : ((l1 : Int) == 0) = false := by rw [beq_eq_false_iff_ne]; omega
            have HR : Hid (decide (n = 0 ∧ t.data.toList = [] ∧ b = false ∧ e = 0 ∧ l1 = 0 ∧ l2 = 0) = false) := by show _ = _; exact decide_eq_false (fun hh => q4 hh.2.2.2.2.1)
            generalize decide (n = 0 ∧ t.data.toList = [] ∧ b = false ∧ e = 0 ∧ l1 = 0 ∧ l2 = 0) = r at HR ⊢
            clear et q0 q1 q2 q3 q4
            go_enter Tryz.func111, Tryz.ntmps111
            go_wp2_with fail
            go_ret
            exact ⟨ret_bool HR.out.symm, (Q.refl _).alloc _⟩
        · skip
          have f3 : (e == 0) = false := by rw [beq_eq_false_iff_ne]; omega
          have HR : Hid (decide (n = 0 ∧ t.data.toList = [] ∧ b = false ∧ e = 0 ∧ l1 = 0 ∧ l2 = 0) = false) := by show _ = _; exact decide_eq_false (fun hh => q3 hh.2.2.2.1)
          generalize decide (n = 0 ∧ t.data.toList = [] ∧ b = false ∧ e = 0 ∧ l1 = 0 ∧ l2 = 0) = r at HR ⊢
          clear et q0 q1 q2 q3
          go_enter Tryz.func111, Tryz.ntmps111
          go_wp2_with fail
          go_ret
          exact ⟨ret_bool HR.out.symm, (Q.refl _).alloc _⟩
      · skip
        have f2 : b = true := by simpa using q2
        have HR : Hid (decide (n = 0 ∧ t.data.toList = [] ∧ b = false ∧ e = 0 ∧ l1 = 0 ∧ l2 = 0) = false) := by show _ = _; exact decide_eq_false (fun hh => q2 hh.2.2.1)
        generalize decide (n = 0 ∧ t.data.toList = [] ∧ b = false ∧ e = 0 ∧ l1 = 0 ∧ l2 = 0) = r at HR ⊢
        clear et q0 q1 q2
        go_enter Tryz.func111, Tryz.ntmps111
        go_wp2_with fail
        go_ret
        exact ⟨ret_bool HR.out.symm, (Q.refl _).alloc _⟩
    · skip
      have f1 : (t.toList == []) = false := by rw [et.out]; rw [beq_eq_false_iff_ne]; exact q1
      have HR : Hid (decide (n = 0 ∧ t.data.toList = [] ∧ b = false ∧ e = 0 ∧ l1 = 0 ∧ l2 = 0) = false) := by show _ = _; exact decide_eq_false (fun hh => q1 hh.2.1)
      generalize decide (n = 0 ∧ t.data.toList = [] ∧ b = false ∧ e = 0 ∧ l1 = 0 ∧ l2 = 0) = r at HR ⊢
      clear et q0 q1
      go_enter Tryz.func111, Tryz.ntmps111
      go_wp2_with fail
      go_ret
      exact ⟨ret_bool HR.out.symm, (Q.refl _).alloc _⟩
  · skip
    have f0 : (n == 0) = false := by rw [beq_eq_false_iff_ne]; omega
    have HR : Hid (decide (n = 0 ∧ t.data.toList = [] ∧ b = false ∧ e = 0 ∧ l1 = 0 ∧ l2 = 0) = false) := by show _ = _; exact decide_eq_false (fun hh => q0 hh.1)
    generalize decide (n = 0 ∧ t.data.toList = [] ∧ b = false ∧ e = 0 ∧ l1 = 0 ∧ l2 = 0) = r at HR ⊢
    clear et q0
    go_enter Tryz.func111, Tryz.ntmps111
    go_wp2_with fail
    go_ret
    exact ⟨ret_bool HR.out.symm, (Q.refl _).alloc _⟩
theorem prR_nil (sh : List UInt8) (row col : Int) (ra ca : Bool) : decide (prR sh row col ra ca = []) = !mayR sh row col := by
  unfold prR
  cases hm : mayR sh row col
  · rw [if_neg (by simp)]; rfl
  · rw [if_pos rfl, decide_eq_false]
    · rfl
    · intro h
      unfold prL at h
      have h2 := (List.append_eq_nil_iff.1 h).2
      have h3 := congrArg List.length h2
      rw [Lib.decDigits_length] at h3
      have h4 : 0 < Lib.nDigits (row + 1).toNat := by unfold Lib.nDigits; split <;> omega
      simp at h3
      omega
set_option maxHeartbeats 4000000 in
theorem pmayref_any (sh : ByteArray) (row col : Int) (ra ca : Bool) (w : World) (hw : Std w) (ht : ∀ W, Q w W → Lib.TabIs Tryz.prog W "internal/strconv.uint64pow10" .u64 Lib.pow10Tab) (hs : sh.size ≤ 1000) :
    Calls Tryz.prog 107 #[rv sh row col ra ca] w fun e w' => e = .returned (.bool (mayR sh.data.toList row col)) ∧ Q w w' := by
  have HP := hid (fun W (q : Q w W) => print_any sh row col ra ca W (hw.on q) (fun W' q' => ht W' (q.trans q')) hs)
  have hn := prR_nil sh.data.toList row col ra ca
  obtain ⟨S, hS, lS⟩ : ∃ S : ByteArray, ⟨(prR sh.data.toList row col ra ca).toArray⟩ = S ∧ S.data.toList = prR sh.data.toList row col ra ca := ⟨_, rfl, rfl⟩
  rw [hS] at HP
  rw [← lS] at hn
  clear hw ht
  cases hm : mayR sh.data.toList row col
  · rw [hm] at hn
    have e7 : (S.toList == []) = true := by rw [toL, of_decide_eq_true hn]; rfl
    clear hn hS lS
    go_enter Tryz.func107, Tryz.ntmps107
    go_wp2_with (go_at_call 128; refine (HP.out _ ((Q.refl _).alloc _)).mono ?_; rintro e w1 ⟨rfl, q1⟩; have Q1 : Hid (Q w w1) := hid (((Q.refl _).alloc _).trans q1); clear q1)
    go_ret
    exact ⟨rfl, Q1.out⟩
  · rw [hm] at hn
    have e7 : (S.toList == []) = false := by rw [toL, beq_eq_false_iff_ne]; exact of_decide_eq_false hn
    clear hn hS lS
    go_enter Tryz.func107, Tryz.ntmps107
    go_wp2_with (go_at_call 128; refine (HP.out _ ((Q.refl _).alloc _)).mono ?_; rintro e w1 ⟨rfl, q1⟩; have Q1 : Hid (Q w w1) := hid (((Q.refl _).alloc _).trans q1); clear q1)
    go_ret
    exact ⟨rfl, Q1.out⟩
def namF (t : List UInt8) : Bool := decide (0 < t.length) && (decide (t.length ≤ 20) && (decide (¬ (t = truW ∨ t = flsW)) && t.all let1))
set_option maxHeartbeats 4000000 in
theorem strength_any (s : ByteArray) (W : World) : Calls Tryz.prog 109 #[.string s] W fun e W' => e = .returned (.int .i64 (lvl s.data.toList : Int)) ∧ W' = W := by
  have et := hid (toL s)
  by_cases h0 : s.data.toList = [61]
  · have f0 : (s.toList == [61]) = true := by rw [et.out, h0]; rfl
    have HR : Hid (lvl s.data.toList = 1) := by show _ = _; rw [h0]; rfl
    generalize lvl s.data.toList = r at HR ⊢
    clear et h0
    go_enter Tryz.func109, Tryz.ntmps109
    go_wp2
    go_ret
    exact ⟨ret_int (by rw [HR.out]; rfl), rfl⟩
  · have f0 : (s.toList == [61]) = false := by rw [et.out, beq_eq_false_iff_ne]; exact h0
    by_cases h1 : s.data.toList = [60, 62]
    · have f1 : (s.toList == [60, 62]) = true := by rw [et.out, h1]; rfl
      have HR : Hid (lvl s.data.toList = 1) := by show _ = _; rw [h1]; rfl
      generalize lvl s.data.toList = r at HR ⊢
      clear et h0 h1
      go_enter Tryz.func109, Tryz.ntmps109
      go_wp2
      go_ret
      exact ⟨ret_int (by rw [HR.out]; rfl), rfl⟩
    · have f1 : (s.toList == [60, 62]) = false := by rw [et.out, beq_eq_false_iff_ne]; exact h1
      by_cases h2 : s.data.toList = [60]
      · have f2 : (s.toList == [60]) = true := by rw [et.out, h2]; rfl
        have HR : Hid (lvl s.data.toList = 1) := by show _ = _; rw [h2]; rfl
        generalize lvl s.data.toList = r at HR ⊢
        clear et h0 h1 h2
        go_enter Tryz.func109, Tryz.ntmps109
        go_wp2
        go_ret
        exact ⟨ret_int (by rw [HR.out]; rfl), rfl⟩
      · have f2 : (s.toList == [60]) = false := by rw [et.out, beq_eq_false_iff_ne]; exact h2
        by_cases h3 : s.data.toList = [60, 61]
        · have f3 : (s.toList == [60, 61]) = true := by rw [et.out, h3]; rfl
          have HR : Hid (lvl s.data.toList = 1) := by show _ = _; rw [h3]; rfl
          generalize lvl s.data.toList = r at HR ⊢
          clear et h0 h1 h2 h3
          go_enter Tryz.func109, Tryz.ntmps109
          go_wp2
          go_ret
          exact ⟨ret_int (by rw [HR.out]; rfl), rfl⟩
        · have f3 : (s.toList == [60, 61]) = false := by rw [et.out, beq_eq_false_iff_ne]; exact h3
          by_cases h4 : s.data.toList = [62]
          · have f4 : (s.toList == [62]) = true := by rw [et.out, h4]; rfl
            have HR : Hid (lvl s.data.toList = 1) := by show _ = _; rw [h4]; rfl
            generalize lvl s.data.toList = r at HR ⊢
            clear et h0 h1 h2 h3 h4
            go_enter Tryz.func109, Tryz.ntmps109
            go_wp2
            go_ret
            exact ⟨ret_int (by rw [HR.out]; rfl), rfl⟩
          · have f4 : (s.toList == [62]) = false := by rw [et.out, beq_eq_false_iff_ne]; exact h4
            by_cases h5 : s.data.toList = [62, 61]
            · have f5 : (s.toList == [62, 61]) = true := by rw [et.out, h5]; rfl
              have HR : Hid (lvl s.data.toList = 1) := by show _ = _; rw [h5]; rfl
              generalize lvl s.data.toList = r at HR ⊢
              clear et h0 h1 h2 h3 h4 h5
              go_enter Tryz.func109, Tryz.ntmps109
              go_wp2
              go_ret
              exact ⟨ret_int (by rw [HR.out]; rfl), rfl⟩
            · have f5 : (s.toList == [62, 61]) = false := by rw [et.out, beq_eq_false_iff_ne]; exact h5
              by_cases h6 : s.data.toList = [38]
              · have f6 : (s.toList == [38]) = true := by rw [et.out, h6]; rfl
                have HR : Hid (lvl s.data.toList = 2) := by show _ = _; rw [h6]; rfl
                generalize lvl s.data.toList = r at HR ⊢
                clear et h0 h1 h2 h3 h4 h5 h6
                go_enter Tryz.func109, Tryz.ntmps109
                go_wp2
                go_ret
                exact ⟨ret_int (by rw [HR.out]; rfl), rfl⟩
              · have f6 : (s.toList == [38]) = false := by rw [et.out, beq_eq_false_iff_ne]; exact h6
                by_cases h7 : s.data.toList = [43]
                · have f7 : (s.toList == [43]) = true := by rw [et.out, h7]; rfl
                  have HR : Hid (lvl s.data.toList = 3) := by show _ = _; rw [h7]; rfl
                  generalize lvl s.data.toList = r at HR ⊢
                  clear et h0 h1 h2 h3 h4 h5 h6 h7
                  go_enter Tryz.func109, Tryz.ntmps109
                  go_wp2
                  go_ret
                  exact ⟨ret_int (by rw [HR.out]; rfl), rfl⟩
                · have f7 : (s.toList == [43]) = false := by rw [et.out, beq_eq_false_iff_ne]; exact h7
                  by_cases h8 : s.data.toList = [45]
                  · have f8 : (s.toList == [45]) = true := by rw [et.out, h8]; rfl
                    have HR : Hid (lvl s.data.toList = 3) := by show _ = _; rw [h8]; rfl
                    generalize lvl s.data.toList = r at HR ⊢
                    clear et h0 h1 h2 h3 h4 h5 h6 h7 h8
                    go_enter Tryz.func109, Tryz.ntmps109
                    go_wp2
                    go_ret
                    exact ⟨ret_int (by rw [HR.out]; rfl), rfl⟩
                  · have f8 : (s.toList == [45]) = false := by rw [et.out, beq_eq_false_iff_ne]; exact h8
                    by_cases h9 : s.data.toList = [42]
                    · have f9 : (s.toList == [42]) = true := by rw [et.out, h9]; rfl
                      have HR : Hid (lvl s.data.toList = 4) := by show _ = _; rw [h9]; rfl
                      generalize lvl s.data.toList = r at HR ⊢
                      clear et h0 h1 h2 h3 h4 h5 h6 h7 h8 h9
                      go_enter Tryz.func109, Tryz.ntmps109
                      go_wp2
                      go_ret
                      exact ⟨ret_int (by rw [HR.out]; rfl), rfl⟩
                    · have f9 : (s.toList == [42]) = false := by rw [et.out, beq_eq_false_iff_ne]; exact h9
                      by_cases h10 : s.data.toList = [47]
                      · have f10 : (s.toList == [47]) = true := by rw [et.out, h10]; rfl
                        have HR : Hid (lvl s.data.toList = 4) := by show _ = _; rw [h10]; rfl
                        generalize lvl s.data.toList = r at HR ⊢
                        clear et h0 h1 h2 h3 h4 h5 h6 h7 h8 h9 h10
                        go_enter Tryz.func109, Tryz.ntmps109
                        go_wp2
                        go_ret
                        exact ⟨ret_int (by rw [HR.out]; rfl), rfl⟩
                      · have f10 : (s.toList == [47]) = false := by rw [et.out, beq_eq_false_iff_ne]; exact h10
                        have HR : Hid (lvl s.data.toList = 0) := by show _ = _; unfold lvl; rw [if_neg h0, if_neg h1, if_neg h2, if_neg h3, if_neg h4, if_neg h5, if_neg h6, if_neg h7, if_neg h8, if_neg h9, if_neg h10]
                        generalize lvl s.data.toList = r at HR ⊢
                        clear et h0 h1 h2 h3 h4 h5 h6 h7 h8 h9 h10
                        go_enter Tryz.func109, Tryz.ntmps109
                        go_wp2
                        go_ret
                        exact ⟨ret_int (by rw [HR.out]; rfl), rfl⟩
set_option maxHeartbeats 2000000 in
theorem ptruth_any (s : ByteArray) (w : World) : Calls Tryz.prog 129 #[.string s] w fun e w' => e = .returned (.bool (decide (s.data.toList = truW ∨ s.data.toList = flsW))) ∧ w' = w := by
  have et := hid (toL s)
  by_cases h1 : s.data.toList = truW
  · have f1 : (s.toList == [84, 82, 85, 69]) = true := by rw [et.out, h1]; rfl
    have HR : Hid (decide (s.data.toList = truW ∨ s.data.toList = flsW) = true) := by show _ = _; exact decide_eq_true (.inl h1)
    generalize decide (s.data.toList = truW ∨ s.data.toList = flsW) = r at HR ⊢
    clear et h1
    go_enter Tryz.func129, Tryz.ntmps129
    go_wp2
    go_ret
    exact ⟨ret_bool HR.out.symm, rfl⟩
  · have f1 : (s.toList == [84, 82, 85, 69]) = false := by rw [et.out, beq_eq_false_iff_ne]; exact h1
    by_cases h2 : s.data.toList = flsW
    · have f2 : (s.toList == [70, 65, 76, 83, 69]) = true := by rw [et.out, h2]; rfl
      have HR : Hid (decide (s.data.toList = truW ∨ s.data.toList = flsW) = true) := by show _ = _; exact decide_eq_true (.inr h2)
      generalize decide (s.data.toList = truW ∨ s.data.toList = flsW) = r at HR ⊢
      clear et h1 h2
      go_enter Tryz.func129, Tryz.ntmps129
      go_wp2
      go_ret
      exact ⟨ret_bool HR.out.symm, rfl⟩
    · have f2 : (s.toList == [70, 65, 76, 83, 69]) = false := by rw [et.out, beq_eq_false_iff_ne]; exact h2
      have HR : Hid (decide (s.data.toList = truW ∨ s.data.toList = flsW) = false) := by show _ = _; exact decide_eq_false (fun e => e.elim h1 h2)
      generalize decide (s.data.toList = truW ∨ s.data.toList = flsW) = r at HR ⊢
      clear et h1 h2
      go_enter Tryz.func129, Tryz.ntmps129
      go_wp2
      go_ret
      exact ⟨ret_bool HR.out.symm, rfl⟩
set_option maxHeartbeats 4000000 in
theorem mayname_any (s : ByteArray) (w : World) (hs : s.size ≤ 4000000000) : Calls Tryz.prog 110 #[.string s] w fun e w' => e = .returned (.bool (namF s.data.toList)) ∧ w' = w := by
  have hl := len_data s
  by_cases h0 : s.size = 0
  · have HR : Hid (namF s.data.toList = false) := by show _ = _; unfold namF; rw [hl, h0]; rfl
    have e0 : ((s.size : Int) == 0) = true := by rw [h0]; rfl
    generalize namF s.data.toList = r at HR ⊢
    clear hl
    go_enter Tryz.func110, Tryz.ntmps110
    go_wp2_with fail
    go_ret
    exact ⟨ret_bool HR.out.symm, rfl⟩
  · have e0 : ((s.size : Int) == 0) = false := by rw [beq_eq_false_iff_ne]; omega
    by_cases h20 : (20 : Int) < (s.size : Int)
    · have HR : Hid (namF s.data.toList = false) := by show _ = _; unfold namF; rw [hl, decide_eq_false (show ¬ s.size ≤ 20 by omega)]; simp
      generalize namF s.data.toList = r at HR ⊢
      clear hl h0
      go_enter Tryz.func110, Tryz.ntmps110
      go_wp2_with fail
      go_ret
      exact ⟨ret_bool HR.out.symm, rfl⟩
    · have HT := hid (ptruth_any s w)
      by_cases htr : s.data.toList = truW ∨ s.data.toList = flsW
      · rw [decide_eq_true htr] at HT
        have HR : Hid (namF s.data.toList = false) := by show _ = _; unfold namF; rw [decide_eq_false (show ¬ ¬ (s.data.toList = truW ∨ s.data.toList = flsW) from fun e => e htr)]; simp
        generalize namF s.data.toList = r at HR ⊢
        clear hl h0 htr
        go_enter Tryz.func110, Tryz.ntmps110
        go_wp2_with (go_at_call 129; refine HT.out.mono ?_; rintro e9 w9 ⟨rfl, h9⟩; replace h9 := h9.symm; subst h9)
        go_ret
        exact ⟨ret_bool HR.out.symm, rfl⟩
      · rw [decide_eq_false htr] at HT
        have HR : Hid (namF s.data.toList = allL s.data.toList) := by
          show _ = _
          unfold namF allL
          rw [hl, decide_eq_true (show 0 < s.size by omega), decide_eq_true (show s.size ≤ 20 by omega), decide_eq_true htr]
          simp
        generalize namF s.data.toList = r at HR ⊢
        clear hl h0 htr
        go_enter Tryz.func110, Tryz.ntmps110
        go_wp2_with (go_at_call 129; refine HT.out.mono ?_; rintro e9 w9 ⟨rfl, h9⟩; replace h9 := h9.symm; subst h9)
        go_loop [18, 3] (fun i _ => ∃ k : Nat, k ≤ s.size ∧ i = .int .i64 k ∧ Hid (allL (s.data.toList.take k) = true)) (fun i _ => s.size - (intOf i).toNat)
        case atStart => exact ⟨0, Nat.zero_le _, rfl, rfl⟩
        case round =>
          obtain ⟨k, hk, rfl, ha⟩ := hrel
          by_cases hlt : k < s.size
          · by_cases hd : let1 s[k] = true
            · have ha' : Hid (allL (s.data.toList.take (k + 1)) = true) := by
                show _ = _
                have := ha.out
                rw [take_snoc s k hlt, allL_app, this]
                unfold allL
                simp [hd]
              have b0 : ¬ (s[k].toNat : Int) < 65 := by unfold let1 at hd; simp at hd; omega
              have b1 : ¬ 90 < (s[k].toNat : Int) := by unfold let1 at hd; simp at hd; omega
              clear hd
              go_wp2_with fail
              go_round
              case rel => exact ⟨k + 1, by omega, by go_num, ha'⟩
              case measure => simp [intOf]; omega
            · have hN := hid (allL_no s k hlt (by simpa using hd))
              by_cases b0 : (s[k].toNat : Int) < 65
              · clear hd
                go_wp2_with fail
                go_ret
                exact ⟨ret_bool (by rw [HR.out, hN.out]), rfl⟩
              · have b1 : 90 < (s[k].toNat : Int) := by unfold let1 at hd; simp at hd; omega
                clear hd
                go_wp2_with fail
                go_ret
                exact ⟨ret_bool (by rw [HR.out, hN.out]), rfl⟩
          · have hN : Hid (allL s.data.toList = true) := by
              show _ = _
              have := ha.out
              rw [take_all s k (by omega)] at this
              exact this
            go_wp2_with fail
            go_ret
            exact ⟨ret_bool (by rw [HR.out, hN.out]), rfl⟩
theorem idB_long (l : List UInt8) (h : 1000 < l.length) : idB l = false := by
  unfold idB
  apply decide_eq_false
  intro h0
  unfold ownK at h0
  split at h0
  · rename_i hp
    have ht : (Lib.trimPrefix l [99]).length + 1 = l.length := by
      unfold Lib.trimPrefix
      rw [if_pos hp, List.length_drop]
      simp
      omega
    generalize Lib.trimPrefix l [99] = m at *
    rcases cut_any 110 m with ⟨a, b, rfl, hn⟩ | hn
    · rw [cut_at 110 a b hn] at h0
      unfold ownP at h0
      simp only [List.length_append, List.length_cons] at ht
      split at h0
      · rename_i hc
        simp only [Bool.and_eq_true, true_and] at hc
        have h1 : ¬ 15 < a.length := fun g => by rw [numF_long a 15 g (by omega)] at hc; exact absurd hc.1 (by simp)
        have h2 : ¬ 15 < b.length := fun g => by rw [numF_long b 999999 g (by omega)] at hc; exact absurd hc.2 (by simp)
        omega
      · omega
    · rw [cut_free 110 m hn] at h0
      unfold ownP at h0
      simp at h0
  · omega
set_option maxHeartbeats 4000000 in
theorem pmayref_big (sh : ByteArray) (row col : Int) (ra ca : Bool) (w : World) (hw : Std w) (ht : ∀ W, Q w W → Lib.TabIs Tryz.prog W "internal/strconv.uint64pow10" .u64 Lib.pow10Tab) (hs : sh.size ≤ 2000000) :
    Calls Tryz.prog 107 #[rv sh row col ra ca] w fun e w' => e = .returned (.bool (mayR sh.data.toList row col)) ∧ Q w w' := by
  by_cases hz : sh.size ≤ 1000
  · exact pmayref_any sh row col ra ca w hw ht hz
  have hl : 1000 < sh.data.toList.length := by rw [len_data]; omega
  have hi := idB_long _ hl
  have he : sh.data.toList.isEmpty = false := by
    cases hh : sh.data.toList
    · rw [hh] at hl; simp at hl
    · rfl
  have hb : (sh.toList == []) = false := by
    rw [toL, beq_eq_false_iff_ne]
    intro hh
    rw [hh] at hl
    simp at hl
  have hm : mayR sh.data.toList row col = false := by
    unfold mayR
    rw [hi, he]
    rfl
  rw [hm]
  have HP := hid (fun W (q : Q w W) => print_no sh row col ra ca _ _ _ W (hid (fun V => mayline_any row V)) (hid (fun V => mayline_any col V)) (hid (fun V (q' : Q W V) => by have := id_any sh V ((hw.on q).on q') (by omega); rw [hi] at this; exact this)) (.inr (.inr ⟨hb, rfl⟩)))
  clear hw ht hi he hm hl hb hs hz
  go_enter Tryz.func107, Tryz.ntmps107
  go_wp2_with (go_at_call 128; refine (HP.out _ ((Q.refl _).alloc _)).mono ?_; rintro e w1 ⟨rfl, q1⟩; have Q1 : Hid (Q w w1) := hid (((Q.refl _).alloc _).trans q1); clear q1)
  go_ret
  exact ⟨rfl, Q1.out⟩
theorem nodesL_take (ks : List Ex) (i : Nat) (h : i < ks.length) : nodes.nodesL (ks.take (i + 1)) = nodes.nodesL (ks.take i) + nodes ks[i] := by
  rw [List.take_succ_eq_append_getElem h, nodesL_snoc]
theorem nodesL_take_le (ks : List Ex) (i : Nat) : nodes.nodesL (ks.take i) ≤ nodes.nodesL ks := by
  induction ks generalizing i with
  | nil => simp
  | cons x xs ih =>
    cases i with
    | zero => simp [nodes.nodesL]
    | succ i => rw [List.take_succ_cons, nodes.nodesL, nodes.nodesL]; have := ih i; omega
def shl : Nat → Ex → Bool
  | 0, _ => false
  | m + 1, .mk _ _ _ _ _ _ ks => ks.all (shl m)
set_option maxHeartbeats 4000000 in
theorem pcount_any : ∀ (s : Nat) (x : Ex) (v : Value) (W : World) (M : Int) (m : Nat), SizeOf.sizeOf x ≤ s → M = (m : Int) → 1 ≤ m → m ≤ 201 → Rd W x v → Calls Tryz.prog 103 #[v, .int .i64 M] W fun e W' => e = .returned (.int .i64 (min (nodes x) m : Nat)) ∧ Q W W' := by
  intro s
  induction s with
  | zero =>
    intro x v W M m hs
    cases x with
    | mk k n t b e rs ks => simp at hs
  | succ s ih =>
    intro x v W M m hs hM h1 h201 hr
    obtain ⟨k, n, t, b, e, rs, ks, rv, kv, ao, cap, rfl, hp⟩ := hr.prt
    obtain ⟨ar, cr, hrv, _⟩ := hp.rl
    have HD : Hid (nodes x = 1 + nodes.nodesL ks) := hid (by rw [hp.ex, nodes])
    have IH := hid (fun (i : Nat) (h : i < ks.length) v W M m => ih ks[i] v W M m (by have := kid_size (k := k) (n := n) (t := t.data.toList) (b := b) (e := e) (rs := rs) i h; rw [← hp.ex] at this; omega))
    generalize nodes x = d at HD ⊢
    have HP := hid hp
    obtain rfl := hp.kl
    subst hrv
    have hroom : ks.length ≤ 9223372036854775807 := by have h1 := hp.le; have h2 := hp.mx; unfold maxLen at h2; omega
    clear hp hr ih hs
    subst hM
    go_enter Tryz.func103, Tryz.ntmps103
    go_wp2
    go_loopw [5, 11, 7] (fun y z _ W' => ∃ (i a : Nat), i ≤ ks.length ∧ y = .int .i64 (a : Int) ∧ z = .int .i64 (i : Int) ∧ a ≤ m ∧ Hid (Q W W') ∧ Hid (a = min (1 + nodes.nodesL (ks.take i)) m)) (fun _ z _ _ => ks.length - (intOf z).toNat)
    case atStart => exact ⟨0, 1, Nat.zero_le _, rfl, rfl, h1, hid ((Q.refl _).alloc _), by show _ = _; simp [nodes.nodesL]; omega⟩
    case round =>
      obtain ⟨i, a, hi, rfl, rfl, ha, hQ, hA⟩ := hrel
      by_cases hlt : i < ks.length
      · have hne : ks ≠ [] := by intro h; rw [h] at hlt; simp at hlt
        obtain ⟨b', off, rfl, hl⟩ := (HP.out.on hQ.out).kd hne
        obtain ⟨e0, e1, e2, e3, e4, e5, e6, hK⟩ := hl.kid i hlt
        obtain ⟨k', n', t', b1', e', a1', l1', c1', a2', l2', c2', hsh⟩ := hK.rd.shape
        simp only [Value.agg.injEq, Array.mk.injEq, List.cons.injEq, and_true] at hsh
        obtain ⟨rfl, rfl, rfl, rfl, rfl, rfl, rfl⟩ := hsh
        obtain ⟨h0, g1, h2, h3, h4, h5, h6, hrd⟩ := hK
        by_cases ham : a = m
        · have HA2 : Hid ((min d m : Nat) = m) := by
            show _ = _
            have := hA.out
            have := nodesL_take_le ks i
            have := HD.out
            omega
          have eam : ((a : Int) == (m : Int)) = true := by rw [ham]; exact beq_self_eq_true _
          have HAM := hid ham
          clear hl hrd hA ham
          go_wp2_with fail
          go_ret
          exact ⟨ret_int (by rw [HA2.out, HAM.out]), hQ.out.trans (by repeat (first | with_reducible exact Q.refl _ | with_reducible refine Q.alloc ?_ _))⟩
        · have eam : ((a : Int) == (m : Int)) = false := by rw [beq_eq_false_iff_ne]; omega
          have HRD := hid hrd
          have HI := hid (fun W1 (q : Q wr W1) => IH.out i hlt _ W1 ((m : Int) - (a : Int)) (m - a) (by omega) (by omega) (by omega) (Rd.on q _ _ HRD.out))
          have HA2 : Hid (a + min (nodes ks[i]) (m - a) = min (1 + nodes.nodesL (ks.take (i + 1))) m) := by
            show _ = _
            have := hA.out
            rw [nodesL_take ks i hlt]
            omega
          have hdl : min (nodes ks[i]) (m - a) ≤ m - a := Nat.min_le_right _ _
          generalize min (nodes ks[i]) (m - a) = dd at HI HA2 hdl
          clear hl hrd hA ham
          go_wp2_with (go_at_call 103; refine (HI.out _ (by repeat (first | with_reducible exact Q.refl _ | with_reducible refine Q.alloc ?_ _))).mono ?_; rintro e9 w9 ⟨rfl, q9⟩; have Q9 : Hid (Q wr w9) := hid (Q.trans (by repeat (first | with_reducible exact Q.refl _ | with_reducible refine Q.alloc ?_ _)) q9); clear q9)
          go_roundw
          case rel => exact ⟨i + 1, a + dd, by omega, by go_num, by go_num, by omega, hid (hQ.out.trans Q9.out), HA2⟩
          case measure => simp [intOf]; omega
      · have HA2 : Hid ((min d m : Nat) = a) := by
          show _ = _
          have := hA.out
          rw [List.take_of_length_le (by omega)] at this
          rw [HD.out, this]
        clear hA
        go_wp2_with fail
        go_ret
        exact ⟨ret_int (by rw [HA2.out]), hQ.out⟩
set_option maxHeartbeats 4000000 in
theorem shallow_any : ∀ (m : Nat) (x : Ex) (v : Value) (W : World) (M : Int), M = (m : Int) → m ≤ 100 → Rd W x v → Calls Tryz.prog 92 #[v, .int .i64 M] W fun e W' => e = .returned (.bool (shl m x)) ∧ Q W W' := by
  intro m
  induction m with
  | zero =>
    intro x v W M hM hm hr
    obtain ⟨k, n, t, b, e, a1, l1, c1, a2, l2, c2, rfl⟩ := hr.shape
    have HD : Hid (shl 0 x = false) := hid (by unfold shl; rfl)
    generalize shl 0 x = d at HD ⊢
    have e0 : (M == 0) = true := by rw [hM]; rfl
    clear hr hM
    go_enter Tryz.func92, Tryz.ntmps92
    go_wp2_with fail
    go_ret
    exact ⟨ret_bool HD.out.symm, (Q.refl _).alloc _⟩
  | succ m ih =>
    intro x v W M hM hm hr
    obtain ⟨k, n, t, b, e, rs, ks, rv, kv, ao, cap, rfl, hp⟩ := hr.prt
    obtain ⟨ar, cr, hrv, _⟩ := hp.rl
    have HD : Hid (shl (m + 1) x = ks.all (shl m)) := hid (by rw [hp.ex]; rfl)
    generalize shl (m + 1) x = d at HD ⊢
    have IH := hid (fun x v W h => ih x v W (M - 1) (by omega) (by omega) h)
    have e0 : (M == 0) = false := by rw [beq_eq_false_iff_ne]; omega
    have hM0 : 0 < M := by omega
    have hM1 : M ≤ 200 := by omega
    have HP := hid hp
    obtain rfl := hp.kl
    subst hrv
    have hroom : ks.length ≤ 9223372036854775807 := by have h1 := hp.le; have h2 := hp.mx; unfold maxLen at h2; omega
    clear hp hr ih hM
    go_enter Tryz.func92, Tryz.ntmps92
    go_wp2_with fail
    go_loopw [12, 6] (fun z _ W' => ∃ (i : Nat), i ≤ ks.length ∧ z = .int .i64 (i : Int) ∧ Hid (Q W W') ∧ Hid ((ks.take i).all (shl m) = true)) (fun z _ _ => ks.length - (intOf z).toNat)
    case atStart => exact ⟨0, Nat.zero_le _, rfl, hid ((Q.refl _).alloc _), rfl⟩
    case round =>
      obtain ⟨i, hi, rfl, hQ, hA⟩ := hrel
      by_cases hlt : i < ks.length
      · have hne : ks ≠ [] := by intro h; rw [h] at hlt; simp at hlt
        obtain ⟨b', off, rfl, hl⟩ := (HP.out.on hQ.out).kd hne
        obtain ⟨e0', e1, e2, e3, e4, e5, e6, hK⟩ := hl.kid i hlt
        obtain ⟨k', n', t', b1', e', a1', l1', c1', a2', l2', c2', hsh⟩ := hK.rd.shape
        simp only [Value.agg.injEq, Array.mk.injEq, List.cons.injEq, and_true] at hsh
        obtain ⟨rfl, rfl, rfl, rfl, rfl, rfl, rfl⟩ := hsh
        obtain ⟨h0, g1, h2, h3, h4, h5, h6, hrd⟩ := hK
        have HRD := hid hrd
        have HI := hid (fun W1 (q : Q wr W1) => IH.out ks[i] _ W1 (Rd.on q _ _ HRD.out))
        cases hb : shl m ks[i]
        · rw [hb] at HI
          have HA2 : Hid (d = false) := by
            show _ = _
            rw [HD.out, Bool.eq_false_iff]
            intro e
            rw [List.all_eq_true] at e
            have := e ks[i] (List.getElem_mem hlt)
            rw [hb] at this
            cases this
          clear hl hrd hA
          go_wp2_with (go_at_call 92; refine (HI.out _ (by repeat (first | with_reducible exact Q.refl _ | with_reducible refine Q.alloc ?_ _))).mono ?_; rintro e9 w9 ⟨rfl, q9⟩; have Q9 : Hid (Q wr w9) := hid (Q.trans (by repeat (first | with_reducible exact Q.refl _ | with_reducible refine Q.alloc ?_ _)) q9); clear q9)
          go_ret
          exact ⟨ret_bool HA2.out.symm, hQ.out.trans Q9.out⟩
        · rw [hb] at HI
          have HA2 : Hid ((ks.take (i + 1)).all (shl m) = true) := by
            show _ = _
            rw [List.take_succ_eq_append_getElem hlt, List.all_append, hA.out]
            simp [hb]
          clear hl hrd hA
          go_wp2_with (go_at_call 92; refine (HI.out _ (by repeat (first | with_reducible exact Q.refl _ | with_reducible refine Q.alloc ?_ _))).mono ?_; rintro e9 w9 ⟨rfl, q9⟩; have Q9 : Hid (Q wr w9) := hid (Q.trans (by repeat (first | with_reducible exact Q.refl _ | with_reducible refine Q.alloc ?_ _)) q9); clear q9)
          go_roundw
          case rel => exact ⟨i + 1, by omega, by go_num, hid (hQ.out.trans Q9.out), HA2⟩
          case measure => simp [intOf]; omega
      · have HA2 : Hid (d = true) := by
          show _ = _
          have := hA.out
          rw [List.take_of_length_le (by omega)] at this
          rw [HD.out, this]
        clear hA
        go_wp2_with fail
        go_ret
        exact ⟨ret_bool HA2.out.symm, hQ.out⟩
def mall (nd : Ex → Bool) : Ex → Bool
  | .mk k n t b e rs ks => nd (.mk k n t b e rs ks) && mallL nd ks
  where
  mallL (nd : Ex → Bool) : List Ex → Bool
  | [] => true
  | x :: xs => mall nd x && mallL nd xs
theorem mallL_all (nd : Ex → Bool) (ks : List Ex) : mall.mallL nd ks = ks.all (mall nd) := by
  induction ks with
  | nil => simp [mall.mallL]
  | cons x xs ih => rw [mall.mallL, ih, List.all_cons]
set_option maxHeartbeats 4000000 in
theorem mayall_any (nd : Ex → Bool) (G : World → Prop) (hG : ∀ W W', G W → Q W W' → G W') (P : Ex → Prop) (hP : ∀ k n t b e rs ks, P (.mk k n t b e rs ks) → ∀ y ∈ ks, P y) (HN : Hid (∀ x v W, G W → P x → Rd W x v → Calls Tryz.prog 93 #[v] W fun e W' => e = .returned (.bool (nd x)) ∧ Q W W')) :
    ∀ (s : Nat) (x : Ex) (v : Value) (W : World), SizeOf.sizeOf x ≤ s → G W → P x → Rd W x v → Calls Tryz.prog 66 #[v] W fun e W' => e = .returned (.bool (mall nd x)) ∧ Q W W' := by
  intro s
  induction s with
  | zero =>
    intro x v W hs
    cases x with
    | mk k n t b e rs ks => simp at hs
  | succ s ih =>
    intro x v W hs hg hpx hr
    have HNx := hid (fun W1 (q : Q W W1) => HN.out x v W1 (hG _ _ hg q) hpx (Rd.on q _ _ hr))
    obtain ⟨k, n, t, b, e, rs, ks, rv, kv, ao, cap, rfl, hp⟩ := hr.prt
    obtain ⟨ar, cr, hrv, _⟩ := hp.rl
    have HD : Hid (mall nd x = (nd x && ks.all (mall nd))) := hid (by rw [hp.ex, mall, mallL_all])
    have HPK : Hid (∀ i (h : i < ks.length), P ks[i]) := hid (fun i h => hP k n t.data.toList b e rs ks (hp.ex ▸ hpx) _ (List.getElem_mem h))
    have IH := hid (fun (i : Nat) (h : i < ks.length) v W => ih ks[i] v W (by have := kid_size (k := k) (n := n) (t := t.data.toList) (b := b) (e := e) (rs := rs) i h; rw [← hp.ex] at this; omega))
    generalize mall nd x = d at HD ⊢
    have HP := hid hp
    have HGW := hid hg
    obtain rfl := hp.kl
    subst hrv
    have hroom : ks.length ≤ 9223372036854775807 := by have h1 := hp.le; have h2 := hp.mx; unfold maxLen at h2; omega
    have HX := hid (Bx.start W (.int .i64 k) (.int .i64 n) (.string t) (.bool b) (.int .i64 e) (.slice ar rs.length cr) (.slice ao ks.length cap) 35)
    clear hp hr ih hs hg hpx
    cases hnd : nd x
    · rw [hnd] at HNx
      have HR : Hid (d = false) := by show _ = _; rw [HD.out, hnd]; rfl
      go_enter Tryz.func66, Tryz.ntmps66
      go_wp2_with (go_at_call 93; refine (HNx.out _ ((Q.refl _).alloc _)).mono ?_; rintro e9 w1 ⟨rfl, q1⟩; have Q1 : Hid (Q W w1) := hid (((Q.refl _).alloc _).trans q1); clear q1)
      go_ret
      exact ⟨ret_bool HR.out.symm, Q1.out⟩
    · rw [hnd] at HNx
      have HR : Hid (d = ks.all (mall nd)) := by show _ = _; rw [HD.out, hnd, Bool.true_and]
      go_enter Tryz.func66, Tryz.ntmps66
      go_wp2_with (go_at_call 93; refine (HNx.out _ ((Q.refl _).alloc _)).mono ?_; rintro e9 w1 ⟨rfl, q1⟩; have Q1 : Hid (Q W w1) := hid (((Q.refl _).alloc _).trans q1); have X1 := hid (HX.out.on q1); clear q1; have c6 := X1.out.g6)
      go_loopw [11, 4] (fun z _ W' => ∃ (i : Nat), i ≤ ks.length ∧ z = .int .i64 (i : Int) ∧ Hid (Q W W') ∧ Hid ((ks.take i).all (mall nd) = true)) (fun z _ _ => ks.length - (intOf z).toNat)
      case atStart => exact ⟨0, Nat.zero_le _, rfl, Q1, rfl⟩
      case round =>
        obtain ⟨i, hi, rfl, hQ, hA⟩ := hrel
        by_cases hlt : i < ks.length
        · have hne : ks ≠ [] := by intro h; rw [h] at hlt; simp at hlt
          obtain ⟨b', off, rfl, hl⟩ := (HP.out.on hQ.out).kd hne
          obtain ⟨e0', e1, e2, e3, e4, e5, e6, hK⟩ := hl.kid i hlt
          obtain ⟨k', n', t', b1', e', a1', l1', c1', a2', l2', c2', hsh⟩ := hK.rd.shape
          simp only [Value.agg.injEq, Array.mk.injEq, List.cons.injEq, and_true] at hsh
          obtain ⟨rfl, rfl, rfl, rfl, rfl, rfl, rfl⟩ := hsh
          obtain ⟨h0, g1, h2, h3, h4, h5, h6, hrd⟩ := hK
          have HRD := hid hrd
          have HI := hid (fun W1 (q : Q wr W1) => IH.out i hlt _ W1 (hG _ _ HGW.out (hQ.out.trans q)) (HPK.out i hlt) (Rd.on q _ _ HRD.out))
          cases hb : mall nd ks[i]
          · rw [hb] at HI
            have HA2 : Hid (d = false) := by
              show _ = _
              rw [HR.out, Bool.eq_false_iff]
              intro e
              rw [List.all_eq_true] at e
              have := e ks[i] (List.getElem_mem hlt)
              rw [hb] at this
              cases this
            clear hl hrd hA
            go_wp2_with (go_at_call 66; refine (HI.out _ (by repeat (first | with_reducible exact Q.refl _ | with_reducible refine Q.alloc ?_ _))).mono ?_; rintro e9 w9 ⟨rfl, q9⟩; have Q9 : Hid (Q wr w9) := hid (Q.trans (by repeat (first | with_reducible exact Q.refl _ | with_reducible refine Q.alloc ?_ _)) q9); clear q9)
            go_ret
            exact ⟨ret_bool HA2.out.symm, hQ.out.trans Q9.out⟩
          · rw [hb] at HI
            have HA2 : Hid ((ks.take (i + 1)).all (mall nd) = true) := by
              show _ = _
              rw [List.take_succ_eq_append_getElem hlt, List.all_append, hA.out]
              simp [hb]
            clear hl hrd hA
            go_wp2_with (go_at_call 66; refine (HI.out _ (by repeat (first | with_reducible exact Q.refl _ | with_reducible refine Q.alloc ?_ _))).mono ?_; rintro e9 w9 ⟨rfl, q9⟩; have Q9 : Hid (Q wr w9) := hid (Q.trans (by repeat (first | with_reducible exact Q.refl _ | with_reducible refine Q.alloc ?_ _)) q9); clear q9)
            go_roundw
            case rel => exact ⟨i + 1, by omega, by go_num, hid (hQ.out.trans Q9.out), HA2⟩
            case measure => simp [intOf]; omega
        · have HA2 : Hid (d = true) := by
            show _ = _
            have := hA.out
            rw [List.take_of_length_le (by omega)] at this
            rw [HR.out, this]
          clear hA
          go_wp2_with fail
          go_ret
          exact ⟨ret_bool HA2.out.symm, hQ.out⟩
set_option maxHeartbeats 4000000 in
theorem pCount_any (x : Ex) (v : Value) (W : World) (hr : Rd W x v) : Calls Tryz.prog 86 #[v] W fun e W' => e = .returned (.int .i64 (min (nodes x) 201 : Nat)) ∧ Q W W' := by
  have HC := hid (fun W1 (q : Q W W1) => pcount_any _ x v W1 201 201 (Nat.le_refl _) rfl (by omega) (by omega) (Rd.on q _ _ hr))
  obtain ⟨k, m, t, bb, er, a1, l1, c1, a2, l2, c2, rfl⟩ := hr.shape
  generalize min (nodes x) 201 = d at HC ⊢
  clear hr
  go_enter Tryz.func86, Tryz.ntmps86
  go_wp2_with (go_at_call 103; refine (HC.out _ ((Q.refl _).alloc _)).mono ?_; rintro e w1 ⟨rfl, q1⟩; have Q1 : Hid (Q W w1) := hid (((Q.refl _).alloc _).trans q1); clear q1)
  go_ret
  exact ⟨rfl, Q1.out⟩
def fitB (x : Ex) : Bool := decide (nodes x ≤ 200) && shl 50 x
set_option maxHeartbeats 4000000 in
theorem fits_any (x : Ex) (v : Value) (W : World) (hr : Rd W x v) : Calls Tryz.prog 65 #[v] W fun e W' => e = .returned (.bool (fitB x)) ∧ Q W W' := by
  have HC := hid (fun W1 (q : Q W W1) => pCount_any x v W1 (Rd.on q _ _ hr))
  have HS := hid (fun W1 (q : Q W W1) => shallow_any 50 x v W1 50 rfl (by omega) (Rd.on q _ _ hr))
  obtain ⟨k, m, t, bb, er, a1, l1, c1, a2, l2, c2, rfl⟩ := hr.shape
  clear hr
  by_cases hn : nodes x ≤ 200
  · have HF : Hid (fitB x = shl 50 x) := by show _ = _; unfold fitB; rw [decide_eq_true hn, Bool.true_and]
    have c200 : ((min (nodes x) 201 : Nat) : Int) ≤ 200 := by omega
    generalize ((min (nodes x) 201 : Nat) : Int) = d at HC c200
    generalize fitB x = r at HF ⊢
    generalize shl 50 x = sh at HS HF
    go_enter Tryz.func65, Tryz.ntmps65
    go_wp2_with (first | (go_at_call 86; refine (HC.out _ ((Q.refl _).alloc _)).mono ?_; rintro e w1 ⟨rfl, q1⟩; have Q1 : Hid (Q W w1) := hid (((Q.refl _).alloc _).trans q1); have X1 := hid ((tb_new W (.int .i64 k) (.int .i64 m) (.string t) (.bool bb) (.int .i64 er) (.slice a1 l1 c1) (.slice a2 l2 c2) 35).on (p := W.heap.size + 1) (Qx.of q1) (by omega)); clear q1; have n0 := X1.out.g0; have n1 := X1.out.g1; have n2 := X1.out.g2; have n3 := X1.out.g3; have n4 := X1.out.g4; have n5 := X1.out.g5; have n6 := X1.out.g6) | (go_at_call 92; refine (HS.out _ Q1.out).mono ?_; rintro e w2 ⟨rfl, q2⟩; have Q2 := hid q2; clear q2))
    go_ret
    exact ⟨ret_bool HF.out.symm, Q1.out.trans Q2.out⟩
  · have HF : Hid (fitB x = false) := by show _ = _; unfold fitB; rw [decide_eq_false hn, Bool.false_and]
    have c200 : ¬ ((min (nodes x) 201 : Nat) : Int) ≤ 200 := by omega
    generalize ((min (nodes x) 201 : Nat) : Int) = d at HC c200
    generalize fitB x = r at HF ⊢
    go_enter Tryz.func65, Tryz.ntmps65
    go_wp2_with (go_at_call 86; refine (HC.out _ ((Q.refl _).alloc _)).mono ?_; rintro e w1 ⟨rfl, q1⟩; have Q1 : Hid (Q W w1) := hid (((Q.refl _).alloc _).trans q1); clear q1)
    go_ret
    exact ⟨ret_bool HF.out.symm, Q1.out⟩
end Go.Proofs.YthebfhdpofhmpaaGreatDoor
namespace Go.Proofs.YthebfhdpofhmpaaGreatDoor
open Go.ChangeShapes Go.WideShapes Go.ChangeAt Go.RowKit
set_option maxRecDepth 100000
set_option linter.unusedVariables false
theorem own : ownKnob Tryz.prog.godebug = none := by kernel_rfl
theorem cells9 : Tryz.prog.cellsOf 9 = 1 := by kernel_rfl
theorem namType : (Tryz.prog.globals[0]?).map (·.type) = some 154 := by kernel_rfl
theorem glob_nam : Tryz.prog.globalNamed "counterpane/value.names" = some 0 := by kernel_rfl
theorem laid_plain_xformAlone : (Rows.xformAloneRow.laid.all fun x => x.2.handleName?.isNone) = true := by kernel_rfl
theorem laid_first : Rows.laid_unicode_utf8_first = Lib.firstData := by kernel_rfl
theorem laid_pow : Rows.laid_internal_strconv_uint64pow10 = Lib.tabData (H := Unit) .u64 Lib.pow10Tab := by kernel_rfl
theorem glob_tab : Tryz.prog.globalNamed "internal/strconv.uint64pow10" = some 4 := by kernel_rfl
theorem tabType : (Tryz.prog.globals[4]?).map (·.type) = some 246 := by kernel_rfl
theorem cells156 : Tryz.prog.cellsOf 246 = 20 := by kernel_rfl
theorem cells110 : Tryz.prog.cellsOf 199 = 1 := by kernel_rfl
theorem laid_accept : Rows.laid_unicode_utf8_acceptRanges = Lib.acceptData := by kernel_rfl
theorem u8x : U8Extra Tryz.prog Tryz.lays196_ren := ⟨by kernel_rfl, by kernel_rfl, by kernel_rfl, by kernel_rfl, by kernel_rfl, by kernel_rfl, by kernel_rfl⟩
def namL : List (List UInt8) := [[], [35, 82, 69, 70, 33], [35, 67, 89, 67, 76, 69, 33], [35, 68, 73, 86, 47, 48, 33], [35, 78, 85, 77, 33], [35, 86, 65, 76, 85, 69, 33], [35, 78, 65, 77, 69, 63], [35, 78, 47, 65]]
theorem namL_at : ∀ i : Nat, i < 8 → namL[i]? = some (enL i) := by
  intro i hi
  rcases (by omega : i = 0 ∨ i = 1 ∨ i = 2 ∨ i = 3 ∨ i = 4 ∨ i = 5 ∨ i = 6 ∨ i = 7) with rfl | rfl | rfl | rfl | rfl | rfl | rfl | rfl <;> rfl
theorem laid_nam : Rows.laid_counterpane_value_names (H := Unit) = .agg (namL.map fun l => .lit (.string l)) := by kernel_rfl
theorem nam_cells {W : World} (h : Lib.VarReads Tryz.prog W "counterpane/value.names" (.agg (namL.map fun l => .lit (.string l)))) : ∀ i : Nat, i < 8 → W.cell? ⟨0, i, none⟩ = some (.string ⟨(enL i).toArray⟩) := by
  obtain ⟨g, t, cs, fuel, p, hg, hty, hvar, hd⟩ := h
  obtain rfl := Option.some.inj (glob_nam.symm.trans hg)
  obtain rfl := Option.some.inj (namType.symm.trans hty)
  intro i hi
  obtain ⟨fuel', d, q, hdi, he⟩ := Lib.array_elem Tryz.underlying154 hd i hi
  rw [List.getElem?_map, namL_at i hi] at hdi
  simp only [Option.map_some, Option.some.injEq] at hdi
  subst hdi
  rw [cells9] at he
  obtain ⟨s, hs, hx, _⟩ := DataW.trod_string Tryz.underlying9 he
  have e0 := congrArg (·[0]?) hs
  simp only [List.getElem?_take, List.getElem?_drop] at e0
  simp only [Prod.mk.injEq, DataW.lit.injEq, Lit.string.injEq] at hx
  have hs' : s = ⟨(enL i).toArray⟩ := by
    apply ByteArray.ext
    apply Array.ext'
    rw [← hx.1]
  rw [World.var?_cell hg hvar i, ← Array.getElem?_toList]
  rw [← hs']
  simpa using e0
theorem std_reads {W : World} (h1 : Lib.VarReads Tryz.prog W "counterpane/value.names" (.agg (namL.map fun l => .lit (.string l))))
    (h3 : Lib.VarReads Tryz.prog W "unicode/utf8.first" Lib.firstData) (h4 : Lib.VarReads Tryz.prog W "unicode/utf8.acceptRanges" Lib.acceptData) (h5 : Lib.VarReads Tryz.prog W "math/bits.deBruijn64tab" Rows.laid_math_bits_deBruijn64tab) (hsh : W.ShapedOpen Tryz.prog) : Std W := by
  have hc := nam_cells h1
  obtain ⟨m, hm⟩ := Go.Proofs.cell_of_shapedOpen_int (g := 3) (zero := #[.int .i64 0]) (t := 3) hsh (of_decide_eq_true (by kernel_rfl)) (by kernel_rfl) rfl (by kernel_rfl) (by kernel_rfl) Tryz.underlying3
  refine ⟨⟨World.block_lt_of_cell? W ⟨0, 0, none⟩ (hc 0 (by omega)), hc⟩, utf8Tabs_of_readsT (U8Types.of196 Tryz.lays196) u8x h3 h4, ⟨m, hm⟩, ?_⟩
  obtain ⟨g, t, cs, fuel, p, hg, hty, hvar, hd⟩ := h5
  obtain rfl := Option.some.inj ((show Tryz.prog.globalNamed "math/bits.deBruijn64tab" = some 6 by kernel_rfl).symm.trans hg)
  unfold World.var? at hvar
  rw [hg] at hvar
  simp only [Option.bind_some] at hvar
  rcases Nat.lt_or_ge 6 W.heap.size with h' | h'
  · omega
  · rw [Array.getElem?_eq_none h'] at hvar; simp at hvar
theorem tab_reads {W : World} (h : Lib.VarReads Tryz.prog W "internal/strconv.uint64pow10" (Lib.tabData .u64 Lib.pow10Tab)) : Lib.TabIs Tryz.prog W "internal/strconv.uint64pow10" .u64 Lib.pow10Tab := by
  obtain ⟨g, t, cs, fuel, p, hg, hty, hvar, hd⟩ := h
  obtain rfl := Option.some.inj (glob_tab.symm.trans hg)
  obtain rfl := Option.some.inj (tabType.symm.trans hty)
  unfold Lib.TabIs
  rw [hvar, ← Lib.cells_of_tab Tryz.underlying246 Tryz.underlying199 cells110 cells156 hd]
theorem tab_on {W W' : World} (h : Lib.TabIs Tryz.prog W "internal/strconv.uint64pow10" .u64 Lib.pow10Tab) (q : Q W W') : Lib.TabIs Tryz.prog W' "internal/strconv.uint64pow10" .u64 Lib.pow10Tab := by
  unfold Lib.TabIs World.var? at *
  rw [glob_tab] at *
  simp only [Option.bind_some] at h ⊢
  have hb : 4 < W.heap.size := by
    rcases Nat.lt_or_ge 4 W.heap.size with h' | h'
    · exact h'
    · rw [Array.getElem?_eq_none h'] at h; simp at h
  rw [Below.block q 4 hb]
  exact h
theorem gd_xformAlone {W : World} (hL : laidMetH Tryz.prog Rows.xformAloneRow.laid W) (hsh : W.ShapedOpen Tryz.prog) : Gd W := by
  rw [MakeChecks.laidMetH_plain _ _ _ laid_plain_xformAlone] at hL
  refine ⟨std_reads (Lib.laidMet.reads hL ?_) (Lib.laidMet.reads hL ?_) (Lib.laidMet.reads hL ?_) (Lib.laidMet.reads hL ?_) hsh, fun W' q => tab_on (tab_reads (Lib.laidMet.reads hL ?_)) q⟩
  · rw [← laid_nam]
    exact .tail _ (.tail _ (.tail _ (.tail _ (.head _))))
  · rw [← laid_first]
    exact .tail _ (.tail _ (.tail _ (.tail _ (.tail _ (.head _)))))
  · rw [← laid_accept]
    exact .tail _ (.tail _ (.tail _ (.head _)))
  · exact .tail _ (.head _)
  · rw [← laid_pow]
    exact .tail _ (.tail _ (.head _))
def lit1 : DataW Unit → List Value
  | .lit (.int k n) => [.int k n]
  | .lit (.string l) => [.string ⟨l.toArray⟩]
  | _ => []
def lit2 : DataW Unit → List Value
  | .agg l => l.flatMap lit1
  | d => lit1 d
def lit3 : DataW Unit → List Value
  | .agg l => l.flatMap lit2
  | d => lit2 d
def put (d : DataW Unit) : Obj → Obj
  | .cells _ t frozen => .cells (lit3 d).toArray t frozen
  | o => o
def lay (w : World) : World :=
  { w with heap := ((((((w.heap.modify 0 (put Rows.laid_counterpane_value_names)).modify 1 (put Rows.laid_unicode_utf8_first)).modify 2 (put Rows.laid_unicode_utf8_acceptRanges)).modify 4 (put Rows.laid_internal_strconv_uint64pow10)).modify 5 (put Rows.laid_math_bits_deBruijn32tab)).modify 6 (put Rows.laid_math_bits_deBruijn64tab)) }
theorem laid_met_xformAlone (os : Os) (args : Array Value) : laidMetH Tryz.prog Rows.xformAloneRow.laid ((lay (World.holding Tryz.prog os ⟨#[], #[], []⟩)).forCall (fun _ _ => 0) ⟨#[], args, []⟩).memory := by
  rw [MakeChecks.laidMetH_plain _ _ _ laid_plain_xformAlone]
  exact laidMet_of_run' 8 (by kernel_rfl) (by kernel_rfl)
end Go.Proofs.YthebfhdpofhmpaaGreatDoor
