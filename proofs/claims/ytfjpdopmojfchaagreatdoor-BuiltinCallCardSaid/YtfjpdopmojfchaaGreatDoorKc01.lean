/- Package value and its referenc. -/
import Derived.Test.YtfjpdopmojfchaaGreatDoorKc00
import Derived.Handy
import Derived.Laws.AppendOwn
import Derived.Laws.AppendOwnNone
import Derived.Laws.OwnMore
import Derived.OneCell
import Derived.Lib.BitFns
set_option linter.unusedVariables false
set_option linter.unusedSimpArgs false
set_option maxRecDepth 100000
set_option maxHeartbeats 8000000
namespace Go.Proofs.YtfjpdopmojfchaaGreatDoor
open Go.RowKit
def vv (k n : Int) (t : ByteArray) (b : Bool) (e : Int) : Value := .agg #[.int .i64 k, .int .i64 n, .string t, .bool b, .int .i64 e]
theorem vret_bool {a b : Bool} (h : a = b) : Ending.returned (.bool a) = .returned (.bool b) := by rw [h]
theorem vret_bi {a b : Bool} {c d : Int} (h : a = b) (g : c = d) : Ending.returned (.tuple #[.bool a, .int .i64 c]) = .returned (.tuple #[.bool b, .int .i64 d]) := by rw [h, g]
def tn (b : Bool) : Int := if b then 10000 else 0
set_option maxHeartbeats 400000 in
theorem truthNumber_any (b : Bool) (w : World) : Calls Tryz.prog 117 #[.bool b] w fun e w' => e = .returned (.int .i64 (tn b)) ∧ w' = w := by
  cases b
  · go_enter Tryz.func117, Tryz.ntmps117
    go_wp2
    go_ret
    exact ⟨rfl, rfl⟩
  · go_enter Tryz.func117, Tryz.ntmps117
    go_wp2
    go_ret
    exact ⟨rfl, rfl⟩
def ttL (b : Bool) : List UInt8 := if b then [84, 82, 85, 69] else [70, 65, 76, 83, 69]
set_option maxHeartbeats 400000 in
theorem truthText_any (b : Bool) (w : World) : Calls Tryz.prog 89 #[.bool b] w fun e w' => e = .returned (.string ⟨(ttL b).toArray⟩) ∧ w' = w := by
  cases b
  · go_enter Tryz.func89, Tryz.ntmps89
    go_wp2
    go_ret
    exact ⟨rfl, rfl⟩
  · go_enter Tryz.func89, Tryz.ntmps89
    go_wp2
    go_ret
    exact ⟨rfl, rfl⟩
def rtB (l : List UInt8) : Bool := l == [84, 82, 85, 69]
def rtE (l : List UInt8) : Int := if l = [84, 82, 85, 69] ∨ l = [70, 65, 76, 83, 69] then 0 else 5
set_option maxHeartbeats 400000 in
theorem readTruth_any (s : ByteArray) (w : World) : Calls Tryz.prog 113 #[.string s] w fun e w' => e = .returned (.tuple #[.bool (rtB s.toList), .int .i64 (rtE s.toList)]) ∧ w' = w := by
  by_cases h1 : s.toList = [84, 82, 85, 69]
  · have H : Hid (rtB s.toList = true ∧ rtE s.toList = 0) := by show _ ∧ _; rw [h1]; exact ⟨rfl, rfl⟩
    go_enter Tryz.func113, Tryz.ntmps113
    go_wp2
    go_ret2
    exact ⟨vret_bi H.out.1.symm H.out.2.symm, rfl⟩
  · have h1' : (s.toList == [84, 82, 85, 69]) = false := by simpa using h1
    by_cases h2 : s.toList = [70, 65, 76, 83, 69]
    · have H : Hid (rtB s.toList = false ∧ rtE s.toList = 0) := by show _ ∧ _; rw [h2]; exact ⟨rfl, rfl⟩
      go_enter Tryz.func113, Tryz.ntmps113
      go_wp2
      go_ret2
      exact ⟨vret_bi H.out.1.symm H.out.2.symm, rfl⟩
    · have H : Hid (rtB s.toList = false ∧ rtE s.toList = 5) := by show _ ∧ _; exact ⟨h1', by unfold rtE; rw [if_neg (by rintro (h | h); exact h1 h; exact h2 h)]⟩
      have h2' : (s.toList == [70, 65, 76, 83, 69]) = false := by simpa using h2
      go_enter Tryz.func113, Tryz.ntmps113
      go_wp2
      go_ret2
      exact ⟨vret_bi H.out.1.symm H.out.2.symm, rfl⟩
def eqB (k n : Int) (t : List UInt8) (b : Bool) (e : Int) (k' n' : Int) (t' : List UInt8) (b' : Bool) (e' : Int) : Bool :=
  decide (k = k' ∧ n = n' ∧ t = t' ∧ b = b' ∧ e = e')
set_option maxHeartbeats 1000000 in
theorem req_any (k n : Int) (t : ByteArray) (b : Bool) (e : Int) (k' n' : Int) (t' : ByteArray) (b' : Bool) (e' : Int) (w : World) :
    Calls Tryz.prog 12 #[vv k n t b e, vv k' n' t' b' e'] w fun x w' => x = .returned (.bool (eqB k n t.toList b e k' n' t'.toList b' e')) ∧ Q w w' := by
  unfold vv
  go_enter Tryz.func12, Tryz.ntmps12
  go_wp2
  all_goals go_ret
  all_goals exact ⟨vret_bool (by first | (simp [eqB, *]; done) | (simp [eqB, *]; rfl)), ((Q.refl _).alloc _).alloc _⟩
def cutT (t : ByteArray) : ByteArray := if 250 < t.size then t.extract 0 250 else t
theorem cutT_size (t : ByteArray) : (cutT t).size ≤ 250 := by
  unfold cutT
  split
  · simp only [ByteArray.size_extract]; omega
  · omega
set_option maxHeartbeats 400000 in
theorem cut_any2 (k n : Int) (t : ByteArray) (b : Bool) (e : Int) (w : World) :
    Calls Tryz.prog 17 #[vv k n t b e] w fun x w' => x = .returned (vv k n (cutT t) b e) ∧ Q w w' := by
  unfold vv
  by_cases h : 250 < (t.size : Int)
  · have H : cutT t = t.extract 0 250 := by unfold cutT; rw [if_pos (by omega)]
    rw [H]
    clear H
    go_enter Tryz.func17, Tryz.ntmps17
    go_wp2
    exact bodyPost_ret (v := .agg #[.int .i64 k, .int .i64 n, .string (t.extract 0 250), .bool b, .int .i64 e]) (by simp [results, Tryz.results17, go_sem]) rfl ⟨rfl, ((Q.refl _).alloc _).alloc _⟩
  · have H : cutT t = t := by unfold cutT; rw [if_neg (by omega)]
    rw [H]
    clear H
    go_enter Tryz.func17, Tryz.ntmps17
    go_wp2
    exact bodyPost_ret (v := .agg #[.int .i64 k, .int .i64 n, .string t, .bool b, .int .i64 e]) (by simp [results, Tryz.results17, go_sem]) rfl ⟨rfl, ((Q.refl _).alloc _).alloc _⟩
set_option maxHeartbeats 400000 in
theorem txt_any (t : ByteArray) (w : World) : Calls Tryz.prog 28 #[.string t] w fun x w' => x = .returned (vv 2 0 t false 0) ∧ Q w w' := by
  go_enter Tryz.func28, Tryz.ntmps28
  go_wp2
  exact bodyPost_ret (v := vv 2 0 t false 0) (by simp [results, Tryz.results28, go_sem, vv]) rfl ⟨rfl, (Q.refl _).alloc _⟩
set_option maxHeartbeats 400000 in
theorem boo_any (b : Bool) (w : World) : Calls Tryz.prog 25 #[.bool b] w fun x w' => x = .returned (vv 3 0 ⟨#[]⟩ b 0) ∧ Q w w' := by
  go_enter Tryz.func25, Tryz.ntmps25
  go_wp2
  exact bodyPost_ret (v := vv 3 0 ⟨#[]⟩ b 0) (by simp [results, Tryz.results25, go_sem, vv]) rfl ⟨rfl, (Q.refl _).alloc _⟩
set_option maxHeartbeats 400000 in
theorem num_any (n : Int) (w : World) : Calls Tryz.prog 27 #[.int .i64 n] w fun x w' => x = .returned (vv 1 n ⟨#[]⟩ false 0) ∧ Q w w' := by
  go_enter Tryz.func27, Tryz.ntmps27
  go_wp2
  exact bodyPost_ret (v := vv 1 n ⟨#[]⟩ false 0) (by simp [results, Tryz.results27, go_sem, vv]) rfl ⟨rfl, (Q.refl _).alloc _⟩
set_option maxHeartbeats 400000 in
theorem err_any (n : Int) (w : World) : Calls Tryz.prog 26 #[.int .i64 n] w fun x w' => x = .returned (vv 4 0 ⟨#[]⟩ false n) ∧ Q w w' := by
  go_enter Tryz.func26, Tryz.ntmps26
  go_wp2
  exact bodyPost_ret (v := vv 4 0 ⟨#[]⟩ false n) (by simp [results, Tryz.results26, go_sem, vv]) rfl ⟨rfl, (Q.refl _).alloc _⟩
def nmL (e : Int) : List UInt8 :=
  if e = 1 then [35, 82, 69, 70, 33] else if e = 2 then [35, 67, 89, 67, 76, 69, 33] else if e = 3 then [35, 68, 73, 86, 47, 48, 33]
  else if e = 4 then [35, 78, 85, 77, 33] else if e = 5 then [35, 86, 65, 76, 85, 69, 33] else if e = 6 then [35, 78, 65, 77, 69, 63]
  else if e = 7 then [35, 78, 47, 65] else []
def Nam (w : World) : Prop := 0 < w.heap.size ∧ ∀ i : Nat, i < 8 → w.cell? ⟨0, i, none⟩ = some (.string ⟨(nmL i).toArray⟩)
theorem Nam.on {w w' : World} (h : Nam w) (q : Q w w') : Nam w' := ⟨q.lt h.1, fun i hi => by rw [q.cell h.1]; exact h.2 i hi⟩
structure Std2 (w : World) : Prop where
  std : Std w
  utf : Lib.Utf8Tabs 1 2 w
  nam : Nam w
theorem Std2.on {w w' : World} (h : Std2 w) (q : Q w w') : Std2 w' := ⟨h.std.on q, Utf8Tabs_below h.utf q, h.nam.on q⟩
theorem vret_str {a b : List UInt8} (h : a = b) : Ending.returned (.string ⟨a.toArray⟩) = .returned (.string ⟨b.toArray⟩) := by rw [h]
theorem nmL_no {e : Int} (h : e < 1 ∨ 7 < e) : [] = nmL e := by
  unfold nmL
  rw [if_neg (by omega), if_neg (by omega), if_neg (by omega), if_neg (by omega), if_neg (by omega), if_neg (by omega), if_neg (by omega)]
set_option maxHeartbeats 1000000 in
theorem name_any (e : Int) (w : World) (h : Nam w) : Calls Tryz.prog 122 #[.int .i64 e] w fun x w' => x = .returned (.string ⟨(nmL e).toArray⟩) ∧ w' = w := by
  by_cases h0 : e < 0
  · have H := hid (nmL_no (e := e) (by omega))
    go_enter Tryz.func122, Tryz.ntmps122
    go_wp2
    go_ret
    exact ⟨vret_str H.out, rfl⟩
  · by_cases h8 : 8 ≤ e
    · have H := hid (nmL_no (e := e) (by omega))
      go_enter Tryz.func122, Tryz.ntmps122
      go_wp2
      go_ret
      exact ⟨vret_str H.out, rfl⟩
    · have c0 := h.2 0 (by omega)
      have c1 := h.2 1 (by omega)
      have c2 := h.2 2 (by omega)
      have c3 := h.2 3 (by omega)
      have c4 := h.2 4 (by omega)
      have c5 := h.2 5 (by omega)
      have c6 := h.2 6 (by omega)
      have c7 := h.2 7 (by omega)
      clear h
      rcases (by omega : e = 0 ∨ e = 1 ∨ e = 2 ∨ e = 3 ∨ e = 4 ∨ e = 5 ∨ e = 6 ∨ e = 7) with rfl | rfl | rfl | rfl | rfl | rfl | rfl | rfl
      all_goals
        clear h0 h8
        go_enter Tryz.func122, Tryz.ntmps122
        go_wp2
        go_ret
        exact ⟨rfl, rfl⟩
def mtB (l : List UInt8) : Bool := decide (l.length ≤ 200) && Lib.validD l
set_option maxHeartbeats 1000000 in
theorem mayText_any (s : ByteArray) (w : World) (h : Std2 w) (hs : (s.size : Int) ≤ 9223372036854775000) : Calls Tryz.prog 121 #[.string s] w fun x w' => x = .returned (.bool (mtB s.data.toList)) ∧ Q w w' := by
  have hl : s.data.toList.length = s.size := by simp
  by_cases h1 : (s.size : Int) ≤ 200
  · have H : Hid (Lib.validD s.data.toList = mtB s.data.toList) := by show _ = _; unfold mtB; rw [hl]; simp; omega
    have HC := hid (Tryz.utf8_ValidString s w (by omega) h.utf)
    clear hl
    go_enter Tryz.func121, Tryz.ntmps121
    go_wp2_with (go_at_call 141; refine HC.out.mono ?_; rintro e w1 ⟨rfl, q1⟩)
    go_ret
    exact ⟨vret_bool H.out, q1⟩
  · have H : Hid (false = mtB s.data.toList) := by show _ = _; unfold mtB; rw [hl]; simp; intro; omega
    clear hl
    go_enter Tryz.func121, Tryz.ntmps121
    go_wp2
    go_ret
    exact ⟨vret_bool H.out, Q.refl _⟩
def mayB (k n : Int) (t : List UInt8) (b : Bool) (e : Int) : Bool :=
  if k = 0 then decide (n = 0) && (decide (t = []) && (!b && decide (e = 0)))
  else if k = 1 then decide (t = []) && (!b && decide (e = 0))
  else if k = 2 then decide (n = 0) && (!b && (decide (e = 0) && mtB t))
  else if k = 3 then decide (n = 0) && (decide (t = []) && decide (e = 0))
  else if k = 4 then decide (n = 0) && (decide (t = []) && (!b && (decide (1 ≤ e) && decide (e ≤ 7))))
  else false
theorem mtB_nil : mtB [] = true := by rfl
theorem nmL_ne {e : Int} (h1 : 1 ≤ e) (h7 : e ≤ 7) : nmL e ≠ [] := by
  rcases (by omega : e = 1 ∨ e = 2 ∨ e = 3 ∨ e = 4 ∨ e = 5 ∨ e = 6 ∨ e = 7) with rfl | rfl | rfl | rfl | rfl | rfl | rfl <;> decide
theorem mayB_other {k n : Int} {t : List UInt8} {b : Bool} {e : Int} (h0 : k ≠ 0) (h1 : k ≠ 1) (h2 : k ≠ 2) (h3 : k ≠ 3) (h4 : k ≠ 4) : false = mayB k n t b e := by
  unfold mayB
  rw [if_neg h0, if_neg h1, if_neg h2, if_neg h3, if_neg h4]
set_option maxHeartbeats 2000000 in
theorem may_other (k n : Int) (t : ByteArray) (b : Bool) (e : Int) (w : World) (h0 : k ≠ 0) (h1 : k ≠ 1) (h2 : k ≠ 2) (h3 : k ≠ 3) (h4 : k ≠ 4) :
    Calls Tryz.prog 80 #[vv k n t b e] w fun x w' => x = .returned (.bool (mayB k n t.toList b e)) ∧ Q w w' := by
  have H := hid (mayB_other (n := n) (t := t.toList) (b := b) (e := e) h0 h1 h2 h3 h4)
  unfold vv
  go_enter Tryz.func80, Tryz.ntmps80
  go_wp2
  go_ret
  exact ⟨vret_bool H.out, ((Q.refl _).alloc _).alloc _⟩
theorem box5 {w w1 : World} {v0 v1 v2 v3 v4 : Value} {o : Obj} (q : Q ((w.alloc (.cells #[v0, v1, v2, v3, v4] 37)).alloc o) w1) :
    w1.cell? ⟨w.heap.size, 0, none⟩ = some v0 ∧ w1.cell? ⟨w.heap.size, 4, none⟩ = some v4 := by
  have h1 : w.heap.size < (w.alloc (.cells #[v0, v1, v2, v3, v4] 37)).heap.size := by rw [World.size_alloc]; omega
  have hlt : w.heap.size < ((w.alloc (.cells #[v0, v1, v2, v3, v4] 37)).alloc o).heap.size := by rw [World.size_alloc]; omega
  have e1 := fun j => Q.cell (o := j) ((Q.refl (w.alloc (.cells #[v0, v1, v2, v3, v4] 37))).alloc o) h1
  refine ⟨?_, ?_⟩
  · rw [q.cell hlt, e1, World.cell?_alloc_new]; rfl
  · rw [q.cell hlt, e1, World.cell?_alloc_new]; rfl
theorem q2 {w w1 : World} {o o' : Obj} (q : Q ((w.alloc o).alloc o') w1) : Q w w1 := (((Q.refl _).alloc _).alloc _).trans q
set_option maxHeartbeats 2000000 in
theorem may_0 (n : Int) (t : ByteArray) (b : Bool) (e : Int) (w : World) (hw : Std2 w) (hs : (t.size : Int) ≤ 9223372036854775000) :
    Calls Tryz.prog 80 #[vv 0 n t b e] w fun x w' => x = .returned (.bool (mayB 0 n t.toList b e)) ∧ Q w w' := by
  have HW := hid hw
  have HM : mtB t.data.toList = mtB t.toList := by rw [Lib.toList_data]
  clear hw
  unfold vv
  go_enter Tryz.func80, Tryz.ntmps80
  go_wp2_with (go_at_call 121; refine (mayText_any t _ (HW.out.on (((Q.refl _).alloc _).alloc _)) hs).mono ?_; rintro x w1 ⟨rfl, q1⟩; obtain ⟨g0, g4⟩ := box5 q1)
  all_goals go_ret
  all_goals first
    | exact ⟨vret_bool (by simp [mayB, mtB_nil, *]), ((Q.refl _).alloc _).alloc _⟩
    | exact ⟨vret_bool (by simp_all [mayB, mtB_nil]), q2 q1⟩
set_option maxHeartbeats 2000000 in
theorem may_1 (n : Int) (t : ByteArray) (b : Bool) (e : Int) (w : World) (hw : Std2 w) (hs : (t.size : Int) ≤ 9223372036854775000) :
    Calls Tryz.prog 80 #[vv 1 n t b e] w fun x w' => x = .returned (.bool (mayB 1 n t.toList b e)) ∧ Q w w' := by
  have HW := hid hw
  have HM : mtB t.data.toList = mtB t.toList := by rw [Lib.toList_data]
  clear hw
  unfold vv
  go_enter Tryz.func80, Tryz.ntmps80
  go_wp2_with (go_at_call 121; refine (mayText_any t _ (HW.out.on (((Q.refl _).alloc _).alloc _)) hs).mono ?_; rintro x w1 ⟨rfl, q1⟩; obtain ⟨g0, g4⟩ := box5 q1)
  all_goals go_ret
  all_goals first
    | exact ⟨vret_bool (by simp [mayB, mtB_nil, *]), ((Q.refl _).alloc _).alloc _⟩
    | exact ⟨vret_bool (by simp_all [mayB, mtB_nil]), q2 q1⟩
set_option maxHeartbeats 2000000 in
theorem may_2 (n : Int) (t : ByteArray) (b : Bool) (e : Int) (w : World) (hw : Std2 w) (hs : (t.size : Int) ≤ 9223372036854775000) :
    Calls Tryz.prog 80 #[vv 2 n t b e] w fun x w' => x = .returned (.bool (mayB 2 n t.toList b e)) ∧ Q w w' := by
  have HW := hid hw
  have HM : mtB t.data.toList = mtB t.toList := by rw [Lib.toList_data]
  clear hw
  unfold vv
  go_enter Tryz.func80, Tryz.ntmps80
  go_wp2_with (go_at_call 121; refine (mayText_any t _ (HW.out.on (((Q.refl _).alloc _).alloc _)) hs).mono ?_; rintro x w1 ⟨rfl, q1⟩; obtain ⟨g0, g4⟩ := box5 q1)
  all_goals go_ret
  all_goals first
    | exact ⟨vret_bool (by simp [mayB, mtB_nil, *]), ((Q.refl _).alloc _).alloc _⟩
    | exact ⟨vret_bool (by simp_all [mayB, mtB_nil]), q2 q1⟩
set_option maxHeartbeats 2000000 in
theorem may_3 (n : Int) (t : ByteArray) (b : Bool) (e : Int) (w : World) (hw : Std2 w) (hs : (t.size : Int) ≤ 9223372036854775000) :
    Calls Tryz.prog 80 #[vv 3 n t b e] w fun x w' => x = .returned (.bool (mayB 3 n t.toList b e)) ∧ Q w w' := by
  have HW := hid hw
  have HM : mtB t.data.toList = mtB t.toList := by rw [Lib.toList_data]
  clear hw
  unfold vv
  go_enter Tryz.func80, Tryz.ntmps80
  go_wp2_with (go_at_call 121; refine (mayText_any t _ (HW.out.on (((Q.refl _).alloc _).alloc _)) hs).mono ?_; rintro x w1 ⟨rfl, q1⟩; obtain ⟨g0, g4⟩ := box5 q1)
  all_goals go_ret
  all_goals first
    | exact ⟨vret_bool (by simp [mayB, mtB_nil, *]), ((Q.refl _).alloc _).alloc _⟩
    | exact ⟨vret_bool (by simp_all [mayB, mtB_nil]), q2 q1⟩
set_option maxHeartbeats 2000000 in
theorem may_4 (n : Int) (t : ByteArray) (b : Bool) (e : Int) (w : World) (hw : Std2 w) (hs : (t.size : Int) ≤ 9223372036854775000) :
    Calls Tryz.prog 80 #[vv 4 n t b e] w fun x w' => x = .returned (.bool (mayB 4 n t.toList b e)) ∧ Q w w' := by
  have HW := hid hw
  have HM : mtB t.data.toList = mtB t.toList := by rw [Lib.toList_data]
  obtain ⟨X, eX⟩ : ∃ X : ByteArray, X = ⟨(nmL e).toArray⟩ := ⟨_, rfl⟩
  have hX : X.toList = nmL e := by rw [Lib.toList_data, eX]
  have HN := hid (fun w h => name_any e w h)
  rw [← eX] at HN
  clear hw eX
  by_cases he : 1 ≤ e ∧ e ≤ 7
  · have hx : (X.toList == []) = false := by rw [hX]; have := nmL_ne he.1 he.2; cases h : nmL e; exact absurd h this; rfl
    have h1 := he.1
    have h7 := he.2
    have d1 : decide (1 ≤ e) = true := by simpa using h1
    have d7 : decide (e ≤ 7) = true := by simpa using h7
    clear he hX
    unfold vv
    go_enter Tryz.func80, Tryz.ntmps80
    go_wp2_with (first | (go_at_call 121; refine (mayText_any t _ (HW.out.on (((Q.refl _).alloc _).alloc _)) hs).mono ?_; rintro x w1 ⟨rfl, q1⟩; obtain ⟨g0, g4⟩ := box5 q1) | (go_at_call 122; refine (HN.out _ (HW.out.on (q2 q1)).nam).mono ?_; rintro x w1 ⟨rfl, rfl⟩))
    all_goals go_ret
    all_goals first
      | exact ⟨vret_bool (by simp [mayB, mtB_nil, *]), ((Q.refl _).alloc _).alloc _⟩
      | exact ⟨vret_bool (by simp_all [mayB, mtB_nil]), q2 q1⟩
  · have hx : (X.toList == []) = true := by rw [hX, ← nmL_no (by omega)]; rfl
    have d1 : (decide (1 ≤ e) && decide (e ≤ 7)) = false := by simp; omega
    clear he hX
    unfold vv
    go_enter Tryz.func80, Tryz.ntmps80
    go_wp2_with (first | (go_at_call 121; refine (mayText_any t _ (HW.out.on (((Q.refl _).alloc _).alloc _)) hs).mono ?_; rintro x w1 ⟨rfl, q1⟩; obtain ⟨g0, g4⟩ := box5 q1) | (go_at_call 122; refine (HN.out _ (HW.out.on (q2 q1)).nam).mono ?_; rintro x w1 ⟨rfl, rfl⟩))
    all_goals go_ret
    all_goals first
      | exact ⟨vret_bool (by unfold mayB; rw [d1]; simp), ((Q.refl _).alloc _).alloc _⟩
      | exact ⟨vret_bool (by unfold mayB; rw [d1]; simp), q2 q1⟩
theorem may_any (k n : Int) (t : ByteArray) (b : Bool) (e : Int) (w : World) (hw : Std2 w) (hs : (t.size : Int) ≤ 9223372036854775000) :
    Calls Tryz.prog 80 #[vv k n t b e] w fun x w' => x = .returned (.bool (mayB k n t.toList b e)) ∧ Q w w' := by
  by_cases h0 : k = 0
  · subst h0; exact may_0 n t b e w hw hs
  by_cases h1 : k = 1
  · subst h1; exact may_1 n t b e w hw hs
  by_cases h2 : k = 2
  · subst h2; exact may_2 n t b e w hw hs
  by_cases h3 : k = 3
  · subst h3; exact may_3 n t b e w hw hs
  by_cases h4 : k = 4
  · subst h4; exact may_4 n t b e w hw hs
  exact may_other k n t b e w h0 h1 h2 h3 h4
theorem headD_get (s : ByteArray) (h : 0 < s.size) : s.data.toList.headD 0 = s[0] := by
  have h' : 0 < s.data.toList.length := by simpa using h
  have e : s[0] = s.data.toList[0]'h' := rfl
  rw [e, List.headD_eq_head?_getD, List.head?_eq_getElem?, List.getElem?_eq_getElem h']
  rfl
set_option maxHeartbeats 400000 in
theorem isWhole_any (s : ByteArray) (w : World) (hs : s.size ≤ 9223372036854775807) :
    Calls Tryz.prog 152 #[.string s] w fun e w' => e = .returned (.bool (wholeB s.data.toList)) ∧ w' = w := by
  have et := hid (Lib.toList_data s)
  by_cases h1 : s.toList = [48]
  · have hW : Hid (wholeB s.data.toList = true) := by show _ = _; rw [← et.out, h1]; rfl
    go_enter Tryz.func152, Tryz.ntmps152
    go_wp2_with (go_at_call 167; refine (allDigits_any s _ hs).mono ?_; rintro e w' ⟨rfl, rfl⟩)
    go_ret
    exact ⟨ret_bool hW.out.symm, rfl⟩
  · have n1 : (s.toList == [48]) = false := by simpa using h1
    by_cases h2 : s.toList = []
    · have hW : Hid (wholeB s.data.toList = false) := by show _ = _; rw [← et.out, h2]; rfl
      go_enter Tryz.func152, Tryz.ntmps152
      go_wp2_with (go_at_call 167; refine (allDigits_any s _ hs).mono ?_; rintro e w' ⟨rfl, rfl⟩)
      go_ret
      exact ⟨ret_bool hW.out.symm, rfl⟩
    · have hp : 0 < s.size := by
        rcases Nat.eq_zero_or_pos s.size with h | h
        · exfalso; apply h2; rw [et.out]; apply List.eq_nil_of_length_eq_zero; simpa using h
        · exact h
      have hE : (s.toList.isEmpty) = false := by simpa using h2
      have hh := hid (headD_get s hp)
      by_cases h3 : s[0] = 48
      · have hW : Hid (wholeB s.data.toList = false) := by
          show _ = _
          unfold wholeB
          rw [hh.out, h3, ← et.out, n1]
          simp
        have h4 : ((s[0].toNat : Int) != 48) = false := by rw [h3]; rfl
        clear h3
        go_enter Tryz.func152, Tryz.ntmps152
        go_wp2_with (go_at_call 167; refine (allDigits_any s _ hs).mono ?_; rintro e w' ⟨rfl, rfl⟩)
        go_ret
        exact ⟨ret_bool hW.out.symm, rfl⟩
      · have hW : Hid (allD s.data.toList = wholeB s.data.toList) := by
          show _ = _
          unfold wholeB
          rw [hh.out, ← et.out, n1, hE]
          simp [h3]
        have h4 : ((s[0].toNat : Int) != 48) = true := by
          rw [bne_iff_ne]
          intro h
          apply h3
          apply UInt8.toNat_inj.1
          show s[0].toNat = 48
          omega
        clear h3
        go_enter Tryz.func152, Tryz.ntmps152
        go_wp2_with (go_at_call 167; refine (allDigits_any s _ hs).mono ?_; rintro e w' ⟨rfl, rfl⟩)
        go_ret
        exact ⟨ret_bool hW.out, rfl⟩
set_option maxHeartbeats 400000 in
theorem isPart_any (s : ByteArray) (w : World) (hs : s.size ≤ 9223372036854775807) :
    Calls Tryz.prog 153 #[.string s] w fun e w' => e = .returned (.bool (partB s.data.toList)) ∧ w' = w := by
  have et := hid (Lib.toList_data s)
  have el := hid (Lib.size_eq s)
  by_cases h2 : s.toList = []
  · have hW : Hid (partB s.data.toList = false) := by show _ = _; rw [← et.out, h2]; rfl
    go_enter Tryz.func153, Tryz.ntmps153
    go_wp2_with (go_at_call 167; refine (allDigits_any s _ hs).mono ?_; rintro e w' ⟨rfl, rfl⟩)
    go_ret
    exact ⟨ret_bool hW.out.symm, rfl⟩
  · have hE : (s.toList.isEmpty) = false := by simpa using h2
    by_cases h3 : s.size ≤ 4
    · have hW : Hid (allD s.data.toList = partB s.data.toList) := by
        show _ = _
        unfold partB
        rw [← el.out, ← et.out, hE]
        simp [h3]
      go_enter Tryz.func153, Tryz.ntmps153
      go_wp2_with (go_at_call 167; refine (allDigits_any s _ hs).mono ?_; rintro e w' ⟨rfl, rfl⟩)
      go_ret
      exact ⟨ret_bool hW.out, rfl⟩
    · have hW : Hid (partB s.data.toList = false) := by
        show _ = _
        unfold partB
        rw [← el.out]
        simp [h3]
      go_enter Tryz.func153, Tryz.ntmps153
      go_wp2_with (go_at_call 167; refine (allDigits_any s _ hs).mono ?_; rintro e w' ⟨rfl, rfl⟩)
      go_ret
      exact ⟨ret_bool hW.out.symm, rfl⟩
theorem size_mk (l : List UInt8) : (⟨l.toArray⟩ : ByteArray).size = l.length := by simp [ByteArray.size]
theorem cut_le (t : List UInt8) : (Lib.cut t [46]).1.length + (Lib.cut t [46]).2.1.length ≤ t.length := by
  unfold Lib.cut
  split
  · simp only [List.length_take, List.length_drop, List.length_cons, List.length_nil]
    omega
  · simp
theorem cut_none (t : List UInt8) (h : (Lib.cut t [46]).2.2 = false) : (Lib.cut t [46]).2.1 = [] := by
  unfold Lib.cut at *
  split
  · rename_i g; rw [if_pos g] at h; cases h
  · rfl
theorem trimPrefix_len (l p : List UInt8) : (Lib.trimPrefix l p).length ≤ l.length := by
  unfold Lib.trimPrefix
  split
  · rw [List.length_drop]; omega
  · exact Nat.le_refl _
theorem sgn_huge {n : Nat} {neg : Bool} (h : 9223372036854775810 ≤ n) : fitB (sgn n neg) = false := by
  apply fitB_no
  cases neg
  · show (n : Int) < _ ∨ _ < (n : Int)
    omega
  · show -(n : Int) < _ ∨ _ < -(n : Int)
    omega
theorem allD_of_whole {l : List UInt8} (h : wholeB l = true) : allD l = true := by
  unfold wholeB at h
  rw [Bool.or_eq_true] at h
  rcases h with h | h
  · rw [eq_of_beq h]; rfl
  · rw [Bool.and_eq_true] at h; exact h.2
theorem zeros_ex (k : Nat) : ByteArray.extract ⟨#[48, 48, 48, 48]⟩ k 4 = ⟨([48, 48, 48, 48].drop k : List UInt8).toArray⟩ := by
  apply ByteArray.ext
  apply Array.ext'
  rw [Lib.extract_data]
  show List.take (4 - k) (List.drop k [48, 48, 48, 48]) = _
  rw [List.take_of_length_le (by simp)]
set_option maxHeartbeats 400000 in
theorem parse_no1 (s : ByteArray) (w : World) (t wl pl : List UInt8) (ng pt : Bool) (hl : wl.length ≤ 4294967281)
    (hP : Hid (Calls Tryz.prog 150 #[.string s, .string ⟨#[45]⟩] w fun e w' => e = .returned (.tuple #[.string ⟨t.toArray⟩, .bool ng]) ∧ w' = w))
    (hC : Hid (Calls Tryz.prog 151 #[.string ⟨t.toArray⟩, .string ⟨#[46]⟩] w fun e w' => e = .returned (.tuple #[.string ⟨wl.toArray⟩, .string ⟨pl.toArray⟩, .bool pt]) ∧ ∃ n, w' = w.drewN n))
    (hw : wholeB wl = false) :
    Calls Tryz.prog 140 #[.string s] w fun e w' => e = .returned (.tuple #[.int .i64 0, .bool false]) ∧ Q w w' := by
  have sw : (⟨wl.toArray⟩ : ByteArray).size ≤ 9223372036854775807 := by rw [size_mk]; omega
  have HW := hid (fun w => isWhole_any ⟨wl.toArray⟩ w sw)
  simp only [hw] at HW
  clear sw hw
  go_enter Tryz.func140, Tryz.ntmps140
  go_wp2_with (first | (go_at_call 150; refine hP.out.mono ?_; rintro e w1 ⟨rfl, rfl⟩) | (go_at_call 151; refine hC.out.mono ?_; rintro e w2 ⟨rfl, n, rfl⟩) | (go_at_call 152; refine (HW.out _).mono ?_; rintro e w3 ⟨rfl, rfl⟩))
  go_ret2
  exact ⟨rfl, (Q.refl _).drewN _⟩
set_option maxHeartbeats 400000 in
theorem parse_no2 (s : ByteArray) (w : World) (t wl pl : List UInt8) (ng : Bool) (hl : wl.length + pl.length ≤ 4294967281)
    (hP : Hid (Calls Tryz.prog 150 #[.string s, .string ⟨#[45]⟩] w fun e w' => e = .returned (.tuple #[.string ⟨t.toArray⟩, .bool ng]) ∧ w' = w))
    (hC : Hid (Calls Tryz.prog 151 #[.string ⟨t.toArray⟩, .string ⟨#[46]⟩] w fun e w' => e = .returned (.tuple #[.string ⟨wl.toArray⟩, .string ⟨pl.toArray⟩, .bool true]) ∧ ∃ n, w' = w.drewN n))
    (hw : wholeB wl = true) (hp : partB pl = false) :
    Calls Tryz.prog 140 #[.string s] w fun e w' => e = .returned (.tuple #[.int .i64 0, .bool false]) ∧ Q w w' := by
  have sw : (⟨wl.toArray⟩ : ByteArray).size ≤ 9223372036854775807 := by rw [size_mk]; omega
  have sp : (⟨pl.toArray⟩ : ByteArray).size ≤ 9223372036854775807 := by rw [size_mk]; omega
  have HW := hid (fun w => isWhole_any ⟨wl.toArray⟩ w sw)
  have HP := hid (fun w => isPart_any ⟨pl.toArray⟩ w sp)
  simp only [hw] at HW
  simp only [hp] at HP
  clear sw hw hp sp
  go_enter Tryz.func140, Tryz.ntmps140
  go_wp2_with (first | (go_at_call 150; refine hP.out.mono ?_; rintro e w1 ⟨rfl, rfl⟩) | (go_at_call 151; refine hC.out.mono ?_; rintro e w2 ⟨rfl, n, rfl⟩) | (go_at_call 152; refine (HW.out _).mono ?_; rintro e w3 ⟨rfl, rfl⟩) | (go_at_call 153; refine (HP.out _).mono ?_; rintro e w3 ⟨rfl, rfl⟩))
  go_ret2
  exact ⟨rfl, (Q.refl _).drewN _⟩
set_option maxHeartbeats 400000 in
theorem parse_yes (s : ByteArray) (w : World) (t wl pl : List UInt8) (ng pt : Bool) (hl : wl.length + pl.length ≤ 4294967281)
    (hP : Hid (Calls Tryz.prog 150 #[.string s, .string ⟨#[45]⟩] w fun e w' => e = .returned (.tuple #[.string ⟨t.toArray⟩, .bool ng]) ∧ w' = w))
    (hC : Hid (Calls Tryz.prog 151 #[.string ⟨t.toArray⟩, .string ⟨#[46]⟩] w fun e w' => e = .returned (.tuple #[.string ⟨wl.toArray⟩, .string ⟨pl.toArray⟩, .bool pt]) ∧ ∃ n, w' = w.drewN n))
    (hw : wholeB wl = true) (hp : pt = true → partB pl = true) (hd : allD pl = true) (h4 : pl.length ≤ 4) :
    Calls Tryz.prog 140 #[.string s] w fun e w' => e = .returned (.tuple #[.int .i64 (keep (sgn (val (wl ++ pl ++ [48, 48, 48, 48].drop pl.length)) ng)), .bool (fitB (sgn (val (wl ++ pl ++ [48, 48, 48, 48].drop pl.length)) ng))]) ∧ Q w w' := by
  have sw : (⟨wl.toArray⟩ : ByteArray).size ≤ 9223372036854775807 := by rw [size_mk]; omega
  have sp : (⟨pl.toArray⟩ : ByteArray).size ≤ 9223372036854775807 := by rw [size_mk]; omega
  have HW := hid (fun w => isWhole_any ⟨wl.toArray⟩ w sw)
  have HP := hid (fun w => isPart_any ⟨pl.toArray⟩ w sp)
  have hdw := allD_of_whole hw
  simp only [hw] at HW
  have eX := zeros_ex pl.length
  have zl4 : ([48, 48, 48, 48].drop pl.length : List UInt8).length ≤ 4 := by rw [List.length_drop]; simp
  have hdz : allD ([48, 48, 48, 48].drop pl.length) = true := by
    unfold allD
    rw [List.all_eq_true]
    intro x hx
    have := List.mem_of_mem_drop hx
    simp at this
    subst this
    rfl
  have hd3 : allD (wl ++ pl ++ [48, 48, 48, 48].drop pl.length) = true := by
    unfold allD at *
    rw [List.all_append, List.all_append, hdw, hd, hdz]
    rfl
  clear hdz hdw
  generalize ([48, 48, 48, 48].drop pl.length : List UInt8) = zl at *
  have eC : ((⟨wl.toArray⟩ : ByteArray) ++ ⟨pl.toArray⟩ ++ ⟨zl.toArray⟩).data.toList = wl ++ pl ++ zl := by rw [bytes_cat, bytes_cat]
  have sC : ((⟨wl.toArray⟩ : ByteArray) ++ ⟨pl.toArray⟩ ++ ⟨zl.toArray⟩).size ≤ 9223372036854775807 := by rw [bytes_cat, bytes_cat, size_mk, List.length_append, List.length_append]; omega
  have HR := hid (fun w => readDigits_any ((⟨wl.toArray⟩ : ByteArray) ++ ⟨pl.toArray⟩ ++ ⟨zl.toArray⟩) w sC (by rw [eC]; exact hd3))
  rw [eC] at HR
  clear sw hw hd sp eC sC hd3
  generalize val (wl ++ pl ++ zl) = V at *
  cases pt
  · clear hp HP
    go_enter Tryz.func140, Tryz.ntmps140
    go_wp2_with (first | (go_at_call 150; refine hP.out.mono ?_; rintro e w1 ⟨rfl, rfl⟩) | (go_at_call 151; refine hC.out.mono ?_; rintro e w2 ⟨rfl, n, rfl⟩) | (go_at_call 152; refine (HW.out _).mono ?_; rintro e w3 ⟨rfl, rfl⟩) | (go_at_call 154; refine (HR.out _).mono ?_; rintro e w3 ⟨⟨k, ok, rfl, k0, k1, k2, k3⟩, rfl⟩; have K2 := hid k2; have K3 := hid k3; clear k2 k3) | (go_at_call 143; refine (signed_any k ng _ k0 k1).mono ?_; rintro e w3 ⟨rfl, rfl⟩))
    · have hf := sgn_huge (neg := ng) (K3.out (by simpa using ‹(!ok) = true›))
      go_ret2
      exact ⟨ret_two (keep_no hf).symm hf.symm, (Q.refl _).drewN _⟩
    · have hk := K2.out (by simpa using ‹(!ok) = false›)
      go_ret2
      exact ⟨ret_two (congrArg (fun x => keep (sgn x ng)) hk) (congrArg (fun x => fitB (sgn x ng)) hk), (Q.refl _).drewN _⟩
  · have hp' := hp rfl
    simp only [hp'] at HP
    clear hp hp'
    go_enter Tryz.func140, Tryz.ntmps140
    go_wp2_with (first | (go_at_call 150; refine hP.out.mono ?_; rintro e w1 ⟨rfl, rfl⟩) | (go_at_call 151; refine hC.out.mono ?_; rintro e w2 ⟨rfl, n, rfl⟩) | (go_at_call 152; refine (HW.out _).mono ?_; rintro e w3 ⟨rfl, rfl⟩) | (go_at_call 153; refine (HP.out _).mono ?_; rintro e w3 ⟨rfl, rfl⟩) | (go_at_call 154; refine (HR.out _).mono ?_; rintro e w3 ⟨⟨k, ok, rfl, k0, k1, k2, k3⟩, rfl⟩; have K2 := hid k2; have K3 := hid k3; clear k2 k3) | (go_at_call 143; refine (signed_any k ng _ k0 k1).mono ?_; rintro e w3 ⟨rfl, rfl⟩))
    · have hf := sgn_huge (neg := ng) (K3.out (by simpa using ‹(!ok) = true›))
      go_ret2
      exact ⟨ret_two (keep_no hf).symm hf.symm, (Q.refl _).drewN _⟩
    · have hk := K2.out (by simpa using ‹(!ok) = false›)
      go_ret2
      exact ⟨ret_two (congrArg (fun x => keep (sgn x ng)) hk) (congrArg (fun x => fitB (sgn x ng)) hk), (Q.refl _).drewN _⟩
theorem parse_any (s : ByteArray) (w : World) (hw : Std w) (hs : s.size < 4294967281) :
    Calls Tryz.prog 140 #[.string s] w fun e w' => e = .returned (.tuple #[.int .i64 (pk (parseO s.data.toList)), .bool (pf (parseO s.data.toList))]) ∧ Q w w' := by
  obtain ⟨m, hm⟩ := hw.len
  have hP := hid (Tryz.strings_CutPrefix s ⟨#[45]⟩ w)
  have ht := trimPrefix_len s.data.toList [45]
  have hl := Lib.size_eq s
  have hC := hid (Tryz.strings_Cut ⟨(Lib.trimPrefix s.data.toList [45]).toArray⟩ ⟨#[46]⟩ m w (by rw [size_mk]; omega) hm)
  have hc := cut_le (Lib.trimPrefix s.data.toList [45])
  have hn := cut_none (Lib.trimPrefix s.data.toList [45])
  unfold parseO
  generalize Lib.hasPrefix s.data.toList [45] = ng at *
  generalize Lib.trimPrefix s.data.toList [45] = t at *
  generalize (Lib.cut t [46]).1 = wl at *
  generalize (Lib.cut t [46]).2.1 = pl at *
  generalize (Lib.cut t [46]).2.2 = pt at *
  by_cases hw : wholeB wl = true
  · by_cases hp : pt = true → partB pl = true
    · have hcond : (wholeB wl && (!pt || partB pl)) = true := by
        rw [hw]
        cases pt
        · rfl
        · simpa using hp rfl
      rw [if_pos hcond]
      have h2 : allD pl = true ∧ pl.length ≤ 4 := by
        cases pt
        · rw [hn rfl]; exact ⟨rfl, by simp⟩
        · have := hp rfl
          unfold partB at this
          simp only [Bool.and_eq_true, decide_eq_true_eq] at this
          exact ⟨this.2, this.1.2⟩
      exact parse_yes s w t wl pl ng pt (by omega) hP hC hw hp h2.1 h2.2
    · have hpt : pt = true := by
        cases pt
        · exact absurd (fun h => by cases h) hp
        · rfl
      subst hpt
      have hpf : partB pl = false := by
        cases h : partB pl
        · rfl
        · exact absurd (fun _ => h) hp
      rw [if_neg (by simp [hpf])]
      exact parse_no2 s w t wl pl ng (by omega) hP hC hw hpf
  · have hw' : wholeB wl = false := by simpa using hw
    rw [if_neg (by simp [hw'])]
    exact parse_no1 s w t wl pl ng pt (by omega) hP hC hw'
theorem ba_nil {t : ByteArray} (h : t.toList = []) : t = ⟨#[]⟩ := by
  rw [Lib.toList_data] at h
  apply ByteArray.ext
  apply Array.ext'
  exact h
def Vk (k n : Int) (t : ByteArray) (b : Bool) (e : Int) : Prop :=
  (k = 0 ∧ n = 0 ∧ t = ⟨#[]⟩ ∧ b = false ∧ e = 0) ∨ (k = 1 ∧ t = ⟨#[]⟩ ∧ b = false ∧ e = 0) ∨ (k = 2 ∧ n = 0 ∧ b = false ∧ e = 0 ∧ mtB t.toList = true) ∨
  (k = 3 ∧ n = 0 ∧ t = ⟨#[]⟩ ∧ e = 0) ∨ (k = 4 ∧ n = 0 ∧ t = ⟨#[]⟩ ∧ b = false ∧ 1 ≤ e ∧ e ≤ 7)
theorem Vk.blank : Vk 0 0 ⟨#[]⟩ false 0 := .inl ⟨rfl, rfl, rfl, rfl, rfl⟩
theorem Vk.num (n : Int) : Vk 1 n ⟨#[]⟩ false 0 := .inr (.inl ⟨rfl, rfl, rfl, rfl⟩)
theorem Vk.text (t : ByteArray) (h : mtB t.toList = true) : Vk 2 0 t false 0 := .inr (.inr (.inl ⟨rfl, rfl, rfl, rfl, h⟩))
theorem Vk.bool (b : Bool) : Vk 3 0 ⟨#[]⟩ b 0 := .inr (.inr (.inr (.inl ⟨rfl, rfl, rfl, rfl⟩)))
theorem Vk.err (e : Int) (h1 : 1 ≤ e) (h7 : e ≤ 7) : Vk 4 0 ⟨#[]⟩ false e := .inr (.inr (.inr (.inr ⟨rfl, rfl, rfl, rfl, h1, h7⟩)))
theorem vk_of {k n : Int} {t : ByteArray} {b : Bool} {e : Int} (h : mayB k n t.toList b e = true) : Vk k n t b e := by
  unfold mayB at h
  by_cases h0 : k = 0
  · subst h0
    simp at h
    obtain ⟨rfl, h1, rfl, rfl⟩ := h
    rw [ba_nil h1]
    exact Vk.blank
  rw [if_neg h0] at h
  by_cases h1 : k = 1
  · subst h1
    simp at h
    obtain ⟨h1, rfl, rfl⟩ := h
    rw [ba_nil h1]
    exact Vk.num n
  rw [if_neg h1] at h
  by_cases h2 : k = 2
  · subst h2
    simp at h
    obtain ⟨rfl, rfl, rfl, h1⟩ := h
    exact Vk.text t h1
  rw [if_neg h2] at h
  by_cases h3 : k = 3
  · subst h3
    simp at h
    obtain ⟨rfl, h1, rfl⟩ := h
    rw [ba_nil h1]
    exact Vk.bool b
  rw [if_neg h3] at h
  by_cases h4 : k = 4
  · subst h4
    simp at h
    obtain ⟨rfl, h1, rfl, h5, h6⟩ := h
    rw [ba_nil h1]
    exact Vk.err e h5 h6
  rw [if_neg h4] at h
  cases h
theorem nil_list : (⟨#[]⟩ : ByteArray).toList = [] := by rw [Lib.toList_data]
theorem Vk.may {k n : Int} {t : ByteArray} {b : Bool} {e : Int} (h : Vk k n t b e) : mayB k n t.toList b e = true := by
  rcases h with ⟨rfl, rfl, rfl, rfl, rfl⟩ | ⟨rfl, rfl, rfl, rfl⟩ | ⟨rfl, rfl, rfl, rfl, h⟩ | ⟨rfl, rfl, rfl, rfl⟩ | ⟨rfl, rfl, rfl, rfl, h1, h7⟩
  · simp [mayB, nil_list]
  · simp [mayB, nil_list]
  · simp [mayB, h]
  · simp [mayB, nil_list]
  · simp [mayB, nil_list, h1, h7]
theorem box0 {w w1 : World} {v0 v1 v2 v3 v4 : Value} (q : Q (w.alloc (.cells #[v0, v1, v2, v3, v4] 37)) w1) :
    w1.cell? ⟨w.heap.size, 0, none⟩ = some v0 ∧ w1.cell? ⟨w.heap.size, 1, none⟩ = some v1 ∧ w1.cell? ⟨w.heap.size, 2, none⟩ = some v2 ∧ w1.cell? ⟨w.heap.size, 3, none⟩ = some v3 ∧ w1.cell? ⟨w.heap.size, 4, none⟩ = some v4 := by
  have h1 : w.heap.size < (w.alloc (.cells #[v0, v1, v2, v3, v4] 37)).heap.size := by rw [World.size_alloc]; omega
  refine ⟨?_, ?_, ?_, ?_, ?_⟩
  all_goals rw [q.cell h1, World.cell?_alloc_new]; rfl
theorem q1a {w w1 : World} {o : Obj} (q : Q (w.alloc o) w1) : Q w w1 := ((Q.refl _).alloc _).trans q
def fltE (k n : Int) (t : List UInt8) (b : Bool) (e : Int) : Int := if mayB k n t b e then e else 5
set_option maxHeartbeats 1000000 in
theorem fault_any (k n : Int) (t : ByteArray) (b : Bool) (e : Int) (w : World) (hw : Std2 w) (hs : (t.size : Int) ≤ 9223372036854775000) :
    Calls Tryz.prog 87 #[vv k n t b e] w fun x w' => x = .returned (.int .i64 (fltE k n t.toList b e)) ∧ Q w w' := by
  have HC := hid (may_any k n t b e (w.alloc (.cells #[.int .i64 k, .int .i64 n, .string t, .bool b, .int .i64 e] 37)) (hw.on ((Q.refl _).alloc _)) hs)
  clear hw
  cases hm : mayB k n t.toList b e
  · rw [hm] at HC
    have H : Hid (5 = fltE k n t.toList b e) := by show _ = _; unfold fltE; rw [hm]; rfl
    unfold vv at *
    go_enter Tryz.func87, Tryz.ntmps87
    go_wp2_with (go_at_call 80; refine HC.out.mono ?_; rintro x w1 ⟨rfl, q1⟩)
    go_ret
    exact ⟨ret_int H.out, q1a q1⟩
  · rw [hm] at HC
    have H : Hid (e = fltE k n t.toList b e) := by show _ = _; unfold fltE; rw [hm]; rfl
    unfold vv at *
    go_enter Tryz.func87, Tryz.ntmps87
    go_wp2_with (go_at_call 80; refine HC.out.mono ?_; rintro x w1 ⟨rfl, q1⟩; obtain ⟨g0, g1, g2, g3, g4⟩ := box0 q1)
    go_ret
    exact ⟨ret_int H.out, q1a q1⟩
theorem vret_ii {a b c d : Int} (h : a = b) (g : c = d) : Ending.returned (.tuple #[.int .i64 a, .int .i64 c]) = .returned (.tuple #[.int .i64 b, .int .i64 d]) := by rw [h, g]
set_option maxHeartbeats 1000000 in
theorem readNumber_any (s : ByteArray) (w : World) (hw : Std w) (hs : s.size < 4294967281) :
    Calls Tryz.prog 116 #[.string s] w fun x w' => x = .returned (.tuple #[.int .i64 (pk (parseO s.data.toList)), .int .i64 (if pf (parseO s.data.toList) then 0 else 5)]) ∧ Q w w' := by
  have HC := hid (parse_any s w hw hs)
  generalize parseO s.data.toList = o at *
  have hk : pf o = false → 0 = pk o := by
    cases o with
    | none => intro; rfl
    | some n => intro h; exact (keep_no h).symm
  cases hf : pf o
  · have hk' := hid (hk hf)
    rw [hf] at HC
    clear hk hs
    go_enter Tryz.func116, Tryz.ntmps116
    go_wp2_with (go_at_call 140; refine HC.out.mono ?_; rintro x w1 ⟨rfl, q1⟩)
    go_ret2
    exact ⟨vret_ii hk'.out rfl, q1⟩
  · rw [hf] at HC
    clear hk hs
    go_enter Tryz.func116, Tryz.ntmps116
    go_wp2_with (go_at_call 140; refine HC.out.mono ?_; rintro x w1 ⟨rfl, q1⟩)
    go_ret2
    exact ⟨rfl, q1⟩
def numN (k n : Int) (t : List UInt8) (b : Bool) : Int := if k = 1 then n else if k = 2 then pk (parseO t) else if k = 3 then tn b else 0
def numE (k : Int) (t : List UInt8) (e : Int) : Int := if k = 2 then (if pf (parseO t) then 0 else 5) else if k = 4 then e else 0
def txtL (k n : Int) (t : List UInt8) (b : Bool) : List UInt8 := if k = 1 then printL n else if k = 2 then t else if k = 3 then ttL b else []
def txtE (k : Int) (e : Int) : Int := if k = 4 then e else 0
def truB (k n : Int) (t : List UInt8) (b : Bool) : Bool := if k = 1 then n != 0 else if k = 2 then rtB t else if k = 3 then b else false
def truE (k : Int) (t : List UInt8) (e : Int) : Int := if k = 2 then rtE t else if k = 4 then e else 0
theorem flt_yes {k n : Int} {t : List UInt8} {b : Bool} {e : Int} (h : mayB k n t b e = true) : fltE k n t b e = e := by unfold fltE; rw [h]; rfl
abbrev bx (w : World) (k n : Int) (t : ByteArray) (b : Bool) (e : Int) : World := w.alloc (.cells #[.int .i64 k, .int .i64 n, .string t, .bool b, .int .i64 e] 37)
theorem qbx (w : World) (k n : Int) (t : ByteArray) (b : Bool) (e : Int) : Q w (bx w k n t b e) := (Q.refl _).alloc _
theorem flt_bx (k n : Int) (t : ByteArray) (b : Bool) (e f : Int) (w : World) (hw : Std2 w) (hs : (t.size : Int) ≤ 9223372036854775000) (hf : fltE k n t.toList b e = f) :
    Calls Tryz.prog 87 #[.agg #[.int .i64 k, .int .i64 n, .string t, .bool b, .int .i64 e]] (bx w k n t b e) fun x w' => x = .returned (.int .i64 f) ∧ Q (bx w k n t b e) w' := by
  rw [← hf]
  exact fault_any k n t b e _ (hw.on (qbx _ _ _ _ _ _)) hs
set_option maxHeartbeats 2000000 in
theorem number_vk (k n : Int) (t : ByteArray) (b : Bool) (e : Int) (w : World) (hw : Std2 w) (hs : (t.size : Int) ≤ 250) (hk : Vk k n t b e) :
    Calls Tryz.prog 71 #[vv k n t b e] w fun x w' => x = .returned (.tuple #[.int .i64 (numN k n t.toList b), .int .i64 (numE k t.toList e)]) ∧ Q w w' := by
  have HC := hid (flt_bx k n t b e e w hw (by omega) (flt_yes hk.may))
  have HW := hid hw
  clear hw
  unfold vv
  rcases hk with ⟨rfl, rfl, rfl, rfl, rfl⟩ | ⟨rfl, rfl, rfl, rfl⟩ | ⟨rfl, rfl, rfl, rfl, h⟩ | ⟨rfl, rfl, rfl, rfl⟩ | ⟨rfl, rfl, rfl, rfl, h1, h7⟩
  · skip
    go_enter Tryz.func71, Tryz.ntmps71
    go_wp2_with (go_at_call 87; refine HC.out.mono ?_; rintro x w1 ⟨rfl, q1⟩; obtain ⟨g0, g1, g2, g3, g4⟩ := box0 q1)
    go_ret2
    exact ⟨rfl, q1a q1⟩
  · skip
    go_enter Tryz.func71, Tryz.ntmps71
    go_wp2_with (go_at_call 87; refine HC.out.mono ?_; rintro x w1 ⟨rfl, q1⟩; obtain ⟨g0, g1, g2, g3, g4⟩ := box0 q1)
    go_ret2
    exact ⟨rfl, q1a q1⟩
  · skip
    have HR := hid (fun w hw => readNumber_any t w hw (by omega))
    rw [← Lib.toList_data] at HR
    clear h
    go_enter Tryz.func71, Tryz.ntmps71
    go_wp2_with (first | (go_at_call 87; refine HC.out.mono ?_; rintro x w1 ⟨rfl, q1⟩; obtain ⟨g0, g1, g2, g3, g4⟩ := box0 q1) | (go_at_call 116; refine (HR.out _ (HW.out.on (q1a q1)).std).mono ?_; rintro x w2 ⟨rfl, q2⟩))
    all_goals go_ret2
    all_goals exact ⟨vret_ii rfl (by simp [numE, *]), (q1a q1).trans q2⟩
  · skip
    go_enter Tryz.func71, Tryz.ntmps71
    go_wp2_with (first | (go_at_call 87; refine HC.out.mono ?_; rintro x w1 ⟨rfl, q1⟩; obtain ⟨g0, g1, g2, g3, g4⟩ := box0 q1) | (go_at_call 117; refine (truthNumber_any _ _).mono ?_; rintro x w2 ⟨rfl, rfl⟩))
    all_goals go_ret2
    all_goals exact ⟨rfl, q1a q1⟩
  · skip
    have hz : (e == 0) = false := beq_eq_false_iff_ne.2 (by omega)
    go_enter Tryz.func71, Tryz.ntmps71
    go_wp2_with (go_at_call 87; refine HC.out.mono ?_; rintro x w1 ⟨rfl, q1⟩)
    go_ret2
    exact ⟨rfl, q1a q1⟩
set_option maxHeartbeats 2000000 in
theorem text_vk (k n : Int) (t : ByteArray) (b : Bool) (e : Int) (w : World) (hw : Std2 w) (hs : (t.size : Int) ≤ 250) (hn : Fx n) (hk : Vk k n t b e) :
    Calls Tryz.prog 41 #[vv k n t b e] w fun x w' => x = .returned (.tuple #[.string ⟨(txtL k n t.data.toList b).toArray⟩, .int .i64 (txtE k e)]) ∧ Q w w' := by
  have HC := hid (flt_bx k n t b e e w hw (by omega) (flt_yes hk.may))
  have HW := hid hw
  clear hw
  unfold vv
  rcases hk with ⟨rfl, rfl, rfl, rfl, rfl⟩ | ⟨rfl, rfl, rfl, rfl⟩ | ⟨rfl, rfl, rfl, rfl, h⟩ | ⟨rfl, rfl, rfl, rfl⟩ | ⟨rfl, rfl, rfl, rfl, h1, h7⟩
  · skip
    go_enter Tryz.func41, Tryz.ntmps41
    go_wp2_with (go_at_call 87; refine HC.out.mono ?_; rintro x w1 ⟨rfl, q1⟩; obtain ⟨g0, g1, g2, g3, g4⟩ := box0 q1)
    go_ret2
    exact ⟨rfl, q1a q1⟩
  · skip
    have HP := hid (fun w hw => print_any n w hw hn (by have := hn.lo; have := hn.hi; omega))
    clear hn
    go_enter Tryz.func41, Tryz.ntmps41
    go_wp2_with (first | (go_at_call 87; refine HC.out.mono ?_; rintro x w1 ⟨rfl, q1⟩; obtain ⟨g0, g1, g2, g3, g4⟩ := box0 q1) | (go_at_call 88; refine (HP.out _ (HW.out.on (q1a q1)).std).mono ?_; rintro x w2 ⟨rfl, q2⟩))
    go_ret2
    exact ⟨rfl, (q1a q1).trans q2⟩
  · skip
    clear h hn
    go_enter Tryz.func41, Tryz.ntmps41
    go_wp2_with (go_at_call 87; refine HC.out.mono ?_; rintro x w1 ⟨rfl, q1⟩; obtain ⟨g0, g1, g2, g3, g4⟩ := box0 q1)
    go_ret2
    exact ⟨rfl, q1a q1⟩
  · skip
    clear hn
    go_enter Tryz.func41, Tryz.ntmps41
    go_wp2_with (first | (go_at_call 87; refine HC.out.mono ?_; rintro x w1 ⟨rfl, q1⟩; obtain ⟨g0, g1, g2, g3, g4⟩ := box0 q1) | (go_at_call 89; refine (truthText_any _ _).mono ?_; rintro x w2 ⟨rfl, rfl⟩))
    all_goals go_ret2
    all_goals exact ⟨rfl, q1a q1⟩
  · skip
    clear hn
    have hz : (e == 0) = false := beq_eq_false_iff_ne.2 (by omega)
    go_enter Tryz.func41, Tryz.ntmps41
    go_wp2_with (go_at_call 87; refine HC.out.mono ?_; rintro x w1 ⟨rfl, q1⟩)
    go_ret2
    exact ⟨rfl, q1a q1⟩
set_option maxHeartbeats 2000000 in
theorem truth_vk (k n : Int) (t : ByteArray) (b : Bool) (e : Int) (w : World) (hw : Std2 w) (hs : (t.size : Int) ≤ 250) (hk : Vk k n t b e) :
    Calls Tryz.prog 66 #[vv k n t b e] w fun x w' => x = .returned (.tuple #[.bool (truB k n t.toList b), .int .i64 (truE k t.toList e)]) ∧ Q w w' := by
  have HC := hid (flt_bx k n t b e e w hw (by omega) (flt_yes hk.may))
  clear hw
  unfold vv
  rcases hk with ⟨rfl, rfl, rfl, rfl, rfl⟩ | ⟨rfl, rfl, rfl, rfl⟩ | ⟨rfl, rfl, rfl, rfl, h⟩ | ⟨rfl, rfl, rfl, rfl⟩ | ⟨rfl, rfl, rfl, rfl, h1, h7⟩
  · skip
    go_enter Tryz.func66, Tryz.ntmps66
    go_wp2_with (go_at_call 87; refine HC.out.mono ?_; rintro x w1 ⟨rfl, q1⟩; obtain ⟨g0, g1, g2, g3, g4⟩ := box0 q1)
    go_ret2
    exact ⟨rfl, q1a q1⟩
  · skip
    go_enter Tryz.func66, Tryz.ntmps66
    go_wp2_with (go_at_call 87; refine HC.out.mono ?_; rintro x w1 ⟨rfl, q1⟩; obtain ⟨g0, g1, g2, g3, g4⟩ := box0 q1)
    all_goals go_ret2
    all_goals exact ⟨vret_bi (by simp [truB, bne, *]) rfl, q1a q1⟩
  · skip
    clear h
    go_enter Tryz.func66, Tryz.ntmps66
    go_wp2_with (first | (go_at_call 87; refine HC.out.mono ?_; rintro x w1 ⟨rfl, q1⟩; obtain ⟨g0, g1, g2, g3, g4⟩ := box0 q1) | (go_at_call 113; refine (readTruth_any _ _).mono ?_; rintro x w2 ⟨rfl, rfl⟩))
    all_goals go_ret2
    all_goals exact ⟨rfl, q1a q1⟩
  · skip
    go_enter Tryz.func66, Tryz.ntmps66
    go_wp2_with (go_at_call 87; refine HC.out.mono ?_; rintro x w1 ⟨rfl, q1⟩; obtain ⟨g0, g1, g2, g3, g4⟩ := box0 q1)
    all_goals go_ret2
    all_goals exact ⟨rfl, q1a q1⟩
  · skip
    have hz : (e == 0) = false := beq_eq_false_iff_ne.2 (by omega)
    go_enter Tryz.func66, Tryz.ntmps66
    go_wp2_with (go_at_call 87; refine HC.out.mono ?_; rintro x w1 ⟨rfl, q1⟩)
    go_ret2
    exact ⟨rfl, q1a q1⟩
end Go.Proofs.YtfjpdopmojfchaaGreatDoor
namespace Go.Proofs.YtfjpdopmojfchaaGreatDoor
open Go.RowKit
set_option linter.unusedVariables false
set_option linter.unusedSimpArgs false
section
variable {α : Type} (enc : α → List Value)
def flat (L : List α) : List Value := L.flatMap enc
theorem flat_cons (x : α) (L : List α) : flat enc (x :: L) = enc x ++ flat enc L := by unfold flat; simp
theorem flat_snoc (L : List α) (x : α) : flat enc (L ++ [x]) = flat enc L ++ enc x := by unfold flat; simp
theorem flat_at {k : Nat} (hk : ∀ x, (enc x).length = k) (L : List α) (i : Nat) (h : i < L.length) (j : Nat) (hj : j < k) : (flat enc L)[i * k + j]? = (enc L[i])[j]? := by
  induction L generalizing i with
  | nil => simp at h
  | cons x L ih =>
    rw [flat_cons]
    cases i with
    | zero =>
      rw [Nat.zero_mul, Nat.zero_add, List.getElem?_append_left (by rw [hk]; exact hj)]
      simp
    | succ i =>
      have e : (i + 1) * k + j = k + (i * k + j) := by rw [Nat.succ_mul]; omega
      rw [e, List.getElem?_append_right (by rw [hk]; omega), hk, Nat.add_sub_cancel_left, ih i (by simpa using h)]
      simp
def Ats (W : World) (b o : Nat) (x : α) : Prop := ∀ (j : Nat) (u : Value), (enc x)[j]? = some u → W.cell? ⟨b, o + j, none⟩ = some u
variable {enc}
theorem Ats.on {W W' : World} {b o : Nat} {x : α} (h : Ats enc W b o x) (q : Q W W') : Ats enc W' b o x := fun j u hu =>
  (q.cell (World.block_lt_of_cell? W ⟨b, o + j, none⟩ (h j u hu))).trans (h j u hu)
variable (enc)
def Sl (k : Nat) (W : World) (v : Value) (L : List α) : Prop :=
  ∃ (ao : Option Addr) (cap : Nat), v = .slice ao L.length cap ∧ L.length ≤ cap ∧ cap ≤ maxLen ∧ (0 < L.length → ∃ b off, ao = some ⟨b, off, none⟩ ∧ ∀ i (h : i < L.length), Ats enc W b (off + i * k) L[i])
variable {enc}
variable {k : Nat}
theorem Sl.on {W W' : World} {v : Value} {L : List α} (h : Sl enc k W v L) (q : Q W W') : Sl enc k W' v L := by
  obtain ⟨ao, cap, hv, h1, h2, h⟩ := h
  refine ⟨ao, cap, hv, h1, h2, fun hl => ?_⟩
  obtain ⟨b, off, ha, hc⟩ := h hl
  exact ⟨b, off, ha, fun i hi => (hc i hi).on q⟩
theorem Sl.len {W : World} {v : Value} {L : List α} (h : Sl enc k W v L) : ∃ (ao : Option Addr) (cap : Nat), v = .slice ao L.length cap ∧ L.length ≤ cap ∧ cap ≤ maxLen := by
  obtain ⟨ao, cap, hv, h1, h2, _⟩ := h
  exact ⟨ao, cap, hv, h1, h2⟩
theorem Sl.at {W : World} {v : Value} {L : List α} (h : Sl enc k W v L) {i : Nat} (hi : i < L.length) : ∃ b off cap, v = .slice (some ⟨b, off, none⟩) L.length cap ∧ L.length ≤ cap ∧ cap ≤ maxLen ∧ Ats enc W b (off + i * k) L[i] := by
  obtain ⟨ao, cap, hv, h1, h2, h⟩ := h
  obtain ⟨b, off, ha, hc⟩ := h (by omega)
  subst ha
  exact ⟨b, off, cap, hv, h1, h2, hc i hi⟩
theorem sl_nil (W : World) : Sl enc k W (.slice none 0 0) [] := ⟨none, 0, rfl, Nat.le_refl _, Nat.zero_le _, fun h => absurd h (by simp)⟩
def Own (enc : α → List Value) (e : TypeId) (k B : Nat) (W : World) (v : Value) (L : List α) : Prop := W.ownsRow B e k v L.length (flat enc L)
variable {e : TypeId} {B : Nat}
theorem own_nil (W : World) : Own enc e k B W (.slice none 0 0) [] := World.ownsRow_nil _ _ _ _
theorem Own.sl {W : World} {v : Value} {L : List α} (h : Own enc e k B W v L) (hk : ∀ x, (enc x).length = k) (hp : 0 < k) : Sl enc k W v L := by
  have h0 := h
  obtain ⟨hl, h⟩ := h
  rcases h with ⟨hv, hn⟩ | ⟨g, cap, cur, hv, hb, hg, h1, h2, h3, h4⟩
  · exact ⟨none, 0, by rw [hv, hn], by omega, Nat.zero_le _, fun h => by omega⟩
  · refine ⟨some ⟨g, 0, none⟩, cap, hv, h1, h2, fun _ => ⟨g, 0, rfl, fun i hi j u hu => ?_⟩⟩
    have hj : j < k := by rw [← hk L[i]]; exact (List.getElem?_eq_some_iff.1 hu).1
    unfold Own at h0
    rw [hv] at h0
    have : i * k + j < L.length * k := Nat.lt_of_lt_of_le (Nat.add_lt_add_left hj _) (by rw [← Nat.succ_mul]; exact Nat.mul_le_mul_right _ hi)
    rw [Nat.zero_add, h0.cellAt (i * k + j) this, flat_at enc hk L i hi j hj]
    exact hu
theorem Own.alloc {W : World} {v : Value} {L : List α} (h : Own enc e k B W v L) (o : Obj) : Own enc e k B (W.alloc o) v L := World.ownsRow.alloc h o
theorem Own.on {W W' : World} {v : Value} {L : List α} (h : Own enc e k B W v L) (q : Q W W') : Own enc e k B W' v L := by
  obtain ⟨hl, h⟩ := h
  refine ⟨hl, ?_⟩
  rcases h with h | ⟨g, cap, cur, hv, hb, hg, h1, h2, h3, h4⟩
  · exact .inl h
  · have hlt : g < W.heap.size := by
      rcases Nat.lt_or_ge g W.heap.size with h' | h'
      · exact h'
      · rw [Array.getElem?_eq_none h'] at hg; cases hg
    exact .inr ⟨g, cap, cur, hv, hb, by rw [Below.block q g hlt]; exact hg, h1, h2, h3, h4⟩
theorem Own.blk {W : World} {v : Value} {L : List α} (h : Own enc e k B W v L) : ∀ j, v.ownBlock = some j → B ≤ j := by
  intro j hj
  obtain ⟨_, h⟩ := h
  rcases h with ⟨hv, _⟩ | ⟨g, cap, cur, hv, hg, _⟩
  · rw [hv] at hj; cases hj
  · rw [hv] at hj
    cases hj
    exact hg
theorem Own.mono {W : World} {v : Value} {L : List α} {B' : Nat} (h : Own enc e k B W v L) (hB : B' ≤ B) : Own enc e k B' W v L := by
  obtain ⟨hl, h⟩ := h
  refine ⟨hl, ?_⟩
  rcases h with h | ⟨g, cap, cur, hv, hb, hr⟩
  · exact .inl h
  · exact .inr ⟨g, cap, cur, hv, by omega, hr⟩
theorem Own.grown {W W' : World} {row : Option Nat} {v : Value} {L : List α} (h : Own enc e k B W v L) (g : W.grownBy W' row) (hr : v.ownBlock = none ∨ v.ownBlock ≠ row) : Own enc e k B W' v L := World.ownsRow.kept h g hr
theorem own_snoc {W : World} {v : Value} {L : List α} {x : α} (h : W.ownsRow B e k v (L.length + 1) (flat enc L ++ enc x)) : Own enc e k B W v (L ++ [x]) := by
  unfold Own
  rw [flat_snoc, List.length_append]
  exact h
theorem own_snoc' {W : World} {v : Value} {L : List α} {x : α} {n : Nat} (h : W.ownsRow B e k v n (flat enc L ++ enc x)) (hn : n = L.length + 1) : Own enc e k B W v (L ++ [x]) := own_snoc (hn ▸ h)
theorem news_new (W : World) (cs : List Value) (t : TypeId) : ∀ j u, cs[j]? = some u → (W.alloc (.cells cs.toArray t)).cell? ((⟨W.heap.size, 0, none⟩ : Addr).add j) = some u := by
  intro j u hu
  have hj : j < cs.length := (List.getElem?_eq_some_iff.1 hu).1
  have e : ((⟨W.heap.size, 0, none⟩ : Addr).add j) = ⟨W.heap.size, j, none⟩ := by
    unfold Addr.add
    by_cases h : j = 0
    · subst h; simp
    · simp [h]
  rw [e]
  rw [World.cell?_alloc_new]
  simpa using hu
end
def Inf (e : TypeId) (z : Value) (k by' : Nat) (i : TypeInfo) : Prop := Tryz.prog.info? e = some i ∧ i.zero = some z ∧ i.size = k ∧ i.bytes = by'
theorem inf_of {e : TypeId} {z : Value} {k b : Nat} (h : (Tryz.prog.info? e).map (fun i => (i.zero, i.size, i.bytes)) = some (some z, k, b)) : ∃ i, Inf e z k b i := by
  obtain ⟨i, hi, hz⟩ := Option.map_eq_some_iff.1 h
  simp only [Prod.mk.injEq] at hz
  exact ⟨i, hi, hz.1, hz.2.1, hz.2.2⟩
end Go.Proofs.YtfjpdopmojfchaaGreatDoor
namespace Go.Proofs.YtfjpdopmojfchaaGreatDoor
open Go.RowKit
theorem bitLen_bounds : ∀ (f x : Nat), 0 < x → x < 2 ^ f → f ≤ 64 → 0 < Lib.bitLen x ∧ 2 ^ (Lib.bitLen x - 1) ≤ x ∧ x < 2 ^ Lib.bitLen x ∧ Lib.bitLen x ≤ f
  | 0, x, h0, h1, _ => by simp at h1; omega
  | f + 1, x, h0, h1, hf => by
    have hx : x < 2 ^ 64 := Nat.lt_of_lt_of_le h1 (Nat.pow_le_pow_right (by omega) hf)
    rw [Lib.bitLen_half x (by omega) hx]
    by_cases hz : x / 2 = 0
    · have e : Lib.bitLen (x / 2) = 0 := by rw [hz]; rfl
      rw [e]
      have : x = 1 := by omega
      subst this
      exact ⟨by omega, by simp, by simp, by omega⟩
    · have ih := bitLen_bounds f (x / 2) (by omega) (by rw [Nat.pow_succ] at h1; omega) (by omega)
      obtain ⟨a, b, c, d⟩ := ih
      generalize Lib.bitLen (x / 2) = k at *
      refine ⟨by omega, ?_, ?_, by omega⟩
      · have : 1 + k - 1 = (k - 1) + 1 := by omega
        rw [this, Nat.pow_succ]
        omega
      · rw [Nat.add_comm, Nat.pow_succ]
        omega
theorem norm_y (y : Nat) (h0 : 0 < y) (h1 : y < 18446744073709551616) :
    Lib.bitLen y ≤ 64 ∧ 0 < Lib.bitLen y ∧ 9223372036854775808 ≤ y * 2 ^ (64 - Lib.bitLen y) ∧ y * 2 ^ (64 - Lib.bitLen y) < 18446744073709551616 := by
  obtain ⟨a, b, c, d⟩ := bitLen_bounds 64 y h0 h1 (Nat.le_refl _)
  generalize Lib.bitLen y = k at *
  have e1 : 2 ^ (k - 1) * 2 ^ (64 - k) = (9223372036854775808 : Nat) := by
    rw [← Nat.pow_add, show k - 1 + (64 - k) = 63 by omega]
  have e2 : 2 ^ k * 2 ^ (64 - k) = (18446744073709551616 : Nat) := by
    rw [← Nat.pow_add, show k + (64 - k) = 64 by omega]
  refine ⟨d, a, ?_, ?_⟩
  · rw [← e1]; exact Nat.mul_le_mul_right _ b
  · rw [← e2]; exact Nat.mul_lt_mul_of_pos_right c (Nat.two_pow_pos _)
theorem pow_cast (s : Nat) : ((2 : Int) ^ s) = ((2 ^ s : Nat) : Int) := by simp
theorem and_mask (a : Nat) (ha : a < 18446744073709551616) : bits BinOp.and IntKind.u64 (a : Int) 4294967295 = ((a % 4294967296 : Nat) : Int) := by
  have h := bits_and_u64_nat a 4294967295 ha (by omega)
  have e : a &&& 4294967295 = a % 4294967296 := Nat.and_two_pow_sub_one_eq_mod a 32
  rw [e] at h
  exact h
theorem div64_all (hi lo y : Nat) (h1 : hi < y) (h3 : lo < 18446744073709551616) (h4 : y < 18446744073709551616) :
    ∃ s U L Y Y1 Y0 L1 L0 Q1 U2 Q0 R : Int, s = 64 - (Lib.bitLen y : Int) ∧ 0 ≤ s ∧ s < 64 ∧
      IntKind.u64.wrap ((y : Int) * 2 ^ s.toNat) = Y ∧ Y / 4294967296 = Y1 ∧ bits BinOp.and IntKind.u64 Y 4294967295 = Y0 ∧
      bits BinOp.or IntKind.u64 (IntKind.u64.wrap ((hi : Int) * 2 ^ s.toNat)) ((lo : Int) / 2 ^ (64 - s).toNat) = U ∧
      IntKind.u64.wrap ((lo : Int) * 2 ^ s.toNat) = L ∧ L / 4294967296 = L1 ∧ bits BinOp.and IntKind.u64 L 4294967295 = L0 ∧
      Y < 18446744073709551616 ∧ Dig U L1 Y Y1 Y0 Q1 ∧ Hid (U2 = (U * 4294967296 + L1) % Y) ∧ Dig U2 L0 Y Y1 Y0 Q0 ∧ Hid (R = (U2 * 4294967296 + L0) % Y) ∧
      Q1 * 4294967296 + Q0 = (((hi * 18446744073709551616 + lo) / y : Nat) : Int) ∧ R / 2 ^ s.toNat = (((hi * 18446744073709551616 + lo) % y : Nat) : Int) := by
  obtain ⟨k1, k2, k3, k4⟩ := norm_y y (by omega) h4
  generalize hk : 64 - Lib.bitLen y = k at *
  have hk' : k < 64 := by omega
  have es : ((64 : Int) - (Lib.bitLen y : Int)) = (k : Int) := by omega
  have es' : ((64 : Int) - (Lib.bitLen y : Int)).toNat = k := by omega
  have es2 : ((64 : Int) - ((64 : Int) - (Lib.bitLen y : Int))).toNat = 64 - k := by omega
  obtain ⟨n1, n2⟩ := norm_facts hi lo y k h1 h3 hk'
  have hp : 0 < 2 ^ k := Nat.two_pow_pos k
  have hlt : lo / 2 ^ (64 - k) < 2 ^ k := by
    apply Nat.div_lt_of_lt_mul
    rw [← Nat.pow_add, show 64 - k + k = 64 by omega]
    exact h3
  have hor := or_sum hi (lo / 2 ^ (64 - k)) k hlt
  have hhi : hi * 2 ^ k < y * 2 ^ k := Nat.mul_lt_mul_of_pos_right h1 hp
  have eY : IntKind.u64.wrap ((y : Int) * 2 ^ k) = ((y * 2 ^ k : Nat) : Int) := by
    rw [IntKind.wrap_u64, pow_cast, ← Int.natCast_mul]
    generalize y * 2 ^ k = t at *
    omega
  have eH : IntKind.u64.wrap ((hi : Int) * 2 ^ k) = ((hi * 2 ^ k : Nat) : Int) := by
    rw [IntKind.wrap_u64, pow_cast, ← Int.natCast_mul]
    generalize hi * 2 ^ k = t at *
    omega
  have eLo : IntKind.u64.wrap ((lo : Int) * 2 ^ k) = ((lo * 2 ^ k % 18446744073709551616 : Nat) : Int) := by
    rw [IntKind.wrap_u64, pow_cast, ← Int.natCast_mul]
    generalize lo * 2 ^ k = t at *
    omega
  have eD : (lo : Int) / 2 ^ (64 - k) = ((lo / 2 ^ (64 - k) : Nat) : Int) := by
    rw [pow_cast]; rfl
  have eU : bits BinOp.or IntKind.u64 (IntKind.u64.wrap ((hi : Int) * 2 ^ k)) ((lo : Int) / 2 ^ (64 - k)) = ((hi * 2 ^ k + lo / 2 ^ (64 - k) : Nat) : Int) := by
    rw [eH, eD, bits_or_u64_nat _ _ (by omega) (by omega), hor]
  generalize hY : y * 2 ^ k = Y at *
  generalize hU : hi * 2 ^ k + lo / 2 ^ (64 - k) = U at *
  generalize hL : lo * 2 ^ k % 18446744073709551616 = L at *
  have hLlt : L < 18446744073709551616 := by omega
  have dv := div_two (B := 4294967296) (y := Y) (u := U) (d0 := L % 4294967296) (d1 := L / 4294967296) (by omega)
  have eN : U * (4294967296 * 4294967296) + (L / 4294967296 * 4294967296 + L % 4294967296) = (hi * 18446744073709551616 + lo) * 2 ^ k := by
    rw [← n2]; omega
  rw [eN, ← hY, Nat.mul_div_mul_right _ _ hp, hY] at dv
  have hr := rest_shift (hi * 18446744073709551616 + lo) y (2 ^ k) hp
  rw [hY] at hr
  obtain ⟨dv1, dv2⟩ := dv
  have dA : Dig (U : Int) ((L / 4294967296 : Nat) : Int) (Y : Int) ((Y / 4294967296 : Nat) : Int) ((Y % 4294967296 : Nat) : Int) (((U * 4294967296 + L / 4294967296) / Y : Nat) : Int) :=
    ⟨by omega, by omega, by omega, by omega, by omega, by omega, by omega, by omega, by omega, by rfl⟩
  have hm : (U * 4294967296 + L / 4294967296) % Y < Y := Nat.mod_lt _ (by omega)
  have dB : Dig (((U * 4294967296 + L / 4294967296) % Y : Nat) : Int) ((L % 4294967296 : Nat) : Int) (Y : Int) ((Y / 4294967296 : Nat) : Int) ((Y % 4294967296 : Nat) : Int) ((((U * 4294967296 + L / 4294967296) % Y * 4294967296 + L % 4294967296) / Y : Nat) : Int) :=
    ⟨by omega, by omega, by omega, by omega, by omega, by omega, by omega, by omega, by omega, by rfl⟩
  refine ⟨64 - (Lib.bitLen y : Int), U, L, Y, ((Y / 4294967296 : Nat) : Int), ((Y % 4294967296 : Nat) : Int), ((L / 4294967296 : Nat) : Int), ((L % 4294967296 : Nat) : Int), _, _, _, ((((U * 4294967296 + L / 4294967296) % Y * 4294967296 + L % 4294967296) % Y : Nat) : Int), rfl, by omega, by omega, ?_, rfl, and_mask Y k4, ?_, ?_, rfl, and_mask L hLlt, by omega, dA, rfl, dB, rfl, ?_, ?_⟩
  · rw [es']; exact eY
  · rw [es', es2]; exact eU
  · rw [es']; exact eLo
  · rw [dv1]; omega
  · rw [es', ← dv2, pow_cast]
    exact congrArg (fun n : Nat => (n : Int)) hr
def DI (N m : Nat) (l : List UInt8) : Prop := (l = [] ∧ m = N) ∨ (l ≠ [] ∧ (if m = 0 then l else Lib.decDigits m ++ l) = Lib.decDigits N)
theorem dec_small {m : Nat} (h : m < 10) : Lib.decDigits m = [UInt8.ofNat (48 + m % 10)] := by
  rw [Lib.decDigits_one h, Nat.mod_eq_of_lt h]
theorem dec_big {m : Nat} (h : ¬ m < 10) : Lib.decDigits m = Lib.decDigits (m / 10) ++ [UInt8.ofNat (48 + m % 10)] := by
  rw [Lib.decDigits, dif_neg h]
theorem DI.next {N m : Nat} {l : List UInt8} (h : DI N m l) (hg : 0 < m ∨ l = []) : DI N (m / 10) (UInt8.ofNat (48 + m % 10) :: l) := by
  refine .inr ⟨by simp, ?_⟩
  have e : Lib.decDigits m ++ l = Lib.decDigits N := by
    rcases h with ⟨rfl, rfl⟩ | ⟨hl, h⟩
    · simp
    · rw [if_neg (by rcases hg with h | h; omega; exact absurd h hl)] at h
      exact h
  rw [← e]
  by_cases h10 : m < 10
  · rw [if_pos (by omega), dec_small h10]; rfl
  · rw [if_neg (by omega), dec_big h10]; simp
theorem DI.done {N m : Nat} {l : List UInt8} (h : DI N m l) (hm : m = 0) (hl : l ≠ []) : l = Lib.decDigits N := by
  rcases h with ⟨h, _⟩ | ⟨_, h⟩
  · exact absurd h hl
  · rw [if_pos hm] at h; exact h
theorem DI.len {N m : Nat} {l : List UInt8} (h : DI N m l) (hN : N < 18446744073709551616) : l.length ≤ 20 := by
  have hd : (Lib.decDigits N).length ≤ 20 := by rw [Lib.decDigits_length]; exact nDigits_le N hN
  rcases h with ⟨h, _⟩ | ⟨_, h⟩
  · rw [h]; simp
  · rw [← h] at hd
    split at hd
    · exact hd
    · rw [List.length_append] at hd; omega
theorem digit_nat (m : Nat) : ((UInt8.ofNat (48 + m % 10)).toNat : Int) = 48 + (m : Int) % 10 := by
  have h : (UInt8.ofNat (48 + m % 10)).toNat = (48 + m % 10) % 256 := UInt8.toNat_ofNat'
  rw [h]
  omega
theorem size_mk0 (l : List UInt8) : (⟨l.toArray⟩ : ByteArray).size = l.length := by simp [ByteArray.size]
def strLen : Value → Nat
  | .string s => s.size
  | _ => 0
set_option maxHeartbeats 1000000 in
theorem dec_int (N : Nat) (X : Int) (w : World) (hX : Hid (X = (N : Int))) (hN : Hid (N < 18446744073709551616)) (X0 : 0 ≤ X) (X1 : X < 18446744073709551616) :
    Calls Tryz.prog 134 #[.int .u64 X] w fun e w' => e = .returned (.string ⟨(Lib.decDigits N).toArray⟩) ∧ Q w w' := by
  go_enter Tryz.func134, Tryz.ntmps134
  go_wp2
  go_loopw [0, 3] (fun a b W => ∃ (x : Int) (m : Nat) (l : List UInt8), a = .int .u64 x ∧ b = .string ⟨l.toArray⟩ ∧ Hid (x = (m : Int)) ∧ 0 ≤ x ∧ x < 18446744073709551616 ∧ DI N m l ∧ Q w W) (fun a b _ => (intOf a).toNat + (1 - strLen b))
  case atStart => exact ⟨X, N, [], rfl, rfl, hX, X0, X1, .inl ⟨rfl, rfl⟩, Q.refl _⟩
  case round =>
    obtain ⟨x, m, l, rfl, rfl, hx, x0, x1, di, hq⟩ := hrel
    have hl20 := di.len hN.out
    have HD := hid di
    clear di
    by_cases hg : 0 < m ∨ l = []
    · have HN := hid (HD.out.next hg)
      have hc : ((UInt8.ofNat (48 + m % 10)).toNat : Int) = 48 + x % 10 := by rw [hx.out]; exact digit_nat m
      obtain ⟨c, ec⟩ : ∃ c, c = UInt8.ofNat (48 + m % 10) := ⟨_, rfl⟩
      rw [← ec] at HN hc
      have hcv : (convert 97 9 (.slice (some ⟨wr.heap.size, 0, none⟩) 1 1)).run Tryz.prog (wr.alloc (.cells #[.int .u8 (48 + x % 10)] 5)) = .ok (.string ⟨#[c]⟩) (wr.alloc (.cells #[.int .u8 (48 + x % 10)] 5)) := by
        have h := run_convert_bytes_back (P := Tryz.prog) (wr.alloc (.cells #[.int .u8 (48 + x % 10)] 5)) 97 9 5 ⟨wr.heap.size, 0, none⟩ 1 [c] Tryz.underlying97 Tryz.underlying5 Tryz.underlying9 (fun j hj => by
          have hj0 : j = 0 := by simpa using hj
          subst hj0
          rw [Lib.add_plain, World.cell?_alloc_new]
          simp [hc])
        exact h
      have hms : Hid ((x / 10).toNat + (1 - (l.length + 1)) < x.toNat + (1 - l.length)) := by
        show _ < _
        have := hx.out
        rcases hg with h | h
        · omega
        · rw [h]; simp; omega
      have hx' : Hid (x / 10 = ((m / 10 : Nat) : Int)) := by show _ = _; rw [hx.out]; omega
      have hg' : 0 < x ∨ (x = 0 ∧ l = []) := by have := hx.out; rcases hg with h | h; exact .inl (by omega); by_cases h0 : 0 < x; exact .inl h0; exact .inr ⟨by omega, h⟩
      clear ec hc hg HD
      rcases hg' with hp | ⟨hp, hl⟩
      · go_wp2
        go_roundw
        case rel => exact ⟨x / 10, m / 10, c :: l, rfl, congrArg Value.string (bytes_cat [c] l), hx', by omega, by omega, HN.out, hq.alloc _⟩
        case measure =>
          have h1 := hms.out
          have e2 : ((⟨#[c]⟩ : ByteArray) ++ ⟨l.toArray⟩).size = l.length + 1 := by
            have e := congrArg ByteArray.size (bytes_cat [c] l)
            rw [size_mk0] at e
            exact e
          simp only [intOf, strLen, size_mk0, e2]
          omega
      · have hnp : ¬ 0 < x := by omega
        clear hp
        subst hl
        go_wp2
        go_roundw
        case rel => exact ⟨x / 10, m / 10, [c], rfl, congrArg Value.string (bytes_cat [c] []), hx', by omega, by omega, HN.out, hq.alloc _⟩
        case measure =>
          have h1 := hms.out
          have e2 : ((⟨#[c]⟩ : ByteArray) ++ ⟨#[]⟩).size = 1 := by
            have e := congrArg ByteArray.size (bytes_cat [c] [])
            rw [size_mk0] at e
            exact e
          simp [intOf, strLen, size_mk0, e2] at *
          omega
    · have hm0 : m = 0 := by omega
      have hl0 : l ≠ [] := fun h => hg (.inr h)
      have HF := hid (HD.out.done hm0 hl0)
      have hz : ¬ 0 < x := by have := hx.out; omega
      clear hg hm0 HD
      rcases l with _ | ⟨y, l⟩
      · exact absurd rfl hl0
      · clear hl0
        go_wp2
        go_ret
        exact ⟨ret_str (by rw [HF.out]), hq⟩
end Go.Proofs.YtfjpdopmojfchaaGreatDoor
