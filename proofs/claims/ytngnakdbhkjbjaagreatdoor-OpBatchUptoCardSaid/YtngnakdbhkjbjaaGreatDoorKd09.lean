/- Package value and its referenc. -/
import Derived.Test.YtngnakdbhkjbjaaGreatDoorKd00
set_option linter.unusedVariables false
set_option linter.unusedSimpArgs false
set_option maxRecDepth 100000
set_option maxHeartbeats 8000000
namespace Go.Proofs.YtngnakdbhkjbjaaGreatDoor.V
open Go.RowKit
theorem vret_str {a b : List UInt8} (h : a = b) : Ending.returned (.string ⟨a.toArray⟩) = .returned (.string ⟨b.toArray⟩) := by rw [h]
theorem enL_no {e : Int} (h : e < 1 ∨ 7 < e) : [] = enL e := by
  unfold enL
  rw [if_neg (by omega), if_neg (by omega), if_neg (by omega), if_neg (by omega), if_neg (by omega), if_neg (by omega), if_neg (by omega)]
set_option maxHeartbeats 1000000 in
theorem name_any (e : Int) (w : World) (h : Nam w) : Calls Tryz.prog 64 #[.int .i64 e] w fun x w' => x = .returned (.string ⟨(enL e).toArray⟩) ∧ w' = w := by
  by_cases h0 : e < 0
  · have H := hid (enL_no (e := e) (by omega))
    go_enter Tryz.func64, Tryz.ntmps64
    go_wp2
    go_ret
    exact ⟨vret_str H.out, rfl⟩
  · by_cases h8 : 8 ≤ e
    · have H := hid (enL_no (e := e) (by omega))
      go_enter Tryz.func64, Tryz.ntmps64
      go_wp2
      go_ret
      exact ⟨vret_str H.out, rfl⟩
    · have c0 := h.2 0 (by omega)
      have c1 := h.2 1 (by omega)
      have c2 := h.2 2 (by omega)
      have c3 := h.2 3 (by omega)
      have c4 := h.2 4 (by omega)
      have c5 := h.2 5 (by omega)
      have c6 := h.2 6 (by omega)
      have c7 := h.2 7 (by omega)
      clear h
      rcases (by omega : e = 0 ∨ e = 1 ∨ e = 2 ∨ e = 3 ∨ e = 4 ∨ e = 5 ∨ e = 6 ∨ e = 7) with rfl | rfl | rfl | rfl | rfl | rfl | rfl | rfl
      all_goals
        clear h0 h8
        go_enter Tryz.func64, Tryz.ntmps64
        go_wp2
        go_ret
        exact ⟨rfl, rfl⟩
def mtB (l : List UInt8) : Bool := decide (l.length ≤ 200) && Lib.validD l
set_option maxHeartbeats 1000000 in
theorem mayText_any (s : ByteArray) (w : World) (h : Std w) (hs : (s.size : Int) ≤ 9223372036854775000) : Calls Tryz.prog 63 #[.string s] w fun x w' => x = .returned (.bool (mtB s.data.toList)) ∧ Q w w' := by
  have hl : s.data.toList.length = s.size := by simp
  by_cases h1 : (s.size : Int) ≤ 200
  · have H : Hid (Lib.validD s.data.toList = mtB s.data.toList) := by show _ = _; unfold mtB; rw [hl]; simp; omega
    have HC := hid (Tryz.utf8_ValidString s w (by omega) h.utf)
    clear hl
    go_enter Tryz.func63, Tryz.ntmps63
    go_wp2_with (go_at_call 80; refine HC.out.mono ?_; rintro e w1 ⟨rfl, q1⟩)
    go_ret
    exact ⟨vret_bool H.out, q1⟩
  · have H : Hid (false = mtB s.data.toList) := by show _ = _; unfold mtB; rw [hl]; simp; intro; omega
    clear hl
    go_enter Tryz.func63, Tryz.ntmps63
    go_wp2
    go_ret
    exact ⟨vret_bool H.out, Q.refl _⟩
theorem size_mk (l : List UInt8) : (⟨l.toArray⟩ : ByteArray).size = l.length := by simp [ByteArray.size]
def mayB (k n : Int) (t : List UInt8) (b : Bool) (e : Int) : Bool :=
  if k = 0 then decide (n = 0) && (decide (t = []) && (!b && decide (e = 0)))
  else if k = 1 then decide (t = []) && (!b && decide (e = 0))
  else if k = 2 then decide (n = 0) && (!b && (decide (e = 0) && mtB t))
  else if k = 3 then decide (n = 0) && (decide (t = []) && decide (e = 0))
  else if k = 4 then decide (n = 0) && (decide (t = []) && (!b && (decide (1 ≤ e) && decide (e ≤ 7))))
  else false
theorem mtB_nil : mtB [] = true := by rfl
theorem enL_ne {e : Int} (h1 : 1 ≤ e) (h7 : e ≤ 7) : enL e ≠ [] := by
  rcases (by omega : e = 1 ∨ e = 2 ∨ e = 3 ∨ e = 4 ∨ e = 5 ∨ e = 6 ∨ e = 7) with rfl | rfl | rfl | rfl | rfl | rfl | rfl <;> decide
theorem mayB_other {k n : Int} {t : List UInt8} {b : Bool} {e : Int} (h0 : k ≠ 0) (h1 : k ≠ 1) (h2 : k ≠ 2) (h3 : k ≠ 3) (h4 : k ≠ 4) : false = mayB k n t b e := by
  unfold mayB
  rw [if_neg h0, if_neg h1, if_neg h2, if_neg h3, if_neg h4]
set_option maxHeartbeats 2000000 in
theorem may_other (k n : Int) (t : ByteArray) (b : Bool) (e : Int) (w : World) (h0 : k ≠ 0) (h1 : k ≠ 1) (h2 : k ≠ 2) (h3 : k ≠ 3) (h4 : k ≠ 4) :
    Calls Tryz.prog 44 #[vv k n t b e] w fun x w' => x = .returned (.bool (mayB k n t.toList b e)) ∧ Q w w' := by
  have H := hid (mayB_other (n := n) (t := t.toList) (b := b) (e := e) h0 h1 h2 h3 h4)
  unfold vv
  go_enter Tryz.func44, Tryz.ntmps44
  go_wp2
  go_ret
  exact ⟨vret_bool H.out, ((Q.refl _).alloc _).alloc _⟩
theorem box5 {w w1 : World} {v0 v1 v2 v3 v4 : Value} {o : Obj} (q : Q ((w.alloc (.cells #[v0, v1, v2, v3, v4] 24)).alloc o) w1) :
    w1.cell? ⟨w.heap.size, 0, none⟩ = some v0 ∧ w1.cell? ⟨w.heap.size, 4, none⟩ = some v4 := by
  have h1 : w.heap.size < (w.alloc (.cells #[v0, v1, v2, v3, v4] 24)).heap.size := by rw [World.size_alloc]; omega
  have hlt : w.heap.size < ((w.alloc (.cells #[v0, v1, v2, v3, v4] 24)).alloc o).heap.size := by rw [World.size_alloc]; omega
  have e1 := fun j => Q.cell (o := j) ((Q.refl (w.alloc (.cells #[v0, v1, v2, v3, v4] 24))).alloc o) h1
  refine ⟨?_, ?_⟩
  · rw [q.cell hlt, e1, World.cell?_alloc_new]; rfl
  · rw [q.cell hlt, e1, World.cell?_alloc_new]; rfl
theorem q2 {w w1 : World} {o o' : Obj} (q : Q ((w.alloc o).alloc o') w1) : Q w w1 := (((Q.refl _).alloc _).alloc _).trans q
set_option maxHeartbeats 2000000 in
theorem may_0 (n : Int) (t : ByteArray) (b : Bool) (e : Int) (w : World) (hw : Std w) (hs : (t.size : Int) ≤ 9223372036854775000) :
    Calls Tryz.prog 44 #[vv 0 n t b e] w fun x w' => x = .returned (.bool (mayB 0 n t.toList b e)) ∧ Q w w' := by
  have HW := hid hw
  have HM : mtB t.data.toList = mtB t.toList := by rw [Lib.toList_data]
  clear hw
  unfold vv
  go_enter Tryz.func44, Tryz.ntmps44
  go_wp2_with (go_at_call 63; refine (mayText_any t _ (HW.out.on (((Q.refl _).alloc _).alloc _)) hs).mono ?_; rintro x w1 ⟨rfl, q1⟩; obtain ⟨g0, g4⟩ := box5 q1)
  all_goals go_ret
  all_goals first
    | exact ⟨vret_bool (by simp [mayB, mtB_nil, *]), ((Q.refl _).alloc _).alloc _⟩
    | exact ⟨vret_bool (by simp_all [mayB, mtB_nil]), q2 q1⟩
set_option maxHeartbeats 2000000 in
theorem may_1 (n : Int) (t : ByteArray) (b : Bool) (e : Int) (w : World) (hw : Std w) (hs : (t.size : Int) ≤ 9223372036854775000) :
    Calls Tryz.prog 44 #[vv 1 n t b e] w fun x w' => x = .returned (.bool (mayB 1 n t.toList b e)) ∧ Q w w' := by
  have HW := hid hw
  have HM : mtB t.data.toList = mtB t.toList := by rw [Lib.toList_data]
  clear hw
  unfold vv
  go_enter Tryz.func44, Tryz.ntmps44
  go_wp2_with (go_at_call 63; refine (mayText_any t _ (HW.out.on (((Q.refl _).alloc _).alloc _)) hs).mono ?_; rintro x w1 ⟨rfl, q1⟩; obtain ⟨g0, g4⟩ := box5 q1)
  all_goals go_ret
  all_goals first
    | exact ⟨vret_bool (by simp [mayB, mtB_nil, *]), ((Q.refl _).alloc _).alloc _⟩
    | exact ⟨vret_bool (by simp_all [mayB, mtB_nil]), q2 q1⟩
set_option maxHeartbeats 2000000 in
theorem may_2 (n : Int) (t : ByteArray) (b : Bool) (e : Int) (w : World) (hw : Std w) (hs : (t.size : Int) ≤ 9223372036854775000) :
    Calls Tryz.prog 44 #[vv 2 n t b e] w fun x w' => x = .returned (.bool (mayB 2 n t.toList b e)) ∧ Q w w' := by
  have HW := hid hw
  have HM : mtB t.data.toList = mtB t.toList := by rw [Lib.toList_data]
  clear hw
  unfold vv
  go_enter Tryz.func44, Tryz.ntmps44
  go_wp2_with (go_at_call 63; refine (mayText_any t _ (HW.out.on (((Q.refl _).alloc _).alloc _)) hs).mono ?_; rintro x w1 ⟨rfl, q1⟩; obtain ⟨g0, g4⟩ := box5 q1)
  all_goals go_ret
  all_goals first
    | exact ⟨vret_bool (by simp [mayB, mtB_nil, *]), ((Q.refl _).alloc _).alloc _⟩
    | exact ⟨vret_bool (by simp_all [mayB, mtB_nil]), q2 q1⟩
set_option maxHeartbeats 2000000 in
theorem may_3 (n : Int) (t : ByteArray) (b : Bool) (e : Int) (w : World) (hw : Std w) (hs : (t.size : Int) ≤ 9223372036854775000) :
    Calls Tryz.prog 44 #[vv 3 n t b e] w fun x w' => x = .returned (.bool (mayB 3 n t.toList b e)) ∧ Q w w' := by
  have HW := hid hw
  have HM : mtB t.data.toList = mtB t.toList := by rw [Lib.toList_data]
  clear hw
  unfold vv
  go_enter Tryz.func44, Tryz.ntmps44
  go_wp2_with (go_at_call 63; refine (mayText_any t _ (HW.out.on (((Q.refl _).alloc _).alloc _)) hs).mono ?_; rintro x w1 ⟨rfl, q1⟩; obtain ⟨g0, g4⟩ := box5 q1)
  all_goals go_ret
  all_goals first
    | exact ⟨vret_bool (by simp [mayB, mtB_nil, *]), ((Q.refl _).alloc _).alloc _⟩
    | exact ⟨vret_bool (by simp_all [mayB, mtB_nil]), q2 q1⟩
set_option maxHeartbeats 2000000 in
theorem may_4 (n : Int) (t : ByteArray) (b : Bool) (e : Int) (w : World) (hw : Std w) (hs : (t.size : Int) ≤ 9223372036854775000) :
    Calls Tryz.prog 44 #[vv 4 n t b e] w fun x w' => x = .returned (.bool (mayB 4 n t.toList b e)) ∧ Q w w' := by
  have HW := hid hw
  have HM : mtB t.data.toList = mtB t.toList := by rw [Lib.toList_data]
  obtain ⟨X, eX⟩ : ∃ X : ByteArray, X = ⟨(enL e).toArray⟩ := ⟨_, rfl⟩
  have hX : X.toList = enL e := by rw [Lib.toList_data, eX]
  have HN := hid (fun w h => name_any e w h)
  rw [← eX] at HN
  clear hw eX
  by_cases he : 1 ≤ e ∧ e ≤ 7
  · have hx : (X.toList == []) = false := by rw [hX]; have := enL_ne he.1 he.2; cases h : enL e; exact absurd h this; rfl
    have h1 := he.1
    have h7 := he.2
    have d1 : decide (1 ≤ e) = true := by simpa using h1
    have d7 : decide (e ≤ 7) = true := by simpa using h7
    clear he hX
    unfold vv
    go_enter Tryz.func44, Tryz.ntmps44
    go_wp2_with (first | (go_at_call 63; refine (mayText_any t _ (HW.out.on (((Q.refl _).alloc _).alloc _)) hs).mono ?_; rintro x w1 ⟨rfl, q1⟩; obtain ⟨g0, g4⟩ := box5 q1) | (go_at_call 64; refine (HN.out _ (HW.out.on (q2 q1)).nam).mono ?_; rintro x w1 ⟨rfl, rfl⟩))
    all_goals go_ret
    all_goals first
      | exact ⟨vret_bool (by simp [mayB, mtB_nil, *]), ((Q.refl _).alloc _).alloc _⟩
      | exact ⟨vret_bool (by simp_all [mayB, mtB_nil]), q2 q1⟩
  · have hx : (X.toList == []) = true := by rw [hX, ← enL_no (by omega)]; rfl
    have d1 : (decide (1 ≤ e) && decide (e ≤ 7)) = false := by simp; omega
    clear he hX
    unfold vv
    go_enter Tryz.func44, Tryz.ntmps44
    go_wp2_with (first | (go_at_call 63; refine (mayText_any t _ (HW.out.on (((Q.refl _).alloc _).alloc _)) hs).mono ?_; rintro x w1 ⟨rfl, q1⟩; obtain ⟨g0, g4⟩ := box5 q1) | (go_at_call 64; refine (HN.out _ (HW.out.on (q2 q1)).nam).mono ?_; rintro x w1 ⟨rfl, rfl⟩))
    all_goals go_ret
    all_goals first
      | exact ⟨vret_bool (by unfold mayB; rw [d1]; simp), ((Q.refl _).alloc _).alloc _⟩
      | exact ⟨vret_bool (by unfold mayB; rw [d1]; simp), q2 q1⟩
theorem may_any (k n : Int) (t : ByteArray) (b : Bool) (e : Int) (w : World) (hw : Std w) (hs : (t.size : Int) ≤ 9223372036854775000) :
    Calls Tryz.prog 44 #[vv k n t b e] w fun x w' => x = .returned (.bool (mayB k n t.toList b e)) ∧ Q w w' := by
  by_cases h0 : k = 0
  · subst h0; exact may_0 n t b e w hw hs
  by_cases h1 : k = 1
  · subst h1; exact may_1 n t b e w hw hs
  by_cases h2 : k = 2
  · subst h2; exact may_2 n t b e w hw hs
  by_cases h3 : k = 3
  · subst h3; exact may_3 n t b e w hw hs
  by_cases h4 : k = 4
  · subst h4; exact may_4 n t b e w hw hs
  exact may_other k n t b e w h0 h1 h2 h3 h4
end Go.Proofs.YtngnakdbhkjbjaaGreatDoor.V
namespace Go.Proofs.YtngnakdbhkjbjaaGreatDoor
open Go.RowKit
def lnB (n : Int) : Bool := decide (0 ≤ n ∧ n < 2199023255552)
def fmB (n : Int) : Bool := decide (0 ≤ n ∧ n ≤ 255)
theorem mayLine_any' (n : Int) (w : World) : Calls Tryz.prog 19 #[.int .i64 n] w fun e w' => e = .returned (.bool (lnB n)) ∧ w' = w := by
  by_cases h : 0 ≤ n
  · by_cases h' : n < 2199023255552
    · have HR : Hid (lnB n = true) := hid (decide_eq_true ⟨h, h'⟩)
      go_enter Tryz.func19, Tryz.ntmps19
      go_wp2
      go_ret
      exact ⟨ret_bool HR.out.symm, rfl⟩
    · have HR : Hid (lnB n = false) := hid (decide_eq_false (fun x => h' x.2))
      go_enter Tryz.func19, Tryz.ntmps19
      go_wp2
      go_ret
      exact ⟨ret_bool HR.out.symm, rfl⟩
  · have HR : Hid (lnB n = false) := hid (decide_eq_false (fun x => h x.1))
    go_enter Tryz.func19, Tryz.ntmps19
    go_wp2
    go_ret
    exact ⟨ret_bool HR.out.symm, rfl⟩
theorem mayFormat_any (n : Int) (w : World) : Calls Tryz.prog 23 #[.int .i64 n] w fun e w' => e = .returned (.bool (fmB n)) ∧ w' = w := by
  by_cases h : 0 ≤ n
  · by_cases h' : n ≤ 255
    · have HR : Hid (fmB n = true) := hid (decide_eq_true ⟨h, h'⟩)
      go_enter Tryz.func23, Tryz.ntmps23
      go_wp2
      go_ret
      exact ⟨ret_bool HR.out.symm, rfl⟩
    · have HR : Hid (fmB n = false) := hid (decide_eq_false (fun x => h' x.2))
      go_enter Tryz.func23, Tryz.ntmps23
      go_wp2
      go_ret
      exact ⟨ret_bool HR.out.symm, rfl⟩
  · have HR : Hid (fmB n = false) := hid (decide_eq_false (fun x => h x.1))
    go_enter Tryz.func23, Tryz.ntmps23
    go_wp2
    go_ret
    exact ⟨ret_bool HR.out.symm, rfl⟩
def nb1 (c : UInt8) : Bool := decide (32 ≤ c.toNat ∧ c.toNat ≤ 126)
def nmB (l : List UInt8) : Bool := decide (1 ≤ l.length ∧ l.length ≤ 20) && l.all nb1
theorem all_no (s : ByteArray) (k : Nat) (h : k < s.size) (hd : nb1 s[k] = false) : s.data.toList.all nb1 = false := by
  rw [List.all_eq_false]
  exact ⟨_, get_mem s k h, by simp [hd]⟩
set_option maxHeartbeats 2000000 in
theorem mayName_any' (s : ByteArray) (w : World) (hs : s.size ≤ 4000000000) : Calls Tryz.prog 24 #[.string s] w fun e w' => e = .returned (.bool (nmB s.data.toList)) ∧ w' = w := by
  have hl := len_data s
  by_cases h0 : s.size = 0
  · have HR : Hid (nmB s.data.toList = false) := by show _ = _; unfold nmB; rw [hl, h0]; rfl
    have e0 : ((s.size : Int) == 0) = true := by rw [h0]; rfl
    generalize nmB s.data.toList = r at HR ⊢
    clear hl
    go_enter Tryz.func24, Tryz.ntmps24
    go_wp2_with fail
    go_ret
    exact ⟨ret_bool HR.out.symm, rfl⟩
  · have e0 : ((s.size : Int) == 0) = false := by rw [beq_eq_false_iff_ne]; omega
    by_cases h20 : (20 : Int) < (s.size : Int)
    · have HR : Hid (nmB s.data.toList = false) := by show _ = _; unfold nmB; rw [hl, decide_eq_false (show ¬ (1 ≤ s.size ∧ s.size ≤ 20) by omega)]; simp
      generalize nmB s.data.toList = r at HR ⊢
      clear hl h0
      go_enter Tryz.func24, Tryz.ntmps24
      go_wp2_with fail
      go_ret
      exact ⟨ret_bool HR.out.symm, rfl⟩
    · have HR : Hid (nmB s.data.toList = s.data.toList.all nb1) := by show _ = _; unfold nmB; rw [hl, decide_eq_true (show 1 ≤ s.size ∧ s.size ≤ 20 by omega)]; simp
      generalize nmB s.data.toList = r at HR ⊢
      clear hl h0
      go_enter Tryz.func24, Tryz.ntmps24
      go_wp2_with fail
      go_loop [14, 3] (fun i _ => ∃ k : Nat, k ≤ s.size ∧ i = .int .i64 k ∧ Hid ((s.data.toList.take k).all nb1 = true)) (fun i _ => s.size - (intOf i).toNat)
      case atStart => exact ⟨0, Nat.zero_le _, rfl, rfl⟩
      case round =>
        obtain ⟨k, hk, rfl, ha⟩ := hrel
        by_cases hlt : k < s.size
        · by_cases hd : nb1 s[k] = true
          · have ha' : Hid ((s.data.toList.take (k + 1)).all nb1 = true) := by
              show _ = _
              have := ha.out
              rw [take_snoc s k hlt, List.all_append, this]
              simp [hd]
            have b0 : ¬ (s[k].toNat : Int) < 32 := by unfold nb1 at hd; simp at hd; omega
            have b1 : ¬ 126 < (s[k].toNat : Int) := by unfold nb1 at hd; simp at hd; omega
            clear hd
            go_wp2
            go_round
            case rel => exact ⟨k + 1, by omega, by go_num, ha'⟩
            case measure => simp [intOf]; omega
          · have hN := hid (all_no s k hlt (by simpa using hd))
            by_cases b0 : (s[k].toNat : Int) < 32
            · clear hd
              go_wp2
              go_ret
              exact ⟨ret_bool (by rw [HR.out, hN.out]), rfl⟩
            · have b1 : 126 < (s[k].toNat : Int) := by unfold nb1 at hd; simp at hd; omega
              clear hd
              go_wp2
              go_ret
              exact ⟨ret_bool (by rw [HR.out, hN.out]), rfl⟩
        · have hN : Hid (s.data.toList.all nb1 = true) := by
            show _ = _
            have := ha.out
            rw [take_all s k (by omega)] at this
            exact this
          go_wp2
          go_ret
          exact ⟨ret_bool (by rw [HR.out, hN.out]), rfl⟩
set_option maxHeartbeats 2000000 in
theorem rname_any (s : ByteArray) (w : World) (hs : s.size ≤ 4000000000) : Calls Tryz.prog 34 #[.string s] w fun e w' => e = .returned (.bool (nmB s.data.toList)) ∧ w' = w := by
  have HR : Hid (nmB s.data.toList = (decide (1 ≤ s.size ∧ s.size ≤ 20) && s.data.toList.all nb1)) := by show _ = _; unfold nmB; rw [len_data]
  generalize nmB s.data.toList = r at HR ⊢
  go_enter Tryz.func34, Tryz.ntmps34
  go_wp2_with fail
  go_loop [3] (fun i => ∃ k : Nat, k ≤ s.size ∧ i = .int .i64 k ∧ Hid ((s.data.toList.take k).all nb1 = true)) (fun i => s.size - (intOf i).toNat)
  case atStart => exact ⟨0, Nat.zero_le _, rfl, rfl⟩
  case round =>
    obtain ⟨k, hk, rfl, ha⟩ := hrel
    by_cases hlt : k < s.size
    · by_cases hd : nb1 s[k] = true
      · have ha' : Hid ((s.data.toList.take (k + 1)).all nb1 = true) := by
          show _ = _
          have := ha.out
          rw [take_snoc s k hlt, List.all_append, this]
          simp [hd]
        have b0 : ¬ (s[k].toNat : Int) < 32 := by unfold nb1 at hd; simp at hd; omega
        have b1 : ¬ 126 < (s[k].toNat : Int) := by unfold nb1 at hd; simp at hd; omega
        clear hd
        go_wp2
        go_round
        case rel => exact ⟨k + 1, by omega, by go_num, ha'⟩
        case measure => simp [intOf]; omega
      · have hN := hid (all_no s k hlt (by simpa using hd))
        by_cases b0 : (s[k].toNat : Int) < 32
        · clear hd
          go_wp2
          go_ret
          exact ⟨ret_bool (by rw [HR.out, hN.out]; simp), rfl⟩
        · have b1 : 126 < (s[k].toNat : Int) := by unfold nb1 at hd; simp at hd; omega
          clear hd
          go_wp2
          go_ret
          exact ⟨ret_bool (by rw [HR.out, hN.out]; simp), rfl⟩
    · have hN : Hid (s.data.toList.all nb1 = true) := by
        show _ = _
        have := ha.out
        rw [take_all s k (by omega)] at this
        exact this
      by_cases h1 : (1 : Int) ≤ (s.size : Int)
      · by_cases h2 : (s.size : Int) ≤ 20
        · have HE : Hid (r = true) := hid (by rw [HR.out, hN.out, decide_eq_true (show 1 ≤ s.size ∧ s.size ≤ 20 by omega)]; rfl)
          go_wp2
          go_ret
          exact ⟨ret_bool HE.out.symm, rfl⟩
        · have HE : Hid (r = false) := hid (by rw [HR.out, hN.out, decide_eq_false (show ¬ (1 ≤ s.size ∧ s.size ≤ 20) by omega)]; rfl)
          go_wp2
          go_ret
          exact ⟨ret_bool HE.out.symm, rfl⟩
      · have HE : Hid (r = false) := hid (by rw [HR.out, hN.out, decide_eq_false (show ¬ (1 ≤ s.size ∧ s.size ≤ 20) by omega)]; rfl)
        go_wp2
        go_ret
        exact ⟨ret_bool HE.out.symm, rfl⟩
set_option maxHeartbeats 8000000 in
theorem om4 (k : Int) (sh : ByteArray) (x2 x3 x4 x5 x6 x7 x8 x9 x10 x11 x12 x13 x14 x15 x16 x17 x18 x19 x20 x21 x22 : Value) (w : World) (p1 : Bool) (p2 : Bool) (ib eb : Bool) (k0 : (k == 1) = false) (k1 : (k == 2) = false) (k2 : (k == 3) = false) (k3 : (k == 4) = true) (H0 : Hid ((#[.int .i64 k, .string sh, x2, x3, x4, x5, x6, x7, x8, x9, x10, x11, x12, x13, x14, x15, x16, x17, x18, x19, x20, x21, x22] : Array Value).all (·.oneCell') = true)) (H1 : Hid (∀ V, Q w V → Calls Tryz.prog 22 #[x20] V fun e V' => e = .returned (.bool p1) ∧ Q V V')) (H2 : Hid (∀ V, Q w V → Calls Tryz.prog 23 #[x21] V fun e V' => e = .returned (.bool p2) ∧ Q V V')) (HI : Hid (∀ V, Q w V → Calls Tryz.prog 25 #[.string sh] V fun e V' => e = .returned (.bool ib) ∧ Q V V')) (HE : Hid (∀ V, Q w V → Calls Tryz.prog 10 #[.agg #[.int .i64 k, .string sh, x2, x3, x4, x5, x6, x7, x8, x9, x10, x11, x12, x13, x14, x15, x16, x17, x18, x19, .slice none 0 0, .int .i64 0, x22], .agg #[.int .i64 k, .string sh, .int .i64 0, .int .i64 0, .bool false, .int .i64 0, .int .i64 0, .string ⟨#[]⟩, .bool false, .int .i64 0, .int .i64 0, .int .i64 0, .string ⟨#[]⟩, .bool false, .int .i64 0, .slice none 0 0, .slice none 0 0, .int .i64 0, .int .i64 0, .int .i64 0, .slice none 0 0, .int .i64 0, .string ⟨#[]⟩]] V fun e V' => e = .returned (.bool eb) ∧ Q V V')) : Calls Tryz.prog 8 #[.agg #[.int .i64 k, .string sh, x2, x3, x4, x5, x6, x7, x8, x9, x10, x11, x12, x13, x14, x15, x16, x17, x18, x19, x20, x21, x22]] w fun e V' => e = .returned (.bool ((p1 && p2) && (ib && eb))) ∧ Q w V' := by
  go_enter Tryz.func8, Tryz.ntmps8
  go_upto_region 1 with fail
  have Z1 := hid (cq_new w [.int .i64 k, .string sh, x2, x3, x4, x5, x6, x7, x8, x9, x10, x11, x12, x13, x14, x15, x16, x17, x18, x19, x20, x21, x22])
  rw [show ([.int .i64 k, .string sh, x2, x3, x4, x5, x6, x7, x8, x9, x10, x11, x12, x13, x14, x15, x16, x17, x18, x19, x20, x21, x22] : List Value).toArray = #[.int .i64 k, .string sh, x2, x3, x4, x5, x6, x7, x8, x9, x10, x11, x12, x13, x14, x15, x16, x17, x18, x19, x20, x21, x22] from rfl] at Z1
  have QA : Hid (Q w (w.alloc (.cells #[.int .i64 k, .string sh, x2, x3, x4, x5, x6, x7, x8, x9, x10, x11, x12, x13, x14, x15, x16, x17, x18, x19, x20, x21, x22] 35))) := hid ((Q.refl w).alloc _)
  generalize w.alloc (.cells #[.int .i64 k, .string sh, x2, x3, x4, x5, x6, x7, x8, x9, x10, x11, x12, x13, x14, x15, x16, x17, x18, x19, x20, x21, x22] 35) = w1 at Z1 QA ⊢
  generalize w.heap.size = b0 at Z1 ⊢
  refine two (F := ?F) (fun HF => ?both) ?rest
  case both =>
    refine wp_region_any (by kernel_rfl) ?_
    change wpAny _ _ _ _ _ _ _ (World.drew _)
    refine wpAny_ready (rs := [0, 1]) (by kernel_rfl) (by simp) ?_
    refine AllReady.cons rfl (fun K hK => ?_) (AllReady.cons rfl (fun K hK => ?_) AllReady.nil)
    · refine step_load_row (by rfl) _ (by rfl) b0 (by rfl) [.int .i64 k, .string sh, x2, x3, x4, x5, x6, x7, x8, x9, x10, x11, x12, x13, x14, x15, x16, x17, x18, x19, x20, x21, x22] (Z1.out.on (Q.refl _).drew) (by rfl) (hK _ _ ?_)
      clear hK K
      refine wpAny_ready (rs := [1]) (by kernel_rfl) (by simp) ?_
      refine AllReady.cons rfl (fun K hK => ?_) AllReady.nil
      go_simp
      refine hK _ _ ?_
      clear hK K
      refine wpAny_ready (rs := [2]) (by kernel_rfl) (by simp) ?_
      refine AllReady.cons rfl (fun K hK => ?_) AllReady.nil
      go_simp
      refine hK _ _ ?_
      clear hK K
      refine wpAny_ready (rs := [3]) (by kernel_rfl) (by simp) ?_
      refine AllReady.cons rfl (fun K hK => ?_) AllReady.nil
      refine step_store_row (by rfl) 35 _ _ (by rfl) w1.heap.size #[.int .i64 k, .string sh, x2, x3, x4, x5, x6, x7, x8, x9, x10, x11, x12, x13, x14, x15, x16, x17, x18, x19, x20, x21, x22] (by rfl) (by rfl) 35 #[.int .i64 0, .string ⟨#[]⟩, .int .i64 0, .int .i64 0, .bool false, .int .i64 0, .int .i64 0, .string ⟨#[]⟩, .bool false, .int .i64 0, .int .i64 0, .int .i64 0, .string ⟨#[]⟩, .bool false, .int .i64 0, .slice none 0 0, .slice none 0 0, .int .i64 0, .int .i64 0, .int .i64 0, .slice none 0 0, .int .i64 0, .string ⟨#[]⟩] (heap_alloc_last w1 _) info35 (by rfl) H0.out (hK _ _ ?_)
      clear hK K
      refine wpAny_done (by kernel_rfl) ?_ _
      rw [set_new]
      exact HF
    · go_simp
      refine hK _ _ ?_
      clear hK K
      refine wpAny_ready (rs := [0, 2]) (by kernel_rfl) (by simp) ?_
      refine AllReady.cons rfl (fun K hK => ?_) (AllReady.cons rfl (fun K hK => ?_) AllReady.nil)
      · refine step_load_row (by rfl) _ (by rfl) b0 (by rfl) [.int .i64 k, .string sh, x2, x3, x4, x5, x6, x7, x8, x9, x10, x11, x12, x13, x14, x15, x16, x17, x18, x19, x20, x21, x22] (Z1.out.on (((Q.refl _).alloc _).drew)) (by rfl) (hK _ _ ?_)
        clear hK K
        refine wpAny_ready (rs := [2]) (by kernel_rfl) (by simp) ?_
        refine AllReady.cons rfl (fun K hK => ?_) AllReady.nil
        go_simp
        refine hK _ _ ?_
        clear hK K
        refine wpAny_ready (rs := [3]) (by kernel_rfl) (by simp) ?_
        refine AllReady.cons rfl (fun K hK => ?_) AllReady.nil
        refine step_store_row (by rfl) 35 _ _ (by rfl) w1.heap.size #[.int .i64 k, .string sh, x2, x3, x4, x5, x6, x7, x8, x9, x10, x11, x12, x13, x14, x15, x16, x17, x18, x19, x20, x21, x22] (by rfl) (by rfl) 35 #[.int .i64 0, .string ⟨#[]⟩, .int .i64 0, .int .i64 0, .bool false, .int .i64 0, .int .i64 0, .string ⟨#[]⟩, .bool false, .int .i64 0, .int .i64 0, .int .i64 0, .string ⟨#[]⟩, .bool false, .int .i64 0, .slice none 0 0, .slice none 0 0, .int .i64 0, .int .i64 0, .int .i64 0, .slice none 0 0, .int .i64 0, .string ⟨#[]⟩] (heap_alloc_last w1 _) info35 (by rfl) H0.out (hK _ _ ?_)
        clear hK K
        refine wpAny_done (by kernel_rfl) ?_ _
        rw [set_new]
        exact HF
      · go_simp
        refine hK _ _ ?_
        clear hK K
        refine wpAny_ready (rs := [0]) (by kernel_rfl) (by simp) ?_
        refine AllReady.cons rfl (fun K hK => ?_) AllReady.nil
        refine step_load_row (by rfl) _ (by rfl) b0 (by rfl) [.int .i64 k, .string sh, x2, x3, x4, x5, x6, x7, x8, x9, x10, x11, x12, x13, x14, x15, x16, x17, x18, x19, x20, x21, x22] (Z1.out.on (((Q.refl _).alloc _).drew)) (by rfl) (hK _ _ ?_)
        clear hK K
        refine wpAny_ready (rs := [3]) (by kernel_rfl) (by simp) ?_
        refine AllReady.cons rfl (fun K hK => ?_) AllReady.nil
        refine step_store_row (by rfl) 35 _ _ (by rfl) w1.heap.size #[.int .i64 k, .string sh, x2, x3, x4, x5, x6, x7, x8, x9, x10, x11, x12, x13, x14, x15, x16, x17, x18, x19, x20, x21, x22] (by rfl) (by rfl) 35 #[.int .i64 0, .string ⟨#[]⟩, .int .i64 0, .int .i64 0, .bool false, .int .i64 0, .int .i64 0, .string ⟨#[]⟩, .bool false, .int .i64 0, .int .i64 0, .int .i64 0, .string ⟨#[]⟩, .bool false, .int .i64 0, .slice none 0 0, .slice none 0 0, .int .i64 0, .int .i64 0, .int .i64 0, .slice none 0 0, .int .i64 0, .string ⟨#[]⟩] (heap_alloc_last w1 _) info35 (by rfl) H0.out (hK _ _ ?_)
        clear hK K
        refine wpAny_done (by kernel_rfl) ?_ _
        rw [set_new]
        exact HF
  have Z2 := hid ((cq_new w1 [.int .i64 k, .string sh, x2, x3, x4, x5, x6, x7, x8, x9, x10, x11, x12, x13, x14, x15, x16, x17, x18, x19, x20, x21, x22]).on (Q.refl _).drew)
  rw [show ([.int .i64 k, .string sh, x2, x3, x4, x5, x6, x7, x8, x9, x10, x11, x12, x13, x14, x15, x16, x17, x18, x19, x20, x21, x22] : List Value).toArray = #[.int .i64 k, .string sh, x2, x3, x4, x5, x6, x7, x8, x9, x10, x11, x12, x13, x14, x15, x16, x17, x18, x19, x20, x21, x22] from rfl] at Z2
  have Z0 := hid (Z1.out.on (((Q.refl w1).alloc (.cells #[.int .i64 k, .string sh, x2, x3, x4, x5, x6, x7, x8, x9, x10, x11, x12, x13, x14, x15, x16, x17, x18, x19, x20, x21, x22] 35)).drew))
  have QB : Hid (Q w ((w1.alloc (.cells #[.int .i64 k, .string sh, x2, x3, x4, x5, x6, x7, x8, x9, x10, x11, x12, x13, x14, x15, x16, x17, x18, x19, x20, x21, x22] 35)).drew)) := hid ((QA.out.alloc _).drew)
  have hb1 : w.heap.size ≤ w1.heap.size := QA.out.size
  have hne : b0 ≠ w1.heap.size := Nat.ne_of_lt Z1.out.l
  generalize (w1.alloc (.cells #[.int .i64 k, .string sh, x2, x3, x4, x5, x6, x7, x8, x9, x10, x11, x12, x13, x14, x15, x16, x17, x18, x19, x20, x21, x22] 35)).drew = w2 at Z0 Z2 QB ⊢
  generalize w1.heap.size = b1x at Z2 hb1 hne ⊢
  clear Z1 QA
  have d0 := Z0.out.c 0 _ rfl
  have d20 := Z0.out.c 20 _ rfl
  have d21 := Z0.out.c 21 _ rfl
  have u20 := Z2.out.c 20 _ rfl; have uf20 := Z2.out.f 20
  have u21 := Z2.out.c 21 _ rfl; have uf21 := Z2.out.f 21
  cases p1 with
  | false =>
    go_wp2_with (first | (go_at_call 22; refine (H1.out _ QB.out).mono ?_; rintro e9 v0 ⟨rfl, q9⟩; have QC0 : Hid (Q w v0) := hid (QB.out.trans q9); have Z10 := hid (Z0.out.on q9); have Z20 := hid (Z2.out.on q9); clear q9; have d0_0 := Z10.out.c 0 _ rfl; have d0_20 := Z10.out.c 20 _ rfl; have d0_21 := Z10.out.c 21 _ rfl; have u0_20 := Z20.out.c 20 _ rfl; have uf0_20 := Z20.out.f 20; have u0_21 := Z20.out.c 21 _ rfl; have uf0_21 := Z20.out.f 21))
    go_ret
    exact ⟨rfl, by repeat (first | exact QC0.out | refine Q.setCell ?_ hb1 _)⟩
  | true =>
    cases p2 with
    | false =>
      go_wp2_with (first | (go_at_call 22; refine (H1.out _ QB.out).mono ?_; rintro e9 v0 ⟨rfl, q9⟩; have QC0 : Hid (Q w v0) := hid (QB.out.trans q9); have Z10 := hid (Z0.out.on q9); have Z20 := hid (Z2.out.on q9); clear q9; have d0_0 := Z10.out.c 0 _ rfl; have d0_20 := Z10.out.c 20 _ rfl; have d0_21 := Z10.out.c 21 _ rfl; have u0_20 := Z20.out.c 20 _ rfl; have uf0_20 := Z20.out.f 20; have u0_21 := Z20.out.c 21 _ rfl; have uf0_21 := Z20.out.f 21) | (go_at_call 23; refine (H2.out _ QC0.out).mono ?_; rintro e9 v1 ⟨rfl, q9⟩; have QC1 : Hid (Q w v1) := hid (QC0.out.trans q9); have Z11 := hid (Z10.out.on q9); have Z21 := hid (Z20.out.on q9); clear q9; have d1_0 := Z11.out.c 0 _ rfl; have d1_20 := Z11.out.c 20 _ rfl; have d1_21 := Z11.out.c 21 _ rfl; have u1_20 := Z21.out.c 20 _ rfl; have uf1_20 := Z21.out.f 20; have u1_21 := Z21.out.c 21 _ rfl; have uf1_21 := Z21.out.f 21))
      go_ret
      exact ⟨rfl, by repeat (first | exact QC1.out | refine Q.setCell ?_ hb1 _)⟩
    | true =>
      go_upto_region 17 with (first | (go_at_call 22; refine (H1.out _ QB.out).mono ?_; rintro e9 v0 ⟨rfl, q9⟩; have QC0 : Hid (Q w v0) := hid (QB.out.trans q9); have Z10 := hid (Z0.out.on q9); have Z20 := hid (Z2.out.on q9); clear q9; have d0_0 := Z10.out.c 0 _ rfl; have d0_20 := Z10.out.c 20 _ rfl; have d0_21 := Z10.out.c 21 _ rfl; have u0_20 := Z20.out.c 20 _ rfl; have uf0_20 := Z20.out.f 20; have u0_21 := Z20.out.c 21 _ rfl; have uf0_21 := Z20.out.f 21) | (go_at_call 23; refine (H2.out _ QC0.out).mono ?_; rintro e9 v1 ⟨rfl, q9⟩; have QC1 : Hid (Q w v1) := hid (QC0.out.trans q9); have Z11 := hid (Z10.out.on q9); have Z21 := hid (Z20.out.on q9); clear q9; have d1_0 := Z11.out.c 0 _ rfl; have d1_20 := Z11.out.c 20 _ rfl; have d1_21 := Z11.out.c 21 _ rfl; have u1_20 := Z21.out.c 20 _ rfl; have uf1_20 := Z21.out.f 20; have u1_21 := Z21.out.c 21 _ rfl; have uf1_21 := Z21.out.f 21))
      have QV : Hid (Q w ((v1.setCell ⟨b1x, 20, none⟩ (.slice none 0 0)).setCell ⟨b1x, 21, none⟩ (.int .i64 0))) := hid (by repeat (first | exact QC1.out | refine Q.setCell ?_ hb1 _))
      have Z1V : Hid (Cq ((v1.setCell ⟨b1x, 20, none⟩ (.slice none 0 0)).setCell ⟨b1x, 21, none⟩ (.int .i64 0)) b0 [.int .i64 k, .string sh, x2, x3, x4, x5, x6, x7, x8, x9, x10, x11, x12, x13, x14, x15, x16, x17, x18, x19, x20, x21, x22]) := hid (((Z11.out.oth hne 20 (.slice none 0 0)).oth hne 21 (.int .i64 0)))
      have Z2V : Hid (Cq ((v1.setCell ⟨b1x, 20, none⟩ (.slice none 0 0)).setCell ⟨b1x, 21, none⟩ (.int .i64 0)) b1x [.int .i64 k, .string sh, x2, x3, x4, x5, x6, x7, x8, x9, x10, x11, x12, x13, x14, x15, x16, x17, x18, x19, .slice none 0 0, .int .i64 0, x22]) := hid (((Z21.out.put 20 (.slice none 0 0)).put 21 (.int .i64 0)))
      generalize ((v1.setCell ⟨b1x, 20, none⟩ (.slice none 0 0)).setCell ⟨b1x, 21, none⟩ (.int .i64 0)) = V at QV Z1V Z2V ⊢
      clear d0 d20 d21 u20 uf20 u21 uf21 d0_0 d0_20 d0_21 u0_20 uf0_20 u0_21 uf0_21 d1_0 d1_20 d1_21 u1_20 uf1_20 u1_21 uf1_21
      have g0 := Z1V.out.c 0 _ rfl
      have g1 := Z1V.out.c 1 _ rfl
      cases ib with
      | false =>
        go_wp2_with (go_at_call 25; refine (HI.out _ QV.out).mono ?_; rintro e9 y1 ⟨rfl, q9⟩; have QY : Hid (Q w y1) := hid (QV.out.trans q9); clear q9)
        go_ret
        exact ⟨rfl, QY.out⟩
      | true =>
        go_wp2_with (first | (go_at_call 25; refine (HI.out _ QV.out).mono ?_; rintro e9 y1 ⟨rfl, q9⟩; have QY : Hid (Q w y1) := hid (QV.out.trans q9); have Z1Y := hid (Z1V.out.on q9); have Z2Y := hid (Z2V.out.on q9); clear q9; have g0' := Z1Y.out.c 0 _ rfl; have g1' := Z1Y.out.c 1 _ rfl) | (refine wpl_loadg _ (by rfl) (by rfl) b1x (by rfl) [.int .i64 k, .string sh, x2, x3, x4, x5, x6, x7, x8, x9, x10, x11, x12, x13, x14, x15, x16, x17, x18, x19, .slice none 0 0, .int .i64 0, x22] Z2Y.out (by rfl) ?_) | (refine wpl_buildg _ (by rfl) (by rfl) #[.int .i64 k, .string sh, .int .i64 0, .int .i64 0, .bool false, .int .i64 0, .int .i64 0, .string ⟨#[]⟩, .bool false, .int .i64 0, .int .i64 0, .int .i64 0, .string ⟨#[]⟩, .bool false, .int .i64 0, .slice none 0 0, .slice none 0 0, .int .i64 0, .int .i64 0, .int .i64 0, .slice none 0 0, .int .i64 0, .string ⟨#[]⟩] (by kernel_rfl) ?_) | (go_at_call 10; refine (HE.out _ QY.out).mono ?_; rintro e9 y2 ⟨rfl, q9⟩; have QY2 : Hid (Q w y2) := hid (QY.out.trans q9); clear q9))
        go_ret
        exact ⟨rfl, QY2.out⟩
set_option maxHeartbeats 8000000 in
theorem om0 (k : Int) (sh : ByteArray) (x2 x3 x4 x5 x6 x7 x8 x9 x10 x11 x12 x13 x14 x15 x16 x17 x18 x19 x20 x21 x22 : Value) (w : World) (k0 : (k == 1) = false) (k1 : (k == 2) = false) (k2 : (k == 3) = false) (k3 : (k == 4) = false) (k4 : (k == 5) = false) (k5 : (k == 6) = false) (k6 : (k == 7) = false) (H0 : Hid ((#[.int .i64 k, .string sh, x2, x3, x4, x5, x6, x7, x8, x9, x10, x11, x12, x13, x14, x15, x16, x17, x18, x19, x20, x21, x22] : Array Value).all (·.oneCell') = true)) : Calls Tryz.prog 8 #[.agg #[.int .i64 k, .string sh, x2, x3, x4, x5, x6, x7, x8, x9, x10, x11, x12, x13, x14, x15, x16, x17, x18, x19, x20, x21, x22]] w fun e V' => e = .returned (.bool false) ∧ Q w V' := by
  go_enter Tryz.func8, Tryz.ntmps8
  go_upto_region 1 with fail
  have Z1 := hid (cq_new w [.int .i64 k, .string sh, x2, x3, x4, x5, x6, x7, x8, x9, x10, x11, x12, x13, x14, x15, x16, x17, x18, x19, x20, x21, x22])
  rw [show ([.int .i64 k, .string sh, x2, x3, x4, x5, x6, x7, x8, x9, x10, x11, x12, x13, x14, x15, x16, x17, x18, x19, x20, x21, x22] : List Value).toArray = #[.int .i64 k, .string sh, x2, x3, x4, x5, x6, x7, x8, x9, x10, x11, x12, x13, x14, x15, x16, x17, x18, x19, x20, x21, x22] from rfl] at Z1
  have QA : Hid (Q w (w.alloc (.cells #[.int .i64 k, .string sh, x2, x3, x4, x5, x6, x7, x8, x9, x10, x11, x12, x13, x14, x15, x16, x17, x18, x19, x20, x21, x22] 35))) := hid ((Q.refl w).alloc _)
  generalize w.alloc (.cells #[.int .i64 k, .string sh, x2, x3, x4, x5, x6, x7, x8, x9, x10, x11, x12, x13, x14, x15, x16, x17, x18, x19, x20, x21, x22] 35) = w1 at Z1 QA ⊢
  generalize w.heap.size = b0 at Z1 ⊢
  refine two (F := ?F) (fun HF => ?both) ?rest
  case both =>
    refine wp_region_any (by kernel_rfl) ?_
    change wpAny _ _ _ _ _ _ _ (World.drew _)
    refine wpAny_ready (rs := [0, 1]) (by kernel_rfl) (by simp) ?_
    refine AllReady.cons rfl (fun K hK => ?_) (AllReady.cons rfl (fun K hK => ?_) AllReady.nil)
    · refine step_load_row (by rfl) _ (by rfl) b0 (by rfl) [.int .i64 k, .string sh, x2, x3, x4, x5, x6, x7, x8, x9, x10, x11, x12, x13, x14, x15, x16, x17, x18, x19, x20, x21, x22] (Z1.out.on (Q.refl _).drew) (by rfl) (hK _ _ ?_)
      clear hK K
      refine wpAny_ready (rs := [1]) (by kernel_rfl) (by simp) ?_
      refine AllReady.cons rfl (fun K hK => ?_) AllReady.nil
      go_simp
      refine hK _ _ ?_
      clear hK K
      refine wpAny_ready (rs := [2]) (by kernel_rfl) (by simp) ?_
      refine AllReady.cons rfl (fun K hK => ?_) AllReady.nil
      go_simp
      refine hK _ _ ?_
      clear hK K
      refine wpAny_ready (rs := [3]) (by kernel_rfl) (by simp) ?_
      refine AllReady.cons rfl (fun K hK => ?_) AllReady.nil
      refine step_store_row (by rfl) 35 _ _ (by rfl) w1.heap.size #[.int .i64 k, .string sh, x2, x3, x4, x5, x6, x7, x8, x9, x10, x11, x12, x13, x14, x15, x16, x17, x18, x19, x20, x21, x22] (by rfl) (by rfl) 35 #[.int .i64 0, .string ⟨#[]⟩, .int .i64 0, .int .i64 0, .bool false, .int .i64 0, .int .i64 0, .string ⟨#[]⟩, .bool false, .int .i64 0, .int .i64 0, .int .i64 0, .string ⟨#[]⟩, .bool false, .int .i64 0, .slice none 0 0, .slice none 0 0, .int .i64 0, .int .i64 0, .int .i64 0, .slice none 0 0, .int .i64 0, .string ⟨#[]⟩] (heap_alloc_last w1 _) info35 (by rfl) H0.out (hK _ _ ?_)
      clear hK K
      refine wpAny_done (by kernel_rfl) ?_ _
      rw [set_new]
      exact HF
    · go_simp
      refine hK _ _ ?_
      clear hK K
      refine wpAny_ready (rs := [0, 2]) (by kernel_rfl) (by simp) ?_
      refine AllReady.cons rfl (fun K hK => ?_) (AllReady.cons rfl (fun K hK => ?_) AllReady.nil)
      · refine step_load_row (by rfl) _ (by rfl) b0 (by rfl) [.int .i64 k, .string sh, x2, x3, x4, x5, x6, x7, x8, x9, x10, x11, x12, x13, x14, x15, x16, x17, x18, x19, x20, x21, x22] (Z1.out.on (((Q.refl _).alloc _).drew)) (by rfl) (hK _ _ ?_)
        clear hK K
        refine wpAny_ready (rs := [2]) (by kernel_rfl) (by simp) ?_
        refine AllReady.cons rfl (fun K hK => ?_) AllReady.nil
        go_simp
        refine hK _ _ ?_
        clear hK K
        refine wpAny_ready (rs := [3]) (by kernel_rfl) (by simp) ?_
        refine AllReady.cons rfl (fun K hK => ?_) AllReady.nil
        refine step_store_row (by rfl) 35 _ _ (by rfl) w1.heap.size #[.int .i64 k, .string sh, x2, x3, x4, x5, x6, x7, x8, x9, x10, x11, x12, x13, x14, x15, x16, x17, x18, x19, x20, x21, x22] (by rfl) (by rfl) 35 #[.int .i64 0, .string ⟨#[]⟩, .int .i64 0, .int .i64 0, .bool false, .int .i64 0, .int .i64 0, .string ⟨#[]⟩, .bool false, .int .i64 0, .int .i64 0, .int .i64 0, .string ⟨#[]⟩, .bool false, .int .i64 0, .slice none 0 0, .slice none 0 0, .int .i64 0, .int .i64 0, .int .i64 0, .slice none 0 0, .int .i64 0, .string ⟨#[]⟩] (heap_alloc_last w1 _) info35 (by rfl) H0.out (hK _ _ ?_)
        clear hK K
        refine wpAny_done (by kernel_rfl) ?_ _
        rw [set_new]
        exact HF
      · go_simp
        refine hK _ _ ?_
        clear hK K
        refine wpAny_ready (rs := [0]) (by kernel_rfl) (by simp) ?_
        refine AllReady.cons rfl (fun K hK => ?_) AllReady.nil
        refine step_load_row (by rfl) _ (by rfl) b0 (by rfl) [.int .i64 k, .string sh, x2, x3, x4, x5, x6, x7, x8, x9, x10, x11, x12, x13, x14, x15, x16, x17, x18, x19, x20, x21, x22] (Z1.out.on (((Q.refl _).alloc _).drew)) (by rfl) (hK _ _ ?_)
        clear hK K
        refine wpAny_ready (rs := [3]) (by kernel_rfl) (by simp) ?_
        refine AllReady.cons rfl (fun K hK => ?_) AllReady.nil
        refine step_store_row (by rfl) 35 _ _ (by rfl) w1.heap.size #[.int .i64 k, .string sh, x2, x3, x4, x5, x6, x7, x8, x9, x10, x11, x12, x13, x14, x15, x16, x17, x18, x19, x20, x21, x22] (by rfl) (by rfl) 35 #[.int .i64 0, .string ⟨#[]⟩, .int .i64 0, .int .i64 0, .bool false, .int .i64 0, .int .i64 0, .string ⟨#[]⟩, .bool false, .int .i64 0, .int .i64 0, .int .i64 0, .string ⟨#[]⟩, .bool false, .int .i64 0, .slice none 0 0, .slice none 0 0, .int .i64 0, .int .i64 0, .int .i64 0, .slice none 0 0, .int .i64 0, .string ⟨#[]⟩] (heap_alloc_last w1 _) info35 (by rfl) H0.out (hK _ _ ?_)
        clear hK K
        refine wpAny_done (by kernel_rfl) ?_ _
        rw [set_new]
        exact HF
  have Z2 := hid ((cq_new w1 [.int .i64 k, .string sh, x2, x3, x4, x5, x6, x7, x8, x9, x10, x11, x12, x13, x14, x15, x16, x17, x18, x19, x20, x21, x22]).on (Q.refl _).drew)
  rw [show ([.int .i64 k, .string sh, x2, x3, x4, x5, x6, x7, x8, x9, x10, x11, x12, x13, x14, x15, x16, x17, x18, x19, x20, x21, x22] : List Value).toArray = #[.int .i64 k, .string sh, x2, x3, x4, x5, x6, x7, x8, x9, x10, x11, x12, x13, x14, x15, x16, x17, x18, x19, x20, x21, x22] from rfl] at Z2
  have Z0 := hid (Z1.out.on (((Q.refl w1).alloc (.cells #[.int .i64 k, .string sh, x2, x3, x4, x5, x6, x7, x8, x9, x10, x11, x12, x13, x14, x15, x16, x17, x18, x19, x20, x21, x22] 35)).drew))
  have QB : Hid (Q w ((w1.alloc (.cells #[.int .i64 k, .string sh, x2, x3, x4, x5, x6, x7, x8, x9, x10, x11, x12, x13, x14, x15, x16, x17, x18, x19, x20, x21, x22] 35)).drew)) := hid ((QA.out.alloc _).drew)
  have hb1 : w.heap.size ≤ w1.heap.size := QA.out.size
  have hne : b0 ≠ w1.heap.size := Nat.ne_of_lt Z1.out.l
  generalize (w1.alloc (.cells #[.int .i64 k, .string sh, x2, x3, x4, x5, x6, x7, x8, x9, x10, x11, x12, x13, x14, x15, x16, x17, x18, x19, x20, x21, x22] 35)).drew = w2 at Z0 Z2 QB ⊢
  generalize w1.heap.size = b1x at Z2 hb1 hne ⊢
  clear Z1 QA
  have d0 := Z0.out.c 0 _ rfl
  go_wp2_with fail
  go_ret
  exact ⟨rfl, by repeat (first | exact QB.out | refine Q.setCell ?_ hb1 _)⟩
set_option maxHeartbeats 8000000 in
theorem om5 (k : Int) (sh : ByteArray) (x2 x3 x4 x5 x6 x7 x8 x9 x10 x11 x12 x13 x14 x15 x16 x17 x18 x19 x20 x21 x22 : Value) (w : World) (p1 : Bool) (ib eb : Bool) (k0 : (k == 1) = false) (k1 : (k == 2) = false) (k2 : (k == 3) = false) (k3 : (k == 4) = false) (k4 : (k == 5) = true) (H0 : Hid ((#[.int .i64 k, .string sh, x2, x3, x4, x5, x6, x7, x8, x9, x10, x11, x12, x13, x14, x15, x16, x17, x18, x19, x20, x21, x22] : Array Value).all (·.oneCell') = true)) (H1 : Hid (∀ V, Q w V → Calls Tryz.prog 24 #[x22] V fun e V' => e = .returned (.bool p1) ∧ Q V V')) (HI : Hid (∀ V, Q w V → Calls Tryz.prog 25 #[.string sh] V fun e V' => e = .returned (.bool ib) ∧ Q V V')) (HE : Hid (∀ V, Q w V → Calls Tryz.prog 10 #[.agg #[.int .i64 k, .string sh, x2, x3, x4, x5, x6, x7, x8, x9, x10, x11, x12, x13, x14, x15, x16, x17, x18, x19, x20, x21, .string ⟨#[]⟩], .agg #[.int .i64 k, .string sh, .int .i64 0, .int .i64 0, .bool false, .int .i64 0, .int .i64 0, .string ⟨#[]⟩, .bool false, .int .i64 0, .int .i64 0, .int .i64 0, .string ⟨#[]⟩, .bool false, .int .i64 0, .slice none 0 0, .slice none 0 0, .int .i64 0, .int .i64 0, .int .i64 0, .slice none 0 0, .int .i64 0, .string ⟨#[]⟩]] V fun e V' => e = .returned (.bool eb) ∧ Q V V')) : Calls Tryz.prog 8 #[.agg #[.int .i64 k, .string sh, x2, x3, x4, x5, x6, x7, x8, x9, x10, x11, x12, x13, x14, x15, x16, x17, x18, x19, x20, x21, x22]] w fun e V' => e = .returned (.bool (p1 && (ib && eb))) ∧ Q w V' := by
  go_enter Tryz.func8, Tryz.ntmps8
  go_upto_region 1 with fail
  have Z1 := hid (cq_new w [.int .i64 k, .string sh, x2, x3, x4, x5, x6, x7, x8, x9, x10, x11, x12, x13, x14, x15, x16, x17, x18, x19, x20, x21, x22])
  rw [show ([.int .i64 k, .string sh, x2, x3, x4, x5, x6, x7, x8, x9, x10, x11, x12, x13, x14, x15, x16, x17, x18, x19, x20, x21, x22] : List Value).toArray = #[.int .i64 k, .string sh, x2, x3, x4, x5, x6, x7, x8, x9, x10, x11, x12, x13, x14, x15, x16, x17, x18, x19, x20, x21, x22] from rfl] at Z1
  have QA : Hid (Q w (w.alloc (.cells #[.int .i64 k, .string sh, x2, x3, x4, x5, x6, x7, x8, x9, x10, x11, x12, x13, x14, x15, x16, x17, x18, x19, x20, x21, x22] 35))) := hid ((Q.refl w).alloc _)
  generalize w.alloc (.cells #[.int .i64 k, .string sh, x2, x3, x4, x5, x6, x7, x8, x9, x10, x11, x12, x13, x14, x15, x16, x17, x18, x19, x20, x21, x22] 35) = w1 at Z1 QA ⊢
  generalize w.heap.size = b0 at Z1 ⊢
  refine two (F := ?F) (fun HF => ?both) ?rest
  case both =>
    refine wp_region_any (by kernel_rfl) ?_
    change wpAny _ _ _ _ _ _ _ (World.drew _)
    refine wpAny_ready (rs := [0, 1]) (by kernel_rfl) (by simp) ?_
    refine AllReady.cons rfl (fun K hK => ?_) (AllReady.cons rfl (fun K hK => ?_) AllReady.nil)
    · refine step_load_row (by rfl) _ (by rfl) b0 (by rfl) [.int .i64 k, .string sh, x2, x3, x4, x5, x6, x7, x8, x9, x10, x11, x12, x13, x14, x15, x16, x17, x18, x19, x20, x21, x22] (Z1.out.on (Q.refl _).drew) (by rfl) (hK _ _ ?_)
      clear hK K
      refine wpAny_ready (rs := [1]) (by kernel_rfl) (by simp) ?_
      refine AllReady.cons rfl (fun K hK => ?_) AllReady.nil
      go_simp
      refine hK _ _ ?_
      clear hK K
      refine wpAny_ready (rs := [2]) (by kernel_rfl) (by simp) ?_
      refine AllReady.cons rfl (fun K hK => ?_) AllReady.nil
      go_simp
      refine hK _ _ ?_
      clear hK K
      refine wpAny_ready (rs := [3]) (by kernel_rfl) (by simp) ?_
      refine AllReady.cons rfl (fun K hK => ?_) AllReady.nil
      refine step_store_row (by rfl) 35 _ _ (by rfl) w1.heap.size #[.int .i64 k, .string sh, x2, x3, x4, x5, x6, x7, x8, x9, x10, x11, x12, x13, x14, x15, x16, x17, x18, x19, x20, x21, x22] (by rfl) (by rfl) 35 #[.int .i64 0, .string ⟨#[]⟩, .int .i64 0, .int .i64 0, .bool false, .int .i64 0, .int .i64 0, .string ⟨#[]⟩, .bool false, .int .i64 0, .int .i64 0, .int .i64 0, .string ⟨#[]⟩, .bool false, .int .i64 0, .slice none 0 0, .slice none 0 0, .int .i64 0, .int .i64 0, .int .i64 0, .slice none 0 0, .int .i64 0, .string ⟨#[]⟩] (heap_alloc_last w1 _) info35 (by rfl) H0.out (hK _ _ ?_)
      clear hK K
      refine wpAny_done (by kernel_rfl) ?_ _
      rw [set_new]
      exact HF
    · go_simp
      refine hK _ _ ?_
      clear hK K
      refine wpAny_ready (rs := [0, 2]) (by kernel_rfl) (by simp) ?_
      refine AllReady.cons rfl (fun K hK => ?_) (AllReady.cons rfl (fun K hK => ?_) AllReady.nil)
      · refine step_load_row (by rfl) _ (by rfl) b0 (by rfl) [.int .i64 k, .string sh, x2, x3, x4, x5, x6, x7, x8, x9, x10, x11, x12, x13, x14, x15, x16, x17, x18, x19, x20, x21, x22] (Z1.out.on (((Q.refl _).alloc _).drew)) (by rfl) (hK _ _ ?_)
        clear hK K
        refine wpAny_ready (rs := [2]) (by kernel_rfl) (by simp) ?_
        refine AllReady.cons rfl (fun K hK => ?_) AllReady.nil
        go_simp
        refine hK _ _ ?_
        clear hK K
        refine wpAny_ready (rs := [3]) (by kernel_rfl) (by simp) ?_
        refine AllReady.cons rfl (fun K hK => ?_) AllReady.nil
        refine step_store_row (by rfl) 35 _ _ (by rfl) w1.heap.size #[.int .i64 k, .string sh, x2, x3, x4, x5, x6, x7, x8, x9, x10, x11, x12, x13, x14, x15, x16, x17, x18, x19, x20, x21, x22] (by rfl) (by rfl) 35 #[.int .i64 0, .string ⟨#[]⟩, .int .i64 0, .int .i64 0, .bool false, .int .i64 0, .int .i64 0, .string ⟨#[]⟩, .bool false, .int .i64 0, .int .i64 0, .int .i64 0, .string ⟨#[]⟩, .bool false, .int .i64 0, .slice none 0 0, .slice none 0 0, .int .i64 0, .int .i64 0, .int .i64 0, .slice none 0 0, .int .i64 0, .string ⟨#[]⟩] (heap_alloc_last w1 _) info35 (by rfl) H0.out (hK _ _ ?_)
        clear hK K
        refine wpAny_done (by kernel_rfl) ?_ _
        rw [set_new]
        exact HF
      · go_simp
        refine hK _ _ ?_
        clear hK K
        refine wpAny_ready (rs := [0]) (by kernel_rfl) (by simp) ?_
        refine AllReady.cons rfl (fun K hK => ?_) AllReady.nil
        refine step_load_row (by rfl) _ (by rfl) b0 (by rfl) [.int .i64 k, .string sh, x2, x3, x4, x5, x6, x7, x8, x9, x10, x11, x12, x13, x14, x15, x16, x17, x18, x19, x20, x21, x22] (Z1.out.on (((Q.refl _).alloc _).drew)) (by rfl) (hK _ _ ?_)
        clear hK K
        refine wpAny_ready (rs := [3]) (by kernel_rfl) (by simp) ?_
        refine AllReady.cons rfl (fun K hK => ?_) AllReady.nil
        refine step_store_row (by rfl) 35 _ _ (by rfl) w1.heap.size #[.int .i64 k, .string sh, x2, x3, x4, x5, x6, x7, x8, x9, x10, x11, x12, x13, x14, x15, x16, x17, x18, x19, x20, x21, x22] (by rfl) (by rfl) 35 #[.int .i64 0, .string ⟨#[]⟩, .int .i64 0, .int .i64 0, .bool false, .int .i64 0, .int .i64 0, .string ⟨#[]⟩, .bool false, .int .i64 0, .int .i64 0, .int .i64 0, .string ⟨#[]⟩, .bool false, .int .i64 0, .slice none 0 0, .slice none 0 0, .int .i64 0, .int .i64 0, .int .i64 0, .slice none 0 0, .int .i64 0, .string ⟨#[]⟩] (heap_alloc_last w1 _) info35 (by rfl) H0.out (hK _ _ ?_)
        clear hK K
        refine wpAny_done (by kernel_rfl) ?_ _
        rw [set_new]
        exact HF
  have Z2 := hid ((cq_new w1 [.int .i64 k, .string sh, x2, x3, x4, x5, x6, x7, x8, x9, x10, x11, x12, x13, x14, x15, x16, x17, x18, x19, x20, x21, x22]).on (Q.refl _).drew)
  rw [show ([.int .i64 k, .string sh, x2, x3, x4, x5, x6, x7, x8, x9, x10, x11, x12, x13, x14, x15, x16, x17, x18, x19, x20, x21, x22] : List Value).toArray = #[.int .i64 k, .string sh, x2, x3, x4, x5, x6, x7, x8, x9, x10, x11, x12, x13, x14, x15, x16, x17, x18, x19, x20, x21, x22] from rfl] at Z2
  have Z0 := hid (Z1.out.on (((Q.refl w1).alloc (.cells #[.int .i64 k, .string sh, x2, x3, x4, x5, x6, x7, x8, x9, x10, x11, x12, x13, x14, x15, x16, x17, x18, x19, x20, x21, x22] 35)).drew))
  have QB : Hid (Q w ((w1.alloc (.cells #[.int .i64 k, .string sh, x2, x3, x4, x5, x6, x7, x8, x9, x10, x11, x12, x13, x14, x15, x16, x17, x18, x19, x20, x21, x22] 35)).drew)) := hid ((QA.out.alloc _).drew)
  have hb1 : w.heap.size ≤ w1.heap.size := QA.out.size
  have hne : b0 ≠ w1.heap.size := Nat.ne_of_lt Z1.out.l
  generalize (w1.alloc (.cells #[.int .i64 k, .string sh, x2, x3, x4, x5, x6, x7, x8, x9, x10, x11, x12, x13, x14, x15, x16, x17, x18, x19, x20, x21, x22] 35)).drew = w2 at Z0 Z2 QB ⊢
  generalize w1.heap.size = b1x at Z2 hb1 hne ⊢
  clear Z1 QA
  have d0 := Z0.out.c 0 _ rfl
  have d22 := Z0.out.c 22 _ rfl
  have u22 := Z2.out.c 22 _ rfl; have uf22 := Z2.out.f 22
  cases p1 with
  | false =>
    go_wp2_with (first | (go_at_call 24; refine (H1.out _ QB.out).mono ?_; rintro e9 v0 ⟨rfl, q9⟩; have QC0 : Hid (Q w v0) := hid (QB.out.trans q9); have Z10 := hid (Z0.out.on q9); have Z20 := hid (Z2.out.on q9); clear q9; have d0_0 := Z10.out.c 0 _ rfl; have d0_22 := Z10.out.c 22 _ rfl; have u0_22 := Z20.out.c 22 _ rfl; have uf0_22 := Z20.out.f 22))
    go_ret
    exact ⟨rfl, by repeat (first | exact QC0.out | refine Q.setCell ?_ hb1 _)⟩
  | true =>
    go_upto_region 17 with (first | (go_at_call 24; refine (H1.out _ QB.out).mono ?_; rintro e9 v0 ⟨rfl, q9⟩; have QC0 : Hid (Q w v0) := hid (QB.out.trans q9); have Z10 := hid (Z0.out.on q9); have Z20 := hid (Z2.out.on q9); clear q9; have d0_0 := Z10.out.c 0 _ rfl; have d0_22 := Z10.out.c 22 _ rfl; have u0_22 := Z20.out.c 22 _ rfl; have uf0_22 := Z20.out.f 22))
    have QV : Hid (Q w (v0.setCell ⟨b1x, 22, none⟩ (.string ⟨#[]⟩))) := hid (by repeat (first | exact QC0.out | refine Q.setCell ?_ hb1 _))
    have Z1V : Hid (Cq (v0.setCell ⟨b1x, 22, none⟩ (.string ⟨#[]⟩)) b0 [.int .i64 k, .string sh, x2, x3, x4, x5, x6, x7, x8, x9, x10, x11, x12, x13, x14, x15, x16, x17, x18, x19, x20, x21, x22]) := hid ((Z10.out.oth hne 22 (.string ⟨#[]⟩)))
    have Z2V : Hid (Cq (v0.setCell ⟨b1x, 22, none⟩ (.string ⟨#[]⟩)) b1x [.int .i64 k, .string sh, x2, x3, x4, x5, x6, x7, x8, x9, x10, x11, x12, x13, x14, x15, x16, x17, x18, x19, x20, x21, .string ⟨#[]⟩]) := hid ((Z20.out.put 22 (.string ⟨#[]⟩)))
    generalize (v0.setCell ⟨b1x, 22, none⟩ (.string ⟨#[]⟩)) = V at QV Z1V Z2V ⊢
    clear d0 d22 u22 uf22 d0_0 d0_22 u0_22 uf0_22
    have g0 := Z1V.out.c 0 _ rfl
    have g1 := Z1V.out.c 1 _ rfl
    cases ib with
    | false =>
      go_wp2_with (go_at_call 25; refine (HI.out _ QV.out).mono ?_; rintro e9 y1 ⟨rfl, q9⟩; have QY : Hid (Q w y1) := hid (QV.out.trans q9); clear q9)
      go_ret
      exact ⟨rfl, QY.out⟩
    | true =>
      go_wp2_with (first | (go_at_call 25; refine (HI.out _ QV.out).mono ?_; rintro e9 y1 ⟨rfl, q9⟩; have QY : Hid (Q w y1) := hid (QV.out.trans q9); have Z1Y := hid (Z1V.out.on q9); have Z2Y := hid (Z2V.out.on q9); clear q9; have g0' := Z1Y.out.c 0 _ rfl; have g1' := Z1Y.out.c 1 _ rfl) | (refine wpl_loadg _ (by rfl) (by rfl) b1x (by rfl) [.int .i64 k, .string sh, x2, x3, x4, x5, x6, x7, x8, x9, x10, x11, x12, x13, x14, x15, x16, x17, x18, x19, x20, x21, .string ⟨#[]⟩] Z2Y.out (by rfl) ?_) | (refine wpl_buildg _ (by rfl) (by rfl) #[.int .i64 k, .string sh, .int .i64 0, .int .i64 0, .bool false, .int .i64 0, .int .i64 0, .string ⟨#[]⟩, .bool false, .int .i64 0, .int .i64 0, .int .i64 0, .string ⟨#[]⟩, .bool false, .int .i64 0, .slice none 0 0, .slice none 0 0, .int .i64 0, .int .i64 0, .int .i64 0, .slice none 0 0, .int .i64 0, .string ⟨#[]⟩] (by kernel_rfl) ?_) | (go_at_call 10; refine (HE.out _ QY.out).mono ?_; rintro e9 y2 ⟨rfl, q9⟩; have QY2 : Hid (Q w y2) := hid (QY.out.trans q9); clear q9))
      go_ret
      exact ⟨rfl, QY2.out⟩
set_option maxHeartbeats 8000000 in
theorem om6 (k : Int) (sh : ByteArray) (x2 x3 x4 x5 x6 x7 x8 x9 x10 x11 x12 x13 x14 x15 x16 x17 x18 x19 x20 x21 x22 : Value) (w : World) (p1 : Bool) (ib eb : Bool) (k0 : (k == 1) = false) (k1 : (k == 2) = false) (k2 : (k == 3) = false) (k3 : (k == 4) = false) (k4 : (k == 5) = false) (k5 : (k == 6) = true) (H0 : Hid ((#[.int .i64 k, .string sh, x2, x3, x4, x5, x6, x7, x8, x9, x10, x11, x12, x13, x14, x15, x16, x17, x18, x19, x20, x21, x22] : Array Value).all (·.oneCell') = true)) (H1 : Hid (∀ V, Q w V → Calls Tryz.prog 24 #[x22] V fun e V' => e = .returned (.bool p1) ∧ Q V V')) (HI : Hid (∀ V, Q w V → Calls Tryz.prog 25 #[.string sh] V fun e V' => e = .returned (.bool ib) ∧ Q V V')) (HE : Hid (∀ V, Q w V → Calls Tryz.prog 10 #[.agg #[.int .i64 k, .string sh, x2, x3, x4, x5, x6, x7, x8, x9, x10, x11, x12, x13, x14, x15, x16, x17, x18, x19, x20, x21, .string ⟨#[]⟩], .agg #[.int .i64 k, .string sh, .int .i64 0, .int .i64 0, .bool false, .int .i64 0, .int .i64 0, .string ⟨#[]⟩, .bool false, .int .i64 0, .int .i64 0, .int .i64 0, .string ⟨#[]⟩, .bool false, .int .i64 0, .slice none 0 0, .slice none 0 0, .int .i64 0, .int .i64 0, .int .i64 0, .slice none 0 0, .int .i64 0, .string ⟨#[]⟩]] V fun e V' => e = .returned (.bool eb) ∧ Q V V')) : Calls Tryz.prog 8 #[.agg #[.int .i64 k, .string sh, x2, x3, x4, x5, x6, x7, x8, x9, x10, x11, x12, x13, x14, x15, x16, x17, x18, x19, x20, x21, x22]] w fun e V' => e = .returned (.bool (p1 && (ib && eb))) ∧ Q w V' := by
  go_enter Tryz.func8, Tryz.ntmps8
  go_upto_region 1 with fail
  have Z1 := hid (cq_new w [.int .i64 k, .string sh, x2, x3, x4, x5, x6, x7, x8, x9, x10, x11, x12, x13, x14, x15, x16, x17, x18, x19, x20, x21, x22])
  rw [show ([.int .i64 k, .string sh, x2, x3, x4, x5, x6, x7, x8, x9, x10, x11, x12, x13, x14, x15, x16, x17, x18, x19, x20, x21, x22] : List Value).toArray = #[.int .i64 k, .string sh, x2, x3, x4, x5, x6, x7, x8, x9, x10, x11, x12, x13, x14, x15, x16, x17, x18, x19, x20, x21, x22] from rfl] at Z1
  have QA : Hid (Q w (w.alloc (.cells #[.int .i64 k, .string sh, x2, x3, x4, x5, x6, x7, x8, x9, x10, x11, x12, x13, x14, x15, x16, x17, x18, x19, x20, x21, x22] 35))) := hid ((Q.refl w).alloc _)
  generalize w.alloc (.cells #[.int .i64 k, .string sh, x2, x3, x4, x5, x6, x7, x8, x9, x10, x11, x12, x13, x14, x15, x16, x17, x18, x19, x20, x21, x22] 35) = w1 at Z1 QA ⊢
  generalize w.heap.size = b0 at Z1 ⊢
  refine two (F := ?F) (fun HF => ?both) ?rest
  case both =>
    refine wp_region_any (by kernel_rfl) ?_
    change wpAny _ _ _ _ _ _ _ (World.drew _)
    refine wpAny_ready (rs := [0, 1]) (by kernel_rfl) (by simp) ?_
    refine AllReady.cons rfl (fun K hK => ?_) (AllReady.cons rfl (fun K hK => ?_) AllReady.nil)
    · refine step_load_row (by rfl) _ (by rfl) b0 (by rfl) [.int .i64 k, .string sh, x2, x3, x4, x5, x6, x7, x8, x9, x10, x11, x12, x13, x14, x15, x16, x17, x18, x19, x20, x21, x22] (Z1.out.on (Q.refl _).drew) (by rfl) (hK _ _ ?_)
      clear hK K
      refine wpAny_ready (rs := [1]) (by kernel_rfl) (by simp) ?_
      refine AllReady.cons rfl (fun K hK => ?_) AllReady.nil
      go_simp
      refine hK _ _ ?_
      clear hK K
      refine wpAny_ready (rs := [2]) (by kernel_rfl) (by simp) ?_
      refine AllReady.cons rfl (fun K hK => ?_) AllReady.nil
      go_simp
      refine hK _ _ ?_
      clear hK K
      refine wpAny_ready (rs := [3]) (by kernel_rfl) (by simp) ?_
      refine AllReady.cons rfl (fun K hK => ?_) AllReady.nil
      refine step_store_row (by rfl) 35 _ _ (by rfl) w1.heap.size #[.int .i64 k, .string sh, x2, x3, x4, x5, x6, x7, x8, x9, x10, x11, x12, x13, x14, x15, x16, x17, x18, x19, x20, x21, x22] (by rfl) (by rfl) 35 #[.int .i64 0, .string ⟨#[]⟩, .int .i64 0, .int .i64 0, .bool false, .int .i64 0, .int .i64 0, .string ⟨#[]⟩, .bool false, .int .i64 0, .int .i64 0, .int .i64 0, .string ⟨#[]⟩, .bool false, .int .i64 0, .slice none 0 0, .slice none 0 0, .int .i64 0, .int .i64 0, .int .i64 0, .slice none 0 0, .int .i64 0, .string ⟨#[]⟩] (heap_alloc_last w1 _) info35 (by rfl) H0.out (hK _ _ ?_)
      clear hK K
      refine wpAny_done (by kernel_rfl) ?_ _
      rw [set_new]
      exact HF
    · go_simp
      refine hK _ _ ?_
      clear hK K
      refine wpAny_ready (rs := [0, 2]) (by kernel_rfl) (by simp) ?_
      refine AllReady.cons rfl (fun K hK => ?_) (AllReady.cons rfl (fun K hK => ?_) AllReady.nil)
      · refine step_load_row (by rfl) _ (by rfl) b0 (by rfl) [.int .i64 k, .string sh, x2, x3, x4, x5, x6, x7, x8, x9, x10, x11, x12, x13, x14, x15, x16, x17, x18, x19, x20, x21, x22] (Z1.out.on (((Q.refl _).alloc _).drew)) (by rfl) (hK _ _ ?_)
        clear hK K
        refine wpAny_ready (rs := [2]) (by kernel_rfl) (by simp) ?_
        refine AllReady.cons rfl (fun K hK => ?_) AllReady.nil
        go_simp
        refine hK _ _ ?_
        clear hK K
        refine wpAny_ready (rs := [3]) (by kernel_rfl) (by simp) ?_
        refine AllReady.cons rfl (fun K hK => ?_) AllReady.nil
        refine step_store_row (by rfl) 35 _ _ (by rfl) w1.heap.size #[.int .i64 k, .string sh, x2, x3, x4, x5, x6, x7, x8, x9, x10, x11, x12, x13, x14, x15, x16, x17, x18, x19, x20, x21, x22] (by rfl) (by rfl) 35 #[.int .i64 0, .string ⟨#[]⟩, .int .i64 0, .int .i64 0, .bool false, .int .i64 0, .int .i64 0, .string ⟨#[]⟩, .bool false, .int .i64 0, .int .i64 0, .int .i64 0, .string ⟨#[]⟩, .bool false, .int .i64 0, .slice none 0 0, .slice none 0 0, .int .i64 0, .int .i64 0, .int .i64 0, .slice none 0 0, .int .i64 0, .string ⟨#[]⟩] (heap_alloc_last w1 _) info35 (by rfl) H0.out (hK _ _ ?_)
        clear hK K
        refine wpAny_done (by kernel_rfl) ?_ _
        rw [set_new]
        exact HF
      · go_simp
        refine hK _ _ ?_
        clear hK K
        refine wpAny_ready (rs := [0]) (by kernel_rfl) (by simp) ?_
        refine AllReady.cons rfl (fun K hK => ?_) AllReady.nil
        refine step_load_row (by rfl) _ (by rfl) b0 (by rfl) [.int .i64 k, .string sh, x2, x3, x4, x5, x6, x7, x8, x9, x10, x11, x12, x13, x14, x15, x16, x17, x18, x19, x20, x21, x22] (Z1.out.on (((Q.refl _).alloc _).drew)) (by rfl) (hK _ _ ?_)
        clear hK K
        refine wpAny_ready (rs := [3]) (by kernel_rfl) (by simp) ?_
        refine AllReady.cons rfl (fun K hK => ?_) AllReady.nil
        refine step_store_row (by rfl) 35 _ _ (by rfl) w1.heap.size #[.int .i64 k, .string sh, x2, x3, x4, x5, x6, x7, x8, x9, x10, x11, x12, x13, x14, x15, x16, x17, x18, x19, x20, x21, x22] (by rfl) (by rfl) 35 #[.int .i64 0, .string ⟨#[]⟩, .int .i64 0, .int .i64 0, .bool false, .int .i64 0, .int .i64 0, .string ⟨#[]⟩, .bool false, .int .i64 0, .int .i64 0, .int .i64 0, .string ⟨#[]⟩, .bool false, .int .i64 0, .slice none 0 0, .slice none 0 0, .int .i64 0, .int .i64 0, .int .i64 0, .slice none 0 0, .int .i64 0, .string ⟨#[]⟩] (heap_alloc_last w1 _) info35 (by rfl) H0.out (hK _ _ ?_)
        clear hK K
        refine wpAny_done (by kernel_rfl) ?_ _
        rw [set_new]
        exact HF
  have Z2 := hid ((cq_new w1 [.int .i64 k, .string sh, x2, x3, x4, x5, x6, x7, x8, x9, x10, x11, x12, x13, x14, x15, x16, x17, x18, x19, x20, x21, x22]).on (Q.refl _).drew)
  rw [show ([.int .i64 k, .string sh, x2, x3, x4, x5, x6, x7, x8, x9, x10, x11, x12, x13, x14, x15, x16, x17, x18, x19, x20, x21, x22] : List Value).toArray = #[.int .i64 k, .string sh, x2, x3, x4, x5, x6, x7, x8, x9, x10, x11, x12, x13, x14, x15, x16, x17, x18, x19, x20, x21, x22] from rfl] at Z2
  have Z0 := hid (Z1.out.on (((Q.refl w1).alloc (.cells #[.int .i64 k, .string sh, x2, x3, x4, x5, x6, x7, x8, x9, x10, x11, x12, x13, x14, x15, x16, x17, x18, x19, x20, x21, x22] 35)).drew))
  have QB : Hid (Q w ((w1.alloc (.cells #[.int .i64 k, .string sh, x2, x3, x4, x5, x6, x7, x8, x9, x10, x11, x12, x13, x14, x15, x16, x17, x18, x19, x20, x21, x22] 35)).drew)) := hid ((QA.out.alloc _).drew)
  have hb1 : w.heap.size ≤ w1.heap.size := QA.out.size
  have hne : b0 ≠ w1.heap.size := Nat.ne_of_lt Z1.out.l
  generalize (w1.alloc (.cells #[.int .i64 k, .string sh, x2, x3, x4, x5, x6, x7, x8, x9, x10, x11, x12, x13, x14, x15, x16, x17, x18, x19, x20, x21, x22] 35)).drew = w2 at Z0 Z2 QB ⊢
  generalize w1.heap.size = b1x at Z2 hb1 hne ⊢
  clear Z1 QA
  have d0 := Z0.out.c 0 _ rfl
  have d22 := Z0.out.c 22 _ rfl
  have u22 := Z2.out.c 22 _ rfl; have uf22 := Z2.out.f 22
  cases p1 with
  | false =>
    go_wp2_with (first | (go_at_call 24; refine (H1.out _ QB.out).mono ?_; rintro e9 v0 ⟨rfl, q9⟩; have QC0 : Hid (Q w v0) := hid (QB.out.trans q9); have Z10 := hid (Z0.out.on q9); have Z20 := hid (Z2.out.on q9); clear q9; have d0_0 := Z10.out.c 0 _ rfl; have d0_22 := Z10.out.c 22 _ rfl; have u0_22 := Z20.out.c 22 _ rfl; have uf0_22 := Z20.out.f 22))
    go_ret
    exact ⟨rfl, by repeat (first | exact QC0.out | refine Q.setCell ?_ hb1 _)⟩
  | true =>
    go_upto_region 17 with (first | (go_at_call 24; refine (H1.out _ QB.out).mono ?_; rintro e9 v0 ⟨rfl, q9⟩; have QC0 : Hid (Q w v0) := hid (QB.out.trans q9); have Z10 := hid (Z0.out.on q9); have Z20 := hid (Z2.out.on q9); clear q9; have d0_0 := Z10.out.c 0 _ rfl; have d0_22 := Z10.out.c 22 _ rfl; have u0_22 := Z20.out.c 22 _ rfl; have uf0_22 := Z20.out.f 22))
    have QV : Hid (Q w (v0.setCell ⟨b1x, 22, none⟩ (.string ⟨#[]⟩))) := hid (by repeat (first | exact QC0.out | refine Q.setCell ?_ hb1 _))
    have Z1V : Hid (Cq (v0.setCell ⟨b1x, 22, none⟩ (.string ⟨#[]⟩)) b0 [.int .i64 k, .string sh, x2, x3, x4, x5, x6, x7, x8, x9, x10, x11, x12, x13, x14, x15, x16, x17, x18, x19, x20, x21, x22]) := hid ((Z10.out.oth hne 22 (.string ⟨#[]⟩)))
    have Z2V : Hid (Cq (v0.setCell ⟨b1x, 22, none⟩ (.string ⟨#[]⟩)) b1x [.int .i64 k, .string sh, x2, x3, x4, x5, x6, x7, x8, x9, x10, x11, x12, x13, x14, x15, x16, x17, x18, x19, x20, x21, .string ⟨#[]⟩]) := hid ((Z20.out.put 22 (.string ⟨#[]⟩)))
    generalize (v0.setCell ⟨b1x, 22, none⟩ (.string ⟨#[]⟩)) = V at QV Z1V Z2V ⊢
    clear d0 d22 u22 uf22 d0_0 d0_22 u0_22 uf0_22
    have g0 := Z1V.out.c 0 _ rfl
    have g1 := Z1V.out.c 1 _ rfl
    cases ib with
    | false =>
      go_wp2_with (go_at_call 25; refine (HI.out _ QV.out).mono ?_; rintro e9 y1 ⟨rfl, q9⟩; have QY : Hid (Q w y1) := hid (QV.out.trans q9); clear q9)
      go_ret
      exact ⟨rfl, QY.out⟩
    | true =>
      go_wp2_with (first | (go_at_call 25; refine (HI.out _ QV.out).mono ?_; rintro e9 y1 ⟨rfl, q9⟩; have QY : Hid (Q w y1) := hid (QV.out.trans q9); have Z1Y := hid (Z1V.out.on q9); have Z2Y := hid (Z2V.out.on q9); clear q9; have g0' := Z1Y.out.c 0 _ rfl; have g1' := Z1Y.out.c 1 _ rfl) | (refine wpl_loadg _ (by rfl) (by rfl) b1x (by rfl) [.int .i64 k, .string sh, x2, x3, x4, x5, x6, x7, x8, x9, x10, x11, x12, x13, x14, x15, x16, x17, x18, x19, x20, x21, .string ⟨#[]⟩] Z2Y.out (by rfl) ?_) | (refine wpl_buildg _ (by rfl) (by rfl) #[.int .i64 k, .string sh, .int .i64 0, .int .i64 0, .bool false, .int .i64 0, .int .i64 0, .string ⟨#[]⟩, .bool false, .int .i64 0, .int .i64 0, .int .i64 0, .string ⟨#[]⟩, .bool false, .int .i64 0, .slice none 0 0, .slice none 0 0, .int .i64 0, .int .i64 0, .int .i64 0, .slice none 0 0, .int .i64 0, .string ⟨#[]⟩] (by kernel_rfl) ?_) | (go_at_call 10; refine (HE.out _ QY.out).mono ?_; rintro e9 y2 ⟨rfl, q9⟩; have QY2 : Hid (Q w y2) := hid (QY.out.trans q9); clear q9))
      go_ret
      exact ⟨rfl, QY2.out⟩
end Go.Proofs.YtngnakdbhkjbjaaGreatDoor
