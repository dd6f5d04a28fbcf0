/- lex.joined, walked; Package value: which values may be; lex.closed, lex.failure, walked. -/
import Derived.Test.YtgheopdadfnilaaGreatDoorKr10
import Derived.Test.YtgheopdadfnilaaGreatDoorKr01
import Derived.Deep.RegionHeld3
import Derived.Test.YtgheopdadfnilaaGreatDoorKr00
set_option linter.unusedVariables false
set_option linter.unusedSimpArgs false
set_option maxRecDepth 100000
namespace Go.Proofs.YtgheopdadfnilaaGreatDoor
open Go.RowKit
def wv (t : Nat × List UInt8 × Nat) : Value := .tuple #[.int .i64 (t.1 : Int), .string ⟨t.2.1.toArray⟩, .int .i64 (t.2.2 : Int)]
theorem ret_wv {t : Nat × List UInt8 × Nat} {k n : Int} {s : ByteArray} (hk : k = (t.1 : Int)) (hs : s.data.toList = t.2.1) (hn : n = (t.2.2 : Int)) :
    Ending.returned (.tuple #[.int .i64 k, .string s, .int .i64 n]) = .returned (wv t) := by
  unfold wv
  rw [hk, hn, bytes_eq hs]
theorem ret_bad {t : Nat × List UInt8 × Nat} (h : t = bad) : Ending.returned (.tuple #[.int .i64 0, .string ⟨#[]⟩, .int .i64 0]) = .returned (wv t) := by
  subst h
  rfl
theorem tw_len (l : List UInt8) (p : UInt8 → Bool) : (l.takeWhile p).length ≤ l.length := (List.takeWhile_prefix _).length_le
theorem tw_take (l : List UInt8) (p : UInt8 → Bool) : l.take (l.takeWhile p).length = l.takeWhile p := by
  induction l with
  | nil => rfl
  | cons c r ih =>
    rw [List.takeWhile_cons]
    split
    · simp [ih]
    · rfl
theorem tw_drop (l : List UInt8) (p : UInt8 → Bool) : l.drop (l.takeWhile p).length = l.dropWhile p := by
  induction l with
  | nil => rfl
  | cons c r ih =>
    rw [List.takeWhile_cons, List.dropWhile_cons]
    split
    · simp [ih]
    · rfl
theorem tw_in (l : List UInt8) (p : UInt8 → Bool) (k : Nat) (h : k < (l.takeWhile p).length) (hk : k < l.length) : p l[k] = true := by
  induction l generalizing k with
  | nil => simp at hk
  | cons c r ih =>
    rw [List.takeWhile_cons] at h
    split at h
    · rename_i hc
      cases k with
      | zero => exact hc
      | succ k => exact ih k (by simpa using h) (by simpa using hk)
    · simp at h
theorem tw_out (l : List UInt8) (p : UInt8 → Bool) (h : (l.takeWhile p).length < l.length) : p (l[(l.takeWhile p).length]) = false := by
  induction l with
  | nil => simp at h
  | cons c r ih =>
    by_cases hc : p c = true
    · have e : (List.takeWhile p (c :: r)).length = (List.takeWhile p r).length + 1 := by rw [List.takeWhile_cons, if_pos hc]; rfl
      have h' : (List.takeWhile p r).length < r.length := by rw [e] at h; simpa using h
      have := ih h'
      simp only [e, List.getElem_cons_succ]
      exact this
    · have e : (List.takeWhile p (c :: r)).length = 0 := by rw [List.takeWhile_cons, if_neg hc]; rfl
      simp only [e, List.getElem_cons_zero]
      simpa using hc
structure Run (p : UInt8 → Bool) (s : ByteArray) (K : Nat) (T R : ByteArray) : Prop where
  le : K ≤ s.size
  eT : s.extract 0 K = T
  eR : s.extract K s.size = R
  lT : T.data.toList = s.data.toList.takeWhile p
  lR : R.data.toList = s.data.toList.dropWhile p
  zT : T.size = K
  zR : R.size = s.size - K
  yes : ∀ k (h : k < s.size), k < K → p s[k] = true
  no : ∀ (h : K < s.size), p s[K] = false
theorem run_of (p : UInt8 → Bool) (s : ByteArray) : ∃ T R, Run p s (s.data.toList.takeWhile p).length T R := by
  have hl := tw_len s.data.toList p
  rw [len_data] at hl
  refine ⟨_, _, hl, rfl, rfl, ?_, ?_, by simp; omega, by simp, fun k h hk => ?_, fun h => ?_⟩
  · rw [Lib.extract_data]; simp [tw_take]
  · rw [Lib.extract_data, tw_drop]
    exact List.take_of_length_le (by rw [← tw_drop]; simp)
  · exact tw_in s.data.toList p k hk (by simpa using h)
  · exact tw_out s.data.toList p (by simpa using h)
set_option maxHeartbeats 4000000 in
theorem joined_walk (s T R : ByteArray) (K kk : Nat) (b : Bool) (w : World) (hs : s.size ≤ 1000000) (hr : Run joinB s K T R)
    (HP : Hid (∀ W, Calls Tryz.prog 180 #[.string R, .string ⟨#[40]⟩] W fun e w' => e = .returned (.bool b) ∧ w' = W))
    (HK : Hid (∀ W, Q w W → Calls Tryz.prog 183 #[.string T, .bool b] W fun e w' => e = .returned (.int .i64 (kk : Int)) ∧ Q W w'))
    (HC : Hid (∀ W, Calls Tryz.prog 89 #[.string T] W fun e w' => e = .returned (.string T) ∧ Q W w'))
    (hw : joinW s.data.toList = if kk = 0 then bad else (kk, T.data.toList, K)) :
    Calls Tryz.prog 164 #[.string s] w fun e w' => e = .returned (wv (joinW s.data.toList)) ∧ Q w w' := by
  obtain ⟨le, eT, eR, lT, lR, zT, zR, yes, no⟩ := hr
  have HY := hid yes
  have HN := hid no
  have HW := hid hw
  generalize joinW s.data.toList = jw at HW ⊢
  clear yes no hw lT lR
  have hKi : (K : Int) ≤ (s.size : Int) := by omega
  go_enter Tryz.func164, Tryz.ntmps164
  go_wp2
  go_loop [5] (fun i => ∃ k : Nat, k ≤ K ∧ i = .int .i64 k) (fun i => s.size - (intOf i).toNat)
  case atStart => exact ⟨0, Nat.zero_le _, rfl⟩
  case round =>
    obtain ⟨k, hk, rfl⟩ := hrel
    by_cases hlt : k < K
    · have hb : joinB s[k] = true := HY.out k (by omega) hlt
      have HJ := hid (fun W => joins_any s[k] W)
      rw [hb] at HJ
      go_wp2_with (go_at_call 163; refine (HJ.out _).mono ?_; rintro e w1 ⟨rfl, h1⟩; replace h1 := h1.symm; subst h1)
      go_round
      case rel => exact ⟨k + 1, by omega, by go_num⟩
      case measure => simp [intOf]; omega
    · have e : k = K := by omega
      subst e
      clear hk hlt
      cases hz : (kk == 0)
      · have hz' : ((kk : Int) == 0) = false := by rw [beq_eq_false_iff_ne] at hz ⊢; omega
        have HW2 : Hid (jw = (kk, T.data.toList, k)) := by show _ = _; rw [HW.out, if_neg (by simpa using hz)]
        clear HW hz
        by_cases hend : k < s.size
        · have HJ := hid (fun W => joins_any s[k] W)
          rw [HN.out hend] at HJ
          go_wp2_with (go_at_call 163; refine (HJ.out _).mono ?_; rintro e w1 ⟨rfl, h1⟩; replace h1 := h1.symm; subst h1)
          go_region_held3 (fun W => True) (trivial)
            (first
              | (go_at_call 180; refine (HP.out _).mono ?_; rintro e w4 ⟨rfl, h4⟩; replace h4 := h4.symm; subst h4)
              | (go_at_call 183; refine (HK.out _ (by repeat (first | exact Q.refl _ | refine Q.drewN ?_ _ | refine Q.drew ?_))).mono ?_; rintro e w2 ⟨rfl, q2⟩; have Q2 := hid ((show Q _ _ by repeat (first | exact Q.refl _ | refine Q.drewN ?_ _ | refine Q.drew ?_) : Q w _).trans q2); clear q2))
          go_wp2_with (go_at_call 89; refine (HC.out _).mono ?_; rintro e w3 ⟨rfl, q3⟩; have Q3 := hid q3; clear q3)
          go_ret3
          exact ⟨ret_wv (by rw [HW2.out]) (by rw [HW2.out]) (by rw [HW2.out]), Q2.out.trans Q3.out⟩
        · go_wp2_with fail
          go_region_held3 (fun W => True) (trivial)
            (first
              | (go_at_call 180; refine (HP.out _).mono ?_; rintro e w4 ⟨rfl, h4⟩; replace h4 := h4.symm; subst h4)
              | (go_at_call 183; refine (HK.out _ (by repeat (first | exact Q.refl _ | refine Q.drewN ?_ _ | refine Q.drew ?_))).mono ?_; rintro e w2 ⟨rfl, q2⟩; have Q2 := hid ((show Q _ _ by repeat (first | exact Q.refl _ | refine Q.drewN ?_ _ | refine Q.drew ?_) : Q w _).trans q2); clear q2))
          go_wp2_with (go_at_call 89; refine (HC.out _).mono ?_; rintro e w3 ⟨rfl, q3⟩; have Q3 := hid q3; clear q3)
          go_ret3
          exact ⟨ret_wv (by rw [HW2.out]) (by rw [HW2.out]) (by rw [HW2.out]), Q2.out.trans Q3.out⟩
      · have hz' : ((kk : Int) == 0) = true := by rw [beq_iff_eq] at hz ⊢; omega
        have HW2 : Hid (jw = bad) := by show _ = _; rw [HW.out, if_pos (by simpa using hz)]
        clear HW hz
        by_cases hend : k < s.size
        · have HJ := hid (fun W => joins_any s[k] W)
          rw [HN.out hend] at HJ
          go_wp2_with (go_at_call 163; refine (HJ.out _).mono ?_; rintro e w1 ⟨rfl, h1⟩; replace h1 := h1.symm; subst h1)
          go_region_held3 (fun W => True) (trivial)
            (first
              | (go_at_call 180; refine (HP.out _).mono ?_; rintro e w4 ⟨rfl, h4⟩; replace h4 := h4.symm; subst h4)
              | (go_at_call 183; refine (HK.out _ (by repeat (first | exact Q.refl _ | refine Q.drewN ?_ _ | refine Q.drew ?_))).mono ?_; rintro e w2 ⟨rfl, q2⟩; have Q2 := hid ((show Q _ _ by repeat (first | exact Q.refl _ | refine Q.drewN ?_ _ | refine Q.drew ?_) : Q w _).trans q2); clear q2))
          go_wp2_with fail
          go_ret3
          exact ⟨ret_bad HW2.out, Q2.out⟩
        · go_wp2_with fail
          go_region_held3 (fun W => True) (trivial)
            (first
              | (go_at_call 180; refine (HP.out _).mono ?_; rintro e w4 ⟨rfl, h4⟩; replace h4 := h4.symm; subst h4)
              | (go_at_call 183; refine (HK.out _ (by repeat (first | exact Q.refl _ | refine Q.drewN ?_ _ | refine Q.drew ?_))).mono ?_; rintro e w2 ⟨rfl, q2⟩; have Q2 := hid ((show Q _ _ by repeat (first | exact Q.refl _ | refine Q.drewN ?_ _ | refine Q.drew ?_) : Q w _).trans q2); clear q2))
          go_wp2_with fail
          go_ret3
          exact ⟨ret_bad HW2.out, Q2.out⟩
theorem joined_any (s : ByteArray) (w : World) (hw : Std w) (hs : s.size ≤ 1000000) :
    Calls Tryz.prog 164 #[.string s] w fun e w' => e = .returned (wv (joinW s.data.toList)) ∧ Q w w' := by
  obtain ⟨T, R, hr⟩ := run_of joinB s
  have hz := hr.zT
  have hl := hr.le
  refine joined_walk s T R _ (kindJ (s.data.toList.takeWhile joinB) (Lib.hasPrefix (s.data.toList.dropWhile joinB) [40])) (Lib.hasPrefix (s.data.toList.dropWhile joinB) [40]) w hs hr (hid fun W => ?_) (hid fun W q => ?_) (hid fun W => clone_any T W (by omega)) ?_
  · have := Tryz.strings_HasPrefix R ⟨#[40]⟩ W
    rw [hr.lR] at this
    exact this
  · have := kindOf_any T (Lib.hasPrefix (s.data.toList.dropWhile joinB) [40]) W (hw.on q) (by omega)
    rw [hr.lT] at this
    exact this
  · rw [hr.lT]; rfl
end Go.Proofs.YtgheopdadfnilaaGreatDoor
namespace Go.Proofs.YtgheopdadfnilaaGreatDoor.V
open Go.RowKit
def mayB (k n : Int) (t : List UInt8) (b : Bool) (e : Int) : Bool :=
  if k = 0 then decide (n = 0) && (decide (t = []) && (!b && decide (e = 0)))
  else if k = 1 then decide (t = []) && (!b && decide (e = 0))
  else if k = 2 then decide (n = 0) && (!b && (decide (e = 0) && mtB t))
  else if k = 3 then decide (n = 0) && (decide (t = []) && decide (e = 0))
  else if k = 4 then decide (n = 0) && (decide (t = []) && (!b && (decide (1 ≤ e) && decide (e ≤ 7))))
  else false
theorem mtB_nil : mtB [] = true := by rfl
theorem enL_ne {e : Int} (h1 : 1 ≤ e) (h7 : e ≤ 7) : enL e ≠ [] := by
  rcases (by omega : e = 1 ∨ e = 2 ∨ e = 3 ∨ e = 4 ∨ e = 5 ∨ e = 6 ∨ e = 7) with rfl | rfl | rfl | rfl | rfl | rfl | rfl <;> decide
theorem mayB_other {k n : Int} {t : List UInt8} {b : Bool} {e : Int} (h0 : k ≠ 0) (h1 : k ≠ 1) (h2 : k ≠ 2) (h3 : k ≠ 3) (h4 : k ≠ 4) : false = mayB k n t b e := by
  unfold mayB
  rw [if_neg h0, if_neg h1, if_neg h2, if_neg h3, if_neg h4]
set_option maxHeartbeats 2000000 in
theorem may_other (k n : Int) (t : ByteArray) (b : Bool) (e : Int) (w : World) (h0 : k ≠ 0) (h1 : k ≠ 1) (h2 : k ≠ 2) (h3 : k ≠ 3) (h4 : k ≠ 4) :
    Calls Tryz.prog 43 #[vv k n t b e] w fun x w' => x = .returned (.bool (mayB k n t.toList b e)) ∧ Q w w' := by
  have H := hid (mayB_other (n := n) (t := t.toList) (b := b) (e := e) h0 h1 h2 h3 h4)
  unfold vv
  go_enter Tryz.func43, Tryz.ntmps43
  go_wp2
  go_ret
  exact ⟨vret_bool H.out, ((Q.refl _).alloc _).alloc _⟩
theorem box5 {w w1 : World} {v0 v1 v2 v3 v4 : Value} {o : Obj} (q : Q ((w.alloc (.cells #[v0, v1, v2, v3, v4] 37)).alloc o) w1) :
    w1.cell? ⟨w.heap.size, 0, none⟩ = some v0 ∧ w1.cell? ⟨w.heap.size, 4, none⟩ = some v4 := by
  have h1 : w.heap.size < (w.alloc (.cells #[v0, v1, v2, v3, v4] 37)).heap.size := by rw [World.size_alloc]; omega
  have hlt : w.heap.size < ((w.alloc (.cells #[v0, v1, v2, v3, v4] 37)).alloc o).heap.size := by rw [World.size_alloc]; omega
  have e1 := fun j => Q.cell (o := j) ((Q.refl (w.alloc (.cells #[v0, v1, v2, v3, v4] 37))).alloc o) h1
  refine ⟨?_, ?_⟩
  · rw [q.cell hlt, e1, World.cell?_alloc_new]; rfl
  · rw [q.cell hlt, e1, World.cell?_alloc_new]; rfl
theorem q2 {w w1 : World} {o o' : Obj} (q : Q ((w.alloc o).alloc o') w1) : Q w w1 := (((Q.refl _).alloc _).alloc _).trans q
set_option maxHeartbeats 2000000 in
theorem may_0 (n : Int) (t : ByteArray) (b : Bool) (e : Int) (w : World) (hw : Std w) (hs : (t.size : Int) ≤ 9223372036854775000) :
    Calls Tryz.prog 43 #[vv 0 n t b e] w fun x w' => x = .returned (.bool (mayB 0 n t.toList b e)) ∧ Q w w' := by
  have HW := hid hw
  have HM : mtB t.data.toList = mtB t.toList := by rw [Lib.toList_data]
  clear hw
  unfold vv
  go_enter Tryz.func43, Tryz.ntmps43
  go_wp2_with (go_at_call 81; refine (mayText_any t _ (HW.out.on (((Q.refl _).alloc _).alloc _)) hs).mono ?_; rintro x w1 ⟨rfl, q1⟩; obtain ⟨g0, g4⟩ := box5 q1)
  all_goals go_ret
  all_goals first
    | exact ⟨vret_bool (by simp [mayB, mtB_nil, *]), ((Q.refl _).alloc _).alloc _⟩
    | exact ⟨vret_bool (by simp_all [mayB, mtB_nil]), q2 q1⟩
set_option maxHeartbeats 2000000 in
theorem may_1 (n : Int) (t : ByteArray) (b : Bool) (e : Int) (w : World) (hw : Std w) (hs : (t.size : Int) ≤ 9223372036854775000) :
    Calls Tryz.prog 43 #[vv 1 n t b e] w fun x w' => x = .returned (.bool (mayB 1 n t.toList b e)) ∧ Q w w' := by
  have HW := hid hw
  have HM : mtB t.data.toList = mtB t.toList := by rw [Lib.toList_data]
  clear hw
  unfold vv
  go_enter Tryz.func43, Tryz.ntmps43
  go_wp2_with (go_at_call 81; refine (mayText_any t _ (HW.out.on (((Q.refl _).alloc _).alloc _)) hs).mono ?_; rintro x w1 ⟨rfl, q1⟩; obtain ⟨g0, g4⟩ := box5 q1)
  all_goals go_ret
  all_goals first
    | exact ⟨vret_bool (by simp [mayB, mtB_nil, *]), ((Q.refl _).alloc _).alloc _⟩
    | exact ⟨vret_bool (by simp_all [mayB, mtB_nil]), q2 q1⟩
set_option maxHeartbeats 2000000 in
theorem may_2 (n : Int) (t : ByteArray) (b : Bool) (e : Int) (w : World) (hw : Std w) (hs : (t.size : Int) ≤ 9223372036854775000) :
    Calls Tryz.prog 43 #[vv 2 n t b e] w fun x w' => x = .returned (.bool (mayB 2 n t.toList b e)) ∧ Q w w' := by
  have HW := hid hw
  have HM : mtB t.data.toList = mtB t.toList := by rw [Lib.toList_data]
  clear hw
  unfold vv
  go_enter Tryz.func43, Tryz.ntmps43
  go_wp2_with (go_at_call 81; refine (mayText_any t _ (HW.out.on (((Q.refl _).alloc _).alloc _)) hs).mono ?_; rintro x w1 ⟨rfl, q1⟩; obtain ⟨g0, g4⟩ := box5 q1)
  all_goals go_ret
  all_goals first
    | exact ⟨vret_bool (by simp [mayB, mtB_nil, *]), ((Q.refl _).alloc _).alloc _⟩
    | exact ⟨vret_bool (by simp_all [mayB, mtB_nil]), q2 q1⟩
set_option maxHeartbeats 2000000 in
theorem may_3 (n : Int) (t : ByteArray) (b : Bool) (e : Int) (w : World) (hw : Std w) (hs : (t.size : Int) ≤ 9223372036854775000) :
    Calls Tryz.prog 43 #[vv 3 n t b e] w fun x w' => x = .returned (.bool (mayB 3 n t.toList b e)) ∧ Q w w' := by
  have HW := hid hw
  have HM : mtB t.data.toList = mtB t.toList := by rw [Lib.toList_data]
  clear hw
  unfold vv
  go_enter Tryz.func43, Tryz.ntmps43
  go_wp2_with (go_at_call 81; refine (mayText_any t _ (HW.out.on (((Q.refl _).alloc _).alloc _)) hs).mono ?_; rintro x w1 ⟨rfl, q1⟩; obtain ⟨g0, g4⟩ := box5 q1)
  all_goals go_ret
  all_goals first
    | exact ⟨vret_bool (by simp [mayB, mtB_nil, *]), ((Q.refl _).alloc _).alloc _⟩
    | exact ⟨vret_bool (by simp_all [mayB, mtB_nil]), q2 q1⟩
set_option maxHeartbeats 2000000 in
theorem may_4 (n : Int) (t : ByteArray) (b : Bool) (e : Int) (w : World) (hw : Std w) (hs : (t.size : Int) ≤ 9223372036854775000) :
    Calls Tryz.prog 43 #[vv 4 n t b e] w fun x w' => x = .returned (.bool (mayB 4 n t.toList b e)) ∧ Q w w' := by
  have HW := hid hw
  have HM : mtB t.data.toList = mtB t.toList := by rw [Lib.toList_data]
  obtain ⟨X, eX⟩ : ∃ X : ByteArray, X = ⟨(enL e).toArray⟩ := ⟨_, rfl⟩
  have hX : X.toList = enL e := by rw [Lib.toList_data, eX]
  have HN := hid (fun w h => name_any e w h)
  rw [← eX] at HN
  clear hw eX
  by_cases he : 1 ≤ e ∧ e ≤ 7
  · have hx : (X.toList == []) = false := by rw [hX]; have := enL_ne he.1 he.2; cases h : enL e; exact absurd h this; rfl
    have h1 := he.1
    have h7 := he.2
    have d1 : decide (1 ≤ e) = true := by simpa using h1
    have d7 : decide (e ≤ 7) = true := by simpa using h7
    clear he hX
    unfold vv
    go_enter Tryz.func43, Tryz.ntmps43
    go_wp2_with (first | (go_at_call 81; refine (mayText_any t _ (HW.out.on (((Q.refl _).alloc _).alloc _)) hs).mono ?_; rintro x w1 ⟨rfl, q1⟩; obtain ⟨g0, g4⟩ := box5 q1) | (go_at_call 82; refine (HN.out _ (HW.out.on (q2 q1)).nam).mono ?_; rintro x w1 ⟨rfl, rfl⟩))
    all_goals go_ret
    all_goals first
      | exact ⟨vret_bool (by simp [mayB, mtB_nil, *]), ((Q.refl _).alloc _).alloc _⟩
      | exact ⟨vret_bool (by simp_all [mayB, mtB_nil]), q2 q1⟩
  · have hx : (X.toList == []) = true := by rw [hX, ← enL_no (by omega)]; rfl
    have d1 : (decide (1 ≤ e) && decide (e ≤ 7)) = false := by simp; omega
    clear he hX
    unfold vv
    go_enter Tryz.func43, Tryz.ntmps43
    go_wp2_with (first | (go_at_call 81; refine (mayText_any t _ (HW.out.on (((Q.refl _).alloc _).alloc _)) hs).mono ?_; rintro x w1 ⟨rfl, q1⟩; obtain ⟨g0, g4⟩ := box5 q1) | (go_at_call 82; refine (HN.out _ (HW.out.on (q2 q1)).nam).mono ?_; rintro x w1 ⟨rfl, rfl⟩))
    all_goals go_ret
    all_goals first
      | exact ⟨vret_bool (by unfold mayB; rw [d1]; simp), ((Q.refl _).alloc _).alloc _⟩
      | exact ⟨vret_bool (by unfold mayB; rw [d1]; simp), q2 q1⟩
theorem may_any (k n : Int) (t : ByteArray) (b : Bool) (e : Int) (w : World) (hw : Std w) (hs : (t.size : Int) ≤ 9223372036854775000) :
    Calls Tryz.prog 43 #[vv k n t b e] w fun x w' => x = .returned (.bool (mayB k n t.toList b e)) ∧ Q w w' := by
  by_cases h0 : k = 0
  · subst h0; exact may_0 n t b e w hw hs
  by_cases h1 : k = 1
  · subst h1; exact may_1 n t b e w hw hs
  by_cases h2 : k = 2
  · subst h2; exact may_2 n t b e w hw hs
  by_cases h3 : k = 3
  · subst h3; exact may_3 n t b e w hw hs
  by_cases h4 : k = 4
  · subst h4; exact may_4 n t b e w hw hs
  exact may_other k n t b e w h0 h1 h2 h3 h4
end Go.Proofs.YtgheopdadfnilaaGreatDoor.V
namespace Go.Proofs.YtgheopdadfnilaaGreatDoor
open Go.RowKit
theorem may_text (l : List UInt8) : V.mayB 2 0 l false 0 = V.mtB l := by simp [V.mayB]
set_option maxHeartbeats 2000000 in
theorem closed_any (s : ByteArray) (n : Nat) (w : World) (hw : Std w) (hs : s.size ≤ 1000000) :
    Calls Tryz.prog 181 #[.string s, .int .i64 (n : Int)] w fun e w' => e = .returned (wv (quoP (some (s.data.toList, n)))) ∧ Q w w' := by
  have HM := V.may_2 0 s false 0 w hw (by omega)
  rw [may_text, Lib.toList_data] at HM
  unfold V.vv at HM
  have HM := hid HM
  cases h : V.mtB s.data.toList
  · rw [h] at HM
    have HW : Hid (quoP (some (s.data.toList, n)) = bad) := by show _ = _; simp only [quoP, h]; rfl
    generalize quoP (some (s.data.toList, n)) = q at HW ⊢
    clear h hw
    go_enter Tryz.func181, Tryz.ntmps181
    go_wp2_with (go_at_call 43; refine HM.out.mono ?_; rintro e w1 ⟨rfl, q1⟩; have Q1 := hid q1; clear q1)
    go_ret3
    exact ⟨ret_bad HW.out, Q1.out⟩
  · rw [h] at HM
    have HW : Hid (quoP (some (s.data.toList, n)) = (2, s.data.toList, n)) := by show _ = _; simp only [quoP, h]; rfl
    generalize quoP (some (s.data.toList, n)) = q at HW ⊢
    clear h hw
    go_enter Tryz.func181, Tryz.ntmps181
    go_wp2_with (go_at_call 43; refine HM.out.mono ?_; rintro e w1 ⟨rfl, q1⟩; have Q1 := hid q1; clear q1)
    go_ret3
    exact ⟨ret_wv (by rw [HW.out]; rfl) (by rw [HW.out]) (by rw [HW.out]), Q1.out⟩
theorem err_step (k : Nat) (h : k < 7) : ([1, 2, 3, 4, 5, 6, 7] : List Int).drop k = ((k : Int) + 1) :: ([1, 2, 3, 4, 5, 6, 7] : List Int).drop (k + 1) := by
  rcases (by omega : k = 0 ∨ k = 1 ∨ k = 2 ∨ k = 3 ∨ k = 4 ∨ k = 5 ∨ k = 6) with rfl | rfl | rfl | rfl | rfl | rfl | rfl <;> rfl
set_option maxHeartbeats 2000000 in
theorem failure_any (s : ByteArray) (w : World) (hw : Std w) (hs : s.size ≤ 1000000) :
    Calls Tryz.prog 162 #[.string s] w fun e w' => e = .returned (wv (errW s.data.toList)) ∧ w' = w := by
  have HN := hid hw.nam
  obtain ⟨jw, hj⟩ : ∃ jw, errW s.data.toList = jw := ⟨_, rfl⟩
  rw [hj]
  have HJ := hid hj
  clear hj hw
  go_enter Tryz.func162, Tryz.ntmps162
  go_wp2
  go_loop [5] (fun i => ∃ k : Nat, k ≤ 7 ∧ i = .int .i64 ((k : Int) + 1) ∧ Hid (errP ((([1, 2, 3, 4, 5, 6, 7] : List Int).drop k).find? (fun e => Lib.hasPrefix s.data.toList (enL e))) = jw)) (fun i => 8 - (intOf i).toNat)
  case atStart => exact ⟨0, by omega, rfl, HJ⟩
  case round =>
    obtain ⟨k, hk, rfl, hr⟩ := hrel
    by_cases hlt : k < 7
    · have hn := V.name_any ((k : Int) + 1) w HN.out
      obtain ⟨N, eN⟩ : ∃ N : ByteArray, ⟨(enL ((k : Int) + 1)).toArray⟩ = N := ⟨_, rfl⟩
      have lN : N.data.toList = enL ((k : Int) + 1) := by rw [← eN]
      have zN : N.size ≤ 100 := by
        rw [← len_data, lN]
        rcases (by omega : k = 0 ∨ k = 1 ∨ k = 2 ∨ k = 3 ∨ k = 4 ∨ k = 5 ∨ k = 6) with rfl | rfl | rfl | rfl | rfl | rfl | rfl <;> decide
      rw [eN] at hn
      have hp := Tryz.strings_HasPrefix s N w
      have hr2 := hr.out
      rw [err_step k hlt, List.find?_cons, ← lN] at hr2
      have H1 := hid hn
      have LN := hid lN
      clear hn lN eN hr
      cases hb : Lib.hasPrefix s.data.toList N.data.toList
      · rw [hb] at hp hr2
        have H2 := hid hp
        have HR := hid hr2
        clear hp hr2 hb
        go_wp2_with (first | (go_at_call 82; refine H1.out.mono ?_; rintro e w1 ⟨rfl, h1⟩; replace h1 := h1.symm; subst h1) | (go_at_call 180; refine H2.out.mono ?_; rintro e w1 ⟨rfl, h1⟩; replace h1 := h1.symm; subst h1))
        go_round
        case rel => exact ⟨k + 1, by omega, by go_num, HR⟩
        case measure => simp [intOf]; omega
      · rw [hb] at hp hr2
        have H2 := hid hp
        have HR : Hid (jw = (5, N.data.toList, N.data.toList.length)) := by show _ = _; rw [← hr2, LN.out]; rfl
        clear hp hr2 hb
        go_wp2_with (first | (go_at_call 82; refine H1.out.mono ?_; rintro e w1 ⟨rfl, h1⟩; replace h1 := h1.symm; subst h1) | (go_at_call 180; refine H2.out.mono ?_; rintro e w1 ⟨rfl, h1⟩; replace h1 := h1.symm; subst h1))
        go_ret3
        exact ⟨ret_wv (by rw [HR.out]; rfl) (by rw [HR.out]) (by rw [HR.out]; simp), rfl⟩
    · have e : k = 7 := by omega
      subst e
      have HR := hid hr.out.symm
      clear hr
      go_wp2_with fail
      go_ret3
      exact ⟨ret_bad HR.out, rfl⟩
end Go.Proofs.YtgheopdadfnilaaGreatDoor
