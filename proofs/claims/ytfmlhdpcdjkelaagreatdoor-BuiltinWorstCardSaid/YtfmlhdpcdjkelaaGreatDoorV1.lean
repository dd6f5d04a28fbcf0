/- Package value and its reference: the small functions. -/
import Derived.Test.YtfmlhdpcdjkelaaGreatDoorQ
import Derived.Handy
namespace Go.Proofs.YtfmlhdpcdjkelaaGreatDoor
open Go.RowKit
set_option linter.unusedVariables false
set_option linter.unusedSimpArgs false
/-- a value of a cell -/
def vv (k n : Int) (t : ByteArray) (b : Bool) (e : Int) : Value := .agg #[.int .i64 k, .int .i64 n, .string t, .bool b, .int .i64 e]
theorem vret_bool {a b : Bool} (h : a = b) : Ending.returned (.bool a) = .returned (.bool b) := by rw [h]
theorem vret_bi {a b : Bool} {c d : Int} (h : a = b) (g : c = d) : Ending.returned (.tuple #[.bool a, .int .i64 c]) = .returned (.tuple #[.bool b, .int .i64 d]) := by rw [h, g]
/-- -1, 0 or 1: two numbers -/
def cmpI (a b : Int) : Int := if a < b then -1 else if b < a then 1 else 0
/-- -1, 0 or 1: two texts, by bytes -/
def cmpT (s t : List UInt8) : Int := if Op.bytesLess s t then -1 else if s = t then 0 else 1
def tn (b : Bool) : Int := if b then 10000 else 0
set_option maxHeartbeats 400000 in
theorem nanFix (x : Int) (w : World) : Calls Tryz.prog 125 #[.int .i64 x] w fun e w' => e = .returned (.bool false) ∧ w' = w := by
  go_enter Tryz.func125, Tryz.ntmps125
  go_wp2
  go_ret
  exact ⟨rfl, rfl⟩
set_option maxHeartbeats 400000 in
theorem nanInt (x : Int) (w : World) : Calls Tryz.prog 124 #[.int .i64 x] w fun e w' => e = .returned (.bool false) ∧ w' = w := by
  go_enter Tryz.func124, Tryz.ntmps124
  go_wp2
  go_ret
  exact ⟨rfl, rfl⟩
set_option maxHeartbeats 400000 in
theorem nanStr (x : ByteArray) (w : World) : Calls Tryz.prog 126 #[.string x] w fun e w' => e = .returned (.bool false) ∧ w' = w := by
  go_enter Tryz.func126, Tryz.ntmps126
  go_wp2
  go_ret
  exact ⟨rfl, rfl⟩
set_option maxHeartbeats 400000 in
theorem cmpInt_any (a b : Int) (w : World) : Calls Tryz.prog 97 #[.int .i64 a, .int .i64 b] w fun e w' => e = .returned (.int .i64 (cmpI a b)) ∧ w' = w := by
  by_cases h1 : a < b
  · have H : Hid (-1 = cmpI a b) := by show _ = _; simp [cmpI, h1]
    go_enter Tryz.func97, Tryz.ntmps97
    go_wp2_with (go_at_call 124; refine (nanInt _ _).mono ?_; rintro e w1 ⟨rfl, rfl⟩)
    go_ret
    exact ⟨ret_int H.out, rfl⟩
  · by_cases h2 : b < a
    · have H : Hid (1 = cmpI a b) := by show _ = _; simp [cmpI, h1, h2]
      go_enter Tryz.func97, Tryz.ntmps97
      go_wp2_with (go_at_call 124; refine (nanInt _ _).mono ?_; rintro e w1 ⟨rfl, rfl⟩)
      go_ret
      exact ⟨ret_int H.out, rfl⟩
    · have H : Hid (0 = cmpI a b) := by show _ = _; simp [cmpI, h1, h2]
      go_enter Tryz.func97, Tryz.ntmps97
      go_wp2_with (go_at_call 124; refine (nanInt _ _).mono ?_; rintro e w1 ⟨rfl, rfl⟩)
      go_ret
      exact ⟨ret_int H.out, rfl⟩
set_option maxHeartbeats 400000 in
theorem cmpFix_any (a b : Int) (w : World) : Calls Tryz.prog 98 #[.int .i64 a, .int .i64 b] w fun e w' => e = .returned (.int .i64 (cmpI a b)) ∧ w' = w := by
  by_cases h1 : a < b
  · have H : Hid (-1 = cmpI a b) := by show _ = _; simp [cmpI, h1]
    go_enter Tryz.func98, Tryz.ntmps98
    go_wp2_with (go_at_call 125; refine (nanFix _ _).mono ?_; rintro e w1 ⟨rfl, rfl⟩)
    go_ret
    exact ⟨ret_int H.out, rfl⟩
  · by_cases h2 : b < a
    · have H : Hid (1 = cmpI a b) := by show _ = _; simp [cmpI, h1, h2]
      go_enter Tryz.func98, Tryz.ntmps98
      go_wp2_with (go_at_call 125; refine (nanFix _ _).mono ?_; rintro e w1 ⟨rfl, rfl⟩)
      go_ret
      exact ⟨ret_int H.out, rfl⟩
    · have H : Hid (0 = cmpI a b) := by show _ = _; simp [cmpI, h1, h2]
      go_enter Tryz.func98, Tryz.ntmps98
      go_wp2_with (go_at_call 125; refine (nanFix _ _).mono ?_; rintro e w1 ⟨rfl, rfl⟩)
      go_ret
      exact ⟨ret_int H.out, rfl⟩
set_option maxHeartbeats 400000 in
theorem sign_any (a b : Int) (w : World) : Calls Tryz.prog 60 #[.int .i64 a, .int .i64 b] w fun e w' => e = .returned (.int .i64 (cmpI a b)) ∧ w' = w := by
  by_cases h1 : a < b
  · have H : Hid (-1 = cmpI a b) := by show _ = _; simp [cmpI, h1]
    go_enter Tryz.func60, Tryz.ntmps60
    go_wp2
    go_ret
    exact ⟨ret_int H.out, rfl⟩
  · by_cases h2 : b < a
    · have H : Hid (1 = cmpI a b) := by show _ = _; simp [cmpI, h1, h2]
      go_enter Tryz.func60, Tryz.ntmps60
      go_wp2
      go_ret
      exact ⟨ret_int H.out, rfl⟩
    · have H : Hid (0 = cmpI a b) := by show _ = _; simp [cmpI, h1, h2]
      go_enter Tryz.func60, Tryz.ntmps60
      go_wp2
      go_ret
      exact ⟨ret_int H.out, rfl⟩
set_option maxHeartbeats 400000 in
theorem cmpStr_any (s t : ByteArray) (w : World) : Calls Tryz.prog 99 #[.string s, .string t] w fun e w' => e = .returned (.int .i64 (cmpT s.toList t.toList)) ∧ w' = w := by
  by_cases h1 : Op.bytesLess s.toList t.toList = true
  · have H : Hid (-1 = cmpT s.toList t.toList) := by show _ = _; simp [cmpT, h1]
    go_enter Tryz.func99, Tryz.ntmps99
    go_wp2_with (go_at_call 126; refine (nanStr _ _).mono ?_; rintro e w1 ⟨rfl, rfl⟩)
    go_ret
    exact ⟨ret_int H.out, rfl⟩
  · have h1' : Op.bytesLess s.toList t.toList = false := by simpa using h1
    by_cases h2 : s.toList = t.toList
    · have H : Hid (0 = cmpT s.toList t.toList) := by show _ = _; unfold cmpT; rw [h1', if_neg (by simp), if_pos h2]
      have h2' : (s.toList == t.toList) = true := by simpa using h2
      clear h2 h1
      go_enter Tryz.func99, Tryz.ntmps99
      go_wp2_with (go_at_call 126; refine (nanStr _ _).mono ?_; rintro e w1 ⟨rfl, rfl⟩)
      go_ret
      exact ⟨ret_int H.out, rfl⟩
    · have H : Hid (1 = cmpT s.toList t.toList) := by show _ = _; unfold cmpT; rw [h1', if_neg (by simp), if_neg h2]
      have h2' : (s.toList == t.toList) = false := by simpa using h2
      clear h2 h1
      go_enter Tryz.func99, Tryz.ntmps99
      go_wp2_with (go_at_call 126; refine (nanStr _ _).mono ?_; rintro e w1 ⟨rfl, rfl⟩)
      go_ret
      exact ⟨ret_int H.out, rfl⟩
set_option maxHeartbeats 400000 in
theorem truthNumber_any (b : Bool) (w : World) : Calls Tryz.prog 88 #[.bool b] w fun e w' => e = .returned (.int .i64 (tn b)) ∧ w' = w := by
  cases b
  · go_enter Tryz.func88, Tryz.ntmps88
    go_wp2
    go_ret
    exact ⟨rfl, rfl⟩
  · go_enter Tryz.func88, Tryz.ntmps88
    go_wp2
    go_ret
    exact ⟨rfl, rfl⟩
/-- how a truth is written -/
def ttL (b : Bool) : List UInt8 := if b then [84, 82, 85, 69] else [70, 65, 76, 83, 69]
set_option maxHeartbeats 400000 in
theorem truthText_any (b : Bool) (w : World) : Calls Tryz.prog 93 #[.bool b] w fun e w' => e = .returned (.string ⟨(ttL b).toArray⟩) ∧ w' = w := by
  cases b
  · go_enter Tryz.func93, Tryz.ntmps93
    go_wp2
    go_ret
    exact ⟨rfl, rfl⟩
  · go_enter Tryz.func93, Tryz.ntmps93
    go_wp2
    go_ret
    exact ⟨rfl, rfl⟩
/-- a text as a truth -/
def rtB (l : List UInt8) : Bool := l == [84, 82, 85, 69]
def rtE (l : List UInt8) : Int := if l = [84, 82, 85, 69] ∨ l = [70, 65, 76, 83, 69] then 0 else 5
set_option maxHeartbeats 400000 in
theorem readTruth_any (s : ByteArray) (w : World) : Calls Tryz.prog 130 #[.string s] w fun e w' => e = .returned (.tuple #[.bool (rtB s.toList), .int .i64 (rtE s.toList)]) ∧ w' = w := by
  by_cases h1 : s.toList = [84, 82, 85, 69]
  · have H : Hid (rtB s.toList = true ∧ rtE s.toList = 0) := by show _ ∧ _; rw [h1]; exact ⟨rfl, rfl⟩
    go_enter Tryz.func130, Tryz.ntmps130
    go_wp2
    go_ret2
    exact ⟨vret_bi H.out.1.symm H.out.2.symm, rfl⟩
  · have h1' : (s.toList == [84, 82, 85, 69]) = false := by simpa using h1
    by_cases h2 : s.toList = [70, 65, 76, 83, 69]
    · have H : Hid (rtB s.toList = false ∧ rtE s.toList = 0) := by show _ ∧ _; rw [h2]; exact ⟨rfl, rfl⟩
      go_enter Tryz.func130, Tryz.ntmps130
      go_wp2
      go_ret2
      exact ⟨vret_bi H.out.1.symm H.out.2.symm, rfl⟩
    · have H : Hid (rtB s.toList = false ∧ rtE s.toList = 5) := by show _ ∧ _; exact ⟨h1', by unfold rtE; rw [if_neg (by rintro (h | h); exact h1 h; exact h2 h)]⟩
      have h2' : (s.toList == [70, 65, 76, 83, 69]) = false := by simpa using h2
      go_enter Tryz.func130, Tryz.ntmps130
      go_wp2
      go_ret2
      exact ⟨vret_bi H.out.1.symm H.out.2.symm, rfl⟩
set_option maxHeartbeats 400000 in
theorem compareBools_any (a b : Bool) (w : World) : Calls Tryz.prog 95 #[.bool a, .bool b] w fun e w' => e = .returned (.int .i64 (cmpI (tn a) (tn b))) ∧ w' = w := by
  go_enter Tryz.func95, Tryz.ntmps95
  go_wp2_with (first | (go_at_call 88; refine (truthNumber_any _ _).mono ?_; rintro e w1 ⟨rfl, rfl⟩) | (go_at_call 98; refine (cmpFix_any _ _ _).mono ?_; rintro e w1 ⟨rfl, rfl⟩))
  go_ret
  exact ⟨rfl, rfl⟩
/-- do two values have the same fields? -/
def eqB (k n : Int) (t : List UInt8) (b : Bool) (e : Int) (k' n' : Int) (t' : List UInt8) (b' : Bool) (e' : Int) : Bool :=
  decide (k = k' ∧ n = n' ∧ t = t' ∧ b = b' ∧ e = e')
set_option maxHeartbeats 1000000 in
theorem req_any (k n : Int) (t : ByteArray) (b : Bool) (e : Int) (k' n' : Int) (t' : ByteArray) (b' : Bool) (e' : Int) (w : World) :
    Calls Tryz.prog 11 #[vv k n t b e, vv k' n' t' b' e'] w fun x w' => x = .returned (.bool (eqB k n t.toList b e k' n' t'.toList b' e')) ∧ Q w w' := by
  unfold vv
  go_enter Tryz.func11, Tryz.ntmps11
  go_wp2
  all_goals go_ret
  all_goals exact ⟨vret_bool (by first | (simp [eqB, *]; done) | (simp [eqB, *]; rfl)), ((Q.refl _).alloc _).alloc _⟩
/-- a text that is not too great -/
def cutT (t : ByteArray) : ByteArray := if 250 < t.size then t.extract 0 250 else t
theorem cutT_size (t : ByteArray) : (cutT t).size ≤ 250 := by
  unfold cutT
  split
  · simp only [ByteArray.size_extract]; omega
  · omega
set_option maxHeartbeats 400000 in
theorem cut_any2 (k n : Int) (t : ByteArray) (b : Bool) (e : Int) (w : World) :
    Calls Tryz.prog 10 #[vv k n t b e] w fun x w' => x = .returned (vv k n (cutT t) b e) ∧ Q w w' := by
  unfold vv
  by_cases h : 250 < (t.size : Int)
  · have H : cutT t = t.extract 0 250 := by unfold cutT; rw [if_pos (by omega)]
    rw [H]
    clear H
    go_enter Tryz.func10, Tryz.ntmps10
    go_wp2
    exact bodyPost_ret (v := .agg #[.int .i64 k, .int .i64 n, .string (t.extract 0 250), .bool b, .int .i64 e]) (by simp [results, Tryz.results10, go_sem]) rfl ⟨rfl, ((Q.refl _).alloc _).alloc _⟩
  · have H : cutT t = t := by unfold cutT; rw [if_neg (by omega)]
    rw [H]
    clear H
    go_enter Tryz.func10, Tryz.ntmps10
    go_wp2
    exact bodyPost_ret (v := .agg #[.int .i64 k, .int .i64 n, .string t, .bool b, .int .i64 e]) (by simp [results, Tryz.results10, go_sem]) rfl ⟨rfl, ((Q.refl _).alloc _).alloc _⟩
set_option maxHeartbeats 400000 in
theorem txt_any (t : ByteArray) (w : World) : Calls Tryz.prog 24 #[.string t] w fun x w' => x = .returned (vv 2 0 t false 0) ∧ Q w w' := by
  go_enter Tryz.func24, Tryz.ntmps24
  go_wp2
  exact bodyPost_ret (v := vv 2 0 t false 0) (by simp [results, Tryz.results24, go_sem, vv]) rfl ⟨rfl, (Q.refl _).alloc _⟩
set_option maxHeartbeats 400000 in
theorem boo_any (b : Bool) (w : World) : Calls Tryz.prog 21 #[.bool b] w fun x w' => x = .returned (vv 3 0 ⟨#[]⟩ b 0) ∧ Q w w' := by
  go_enter Tryz.func21, Tryz.ntmps21
  go_wp2
  exact bodyPost_ret (v := vv 3 0 ⟨#[]⟩ b 0) (by simp [results, Tryz.results21, go_sem, vv]) rfl ⟨rfl, (Q.refl _).alloc _⟩
set_option maxHeartbeats 400000 in
theorem num_any (n : Int) (w : World) : Calls Tryz.prog 23 #[.int .i64 n] w fun x w' => x = .returned (vv 1 n ⟨#[]⟩ false 0) ∧ Q w w' := by
  go_enter Tryz.func23, Tryz.ntmps23
  go_wp2
  exact bodyPost_ret (v := vv 1 n ⟨#[]⟩ false 0) (by simp [results, Tryz.results23, go_sem, vv]) rfl ⟨rfl, (Q.refl _).alloc _⟩
set_option maxHeartbeats 400000 in
theorem err_any (n : Int) (w : World) : Calls Tryz.prog 22 #[.int .i64 n] w fun x w' => x = .returned (vv 4 0 ⟨#[]⟩ false n) ∧ Q w w' := by
  go_enter Tryz.func22, Tryz.ntmps22
  go_wp2
  exact bodyPost_ret (v := vv 4 0 ⟨#[]⟩ false n) (by simp [results, Tryz.results22, go_sem, vv]) rfl ⟨rfl, (Q.refl _).alloc _⟩
end Go.Proofs.YtfmlhdpcdjkelaaGreatDoor
