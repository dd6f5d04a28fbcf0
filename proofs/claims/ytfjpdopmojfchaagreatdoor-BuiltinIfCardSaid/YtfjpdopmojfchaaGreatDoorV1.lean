/- Package value and its reference: the small functions. -/
import Derived.Test.YtfjpdopmojfchaaGreatDoorQ
import Derived.Handy
namespace Go.Proofs.YtfjpdopmojfchaaGreatDoor
open Go.RowKit
set_option linter.unusedVariables false
set_option linter.unusedSimpArgs false
/-- a value of a cell -/
def vv (k n : Int) (t : ByteArray) (b : Bool) (e : Int) : Value := .agg #[.int .i64 k, .int .i64 n, .string t, .bool b, .int .i64 e]
theorem vret_bool {a b : Bool} (h : a = b) : Ending.returned (.bool a) = .returned (.bool b) := by rw [h]
theorem vret_bi {a b : Bool} {c d : Int} (h : a = b) (g : c = d) : Ending.returned (.tuple #[.bool a, .int .i64 c]) = .returned (.tuple #[.bool b, .int .i64 d]) := by rw [h, g]
/-- -1, 0 or 1: two numbers -/
def cmpI (a b : Int) : Int := if a < b then -1 else if b < a then 1 else 0
/-- -1, 0 or 1: two texts, by bytes -/
def cmpT (s t : List UInt8) : Int := if Op.bytesLess s t then -1 else if s = t then 0 else 1
def tn (b : Bool) : Int := if b then 10000 else 0
set_option maxHeartbeats 400000 in
theorem nanFix (x : Int) (w : World) : Calls Tryz.prog 148 #[.int .i64 x] w fun e w' => e = .returned (.bool false) ∧ w' = w := by
  go_enter Tryz.func148, Tryz.ntmps148
  go_wp2
  go_ret
  exact ⟨rfl, rfl⟩
set_option maxHeartbeats 400000 in
theorem nanInt (x : Int) (w : World) : Calls Tryz.prog 147 #[.int .i64 x] w fun e w' => e = .returned (.bool false) ∧ w' = w := by
  go_enter Tryz.func147, Tryz.ntmps147
  go_wp2
  go_ret
  exact ⟨rfl, rfl⟩
set_option maxHeartbeats 400000 in
theorem nanStr (x : ByteArray) (w : World) : Calls Tryz.prog 149 #[.string x] w fun e w' => e = .returned (.bool false) ∧ w' = w := by
  go_enter Tryz.func149, Tryz.ntmps149
  go_wp2
  go_ret
  exact ⟨rfl, rfl⟩
set_option maxHeartbeats 400000 in
theorem cmpInt_any (a b : Int) (w : World) : Calls Tryz.prog 131 #[.int .i64 a, .int .i64 b] w fun e w' => e = .returned (.int .i64 (cmpI a b)) ∧ w' = w := by
  by_cases h1 : a < b
  · have H : Hid (-1 = cmpI a b) := by show _ = _; simp [cmpI, h1]
    go_enter Tryz.func131, Tryz.ntmps131
    go_wp2_with (go_at_call 147; refine (nanInt _ _).mono ?_; rintro e w1 ⟨rfl, rfl⟩)
    go_ret
    exact ⟨ret_int H.out, rfl⟩
  · by_cases h2 : b < a
    · have H : Hid (1 = cmpI a b) := by show _ = _; simp [cmpI, h1, h2]
      go_enter Tryz.func131, Tryz.ntmps131
      go_wp2_with (go_at_call 147; refine (nanInt _ _).mono ?_; rintro e w1 ⟨rfl, rfl⟩)
      go_ret
      exact ⟨ret_int H.out, rfl⟩
    · have H : Hid (0 = cmpI a b) := by show _ = _; simp [cmpI, h1, h2]
      go_enter Tryz.func131, Tryz.ntmps131
      go_wp2_with (go_at_call 147; refine (nanInt _ _).mono ?_; rintro e w1 ⟨rfl, rfl⟩)
      go_ret
      exact ⟨ret_int H.out, rfl⟩
set_option maxHeartbeats 400000 in
theorem cmpFix_any (a b : Int) (w : World) : Calls Tryz.prog 132 #[.int .i64 a, .int .i64 b] w fun e w' => e = .returned (.int .i64 (cmpI a b)) ∧ w' = w := by
  by_cases h1 : a < b
  · have H : Hid (-1 = cmpI a b) := by show _ = _; simp [cmpI, h1]
    go_enter Tryz.func132, Tryz.ntmps132
    go_wp2_with (go_at_call 148; refine (nanFix _ _).mono ?_; rintro e w1 ⟨rfl, rfl⟩)
    go_ret
    exact ⟨ret_int H.out, rfl⟩
  · by_cases h2 : b < a
    · have H : Hid (1 = cmpI a b) := by show _ = _; simp [cmpI, h1, h2]
      go_enter Tryz.func132, Tryz.ntmps132
      go_wp2_with (go_at_call 148; refine (nanFix _ _).mono ?_; rintro e w1 ⟨rfl, rfl⟩)
      go_ret
      exact ⟨ret_int H.out, rfl⟩
    · have H : Hid (0 = cmpI a b) := by show _ = _; simp [cmpI, h1, h2]
      go_enter Tryz.func132, Tryz.ntmps132
      go_wp2_with (go_at_call 148; refine (nanFix _ _).mono ?_; rintro e w1 ⟨rfl, rfl⟩)
      go_ret
      exact ⟨ret_int H.out, rfl⟩
set_option maxHeartbeats 400000 in
theorem sign_any (a b : Int) (w : World) : Calls Tryz.prog 96 #[.int .i64 a, .int .i64 b] w fun e w' => e = .returned (.int .i64 (cmpI a b)) ∧ w' = w := by
  by_cases h1 : a < b
  · have H : Hid (-1 = cmpI a b) := by show _ = _; simp [cmpI, h1]
    go_enter Tryz.func96, Tryz.ntmps96
    go_wp2
    go_ret
    exact ⟨ret_int H.out, rfl⟩
  · by_cases h2 : b < a
    · have H : Hid (1 = cmpI a b) := by show _ = _; simp [cmpI, h1, h2]
      go_enter Tryz.func96, Tryz.ntmps96
      go_wp2
      go_ret
      exact ⟨ret_int H.out, rfl⟩
    · have H : Hid (0 = cmpI a b) := by show _ = _; simp [cmpI, h1, h2]
      go_enter Tryz.func96, Tryz.ntmps96
      go_wp2
      go_ret
      exact ⟨ret_int H.out, rfl⟩
set_option maxHeartbeats 400000 in
theorem cmpStr_any (s t : ByteArray) (w : World) : Calls Tryz.prog 133 #[.string s, .string t] w fun e w' => e = .returned (.int .i64 (cmpT s.toList t.toList)) ∧ w' = w := by
  by_cases h1 : Op.bytesLess s.toList t.toList = true
  · have H : Hid (-1 = cmpT s.toList t.toList) := by show _ = _; simp [cmpT, h1]
    go_enter Tryz.func133, Tryz.ntmps133
    go_wp2_with (go_at_call 149; refine (nanStr _ _).mono ?_; rintro e w1 ⟨rfl, rfl⟩)
    go_ret
    exact ⟨ret_int H.out, rfl⟩
  · have h1' : Op.bytesLess s.toList t.toList = false := by simpa using h1
    by_cases h2 : s.toList = t.toList
    · have H : Hid (0 = cmpT s.toList t.toList) := by show _ = _; unfold cmpT; rw [h1', if_neg (by simp), if_pos h2]
      have h2' : (s.toList == t.toList) = true := by simpa using h2
      clear h2 h1
      go_enter Tryz.func133, Tryz.ntmps133
      go_wp2_with (go_at_call 149; refine (nanStr _ _).mono ?_; rintro e w1 ⟨rfl, rfl⟩)
      go_ret
      exact ⟨ret_int H.out, rfl⟩
    · have H : Hid (1 = cmpT s.toList t.toList) := by show _ = _; unfold cmpT; rw [h1', if_neg (by simp), if_neg h2]
      have h2' : (s.toList == t.toList) = false := by simpa using h2
      clear h2 h1
      go_enter Tryz.func133, Tryz.ntmps133
      go_wp2_with (go_at_call 149; refine (nanStr _ _).mono ?_; rintro e w1 ⟨rfl, rfl⟩)
      go_ret
      exact ⟨ret_int H.out, rfl⟩
set_option maxHeartbeats 400000 in
theorem truthNumber_any (b : Bool) (w : World) : Calls Tryz.prog 117 #[.bool b] w fun e w' => e = .returned (.int .i64 (tn b)) ∧ w' = w := by
  cases b
  · go_enter Tryz.func117, Tryz.ntmps117
    go_wp2
    go_ret
    exact ⟨rfl, rfl⟩
  · go_enter Tryz.func117, Tryz.ntmps117
    go_wp2
    go_ret
    exact ⟨rfl, rfl⟩
/-- how a truth is written -/
def ttL (b : Bool) : List UInt8 := if b then [84, 82, 85, 69] else [70, 65, 76, 83, 69]
set_option maxHeartbeats 400000 in
theorem truthText_any (b : Bool) (w : World) : Calls Tryz.prog 89 #[.bool b] w fun e w' => e = .returned (.string ⟨(ttL b).toArray⟩) ∧ w' = w := by
  cases b
  · go_enter Tryz.func89, Tryz.ntmps89
    go_wp2
    go_ret
    exact ⟨rfl, rfl⟩
  · go_enter Tryz.func89, Tryz.ntmps89
    go_wp2
    go_ret
    exact ⟨rfl, rfl⟩
/-- a text as a truth -/
def rtB (l : List UInt8) : Bool := l == [84, 82, 85, 69]
def rtE (l : List UInt8) : Int := if l = [84, 82, 85, 69] ∨ l = [70, 65, 76, 83, 69] then 0 else 5
set_option maxHeartbeats 400000 in
theorem readTruth_any (s : ByteArray) (w : World) : Calls Tryz.prog 113 #[.string s] w fun e w' => e = .returned (.tuple #[.bool (rtB s.toList), .int .i64 (rtE s.toList)]) ∧ w' = w := by
  by_cases h1 : s.toList = [84, 82, 85, 69]
  · have H : Hid (rtB s.toList = true ∧ rtE s.toList = 0) := by show _ ∧ _; rw [h1]; exact ⟨rfl, rfl⟩
    go_enter Tryz.func113, Tryz.ntmps113
    go_wp2
    go_ret2
    exact ⟨vret_bi H.out.1.symm H.out.2.symm, rfl⟩
  · have h1' : (s.toList == [84, 82, 85, 69]) = false := by simpa using h1
    by_cases h2 : s.toList = [70, 65, 76, 83, 69]
    · have H : Hid (rtB s.toList = false ∧ rtE s.toList = 0) := by show _ ∧ _; rw [h2]; exact ⟨rfl, rfl⟩
      go_enter Tryz.func113, Tryz.ntmps113
      go_wp2
      go_ret2
      exact ⟨vret_bi H.out.1.symm H.out.2.symm, rfl⟩
    · have H : Hid (rtB s.toList = false ∧ rtE s.toList = 5) := by show _ ∧ _; exact ⟨h1', by unfold rtE; rw [if_neg (by rintro (h | h); exact h1 h; exact h2 h)]⟩
      have h2' : (s.toList == [70, 65, 76, 83, 69]) = false := by simpa using h2
      go_enter Tryz.func113, Tryz.ntmps113
      go_wp2
      go_ret2
      exact ⟨vret_bi H.out.1.symm H.out.2.symm, rfl⟩
set_option maxHeartbeats 400000 in
theorem compareBools_any (a b : Bool) (w : World) : Calls Tryz.prog 129 #[.bool a, .bool b] w fun e w' => e = .returned (.int .i64 (cmpI (tn a) (tn b))) ∧ w' = w := by
  go_enter Tryz.func129, Tryz.ntmps129
  go_wp2_with (first | (go_at_call 117; refine (truthNumber_any _ _).mono ?_; rintro e w1 ⟨rfl, rfl⟩) | (go_at_call 132; refine (cmpFix_any _ _ _).mono ?_; rintro e w1 ⟨rfl, rfl⟩))
  go_ret
  exact ⟨rfl, rfl⟩
/-- do two values have the same fields? -/
def eqB (k n : Int) (t : List UInt8) (b : Bool) (e : Int) (k' n' : Int) (t' : List UInt8) (b' : Bool) (e' : Int) : Bool :=
  decide (k = k' ∧ n = n' ∧ t = t' ∧ b = b' ∧ e = e')
set_option maxHeartbeats 1000000 in
theorem req_any (k n : Int) (t : ByteArray) (b : Bool) (e : Int) (k' n' : Int) (t' : ByteArray) (b' : Bool) (e' : Int) (w : World) :
    Calls Tryz.prog 12 #[vv k n t b e, vv k' n' t' b' e'] w fun x w' => x = .returned (.bool (eqB k n t.toList b e k' n' t'.toList b' e')) ∧ Q w w' := by
  unfold vv
  go_enter Tryz.func12, Tryz.ntmps12
  go_wp2
  all_goals go_ret
  all_goals exact ⟨vret_bool (by first | (simp [eqB, *]; done) | (simp [eqB, *]; rfl)), ((Q.refl _).alloc _).alloc _⟩
/-- a text that is not too great -/
def cutT (t : ByteArray) : ByteArray := if 250 < t.size then t.extract 0 250 else t
theorem cutT_size (t : ByteArray) : (cutT t).size ≤ 250 := by
  unfold cutT
  split
  · simp only [ByteArray.size_extract]; omega
  · omega
set_option maxHeartbeats 400000 in
theorem cut_any2 (k n : Int) (t : ByteArray) (b : Bool) (e : Int) (w : World) :
    Calls Tryz.prog 17 #[vv k n t b e] w fun x w' => x = .returned (vv k n (cutT t) b e) ∧ Q w w' := by
  unfold vv
  by_cases h : 250 < (t.size : Int)
  · have H : cutT t = t.extract 0 250 := by unfold cutT; rw [if_pos (by omega)]
    rw [H]
    clear H
    go_enter Tryz.func17, Tryz.ntmps17
    go_wp2
    exact bodyPost_ret (v := .agg #[.int .i64 k, .int .i64 n, .string (t.extract 0 250), .bool b, .int .i64 e]) (by simp [results, Tryz.results17, go_sem]) rfl ⟨rfl, ((Q.refl _).alloc _).alloc _⟩
  · have H : cutT t = t := by unfold cutT; rw [if_neg (by omega)]
    rw [H]
    clear H
    go_enter Tryz.func17, Tryz.ntmps17
    go_wp2
    exact bodyPost_ret (v := .agg #[.int .i64 k, .int .i64 n, .string t, .bool b, .int .i64 e]) (by simp [results, Tryz.results17, go_sem]) rfl ⟨rfl, ((Q.refl _).alloc _).alloc _⟩
set_option maxHeartbeats 400000 in
theorem txt_any (t : ByteArray) (w : World) : Calls Tryz.prog 28 #[.string t] w fun x w' => x = .returned (vv 2 0 t false 0) ∧ Q w w' := by
  go_enter Tryz.func28, Tryz.ntmps28
  go_wp2
  exact bodyPost_ret (v := vv 2 0 t false 0) (by simp [results, Tryz.results28, go_sem, vv]) rfl ⟨rfl, (Q.refl _).alloc _⟩
set_option maxHeartbeats 400000 in
theorem boo_any (b : Bool) (w : World) : Calls Tryz.prog 25 #[.bool b] w fun x w' => x = .returned (vv 3 0 ⟨#[]⟩ b 0) ∧ Q w w' := by
  go_enter Tryz.func25, Tryz.ntmps25
  go_wp2
  exact bodyPost_ret (v := vv 3 0 ⟨#[]⟩ b 0) (by simp [results, Tryz.results25, go_sem, vv]) rfl ⟨rfl, (Q.refl _).alloc _⟩
set_option maxHeartbeats 400000 in
theorem num_any (n : Int) (w : World) : Calls Tryz.prog 27 #[.int .i64 n] w fun x w' => x = .returned (vv 1 n ⟨#[]⟩ false 0) ∧ Q w w' := by
  go_enter Tryz.func27, Tryz.ntmps27
  go_wp2
  exact bodyPost_ret (v := vv 1 n ⟨#[]⟩ false 0) (by simp [results, Tryz.results27, go_sem, vv]) rfl ⟨rfl, (Q.refl _).alloc _⟩
set_option maxHeartbeats 400000 in
theorem err_any (n : Int) (w : World) : Calls Tryz.prog 26 #[.int .i64 n] w fun x w' => x = .returned (vv 4 0 ⟨#[]⟩ false n) ∧ Q w w' := by
  go_enter Tryz.func26, Tryz.ntmps26
  go_wp2
  exact bodyPost_ret (v := vv 4 0 ⟨#[]⟩ false n) (by simp [results, Tryz.results26, go_sem, vv]) rfl ⟨rfl, (Q.refl _).alloc _⟩
end Go.Proofs.YtfjpdopmojfchaaGreatDoor
