/- lex.joined, walked. -/
import Derived.Test.YtkipbcimjmialaaDoorBb
import Derived.Test.YtkipbcimjmialaaDoorB4
import Derived.Deep.RegionHeld3
namespace Go.Proofs.YtkipbcimjmialaaDoor
open Go.RowKit
set_option linter.unusedVariables false
set_option linter.unusedSimpArgs false


/-- a word as it is handed back -/
def wv (t : Nat × List UInt8 × Nat) : Value := .tuple #[.int .i64 (t.1 : Int), .string ⟨t.2.1.toArray⟩, .int .i64 (t.2.2 : Int)]
theorem ret_wv {t : Nat × List UInt8 × Nat} {k n : Int} {s : ByteArray} (hk : k = (t.1 : Int)) (hs : s.data.toList = t.2.1) (hn : n = (t.2.2 : Int)) :
    Ending.returned (.tuple #[.int .i64 k, .string s, .int .i64 n]) = .returned (wv t) := by
  unfold wv
  rw [hk, hn, bytes_eq hs]
theorem ret_bad {t : Nat × List UInt8 × Nat} (h : t = bad) : Ending.returned (.tuple #[.int .i64 0, .string ⟨#[]⟩, .int .i64 0]) = .returned (wv t) := by
  subst h
  rfl
theorem tw_len (l : List UInt8) (p : UInt8 → Bool) : (l.takeWhile p).length ≤ l.length := (List.takeWhile_prefix _).length_le
theorem tw_take (l : List UInt8) (p : UInt8 → Bool) : l.take (l.takeWhile p).length = l.takeWhile p := by
  induction l with
  | nil => rfl
  | cons c r ih =>
    rw [List.takeWhile_cons]
    split
    · simp [ih]
    · rfl
theorem tw_drop (l : List UInt8) (p : UInt8 → Bool) : l.drop (l.takeWhile p).length = l.dropWhile p := by
  induction l with
  | nil => rfl
  | cons c r ih =>
    rw [List.takeWhile_cons, List.dropWhile_cons]
    split
    · simp [ih]
    · rfl
theorem tw_in (l : List UInt8) (p : UInt8 → Bool) (k : Nat) (h : k < (l.takeWhile p).length) (hk : k < l.length) : p l[k] = true := by
  induction l generalizing k with
  | nil => simp at hk
  | cons c r ih =>
    rw [List.takeWhile_cons] at h
    split at h
    · rename_i hc
      cases k with
      | zero => exact hc
      | succ k => exact ih k (by simpa using h) (by simpa using hk)
    · simp at h
theorem tw_out (l : List UInt8) (p : UInt8 → Bool) (h : (l.takeWhile p).length < l.length) : p (l[(l.takeWhile p).length]) = false := by
  induction l with
  | nil => simp at h
  | cons c r ih =>
    by_cases hc : p c = true
    · have e : (List.takeWhile p (c :: r)).length = (List.takeWhile p r).length + 1 := by rw [List.takeWhile_cons, if_pos hc]; rfl
      have h' : (List.takeWhile p r).length < r.length := by rw [e] at h; simpa using h
      have := ih h'
      simp only [e, List.getElem_cons_succ]
      exact this
    · have e : (List.takeWhile p (c :: r)).length = 0 := by rw [List.takeWhile_cons, if_neg hc]; rfl
      simp only [e, List.getElem_cons_zero]
      simpa using hc
/-- a run of bytes at a text's head -/
structure Run (p : UInt8 → Bool) (s : ByteArray) (K : Nat) (T R : ByteArray) : Prop where
  le : K ≤ s.size
  eT : s.extract 0 K = T
  eR : s.extract K s.size = R
  lT : T.data.toList = s.data.toList.takeWhile p
  lR : R.data.toList = s.data.toList.dropWhile p
  zT : T.size = K
  zR : R.size = s.size - K
  yes : ∀ k (h : k < s.size), k < K → p s[k] = true
  no : ∀ (h : K < s.size), p s[K] = false
theorem run_of (p : UInt8 → Bool) (s : ByteArray) : ∃ T R, Run p s (s.data.toList.takeWhile p).length T R := by
  have hl := tw_len s.data.toList p
  rw [len_data] at hl
  refine ⟨_, _, hl, rfl, rfl, ?_, ?_, by simp; omega, by simp, fun k h hk => ?_, fun h => ?_⟩
  · rw [Lib.extract_data]; simp [tw_take]
  · rw [Lib.extract_data, tw_drop]
    exact List.take_of_length_le (by rw [← tw_drop]; simp)
  · exact tw_in s.data.toList p k hk (by simpa using h)
  · exact tw_out s.data.toList p (by simpa using h)

theorem joinW_bad {l : List UInt8} (h : kindJ (l.takeWhile joinB) (Lib.hasPrefix (l.dropWhile joinB) [40]) = 0) : joinW l = bad := by unfold joinW; rw [if_pos h]
theorem joinW_yes {l : List UInt8} (h : kindJ (l.takeWhile joinB) (Lib.hasPrefix (l.dropWhile joinB) [40]) ≠ 0) : joinW l = (kindJ (l.takeWhile joinB) (Lib.hasPrefix (l.dropWhile joinB) [40]), l.takeWhile joinB, (l.takeWhile joinB).length) := by unfold joinW; rw [if_neg h]

set_option maxHeartbeats 4000000 in
theorem joined_walk (s T R : ByteArray) (K kk : Nat) (b : Bool) (w : World) (hs : s.size ≤ 1000000) (hr : Run joinB s K T R)
    (HP : Hid (∀ W, Calls Tryd.prog 23 #[.string R, .string ⟨#[40]⟩] W fun e w' => e = .returned (.bool b) ∧ w' = W))
    (HK : Hid (∀ W, Q w W → Calls Tryd.prog 28 #[.string T, .bool b] W fun e w' => e = .returned (.int .i64 (kk : Int)) ∧ Q W w'))
    (HC : Hid (∀ W, Calls Tryd.prog 29 #[.string T] W fun e w' => e = .returned (.string T) ∧ Q W w'))
    (hw : joinW s.data.toList = if kk = 0 then bad else (kk, T.data.toList, K)) :
    Calls Tryd.prog 15 #[.string s] w fun e w' => e = .returned (wv (joinW s.data.toList)) ∧ Q w w' := by
  obtain ⟨le, eT, eR, lT, lR, zT, zR, yes, no⟩ := hr
  have HY := hid yes
  have HN := hid no
  have HW := hid hw
  generalize joinW s.data.toList = jw at HW ⊢
  clear yes no hw lT lR
  have hKi : (K : Int) ≤ (s.size : Int) := by omega
  go_enter Tryd.func15, Tryd.ntmps15
  go_wp2
  go_loop [5] (fun i => ∃ k : Nat, k ≤ K ∧ i = .int .i64 k) (fun i => s.size - (intOf i).toNat)
  case atStart => exact ⟨0, Nat.zero_le _, rfl⟩
  case round =>
    obtain ⟨k, hk, rfl⟩ := hrel
    by_cases hlt : k < K
    · have hb : joinB s[k] = true := HY.out k (by omega) hlt
      have HJ := hid (fun W => joins_any s[k] W)
      rw [hb] at HJ
      go_wp2_with (go_at_call 14; refine (HJ.out _).mono ?_; rintro e w1 ⟨rfl, h1⟩; replace h1 := h1.symm; subst h1)
      go_round
      case rel => exact ⟨k + 1, by omega, by go_num⟩
      case measure => simp [intOf]; omega
    · have e : k = K := by omega
      subst e
      clear hk hlt
      cases hz : (kk == 0)
      · have hz' : ((kk : Int) == 0) = false := by rw [beq_eq_false_iff_ne] at hz ⊢; omega
        have HW2 : Hid (jw = (kk, T.data.toList, k)) := by show _ = _; rw [HW.out, if_neg (by simpa using hz)]
        clear HW hz
        by_cases hend : k < s.size
        · have HJ := hid (fun W => joins_any s[k] W)
          rw [HN.out hend] at HJ
          go_wp2_with (go_at_call 14; refine (HJ.out _).mono ?_; rintro e w1 ⟨rfl, h1⟩; replace h1 := h1.symm; subst h1)
          go_region_held3 (fun W => True) (trivial)
            (first
              | (go_at_call 23; refine (HP.out _).mono ?_; rintro e w4 ⟨rfl, h4⟩; replace h4 := h4.symm; subst h4)
              | (go_at_call 28; refine (HK.out _ (by repeat (first | exact Q.refl _ | refine Q.drewN ?_ _ | refine Q.drew ?_))).mono ?_; rintro e w2 ⟨rfl, q2⟩; have Q2 := hid ((show Q _ _ by repeat (first | exact Q.refl _ | refine Q.drewN ?_ _ | refine Q.drew ?_) : Q w _).trans q2); clear q2))
          go_wp2_with (go_at_call 29; refine (HC.out _).mono ?_; rintro e w3 ⟨rfl, q3⟩; have Q3 := hid q3; clear q3)
          go_ret3
          exact ⟨ret_wv (by rw [HW2.out]) (by rw [HW2.out]) (by rw [HW2.out]), Q2.out.trans Q3.out⟩
        · go_wp2_with fail
          go_region_held3 (fun W => True) (trivial)
            (first
              | (go_at_call 23; refine (HP.out _).mono ?_; rintro e w4 ⟨rfl, h4⟩; replace h4 := h4.symm; subst h4)
              | (go_at_call 28; refine (HK.out _ (by repeat (first | exact Q.refl _ | refine Q.drewN ?_ _ | refine Q.drew ?_))).mono ?_; rintro e w2 ⟨rfl, q2⟩; have Q2 := hid ((show Q _ _ by repeat (first | exact Q.refl _ | refine Q.drewN ?_ _ | refine Q.drew ?_) : Q w _).trans q2); clear q2))
          go_wp2_with (go_at_call 29; refine (HC.out _).mono ?_; rintro e w3 ⟨rfl, q3⟩; have Q3 := hid q3; clear q3)
          go_ret3
          exact ⟨ret_wv (by rw [HW2.out]) (by rw [HW2.out]) (by rw [HW2.out]), Q2.out.trans Q3.out⟩
      · have hz' : ((kk : Int) == 0) = true := by rw [beq_iff_eq] at hz ⊢; omega
        have HW2 : Hid (jw = bad) := by show _ = _; rw [HW.out, if_pos (by simpa using hz)]
        clear HW hz
        by_cases hend : k < s.size
        · have HJ := hid (fun W => joins_any s[k] W)
          rw [HN.out hend] at HJ
          go_wp2_with (go_at_call 14; refine (HJ.out _).mono ?_; rintro e w1 ⟨rfl, h1⟩; replace h1 := h1.symm; subst h1)
          go_region_held3 (fun W => True) (trivial)
            (first
              | (go_at_call 23; refine (HP.out _).mono ?_; rintro e w4 ⟨rfl, h4⟩; replace h4 := h4.symm; subst h4)
              | (go_at_call 28; refine (HK.out _ (by repeat (first | exact Q.refl _ | refine Q.drewN ?_ _ | refine Q.drew ?_))).mono ?_; rintro e w2 ⟨rfl, q2⟩; have Q2 := hid ((show Q _ _ by repeat (first | exact Q.refl _ | refine Q.drewN ?_ _ | refine Q.drew ?_) : Q w _).trans q2); clear q2))
          go_wp2_with fail
          go_ret3
          exact ⟨ret_bad HW2.out, Q2.out⟩
        · go_wp2_with fail
          go_region_held3 (fun W => True) (trivial)
            (first
              | (go_at_call 23; refine (HP.out _).mono ?_; rintro e w4 ⟨rfl, h4⟩; replace h4 := h4.symm; subst h4)
              | (go_at_call 28; refine (HK.out _ (by repeat (first | exact Q.refl _ | refine Q.drewN ?_ _ | refine Q.drew ?_))).mono ?_; rintro e w2 ⟨rfl, q2⟩; have Q2 := hid ((show Q _ _ by repeat (first | exact Q.refl _ | refine Q.drewN ?_ _ | refine Q.drew ?_) : Q w _).trans q2); clear q2))
          go_wp2_with fail
          go_ret3
          exact ⟨ret_bad HW2.out, Q2.out⟩

theorem joined_any (s : ByteArray) (w : World) (hw : Std w) (hs : s.size ≤ 1000000) :
    Calls Tryd.prog 15 #[.string s] w fun e w' => e = .returned (wv (joinW s.data.toList)) ∧ Q w w' := by
  obtain ⟨T, R, hr⟩ := run_of joinB s
  have hz := hr.zT
  have hl := hr.le
  refine joined_walk s T R _ (kindJ (s.data.toList.takeWhile joinB) (Lib.hasPrefix (s.data.toList.dropWhile joinB) [40])) (Lib.hasPrefix (s.data.toList.dropWhile joinB) [40]) w hs hr (hid fun W => ?_) (hid fun W q => ?_) (hid fun W => clone_any T W (by omega)) ?_
  · have := Tryd.strings_HasPrefix R ⟨#[40]⟩ W
    rw [hr.lR] at this
    exact this
  · have := kindOf_any T (Lib.hasPrefix (s.data.toList.dropWhile joinB) [40]) W (hw.on q) (by omega)
    rw [hr.lT] at this
    exact this
  · rw [hr.lT]; rfl
end Go.Proofs.YtkipbcimjmialaaDoor
