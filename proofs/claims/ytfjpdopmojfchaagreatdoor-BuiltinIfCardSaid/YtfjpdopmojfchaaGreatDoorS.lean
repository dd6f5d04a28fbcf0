/- fixnum.Parse: any text is read as a number, or refused. -/
import Derived.Test.YtfjpdopmojfchaaGreatDoorR
import Derived.Test.YtfjpdopmojfchaaGreatDoorG
namespace Go.Proofs.YtfjpdopmojfchaaGreatDoor
open Go.RowKit
theorem headD_get (s : ByteArray) (h : 0 < s.size) : s.data.toList.headD 0 = s[0] := by
  have h' : 0 < s.data.toList.length := by simpa using h
  have e : s[0] = s.data.toList[0]'h' := rfl
  rw [e, List.headD_eq_head?_getD, List.head?_eq_getElem?, List.getElem?_eq_getElem h']
  rfl
set_option maxHeartbeats 400000 in
theorem isWhole_any (s : ByteArray) (w : World) (hs : s.size ≤ 9223372036854775807) :
    Calls Tryz.prog 152 #[.string s] w fun e w' => e = .returned (.bool (wholeB s.data.toList)) ∧ w' = w := by
  have et := hid (Lib.toList_data s)
  by_cases h1 : s.toList = [48]
  · have hW : Hid (wholeB s.data.toList = true) := by show _ = _; rw [← et.out, h1]; rfl
    go_enter Tryz.func152, Tryz.ntmps152
    go_wp2_with (go_at_call 167; refine (allDigits_any s _ hs).mono ?_; rintro e w' ⟨rfl, rfl⟩)
    go_ret
    exact ⟨ret_bool hW.out.symm, rfl⟩
  · have n1 : (s.toList == [48]) = false := by simpa using h1
    by_cases h2 : s.toList = []
    · have hW : Hid (wholeB s.data.toList = false) := by show _ = _; rw [← et.out, h2]; rfl
      go_enter Tryz.func152, Tryz.ntmps152
      go_wp2_with (go_at_call 167; refine (allDigits_any s _ hs).mono ?_; rintro e w' ⟨rfl, rfl⟩)
      go_ret
      exact ⟨ret_bool hW.out.symm, rfl⟩
    · have hp : 0 < s.size := by
        rcases Nat.eq_zero_or_pos s.size with h | h
        · exfalso; apply h2; rw [et.out]; apply List.eq_nil_of_length_eq_zero; simpa using h
        · exact h
      have hE : (s.toList.isEmpty) = false := by simpa using h2
      have hh := hid (headD_get s hp)
      by_cases h3 : s[0] = 48
      · have hW : Hid (wholeB s.data.toList = false) := by
          show _ = _
          unfold wholeB
          rw [hh.out, h3, ← et.out, n1]
          simp
        have h4 : ((s[0].toNat : Int) != 48) = false := by rw [h3]; rfl
        clear h3
        go_enter Tryz.func152, Tryz.ntmps152
        go_wp2_with (go_at_call 167; refine (allDigits_any s _ hs).mono ?_; rintro e w' ⟨rfl, rfl⟩)
        go_ret
        exact ⟨ret_bool hW.out.symm, rfl⟩
      · have hW : Hid (allD s.data.toList = wholeB s.data.toList) := by
          show _ = _
          unfold wholeB
          rw [hh.out, ← et.out, n1, hE]
          simp [h3]
        have h4 : ((s[0].toNat : Int) != 48) = true := by
          rw [bne_iff_ne]
          intro h
          apply h3
          apply UInt8.toNat_inj.1
          show s[0].toNat = 48
          omega
        clear h3
        go_enter Tryz.func152, Tryz.ntmps152
        go_wp2_with (go_at_call 167; refine (allDigits_any s _ hs).mono ?_; rintro e w' ⟨rfl, rfl⟩)
        go_ret
        exact ⟨ret_bool hW.out, rfl⟩
set_option maxHeartbeats 400000 in
theorem isPart_any (s : ByteArray) (w : World) (hs : s.size ≤ 9223372036854775807) :
    Calls Tryz.prog 153 #[.string s] w fun e w' => e = .returned (.bool (partB s.data.toList)) ∧ w' = w := by
  have et := hid (Lib.toList_data s)
  have el := hid (Lib.size_eq s)
  by_cases h2 : s.toList = []
  · have hW : Hid (partB s.data.toList = false) := by show _ = _; rw [← et.out, h2]; rfl
    go_enter Tryz.func153, Tryz.ntmps153
    go_wp2_with (go_at_call 167; refine (allDigits_any s _ hs).mono ?_; rintro e w' ⟨rfl, rfl⟩)
    go_ret
    exact ⟨ret_bool hW.out.symm, rfl⟩
  · have hE : (s.toList.isEmpty) = false := by simpa using h2
    by_cases h3 : s.size ≤ 4
    · have hW : Hid (allD s.data.toList = partB s.data.toList) := by
        show _ = _
        unfold partB
        rw [← el.out, ← et.out, hE]
        simp [h3]
      go_enter Tryz.func153, Tryz.ntmps153
      go_wp2_with (go_at_call 167; refine (allDigits_any s _ hs).mono ?_; rintro e w' ⟨rfl, rfl⟩)
      go_ret
      exact ⟨ret_bool hW.out, rfl⟩
    · have hW : Hid (partB s.data.toList = false) := by
        show _ = _
        unfold partB
        rw [← el.out]
        simp [h3]
      go_enter Tryz.func153, Tryz.ntmps153
      go_wp2_with (go_at_call 167; refine (allDigits_any s _ hs).mono ?_; rintro e w' ⟨rfl, rfl⟩)
      go_ret
      exact ⟨ret_bool hW.out.symm, rfl⟩
theorem size_mk (l : List UInt8) : (⟨l.toArray⟩ : ByteArray).size = l.length := by simp [ByteArray.size]
theorem cut_le (t : List UInt8) : (Lib.cut t [46]).1.length + (Lib.cut t [46]).2.1.length ≤ t.length := by
  unfold Lib.cut
  split
  · simp only [List.length_take, List.length_drop, List.length_cons, List.length_nil]
    omega
  · simp
theorem cut_none (t : List UInt8) (h : (Lib.cut t [46]).2.2 = false) : (Lib.cut t [46]).2.1 = [] := by
  unfold Lib.cut at *
  split
  · rename_i g; rw [if_pos g] at h; cases h
  · rfl
theorem trimPrefix_len (l p : List UInt8) : (Lib.trimPrefix l p).length ≤ l.length := by
  unfold Lib.trimPrefix
  split
  · rw [List.length_drop]; omega
  · exact Nat.le_refl _
theorem sgn_huge {n : Nat} {neg : Bool} (h : 9223372036854775810 ≤ n) : fitB (sgn n neg) = false := by
  apply fitB_no
  cases neg
  · show (n : Int) < _ ∨ _ < (n : Int)
    omega
  · show -(n : Int) < _ ∨ _ < -(n : Int)
    omega
theorem allD_of_whole {l : List UInt8} (h : wholeB l = true) : allD l = true := by
  unfold wholeB at h
  rw [Bool.or_eq_true] at h
  rcases h with h | h
  · rw [eq_of_beq h]; rfl
  · rw [Bool.and_eq_true] at h; exact h.2
theorem zeros_ex (k : Nat) : ByteArray.extract ⟨#[48, 48, 48, 48]⟩ k 4 = ⟨([48, 48, 48, 48].drop k : List UInt8).toArray⟩ := by
  apply ByteArray.ext
  apply Array.ext'
  rw [Lib.extract_data]
  show List.take (4 - k) (List.drop k [48, 48, 48, 48]) = _
  rw [List.take_of_length_le (by simp)]
set_option maxHeartbeats 400000 in
/-- Parse where the part ahead of the point is none -/
theorem parse_no1 (s : ByteArray) (w : World) (t wl pl : List UInt8) (ng pt : Bool) (hl : wl.length ≤ 4294967281)
    (hP : Hid (Calls Tryz.prog 150 #[.string s, .string ⟨#[45]⟩] w fun e w' => e = .returned (.tuple #[.string ⟨t.toArray⟩, .bool ng]) ∧ w' = w))
    (hC : Hid (Calls Tryz.prog 151 #[.string ⟨t.toArray⟩, .string ⟨#[46]⟩] w fun e w' => e = .returned (.tuple #[.string ⟨wl.toArray⟩, .string ⟨pl.toArray⟩, .bool pt]) ∧ ∃ n, w' = w.drewN n))
    (hw : wholeB wl = false) :
    Calls Tryz.prog 140 #[.string s] w fun e w' => e = .returned (.tuple #[.int .i64 0, .bool false]) ∧ Q w w' := by
  have sw : (⟨wl.toArray⟩ : ByteArray).size ≤ 9223372036854775807 := by rw [size_mk]; omega
  have HW := hid (fun w => isWhole_any ⟨wl.toArray⟩ w sw)
  simp only [hw] at HW
  clear sw hw
  go_enter Tryz.func140, Tryz.ntmps140
  go_wp2_with (first | (go_at_call 150; refine hP.out.mono ?_; rintro e w1 ⟨rfl, rfl⟩) | (go_at_call 151; refine hC.out.mono ?_; rintro e w2 ⟨rfl, n, rfl⟩) | (go_at_call 152; refine (HW.out _).mono ?_; rintro e w3 ⟨rfl, rfl⟩))
  go_ret2
  exact ⟨rfl, (Q.refl _).drewN _⟩
set_option maxHeartbeats 400000 in
/-- Parse where the part behind the point is none -/
theorem parse_no2 (s : ByteArray) (w : World) (t wl pl : List UInt8) (ng : Bool) (hl : wl.length + pl.length ≤ 4294967281)
    (hP : Hid (Calls Tryz.prog 150 #[.string s, .string ⟨#[45]⟩] w fun e w' => e = .returned (.tuple #[.string ⟨t.toArray⟩, .bool ng]) ∧ w' = w))
    (hC : Hid (Calls Tryz.prog 151 #[.string ⟨t.toArray⟩, .string ⟨#[46]⟩] w fun e w' => e = .returned (.tuple #[.string ⟨wl.toArray⟩, .string ⟨pl.toArray⟩, .bool true]) ∧ ∃ n, w' = w.drewN n))
    (hw : wholeB wl = true) (hp : partB pl = false) :
    Calls Tryz.prog 140 #[.string s] w fun e w' => e = .returned (.tuple #[.int .i64 0, .bool false]) ∧ Q w w' := by
  have sw : (⟨wl.toArray⟩ : ByteArray).size ≤ 9223372036854775807 := by rw [size_mk]; omega
  have sp : (⟨pl.toArray⟩ : ByteArray).size ≤ 9223372036854775807 := by rw [size_mk]; omega
  have HW := hid (fun w => isWhole_any ⟨wl.toArray⟩ w sw)
  have HP := hid (fun w => isPart_any ⟨pl.toArray⟩ w sp)
  simp only [hw] at HW
  simp only [hp] at HP
  clear sw hw hp sp
  go_enter Tryz.func140, Tryz.ntmps140
  go_wp2_with (first | (go_at_call 150; refine hP.out.mono ?_; rintro e w1 ⟨rfl, rfl⟩) | (go_at_call 151; refine hC.out.mono ?_; rintro e w2 ⟨rfl, n, rfl⟩) | (go_at_call 152; refine (HW.out _).mono ?_; rintro e w3 ⟨rfl, rfl⟩) | (go_at_call 153; refine (HP.out _).mono ?_; rintro e w3 ⟨rfl, rfl⟩))
  go_ret2
  exact ⟨rfl, (Q.refl _).drewN _⟩
set_option maxHeartbeats 400000 in
/-- Parse where the form is one -/
theorem parse_yes (s : ByteArray) (w : World) (t wl pl : List UInt8) (ng pt : Bool) (hl : wl.length + pl.length ≤ 4294967281)
    (hP : Hid (Calls Tryz.prog 150 #[.string s, .string ⟨#[45]⟩] w fun e w' => e = .returned (.tuple #[.string ⟨t.toArray⟩, .bool ng]) ∧ w' = w))
    (hC : Hid (Calls Tryz.prog 151 #[.string ⟨t.toArray⟩, .string ⟨#[46]⟩] w fun e w' => e = .returned (.tuple #[.string ⟨wl.toArray⟩, .string ⟨pl.toArray⟩, .bool pt]) ∧ ∃ n, w' = w.drewN n))
    (hw : wholeB wl = true) (hp : pt = true → partB pl = true) (hd : allD pl = true) (h4 : pl.length ≤ 4) :
    Calls Tryz.prog 140 #[.string s] w fun e w' => e = .returned (.tuple #[.int .i64 (keep (sgn (val (wl ++ pl ++ [48, 48, 48, 48].drop pl.length)) ng)), .bool (fitB (sgn (val (wl ++ pl ++ [48, 48, 48, 48].drop pl.length)) ng))]) ∧ Q w w' := by
  have sw : (⟨wl.toArray⟩ : ByteArray).size ≤ 9223372036854775807 := by rw [size_mk]; omega
  have sp : (⟨pl.toArray⟩ : ByteArray).size ≤ 9223372036854775807 := by rw [size_mk]; omega
  have HW := hid (fun w => isWhole_any ⟨wl.toArray⟩ w sw)
  have HP := hid (fun w => isPart_any ⟨pl.toArray⟩ w sp)
  have hdw := allD_of_whole hw
  simp only [hw] at HW
  have eX := zeros_ex pl.length
  have zl4 : ([48, 48, 48, 48].drop pl.length : List UInt8).length ≤ 4 := by rw [List.length_drop]; simp
  have hdz : allD ([48, 48, 48, 48].drop pl.length) = true := by
    unfold allD
    rw [List.all_eq_true]
    intro x hx
    have := List.mem_of_mem_drop hx
    simp at this
    subst this
    rfl
  have hd3 : allD (wl ++ pl ++ [48, 48, 48, 48].drop pl.length) = true := by
    unfold allD at *
    rw [List.all_append, List.all_append, hdw, hd, hdz]
    rfl
  clear hdz hdw
  generalize ([48, 48, 48, 48].drop pl.length : List UInt8) = zl at *
  have eC : ((⟨wl.toArray⟩ : ByteArray) ++ ⟨pl.toArray⟩ ++ ⟨zl.toArray⟩).data.toList = wl ++ pl ++ zl := by rw [bytes_cat, bytes_cat]
  have sC : ((⟨wl.toArray⟩ : ByteArray) ++ ⟨pl.toArray⟩ ++ ⟨zl.toArray⟩).size ≤ 9223372036854775807 := by rw [bytes_cat, bytes_cat, size_mk, List.length_append, List.length_append]; omega
  have HR := hid (fun w => readDigits_any ((⟨wl.toArray⟩ : ByteArray) ++ ⟨pl.toArray⟩ ++ ⟨zl.toArray⟩) w sC (by rw [eC]; exact hd3))
  rw [eC] at HR
  clear sw hw hd sp eC sC hd3
  generalize val (wl ++ pl ++ zl) = V at *
  cases pt
  · clear hp HP
    go_enter Tryz.func140, Tryz.ntmps140
    go_wp2_with (first | (go_at_call 150; refine hP.out.mono ?_; rintro e w1 ⟨rfl, rfl⟩) | (go_at_call 151; refine hC.out.mono ?_; rintro e w2 ⟨rfl, n, rfl⟩) | (go_at_call 152; refine (HW.out _).mono ?_; rintro e w3 ⟨rfl, rfl⟩) | (go_at_call 154; refine (HR.out _).mono ?_; rintro e w3 ⟨⟨k, ok, rfl, k0, k1, k2, k3⟩, rfl⟩; have K2 := hid k2; have K3 := hid k3; clear k2 k3) | (go_at_call 143; refine (signed_any k ng _ k0 k1).mono ?_; rintro e w3 ⟨rfl, rfl⟩))
    · have hf := sgn_huge (neg := ng) (K3.out (by simpa using ‹(!ok) = true›))
      go_ret2
      exact ⟨ret_two (keep_no hf).symm hf.symm, (Q.refl _).drewN _⟩
    · have hk := K2.out (by simpa using ‹(!ok) = false›)
      go_ret2
      exact ⟨ret_two (congrArg (fun x => keep (sgn x ng)) hk) (congrArg (fun x => fitB (sgn x ng)) hk), (Q.refl _).drewN _⟩
  · have hp' := hp rfl
    simp only [hp'] at HP
    clear hp hp'
    go_enter Tryz.func140, Tryz.ntmps140
    go_wp2_with (first | (go_at_call 150; refine hP.out.mono ?_; rintro e w1 ⟨rfl, rfl⟩) | (go_at_call 151; refine hC.out.mono ?_; rintro e w2 ⟨rfl, n, rfl⟩) | (go_at_call 152; refine (HW.out _).mono ?_; rintro e w3 ⟨rfl, rfl⟩) | (go_at_call 153; refine (HP.out _).mono ?_; rintro e w3 ⟨rfl, rfl⟩) | (go_at_call 154; refine (HR.out _).mono ?_; rintro e w3 ⟨⟨k, ok, rfl, k0, k1, k2, k3⟩, rfl⟩; have K2 := hid k2; have K3 := hid k3; clear k2 k3) | (go_at_call 143; refine (signed_any k ng _ k0 k1).mono ?_; rintro e w3 ⟨rfl, rfl⟩))
    · have hf := sgn_huge (neg := ng) (K3.out (by simpa using ‹(!ok) = true›))
      go_ret2
      exact ⟨ret_two (keep_no hf).symm hf.symm, (Q.refl _).drewN _⟩
    · have hk := K2.out (by simpa using ‹(!ok) = false›)
      go_ret2
      exact ⟨ret_two (congrArg (fun x => keep (sgn x ng)) hk) (congrArg (fun x => fitB (sgn x ng)) hk), (Q.refl _).drewN _⟩
theorem parse_any (s : ByteArray) (w : World) (hw : Std w) (hs : s.size < 4294967281) :
    Calls Tryz.prog 140 #[.string s] w fun e w' => e = .returned (.tuple #[.int .i64 (pk (parseO s.data.toList)), .bool (pf (parseO s.data.toList))]) ∧ Q w w' := by
  obtain ⟨m, hm⟩ := hw.len
  have hP := hid (Tryz.strings_CutPrefix s ⟨#[45]⟩ w)
  have ht := trimPrefix_len s.data.toList [45]
  have hl := Lib.size_eq s
  have hC := hid (Tryz.strings_Cut ⟨(Lib.trimPrefix s.data.toList [45]).toArray⟩ ⟨#[46]⟩ m w (by rw [size_mk]; omega) hm)
  have hc := cut_le (Lib.trimPrefix s.data.toList [45])
  have hn := cut_none (Lib.trimPrefix s.data.toList [45])
  unfold parseO
  generalize Lib.hasPrefix s.data.toList [45] = ng at *
  generalize Lib.trimPrefix s.data.toList [45] = t at *
  generalize (Lib.cut t [46]).1 = wl at *
  generalize (Lib.cut t [46]).2.1 = pl at *
  generalize (Lib.cut t [46]).2.2 = pt at *
  by_cases hw : wholeB wl = true
  · by_cases hp : pt = true → partB pl = true
    · have hcond : (wholeB wl && (!pt || partB pl)) = true := by
        rw [hw]
        cases pt
        · rfl
        · simpa using hp rfl
      rw [if_pos hcond]
      have h2 : allD pl = true ∧ pl.length ≤ 4 := by
        cases pt
        · rw [hn rfl]; exact ⟨rfl, by simp⟩
        · have := hp rfl
          unfold partB at this
          simp only [Bool.and_eq_true, decide_eq_true_eq] at this
          exact ⟨this.2, this.1.2⟩
      exact parse_yes s w t wl pl ng pt (by omega) hP hC hw hp h2.1 h2.2
    · have hpt : pt = true := by
        cases pt
        · exact absurd (fun h => by cases h) hp
        · rfl
      subst hpt
      have hpf : partB pl = false := by
        cases h : partB pl
        · rfl
        · exact absurd (fun _ => h) hp
      rw [if_neg (by simp [hpf])]
      exact parse_no2 s w t wl pl ng (by omega) hP hC hw hpf
  · have hw' : wholeB wl = false := by simpa using hw
    rw [if_neg (by simp [hw'])]
    exact parse_no1 s w t wl pl ng pt (by omega) hP hC hw'
end Go.Proofs.YtfjpdopmojfchaaGreatDoor
