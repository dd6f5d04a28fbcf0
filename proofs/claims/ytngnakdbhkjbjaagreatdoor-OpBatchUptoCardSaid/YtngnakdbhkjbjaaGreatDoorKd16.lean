/- a1.leading, number, mayLine, s. -/
import Derived.Test.YtngnakdbhkjbjaaGreatDoorKd00
set_option linter.unusedVariables false
set_option linter.unusedSimpArgs false
set_option maxRecDepth 100000
set_option maxHeartbeats 8000000
namespace Go.Proofs.YtngnakdbhkjbjaaGreatDoor
open Go.RowKit
theorem numF_zero {l : List UInt8} {m : Nat} (h : l.headD 0 = 48) (h1 : 1 < l.length) : numF l m = false := by
  unfold numF
  rw [h, decide_eq_true h1]
  simp
theorem numF_nodig {l : List UInt8} {m : Nat} (h : allD l = false) : numF l m = false := by
  unfold numF
  rw [h]
  simp
theorem numF_great {l : List UInt8} {m : Nat} (h : m < val l) : numF l m = false := by
  unfold numF
  rw [decide_eq_false (show ¬ val l ≤ m by omega)]
  simp
theorem numF_yes {l : List UInt8} {m : Nat} (h0 : l ≠ []) (h1 : ¬ (l.headD 0 = 48 ∧ 1 < l.length)) (h2 : allD l = true) (h3 : val l ≤ m) : numF l m = true := by
  unfold numF
  rw [h2, decide_eq_true h3]
  have e0 : l.isEmpty = false := by cases l; exact absurd rfl h0; rfl
  have e1 : (l.headD 0 == 48 && decide (1 < l.length)) = false := by
    rw [Bool.and_eq_false_iff]
    by_cases h : l.headD 0 = 48
    · exact .inr (decide_eq_false fun g => h1 ⟨h, g⟩)
    · exact .inl (beq_eq_false_iff_ne.2 h)
  rw [e0, e1]
  rfl
theorem allD_no (s : ByteArray) (k : Nat) (h : k < s.size) (hd : dig s[k] = false) : allD s.data.toList = false := by
  unfold allD
  rw [List.all_eq_false]
  exact ⟨s[k], get_mem s k h, by simp [hd]⟩
theorem byte_ne {c : UInt8} {n : Nat} (hn : n < 256) (h : c ≠ UInt8.ofNat n) : ((c.toNat : Int) == (n : Int)) = false := by
  rw [beq_eq_false_iff_ne]
  intro e
  apply h
  apply UInt8.toNat_inj.1
  have : (UInt8.ofNat n).toNat = n % 256 := UInt8.toNat_ofNat'
  rw [this]
  omega
theorem ne_of_pos {s : ByteArray} (h : 0 < s.size) : s.data.toList ≠ [] := fun e => by
  have h1 := congrArg List.length e
  rw [len_data, List.length_nil] at h1
  omega
theorem toList_ne {s : ByteArray} (h : 0 < s.size) : (s.toList == []) = false := by
  rw [Lib.toList_data, beq_eq_false_iff_ne]
  exact ne_of_pos h
set_option maxHeartbeats 1000000 in
theorem number_any (s : ByteArray) (m : Nat) (M : Int) (w : World) (hM : Hid (M = (m : Int))) (M0 : 0 ≤ M) (M1 : M ≤ 2199023255552) (hs : s.size ≤ 9223372036854775807) :
    Calls Tryz.prog 58 #[.string s, .int .i64 M] w fun e w' => e = .returned (.tuple #[.int .i64 (numK s.data.toList m), .bool (numF s.data.toList m)]) ∧ w' = w := by
  have HF : ∀ b : Bool, numF s.data.toList m = b → Hid (numF s.data.toList m = b ∧ numK s.data.toList m = if b then (val s.data.toList : Int) else 0) := by
    intro b e
    exact ⟨e, by unfold numK; rw [e]⟩
  have et := hid (Lib.toList_data s)
  by_cases h0 : s.size = 0
  · have e0 : s.toList = [] := by rw [Lib.toList_data]; exact List.eq_nil_of_length_eq_zero (by rw [len_data]; exact h0)
    have hF := HF false (by rw [← et.out, e0]; rfl)
    clear h0
    go_enter Tryz.func58, Tryz.ntmps58
    go_wp2
    go_ret2
    exact ⟨by rw [hF.out.1, hF.out.2]; rfl, rfl⟩
  · have hp : 0 < s.size := by omega
    have e0 := toList_ne hp
    have hh := hid (headD_get s hp)
    by_cases hz : s[0] = 48 ∧ 1 < s.size
    · have hF := HF false (numF_zero (by rw [hh.out]; exact hz.1) (by rw [len_data]; exact hz.2))
      have hc : (s[0].toNat : Int) = 48 := by rw [hz.1]; rfl
      have h1 := hz.2
      clear hz h0
      go_enter Tryz.func58, Tryz.ntmps58
      go_wp2
      go_ret2
      exact ⟨by rw [hF.out.1, hF.out.2]; rfl, rfl⟩
    · have HZ : Hid (¬ (s.data.toList.headD 0 = 48 ∧ 1 < s.data.toList.length)) := by
        show ¬ _
        rw [hh.out, len_data]
        exact hz
      have hc : ((s[0].toNat : Int) == 48) = false ∨ ((s[0].toNat : Int) = 48 ∧ ¬ 1 < (s.size : Int)) := by
        by_cases h : s[0] = 48
        · exact .inr ⟨by rw [h]; rfl, fun g => hz ⟨h, by omega⟩⟩
        · exact .inl (byte_ne (n := 48) (by omega) h)
      clear hz h0
      rcases hc with hc | ⟨hc, h1⟩
      · go_enter Tryz.func58, Tryz.ntmps58
        go_wp2
        go_loop [6, 22] (fun a i => ∃ (k : Nat) (n : Int), k ≤ s.size ∧ i = .int .i64 k ∧ a = .int .i64 n ∧ 0 ≤ n ∧ n ≤ M ∧ Hid (allD (s.data.toList.take k) = true ∧ n = (val (s.data.toList.take k) : Int))) (fun _ i => s.size - (intOf i).toNat)
        case atStart => exact ⟨0, 0, Nat.zero_le _, rfl, rfl, by omega, by omega, rfl, rfl⟩
        case round =>
          obtain ⟨k, n, hk, rfl, rfl, n0, n1, hn⟩ := hrel
          by_cases hlt : k < s.size
          · by_cases hd : dig s[k] = true
            · have b0 : 48 ≤ (s[k].toNat : Int) := by unfold dig at hd; simp at hd; omega
              have b1 : (s[k].toNat : Int) ≤ 57 := by unfold dig at hd; simp at hd; omega
              have hv : Hid (allD (s.data.toList.take (k + 1)) = true ∧ (val (s.data.toList.take (k + 1)) : Int) = n * 10 + ((s[k].toNat : Int) - 48)) := by
                have := hn.out
                refine ⟨?_, ?_⟩
                · rw [take_snoc s k hlt, allD_app, this.1]
                  unfold allD
                  simp [hd]
                · rw [take_snoc s k hlt, val_snoc, this.2]
                  omega
              clear hd
              by_cases hb : M < n * 10 + ((s[k].toNat : Int) - 48)
              · have hF := HF false (numF_great (by
                  have h1 := val_ge (s.data.toList.take (k + 1)) (s.data.toList.drop (k + 1))
                  rw [List.take_append_drop] at h1
                  have h2 := hv.out.2
                  have h3 := hM.out
                  omega))
                go_wp2
                go_ret2
                exact ⟨by rw [hF.out.1, hF.out.2]; rfl, rfl⟩
              · go_wp2
                go_round
                case rel => exact ⟨k + 1, n * 10 + ((s[k].toNat : Int) - 48), by omega, by go_num, rfl, by omega, by omega, hv.out.1, hv.out.2.symm⟩
                case measure => simp [intOf]; omega
            · have hF := HF false (numF_nodig (allD_no s k hlt (by simpa using hd)))
              by_cases b0 : (s[k].toNat : Int) < 48
              · clear hd
                go_wp2
                go_ret2
                exact ⟨by rw [hF.out.1, hF.out.2]; rfl, rfl⟩
              · have b1 : 57 < (s[k].toNat : Int) := by unfold dig at hd; simp at hd; omega
                clear hd
                go_wp2
                go_ret2
                exact ⟨by rw [hF.out.1, hF.out.2]; rfl, rfl⟩
          · have hN : Hid (allD s.data.toList = true ∧ n = (val s.data.toList : Int)) := by have := hn.out; rw [take_all s k (by omega)] at this; exact this
            have hF := HF true (numF_yes (ne_of_pos hp) HZ.out hN.out.1 (by have := hN.out.2; have := hM.out; omega))
            go_wp2
            go_ret2
            exact ⟨by rw [hF.out.1, hF.out.2, hN.out.2]; rfl, rfl⟩
      · go_enter Tryz.func58, Tryz.ntmps58
        go_wp2
        go_loop [6, 22] (fun a i => ∃ (k : Nat) (n : Int), k ≤ s.size ∧ i = .int .i64 k ∧ a = .int .i64 n ∧ 0 ≤ n ∧ n ≤ M ∧ Hid (allD (s.data.toList.take k) = true ∧ n = (val (s.data.toList.take k) : Int))) (fun _ i => s.size - (intOf i).toNat)
        case atStart => exact ⟨0, 0, Nat.zero_le _, rfl, rfl, by omega, by omega, rfl, rfl⟩
        case round =>
          obtain ⟨k, n, hk, rfl, rfl, n0, n1, hn⟩ := hrel
          by_cases hlt : k < s.size
          · by_cases hd : dig s[k] = true
            · have b0 : 48 ≤ (s[k].toNat : Int) := by unfold dig at hd; simp at hd; omega
              have b1 : (s[k].toNat : Int) ≤ 57 := by unfold dig at hd; simp at hd; omega
              have hv : Hid (allD (s.data.toList.take (k + 1)) = true ∧ (val (s.data.toList.take (k + 1)) : Int) = n * 10 + ((s[k].toNat : Int) - 48)) := by
                have := hn.out
                refine ⟨?_, ?_⟩
                · rw [take_snoc s k hlt, allD_app, this.1]
                  unfold allD
                  simp [hd]
                · rw [take_snoc s k hlt, val_snoc, this.2]
                  omega
              clear hd
              by_cases hb : M < n * 10 + ((s[k].toNat : Int) - 48)
              · have hF := HF false (numF_great (by
                  have h1 := val_ge (s.data.toList.take (k + 1)) (s.data.toList.drop (k + 1))
                  rw [List.take_append_drop] at h1
                  have h2 := hv.out.2
                  have h3 := hM.out
                  omega))
                go_wp2
                go_ret2
                exact ⟨by rw [hF.out.1, hF.out.2]; rfl, rfl⟩
              · go_wp2
                go_round
                case rel => exact ⟨k + 1, n * 10 + ((s[k].toNat : Int) - 48), by omega, by go_num, rfl, by omega, by omega, hv.out.1, hv.out.2.symm⟩
                case measure => simp [intOf]; omega
            · have hF := HF false (numF_nodig (allD_no s k hlt (by simpa using hd)))
              by_cases b0 : (s[k].toNat : Int) < 48
              · clear hd
                go_wp2
                go_ret2
                exact ⟨by rw [hF.out.1, hF.out.2]; rfl, rfl⟩
              · have b1 : 57 < (s[k].toNat : Int) := by unfold dig at hd; simp at hd; omega
                clear hd
                go_wp2
                go_ret2
                exact ⟨by rw [hF.out.1, hF.out.2]; rfl, rfl⟩
          · have hN : Hid (allD s.data.toList = true ∧ n = (val s.data.toList : Int)) := by have := hn.out; rw [take_all s k (by omega)] at this; exact this
            have hF := HF true (numF_yes (ne_of_pos hp) HZ.out hN.out.1 (by have := hN.out.2; have := hM.out; omega))
            go_wp2
            go_ret2
            exact ⟨by rw [hF.out.1, hF.out.2, hN.out.2]; rfl, rfl⟩
set_option maxHeartbeats 1000000 in
theorem owner_any (s : ByteArray) (w : World) (hw : Std w) (hs : s.size < 4294967281) :
    Calls Tryz.prog 38 #[.string s] w fun e w' => e = .returned (.int .i64 (ownK s.data.toList)) ∧ Q w w' := by
  have hl := Lib.trimPrefix_le s.data.toList [99]
  rw [len_data] at hl
  have HO : Hid (ownK s.data.toList = if Lib.hasPrefix s.data.toList [99] then ownP (Lib.cut (Lib.trimPrefix s.data.toList [99]) [110]) else -1) := rfl
  have HP : Hid (∀ W, Calls Tryz.prog 56 #[.string s, .string ⟨#[99]⟩] W fun e w' => e = .returned (.tuple #[.string ⟨(Lib.trimPrefix s.data.toList [99]).toArray⟩, .bool (Lib.hasPrefix s.data.toList [99])]) ∧ w' = W) := fun W => Tryz.strings_CutPrefix s ⟨#[99]⟩ W
  generalize Lib.trimPrefix s.data.toList [99] = t at *
  generalize Lib.hasPrefix s.data.toList [99] = ng at *
  have HC : Hid (∀ W, Q w W → Calls Tryz.prog 57 #[.string ⟨t.toArray⟩, .string ⟨#[110]⟩] W fun e w' => e = .returned (.tuple #[.string ⟨(Lib.cut t [110]).1.toArray⟩, .string ⟨(Lib.cut t [110]).2.1.toArray⟩, .bool (Lib.cut t [110]).2.2]) ∧ ∃ n, w' = W.drewN n) := by
    intro W q
    obtain ⟨m, hm⟩ := (hw.on q).len
    exact Tryz.strings_Cut ⟨t.toArray⟩ ⟨#[110]⟩ m W (by rw [size_mk]; omega) hm
  have hcl := cut_le 110 t
  generalize Lib.cut t [110] = p at *
  obtain ⟨a, b, f⟩ := p
  simp only at HC hcl
  have HA := hid (fun W => number_any ⟨a.toArray⟩ 15 15 W rfl (by omega) (by omega) (by rw [size_mk]; omega))
  have HB := hid (fun W => number_any ⟨b.toArray⟩ 999999 999999 W rfl (by omega) (by omega) (by rw [size_mk]; omega))
  simp only at HA HB
  unfold numK at HA HB
  generalize (⟨a.toArray⟩ : ByteArray) = A at *
  generalize (⟨b.toArray⟩ : ByteArray) = B at *
  generalize (⟨t.toArray⟩ : ByteArray) = T at *
  unfold ownP at HO
  simp only at HO
  generalize numF a 15 = fa at *
  generalize numF b 999999 = fb at *
  generalize ((val a : Nat) : Int) = va at *
  generalize ((val b : Nat) : Int) = vb at *
  clear hs hcl hl hw
  rcases ng with _ | _
  · go_enter Tryz.func38, Tryz.ntmps38
    go_wp2_with (first | (go_at_call 56; refine (HP.out _).mono ?_; rintro e w1 ⟨rfl, rfl⟩) | (go_at_call 57; refine (HC.out _ (Q.refl _)).mono ?_; rintro e w2 ⟨rfl, nn, rfl⟩) | (go_at_call_of 58 A; refine (HA.out _).mono ?_; rintro e w3 ⟨rfl, rfl⟩) | (go_at_call_of 58 B; refine (HB.out _).mono ?_; rintro e w4 ⟨rfl, rfl⟩))
    go_ret
    exact ⟨ret_int (by rw [HO.out]; rfl), Q.refl _⟩
  rcases f with _ | _
  · go_enter Tryz.func38, Tryz.ntmps38
    go_wp2_with (first | (go_at_call 56; refine (HP.out _).mono ?_; rintro e w1 ⟨rfl, rfl⟩) | (go_at_call 57; refine (HC.out _ (Q.refl _)).mono ?_; rintro e w2 ⟨rfl, nn, rfl⟩) | (go_at_call_of 58 A; refine (HA.out _).mono ?_; rintro e w3 ⟨rfl, rfl⟩) | (go_at_call_of 58 B; refine (HB.out _).mono ?_; rintro e w4 ⟨rfl, rfl⟩))
    go_ret
    exact ⟨ret_int (by rw [HO.out]; rfl), (Q.refl _).drewN _⟩
  rcases fa with _ | _ <;> rcases fb with _ | _
  · go_enter Tryz.func38, Tryz.ntmps38
    go_wp2_with (first | (go_at_call 56; refine (HP.out _).mono ?_; rintro e w1 ⟨rfl, rfl⟩) | (go_at_call 57; refine (HC.out _ (Q.refl _)).mono ?_; rintro e w2 ⟨rfl, nn, rfl⟩) | (go_at_call_of 58 A; refine (HA.out _).mono ?_; rintro e w3 ⟨rfl, rfl⟩) | (go_at_call_of 58 B; refine (HB.out _).mono ?_; rintro e w4 ⟨rfl, rfl⟩))
    go_ret
    exact ⟨ret_int (by rw [HO.out]; rfl), (Q.refl _).drewN _⟩
  · go_enter Tryz.func38, Tryz.ntmps38
    go_wp2_with (first | (go_at_call 56; refine (HP.out _).mono ?_; rintro e w1 ⟨rfl, rfl⟩) | (go_at_call 57; refine (HC.out _ (Q.refl _)).mono ?_; rintro e w2 ⟨rfl, nn, rfl⟩) | (go_at_call_of 58 A; refine (HA.out _).mono ?_; rintro e w3 ⟨rfl, rfl⟩) | (go_at_call_of 58 B; refine (HB.out _).mono ?_; rintro e w4 ⟨rfl, rfl⟩))
    go_ret
    exact ⟨ret_int (by rw [HO.out]; rfl), (Q.refl _).drewN _⟩
  · go_enter Tryz.func38, Tryz.ntmps38
    go_wp2_with (first | (go_at_call 56; refine (HP.out _).mono ?_; rintro e w1 ⟨rfl, rfl⟩) | (go_at_call 57; refine (HC.out _ (Q.refl _)).mono ?_; rintro e w2 ⟨rfl, nn, rfl⟩) | (go_at_call_of 58 A; refine (HA.out _).mono ?_; rintro e w3 ⟨rfl, rfl⟩) | (go_at_call_of 58 B; refine (HB.out _).mono ?_; rintro e w4 ⟨rfl, rfl⟩))
    go_ret
    exact ⟨ret_int (by rw [HO.out]; rfl), (Q.refl _).drewN _⟩
  · go_enter Tryz.func38, Tryz.ntmps38
    go_wp2_with (first | (go_at_call 56; refine (HP.out _).mono ?_; rintro e w1 ⟨rfl, rfl⟩) | (go_at_call 57; refine (HC.out _ (Q.refl _)).mono ?_; rintro e w2 ⟨rfl, nn, rfl⟩) | (go_at_call_of 58 A; refine (HA.out _).mono ?_; rintro e w3 ⟨rfl, rfl⟩) | (go_at_call_of 58 B; refine (HB.out _).mono ?_; rintro e w4 ⟨rfl, rfl⟩))
    go_ret
    exact ⟨ret_int (by rw [HO.out]; rfl), (Q.refl _).drewN _⟩
def idB (l : List UInt8) : Bool := decide (0 ≤ ownK l)
theorem id_any (s : ByteArray) (w : World) (hw : Std w) (hs : s.size < 4294967281) :
    Calls Tryz.prog 25 #[.string s] w fun e w' => e = .returned (.bool (idB s.data.toList)) ∧ Q w w' := by
  have HO := hid (owner_any s w hw hs)
  have HI : Hid (idB s.data.toList = decide (0 ≤ ownK s.data.toList)) := rfl
  generalize ownK s.data.toList = K at *
  clear hw hs
  go_enter Tryz.func25, Tryz.ntmps25
  go_wp2_with (go_at_call 38; refine HO.out.mono ?_; rintro e w1 ⟨rfl, q1⟩)
  go_ret
  exact ⟨ret_bool HI.out.symm, q1⟩
theorem allL_no (s : ByteArray) (k : Nat) (h : k < s.size) (hd : let1 s[k] = false) : allL s.data.toList = false := by
  unfold allL
  rw [List.all_eq_false]
  exact ⟨s[k], get_mem s k h, by simp [hd]⟩
theorem val_lt (l : List UInt8) (h : allD l = true) : val l + 1 ≤ 10 ^ l.length := by
  revert h
  refine rev_ind (P := fun l => allD l = true → val l + 1 ≤ 10 ^ l.length) (fun _ => by simp [val]) ?_ l
  · intro l c ih h
    rw [allD_app, Bool.and_eq_true] at h
    have h1 := ih h.1
    have h2 := allD_mem h.2 (c := c) (by simp)
    rw [val_snoc, List.length_append, List.length_singleton, Nat.pow_succ]
    omega
theorem val_fifteen (l : List UInt8) (h : allD l = true) (h9 : l.length ≤ 15) : val l ≤ 999999999999999 := by
  have h1 := val_lt l h
  have h2 : 10 ^ l.length ≤ 10 ^ 15 := Nat.pow_le_pow_right (by omega) h9
  omega
set_option maxHeartbeats 1000000 in
theorem num_any (s : ByteArray) (m : Nat) (M : Int) (w : World) (hM : Hid (M = (m : Int))) (M0 : 0 ≤ M) (M1 : M ≤ 2199023255552) (hs : s.size ≤ 9223372036854775807) :
    Calls Tryz.prog 59 #[.string s, .int .i64 M] w fun e w' => e = .returned (.int .i64 (numR s.data.toList m)) ∧ w' = w := by
  have HF : ∀ b : Bool, numF s.data.toList m = b → Hid (numR s.data.toList m = if b then (val s.data.toList : Int) else -1) := by
    intro b e
    show _ = _
    unfold numR
    rw [e]
  have et := hid (Lib.toList_data s)
  by_cases h0 : s.size = 0
  · have e0 : s.toList = [] := by rw [Lib.toList_data]; exact List.eq_nil_of_length_eq_zero (by rw [len_data]; exact h0)
    have hF := HF false (by rw [← et.out, e0]; rfl)
    have h1 : (s.size : Int) < 1 := by omega
    clear h0
    go_enter Tryz.func59, Tryz.ntmps59
    go_wp2
    go_ret
    exact ⟨ret_int (by rw [hF.out]; rfl), rfl⟩
  · have hp : 0 < s.size := by omega
    by_cases hg : 15 < s.size
    · have hF := HF false (numF_long _ _ (by rw [len_data]; exact hg) (by have := hM.out; omega))
      have h1 : ¬ (s.size : Int) < 1 := by omega
      clear h0
      go_enter Tryz.func59, Tryz.ntmps59
      go_wp2
      go_ret
      exact ⟨ret_int (by rw [hF.out]; rfl), rfl⟩
    have hh := hid (headD_get s hp)
    by_cases hz : s[0] = 48 ∧ 1 < s.size
    · have hF := HF false (numF_zero (by rw [hh.out]; exact hz.1) (by rw [len_data]; exact hz.2))
      have hc : (s[0].toNat : Int) = 48 := by rw [hz.1]; rfl
      have h1 := hz.2
      clear hz h0
      go_enter Tryz.func59, Tryz.ntmps59
      go_wp2
      go_ret
      exact ⟨ret_int (by rw [hF.out]; rfl), rfl⟩
    · have HZ : Hid (¬ (s.data.toList.headD 0 = 48 ∧ 1 < s.data.toList.length)) := by
        show ¬ _
        rw [hh.out, len_data]
        exact hz
      have hc : ((s[0].toNat : Int) == 48) = false ∨ ((s[0].toNat : Int) = 48 ∧ ¬ 1 < (s.size : Int)) := by
        by_cases h : s[0] = 48
        · exact .inr ⟨by rw [h]; rfl, fun g => hz ⟨h, by omega⟩⟩
        · exact .inl (byte_ne (n := 48) (by omega) h)
      clear hz h0
      rcases hc with hc | ⟨hc, h1⟩
      · go_enter Tryz.func59, Tryz.ntmps59
        go_wp2
        go_loop [5, 6] (fun a i => ∃ (k : Nat) (n : Int), k ≤ s.size ∧ i = .int .i64 k ∧ a = .int .i64 n ∧ 0 ≤ n ∧ n ≤ 999999999999999 ∧ Hid (allD (s.data.toList.take k) = true ∧ n = (val (s.data.toList.take k) : Int))) (fun _ i => s.size - (intOf i).toNat)
        case atStart => exact ⟨0, 0, Nat.zero_le _, rfl, rfl, by omega, by omega, rfl, rfl⟩
        case round =>
          obtain ⟨k, n, hk, rfl, rfl, n0, n1, hn⟩ := hrel
          by_cases hlt : k < s.size
          · by_cases hd : dig s[k] = true
            · have b0 : 48 ≤ (s[k].toNat : Int) := by unfold dig at hd; simp at hd; omega
              have b1 : (s[k].toNat : Int) ≤ 57 := by unfold dig at hd; simp at hd; omega
              have hv : Hid (allD (s.data.toList.take (k + 1)) = true ∧ (val (s.data.toList.take (k + 1)) : Int) = n * 10 + ((s[k].toNat : Int) - 48)) := by
                have := hn.out
                refine ⟨?_, ?_⟩
                · rw [take_snoc s k hlt, allD_app, this.1]
                  unfold allD
                  simp [hd]
                · rw [take_snoc s k hlt, val_snoc, this.2]
                  omega
              have hb := val_fifteen _ hv.out.1 (by rw [List.length_take]; omega)
              have hb' : n * 10 + ((s[k].toNat : Int) - 48) ≤ 999999999999999 := by have := hv.out.2; omega
              clear hd hb
              go_wp2
              go_round
              case rel => exact ⟨k + 1, n * 10 + ((s[k].toNat : Int) - 48), by omega, by go_num, by go_num, by omega, by omega, hv.out.1, hv.out.2.symm⟩
              case measure => simp [intOf]; omega
            · have hF := HF false (numF_nodig (allD_no s k hlt (by simpa using hd)))
              by_cases b0 : (s[k].toNat : Int) < 48
              · clear hd
                go_wp2
                go_ret
                exact ⟨ret_int (by rw [hF.out]; rfl), rfl⟩
              · have b1 : 57 < (s[k].toNat : Int) := by unfold dig at hd; simp at hd; omega
                clear hd
                go_wp2
                go_ret
                exact ⟨ret_int (by rw [hF.out]; rfl), rfl⟩
          · have hN : Hid (allD s.data.toList = true ∧ n = (val s.data.toList : Int)) := by have := hn.out; rw [take_all s k (by omega)] at this; exact this
            by_cases hb : M < n
            · have hF := HF false (numF_great (by have := hN.out.2; have := hM.out; omega))
              go_wp2
              go_ret
              exact ⟨ret_int (by rw [hF.out]; rfl), rfl⟩
            · have hF := HF true (numF_yes (ne_of_pos hp) HZ.out hN.out.1 (by have := hN.out.2; have := hM.out; omega))
              go_wp2
              go_ret
              exact ⟨ret_int (by rw [hF.out, hN.out.2]; rfl), rfl⟩
      · go_enter Tryz.func59, Tryz.ntmps59
        go_wp2
        go_loop [5, 6] (fun a i => ∃ (k : Nat) (n : Int), k ≤ s.size ∧ i = .int .i64 k ∧ a = .int .i64 n ∧ 0 ≤ n ∧ n ≤ 999999999999999 ∧ Hid (allD (s.data.toList.take k) = true ∧ n = (val (s.data.toList.take k) : Int))) (fun _ i => s.size - (intOf i).toNat)
        case atStart => exact ⟨0, 0, Nat.zero_le _, rfl, rfl, by omega, by omega, rfl, rfl⟩
        case round =>
          obtain ⟨k, n, hk, rfl, rfl, n0, n1, hn⟩ := hrel
          by_cases hlt : k < s.size
          · by_cases hd : dig s[k] = true
            · have b0 : 48 ≤ (s[k].toNat : Int) := by unfold dig at hd; simp at hd; omega
              have b1 : (s[k].toNat : Int) ≤ 57 := by unfold dig at hd; simp at hd; omega
              have hv : Hid (allD (s.data.toList.take (k + 1)) = true ∧ (val (s.data.toList.take (k + 1)) : Int) = n * 10 + ((s[k].toNat : Int) - 48)) := by
                have := hn.out
                refine ⟨?_, ?_⟩
                · rw [take_snoc s k hlt, allD_app, this.1]
                  unfold allD
                  simp [hd]
                · rw [take_snoc s k hlt, val_snoc, this.2]
                  omega
              have hb := val_fifteen _ hv.out.1 (by rw [List.length_take]; omega)
              have hb' : n * 10 + ((s[k].toNat : Int) - 48) ≤ 999999999999999 := by have := hv.out.2; omega
              clear hd hb
              go_wp2
              go_round
              case rel => exact ⟨k + 1, n * 10 + ((s[k].toNat : Int) - 48), by omega, by go_num, by go_num, by omega, by omega, hv.out.1, hv.out.2.symm⟩
              case measure => simp [intOf]; omega
            · have hF := HF false (numF_nodig (allD_no s k hlt (by simpa using hd)))
              by_cases b0 : (s[k].toNat : Int) < 48
              · clear hd
                go_wp2
                go_ret
                exact ⟨ret_int (by rw [hF.out]; rfl), rfl⟩
              · have b1 : 57 < (s[k].toNat : Int) := by unfold dig at hd; simp at hd; omega
                clear hd
                go_wp2
                go_ret
                exact ⟨ret_int (by rw [hF.out]; rfl), rfl⟩
          · have hN : Hid (allD s.data.toList = true ∧ n = (val s.data.toList : Int)) := by have := hn.out; rw [take_all s k (by omega)] at this; exact this
            by_cases hb : M < n
            · have hF := HF false (numF_great (by have := hN.out.2; have := hM.out; omega))
              go_wp2
              go_ret
              exact ⟨ret_int (by rw [hF.out]; rfl), rfl⟩
            · have hF := HF true (numF_yes (ne_of_pos hp) HZ.out hN.out.1 (by have := hN.out.2; have := hM.out; omega))
              go_wp2
              go_ret
              exact ⟨ret_int (by rw [hF.out, hN.out.2]; rfl), rfl⟩
theorem own_none0 {s : ByteArray} (h : s.size = 0 ∨ ∃ h : 0 < s.size, s[0] ≠ 99) : ownK s.data.toList = -1 := by
  unfold ownK
  rw [if_neg]
  unfold Lib.hasPrefix
  rcases h with h | ⟨h, h0⟩
  · rw [show s.data.toList = [] from List.eq_nil_of_length_eq_zero (by rw [len_data]; exact h)]
    simp
  · have e := drop_cons s 0 h
    rw [List.drop_zero] at e
    rw [e]
    simp [Ne.symm h0]
theorem own_c {s : ByteArray} (h : 0 < s.size) (h0 : s[0] = 99) : ownK s.data.toList = ownP (Lib.cut (s.data.toList.drop 1) [110]) := by
  have e := drop_cons s 0 h
  rw [List.drop_zero, h0] at e
  have hp : Lib.hasPrefix s.data.toList [99] = true := by rw [e]; unfold Lib.hasPrefix; simp
  unfold ownK
  rw [if_pos hp]
  unfold Lib.trimPrefix
  rw [if_pos hp]
  rfl
theorem ownP_R (a b : List UInt8) : ownP (a, b, true) = if numR b 999999 < 0 then -1 else numR a 15 := by
  unfold ownP numR
  cases numF a 15 <;> cases numF b 999999 <;> simp <;> omega
set_option maxHeartbeats 1000000 in
theorem rowner_any (s : ByteArray) (w : World) (hs : s.size < 4294967281) :
    Calls Tryz.prog 39 #[.string s] w fun e w' => e = .returned (.int .i64 (ownK s.data.toList)) ∧ w' = w := by
  by_cases hz : s.size = 0 ∨ ∃ h : 0 < s.size, s[0] ≠ 99
  · have HO := hid (own_none0 hz)
    have hz' : ∀ h : 0 < s.size, ((s[0].toNat : Int) == 99) = false := fun h => by
      rcases hz with g | ⟨_, g⟩
      · omega
      · exact byte_ne (n := 99) (by omega) g
    clear hz
    go_enter Tryz.func39, Tryz.ntmps39
    go_wp2
    go_loop [3] (fun i => ∃ k : Nat, 1 ≤ k ∧ k ≤ s.size + 1 ∧ i = .int .i64 k) (fun i => s.size + 1 - (intOf i).toNat)
    case atStart => exact ⟨1, by omega, by omega, rfl⟩
    case round =>
      obtain ⟨k, k1, hk, rfl⟩ := hrel
      by_cases hlt : k < s.size
      · have h0 := hz' (by omega)
        by_cases hn : s[k] = 110
        · have hn' : (s[k].toNat : Int) = 110 := by rw [hn]; rfl
          clear hn
          go_wp2
          go_round
          case rel => exact ⟨k + 1, by omega, by omega, by go_num⟩
          case measure => simp [intOf]; omega
        · have hn' : ((s[k].toNat : Int) == 110) = false := byte_ne (n := 110) (by omega) hn
          clear hn
          go_wp2
          go_round
          case rel => exact ⟨k + 1, by omega, by omega, by go_num⟩
          case measure => simp [intOf]; omega
      · go_wp2
        go_ret
        exact ⟨ret_int HO.out.symm, rfl⟩
  · have hp : 0 < s.size := by
      rcases Nat.eq_zero_or_pos s.size with h | h
      · exact absurd (.inl h) hz
      · exact h
    have hc : s[0] = 99 := by
      by_cases h : s[0] = 99
      · exact h
      · exact absurd (.inr ⟨hp, h⟩) hz
    have HO := hid (own_c hp hc)
    have hc' : (s[0].toNat : Int) = 99 := by rw [hc]; rfl
    clear hz hc
    go_enter Tryz.func39, Tryz.ntmps39
    go_wp2
    go_loop [3] (fun i => ∃ k : Nat, 1 ≤ k ∧ k ≤ s.size ∧ i = .int .i64 k ∧ Hid ((110 : UInt8) ∉ (s.data.toList.take k).drop 1)) (fun i => s.size + 1 - (intOf i).toNat)
    case atStart => exact ⟨1, by omega, by omega, rfl, by show _ ∉ _; rw [List.drop_take]; simp⟩
    case round =>
      obtain ⟨k, k1, hk, rfl, ha⟩ := hrel
      by_cases hlt : k < s.size
      · by_cases hn : s[k] = 110
        · have hn' : (s[k].toNat : Int) = 110 := by rw [hn]; rfl
          have eL : s.data.toList.drop 1 = (s.data.toList.take k).drop 1 ++ 110 :: s.data.toList.drop (k + 1) := by
            have e1 : s.data.toList = s.data.toList.take k ++ s.data.toList.drop k := (List.take_append_drop _ _).symm
            rw [drop_cons s k hlt, hn] at e1
            have e2 := congrArg (List.drop 1) e1
            rw [List.drop_append_of_le_length (by rw [List.length_take, len_data]; omega)] at e2
            exact e2
          have HR : Hid (ownK s.data.toList = if numR (s.data.toList.drop (k + 1)) 999999 < 0 then -1 else numR ((s.data.toList.take k).drop 1) 15) := by
            show _ = _
            rw [HO.out, eL, cut_at 110 _ _ ha.out, ownP_R]
          have eA : (s.extract 1 k).data.toList = (s.data.toList.take k).drop 1 := by
            rw [Lib.extract_data, List.drop_take]
          have eB : (s.extract (k + 1) s.size).data.toList = s.data.toList.drop (k + 1) := by
            rw [Lib.extract_data]
            exact List.take_of_length_le (by rw [List.length_drop, len_data]; omega)
          have HA := hid (fun W => num_any (s.extract 1 k) 15 15 W rfl (by omega) (by omega) (by simp only [ByteArray.size_extract]; omega))
          have HB := hid (fun W => num_any (s.extract (k + 1) s.size) 999999 999999 W rfl (by omega) (by omega) (by simp only [ByteArray.size_extract]; omega))
          rw [eA] at HA
          rw [eB] at HB
          obtain ⟨A, qA⟩ : ∃ A, s.extract 1 k = A := ⟨_, rfl⟩
          obtain ⟨B, qB⟩ : ∃ B, s.extract (k + 1) s.size = B := ⟨_, rfl⟩
          rw [qA] at HA
          rw [qB] at HB
          generalize numR ((s.data.toList.take k).drop 1) 15 = X at *
          generalize numR (s.data.toList.drop (k + 1)) 999999 = Y at *
          clear hn eL eA eB HO
          by_cases hY : Y < 0
          · go_wp2_with (first | (go_at_call_of 59 A; refine (HA.out _).mono ?_; rintro e w1 ⟨rfl, rfl⟩) | (go_at_call_of 59 B; refine (HB.out _).mono ?_; rintro e w2 ⟨rfl, rfl⟩))
            go_ret
            exact ⟨ret_int (by rw [HR.out, if_pos hY]), rfl⟩
          · go_wp2_with (first | (go_at_call_of 59 A; refine (HA.out _).mono ?_; rintro e w1 ⟨rfl, rfl⟩) | (go_at_call_of 59 B; refine (HB.out _).mono ?_; rintro e w2 ⟨rfl, rfl⟩))
            go_ret
            exact ⟨ret_int (by rw [HR.out, if_neg (by omega)]), rfl⟩
        · have hn' : ((s[k].toNat : Int) == 110) = false := byte_ne (n := 110) (by omega) hn
          have ha' : Hid ((110 : UInt8) ∉ (s.data.toList.take (k + 1)).drop 1) := by
            show _ ∉ _
            rw [take_snoc s k hlt, List.drop_append_of_le_length (by rw [List.length_take, len_data]; omega), List.mem_append]
            intro h
            rcases h with h | h
            · exact ha.out h
            · simp at h
              exact hn h.symm
          clear hn
          go_wp2
          go_round
          case rel => exact ⟨k + 1, by omega, by omega, by go_num, ha'⟩
          case measure => simp [intOf]; omega
      · have HF : Hid (ownK s.data.toList = -1) := by
          show _ = _
          have h1 := ha.out
          rw [take_all s k (by omega)] at h1
          rw [HO.out, cut_free 110 _ h1]
          rfl
        go_wp2
        go_ret
        exact ⟨ret_int HF.out.symm, rfl⟩
theorem rid_any (s : ByteArray) (w : World) (hs : s.size < 4294967281) :
    Calls Tryz.prog 26 #[.string s] w fun e w' => e = .returned (.bool (idB s.data.toList)) ∧ w' = w := by
  have HO := hid (fun W => rowner_any s W hs)
  have HI : Hid (idB s.data.toList = decide (0 ≤ ownK s.data.toList)) := rfl
  generalize ownK s.data.toList = K at *
  clear hs
  go_enter Tryz.func26, Tryz.ntmps26
  go_wp2_with (go_at_call 39; refine (HO.out _).mono ?_; rintro e w1 ⟨rfl, rfl⟩)
  go_ret
  exact ⟨ret_bool HI.out.symm, rfl⟩
end Go.Proofs.YtngnakdbhkjbjaaGreatDoor
