/- a1.leading, number, mayLine, sign; counterpaneref5.num: what each returns; a1.Owner, Id: what each returns; counterpaneref5.Col: what it returns; a1.Col: what i. -/
import Derived.Test.YtgheopdadfnilaaGreatDoorKr00
set_option linter.unusedVariables false
set_option linter.unusedSimpArgs false
set_option maxRecDepth 100000
namespace Go.Proofs.YtgheopdadfnilaaGreatDoor
open Go.RowKit
set_option maxHeartbeats 400000 in
theorem leading_any (s : ByteArray) (w : World) (hs : s.size ≤ 9223372036854775807) :
    Calls Tryz.prog 202 #[.string s] w fun e w' => e = .returned (.int .i64 (lead s.data.toList)) ∧ w' = w := by
  go_enter Tryz.func202, Tryz.ntmps202
  go_wp2
  go_loop [6] (fun i => ∃ k : Nat, k ≤ s.size ∧ i = .int .i64 k ∧ Hid (allL (s.data.toList.take k) = true)) (fun i => s.size - (intOf i).toNat)
  case atStart => exact ⟨0, Nat.zero_le _, rfl, rfl⟩
  case round =>
    obtain ⟨k, hk, rfl, ha⟩ := hrel
    by_cases hlt : k < s.size
    · by_cases hd : let1 s[k] = true
      · have ha' : Hid (allL (s.data.toList.take (k + 1)) = true) := by
          show _ = _
          have := ha.out
          rw [take_snoc s k hlt, allL_app, this]
          unfold allL
          simp [hd]
        have b0 : 65 ≤ (s[k].toNat : Int) := by unfold let1 at hd; simp at hd; omega
        have b1 : (s[k].toNat : Int) ≤ 90 := by unfold let1 at hd; simp at hd; omega
        clear hd
        go_wp2
        go_round
        case rel => exact ⟨k + 1, by omega, by go_num, ha'⟩
        case measure => simp [intOf]; omega
      · have hN : Hid ((k : Int) = (lead s.data.toList : Int)) := by
          show _ = _
          have h1 := lead_at (s.data.toList.take k) (s.data.toList.drop (k + 1)) s[k] ha.out (by simpa using hd)
          rw [← drop_cons s k hlt, List.take_append_drop, List.length_take, len_data] at h1
          omega
        by_cases b0 : (s[k].toNat : Int) < 65
        · clear hd
          go_wp2
          go_ret
          exact ⟨ret_int hN.out, rfl⟩
        · have b1 : 90 < (s[k].toNat : Int) := by unfold let1 at hd; simp at hd; omega
          clear hd
          go_wp2
          go_ret
          exact ⟨ret_int hN.out, rfl⟩
    · have hN : Hid ((s.size : Int) = (lead s.data.toList : Int)) := by
        show _ = _
        have := ha.out
        rw [take_all s k (by omega)] at this
        rw [lead_all _ this, len_data]
      go_wp2
      go_ret
      exact ⟨ret_int hN.out, rfl⟩
theorem numF_zero {l : List UInt8} {m : Nat} (h : l.headD 0 = 48) (h1 : 1 < l.length) : numF l m = false := by
  unfold numF
  rw [h, decide_eq_true h1]
  simp
theorem numF_nodig {l : List UInt8} {m : Nat} (h : allD l = false) : numF l m = false := by
  unfold numF
  rw [h]
  simp
theorem numF_great {l : List UInt8} {m : Nat} (h : m < val l) : numF l m = false := by
  unfold numF
  rw [decide_eq_false (show ¬ val l ≤ m by omega)]
  simp
theorem numF_yes {l : List UInt8} {m : Nat} (h0 : l ≠ []) (h1 : ¬ (l.headD 0 = 48 ∧ 1 < l.length)) (h2 : allD l = true) (h3 : val l ≤ m) : numF l m = true := by
  unfold numF
  rw [h2, decide_eq_true h3]
  have e0 : l.isEmpty = false := by cases l; exact absurd rfl h0; rfl
  have e1 : (l.headD 0 == 48 && decide (1 < l.length)) = false := by
    rw [Bool.and_eq_false_iff]
    by_cases h : l.headD 0 = 48
    · exact .inr (decide_eq_false fun g => h1 ⟨h, g⟩)
    · exact .inl (beq_eq_false_iff_ne.2 h)
  rw [e0, e1]
  rfl
theorem allD_no (s : ByteArray) (k : Nat) (h : k < s.size) (hd : dig s[k] = false) : allD s.data.toList = false := by
  unfold allD
  rw [List.all_eq_false]
  exact ⟨s[k], get_mem s k h, by simp [hd]⟩
theorem byte_ne {c : UInt8} {n : Nat} (hn : n < 256) (h : c ≠ UInt8.ofNat n) : ((c.toNat : Int) == (n : Int)) = false := by
  rw [beq_eq_false_iff_ne]
  intro e
  apply h
  apply UInt8.toNat_inj.1
  have : (UInt8.ofNat n).toNat = n % 256 := UInt8.toNat_ofNat'
  rw [this]
  omega
theorem ne_of_pos {s : ByteArray} (h : 0 < s.size) : s.data.toList ≠ [] := fun e => by
  have h1 := congrArg List.length e
  rw [len_data, List.length_nil] at h1
  omega
theorem toList_ne {s : ByteArray} (h : 0 < s.size) : (s.toList == []) = false := by
  rw [Lib.toList_data, beq_eq_false_iff_ne]
  exact ne_of_pos h
set_option maxHeartbeats 1000000 in
theorem number_any (s : ByteArray) (m : Nat) (M : Int) (w : World) (hM : Hid (M = (m : Int))) (M0 : 0 ≤ M) (M1 : M ≤ 2199023255552) (hs : s.size ≤ 9223372036854775807) :
    Calls Tryz.prog 156 #[.string s, .int .i64 M] w fun e w' => e = .returned (.tuple #[.int .i64 (numK s.data.toList m), .bool (numF s.data.toList m)]) ∧ w' = w := by
  have HF : ∀ b : Bool, numF s.data.toList m = b → Hid (numF s.data.toList m = b ∧ numK s.data.toList m = if b then (val s.data.toList : Int) else 0) := by
    intro b e
    exact ⟨e, by unfold numK; rw [e]⟩
  have et := hid (Lib.toList_data s)
  by_cases h0 : s.size = 0
  · have e0 : s.toList = [] := by rw [Lib.toList_data]; exact List.eq_nil_of_length_eq_zero (by rw [len_data]; exact h0)
    have hF := HF false (by rw [← et.out, e0]; rfl)
    clear h0
    go_enter Tryz.func156, Tryz.ntmps156
    go_wp2
    go_ret2
    exact ⟨by rw [hF.out.1, hF.out.2]; rfl, rfl⟩
  · have hp : 0 < s.size := by omega
    have e0 := toList_ne hp
    have hh := hid (headD_get s hp)
    by_cases hz : s[0] = 48 ∧ 1 < s.size
    · have hF := HF false (numF_zero (by rw [hh.out]; exact hz.1) (by rw [len_data]; exact hz.2))
      have hc : (s[0].toNat : Int) = 48 := by rw [hz.1]; rfl
      have h1 := hz.2
      clear hz h0
      go_enter Tryz.func156, Tryz.ntmps156
      go_wp2
      go_ret2
      exact ⟨by rw [hF.out.1, hF.out.2]; rfl, rfl⟩
    · have HZ : Hid (¬ (s.data.toList.headD 0 = 48 ∧ 1 < s.data.toList.length)) := by
        show ¬ _
        rw [hh.out, len_data]
        exact hz
      have hc : ((s[0].toNat : Int) == 48) = false ∨ ((s[0].toNat : Int) = 48 ∧ ¬ 1 < (s.size : Int)) := by
        by_cases h : s[0] = 48
        · exact .inr ⟨by rw [h]; rfl, fun g => hz ⟨h, by omega⟩⟩
        · exact .inl (byte_ne (n := 48) (by omega) h)
      clear hz h0
      rcases hc with hc | ⟨hc, h1⟩
      · go_enter Tryz.func156, Tryz.ntmps156
        go_wp2
        go_loop [6, 22] (fun a i => ∃ (k : Nat) (n : Int), k ≤ s.size ∧ i = .int .i64 k ∧ a = .int .i64 n ∧ 0 ≤ n ∧ n ≤ M ∧ Hid (allD (s.data.toList.take k) = true ∧ n = (val (s.data.toList.take k) : Int))) (fun _ i => s.size - (intOf i).toNat)
        case atStart => exact ⟨0, 0, Nat.zero_le _, rfl, rfl, by omega, by omega, rfl, rfl⟩
        case round =>
          obtain ⟨k, n, hk, rfl, rfl, n0, n1, hn⟩ := hrel
          by_cases hlt : k < s.size
          · by_cases hd : dig s[k] = true
            · have b0 : 48 ≤ (s[k].toNat : Int) := by unfold dig at hd; simp at hd; omega
              have b1 : (s[k].toNat : Int) ≤ 57 := by unfold dig at hd; simp at hd; omega
              have hv : Hid (allD (s.data.toList.take (k + 1)) = true ∧ (val (s.data.toList.take (k + 1)) : Int) = n * 10 + ((s[k].toNat : Int) - 48)) := by
                have := hn.out
                refine ⟨?_, ?_⟩
                · rw [take_snoc s k hlt, allD_app, this.1]
                  unfold allD
                  simp [hd]
                · rw [take_snoc s k hlt, val_snoc, this.2]
                  omega
              clear hd
              by_cases hb : M < n * 10 + ((s[k].toNat : Int) - 48)
              · have hF := HF false (numF_great (by
                  have h1 := val_ge (s.data.toList.take (k + 1)) (s.data.toList.drop (k + 1))
                  rw [List.take_append_drop] at h1
                  have h2 := hv.out.2
                  have h3 := hM.out
                  omega))
                go_wp2
                go_ret2
                exact ⟨by rw [hF.out.1, hF.out.2]; rfl, rfl⟩
              · go_wp2
                go_round
                case rel => exact ⟨k + 1, n * 10 + ((s[k].toNat : Int) - 48), by omega, by go_num, rfl, by omega, by omega, hv.out.1, hv.out.2.symm⟩
                case measure => simp [intOf]; omega
            · have hF := HF false (numF_nodig (allD_no s k hlt (by simpa using hd)))
              by_cases b0 : (s[k].toNat : Int) < 48
              · clear hd
                go_wp2
                go_ret2
                exact ⟨by rw [hF.out.1, hF.out.2]; rfl, rfl⟩
              · have b1 : 57 < (s[k].toNat : Int) := by unfold dig at hd; simp at hd; omega
                clear hd
                go_wp2
                go_ret2
                exact ⟨by rw [hF.out.1, hF.out.2]; rfl, rfl⟩
          · have hN : Hid (allD s.data.toList = true ∧ n = (val s.data.toList : Int)) := by have := hn.out; rw [take_all s k (by omega)] at this; exact this
            have hF := HF true (numF_yes (ne_of_pos hp) HZ.out hN.out.1 (by have := hN.out.2; have := hM.out; omega))
            go_wp2
            go_ret2
            exact ⟨by rw [hF.out.1, hF.out.2, hN.out.2]; rfl, rfl⟩
      · go_enter Tryz.func156, Tryz.ntmps156
        go_wp2
        go_loop [6, 22] (fun a i => ∃ (k : Nat) (n : Int), k ≤ s.size ∧ i = .int .i64 k ∧ a = .int .i64 n ∧ 0 ≤ n ∧ n ≤ M ∧ Hid (allD (s.data.toList.take k) = true ∧ n = (val (s.data.toList.take k) : Int))) (fun _ i => s.size - (intOf i).toNat)
        case atStart => exact ⟨0, 0, Nat.zero_le _, rfl, rfl, by omega, by omega, rfl, rfl⟩
        case round =>
          obtain ⟨k, n, hk, rfl, rfl, n0, n1, hn⟩ := hrel
          by_cases hlt : k < s.size
          · by_cases hd : dig s[k] = true
            · have b0 : 48 ≤ (s[k].toNat : Int) := by unfold dig at hd; simp at hd; omega
              have b1 : (s[k].toNat : Int) ≤ 57 := by unfold dig at hd; simp at hd; omega
              have hv : Hid (allD (s.data.toList.take (k + 1)) = true ∧ (val (s.data.toList.take (k + 1)) : Int) = n * 10 + ((s[k].toNat : Int) - 48)) := by
                have := hn.out
                refine ⟨?_, ?_⟩
                · rw [take_snoc s k hlt, allD_app, this.1]
                  unfold allD
                  simp [hd]
                · rw [take_snoc s k hlt, val_snoc, this.2]
                  omega
              clear hd
              by_cases hb : M < n * 10 + ((s[k].toNat : Int) - 48)
              · have hF := HF false (numF_great (by
                  have h1 := val_ge (s.data.toList.take (k + 1)) (s.data.toList.drop (k + 1))
                  rw [List.take_append_drop] at h1
                  have h2 := hv.out.2
                  have h3 := hM.out
                  omega))
                go_wp2
                go_ret2
                exact ⟨by rw [hF.out.1, hF.out.2]; rfl, rfl⟩
              · go_wp2
                go_round
                case rel => exact ⟨k + 1, n * 10 + ((s[k].toNat : Int) - 48), by omega, by go_num, rfl, by omega, by omega, hv.out.1, hv.out.2.symm⟩
                case measure => simp [intOf]; omega
            · have hF := HF false (numF_nodig (allD_no s k hlt (by simpa using hd)))
              by_cases b0 : (s[k].toNat : Int) < 48
              · clear hd
                go_wp2
                go_ret2
                exact ⟨by rw [hF.out.1, hF.out.2]; rfl, rfl⟩
              · have b1 : 57 < (s[k].toNat : Int) := by unfold dig at hd; simp at hd; omega
                clear hd
                go_wp2
                go_ret2
                exact ⟨by rw [hF.out.1, hF.out.2]; rfl, rfl⟩
          · have hN : Hid (allD s.data.toList = true ∧ n = (val s.data.toList : Int)) := by have := hn.out; rw [take_all s k (by omega)] at this; exact this
            have hF := HF true (numF_yes (ne_of_pos hp) HZ.out hN.out.1 (by have := hN.out.2; have := hM.out; omega))
            go_wp2
            go_ret2
            exact ⟨by rw [hF.out.1, hF.out.2, hN.out.2]; rfl, rfl⟩
set_option maxHeartbeats 1000000 in
theorem owner_any (s : ByteArray) (w : World) (hw : Std w) (hs : s.size < 4294967281) :
    Calls Tryz.prog 133 #[.string s] w fun e w' => e = .returned (.int .i64 (ownK s.data.toList)) ∧ Q w w' := by
  have hl := Lib.trimPrefix_le s.data.toList [99]
  rw [len_data] at hl
  have HO : Hid (ownK s.data.toList = if Lib.hasPrefix s.data.toList [99] then ownP (Lib.cut (Lib.trimPrefix s.data.toList [99]) [110]) else -1) := rfl
  have HP : Hid (∀ W, Calls Tryz.prog 40 #[.string s, .string ⟨#[99]⟩] W fun e w' => e = .returned (.tuple #[.string ⟨(Lib.trimPrefix s.data.toList [99]).toArray⟩, .bool (Lib.hasPrefix s.data.toList [99])]) ∧ w' = W) := fun W => Tryz.strings_CutPrefix s ⟨#[99]⟩ W
  generalize Lib.trimPrefix s.data.toList [99] = t at *
  generalize Lib.hasPrefix s.data.toList [99] = ng at *
  have HC : Hid (∀ W, Q w W → Calls Tryz.prog 110 #[.string ⟨t.toArray⟩, .string ⟨#[110]⟩] W fun e w' => e = .returned (.tuple #[.string ⟨(Lib.cut t [110]).1.toArray⟩, .string ⟨(Lib.cut t [110]).2.1.toArray⟩, .bool (Lib.cut t [110]).2.2]) ∧ ∃ n, w' = W.drewN n) := by
    intro W q
    obtain ⟨m, hm⟩ := (hw.on q).len
    exact Tryz.strings_Cut ⟨t.toArray⟩ ⟨#[110]⟩ m W (by rw [size_mk]; omega) hm
  have hcl := cut_le 110 t
  generalize Lib.cut t [110] = p at *
  obtain ⟨a, b, f⟩ := p
  simp only at HC hcl
  have HA := hid (fun W => number_any ⟨a.toArray⟩ 15 15 W rfl (by omega) (by omega) (by rw [size_mk]; omega))
  have HB := hid (fun W => number_any ⟨b.toArray⟩ 999999 999999 W rfl (by omega) (by omega) (by rw [size_mk]; omega))
  simp only at HA HB
  unfold numK at HA HB
  generalize (⟨a.toArray⟩ : ByteArray) = A at *
  generalize (⟨b.toArray⟩ : ByteArray) = B at *
  generalize (⟨t.toArray⟩ : ByteArray) = T at *
  unfold ownP at HO
  simp only at HO
  generalize numF a 15 = fa at *
  generalize numF b 999999 = fb at *
  generalize ((val a : Nat) : Int) = va at *
  generalize ((val b : Nat) : Int) = vb at *
  clear hs hcl hl hw
  rcases ng with _ | _
  · go_enter Tryz.func133, Tryz.ntmps133
    go_wp2_with (first | (go_at_call 40; refine (HP.out _).mono ?_; rintro e w1 ⟨rfl, rfl⟩) | (go_at_call 110; refine (HC.out _ (Q.refl _)).mono ?_; rintro e w2 ⟨rfl, nn, rfl⟩) | (go_at_call_of 156 A; refine (HA.out _).mono ?_; rintro e w3 ⟨rfl, rfl⟩) | (go_at_call_of 156 B; refine (HB.out _).mono ?_; rintro e w4 ⟨rfl, rfl⟩))
    go_ret
    exact ⟨ret_int (by rw [HO.out]; rfl), Q.refl _⟩
  rcases f with _ | _
  · go_enter Tryz.func133, Tryz.ntmps133
    go_wp2_with (first | (go_at_call 40; refine (HP.out _).mono ?_; rintro e w1 ⟨rfl, rfl⟩) | (go_at_call 110; refine (HC.out _ (Q.refl _)).mono ?_; rintro e w2 ⟨rfl, nn, rfl⟩) | (go_at_call_of 156 A; refine (HA.out _).mono ?_; rintro e w3 ⟨rfl, rfl⟩) | (go_at_call_of 156 B; refine (HB.out _).mono ?_; rintro e w4 ⟨rfl, rfl⟩))
    go_ret
    exact ⟨ret_int (by rw [HO.out]; rfl), (Q.refl _).drewN _⟩
  rcases fa with _ | _ <;> rcases fb with _ | _
  · go_enter Tryz.func133, Tryz.ntmps133
    go_wp2_with (first | (go_at_call 40; refine (HP.out _).mono ?_; rintro e w1 ⟨rfl, rfl⟩) | (go_at_call 110; refine (HC.out _ (Q.refl _)).mono ?_; rintro e w2 ⟨rfl, nn, rfl⟩) | (go_at_call_of 156 A; refine (HA.out _).mono ?_; rintro e w3 ⟨rfl, rfl⟩) | (go_at_call_of 156 B; refine (HB.out _).mono ?_; rintro e w4 ⟨rfl, rfl⟩))
    go_ret
    exact ⟨ret_int (by rw [HO.out]; rfl), (Q.refl _).drewN _⟩
  · go_enter Tryz.func133, Tryz.ntmps133
    go_wp2_with (first | (go_at_call 40; refine (HP.out _).mono ?_; rintro e w1 ⟨rfl, rfl⟩) | (go_at_call 110; refine (HC.out _ (Q.refl _)).mono ?_; rintro e w2 ⟨rfl, nn, rfl⟩) | (go_at_call_of 156 A; refine (HA.out _).mono ?_; rintro e w3 ⟨rfl, rfl⟩) | (go_at_call_of 156 B; refine (HB.out _).mono ?_; rintro e w4 ⟨rfl, rfl⟩))
    go_ret
    exact ⟨ret_int (by rw [HO.out]; rfl), (Q.refl _).drewN _⟩
  · go_enter Tryz.func133, Tryz.ntmps133
    go_wp2_with (first | (go_at_call 40; refine (HP.out _).mono ?_; rintro e w1 ⟨rfl, rfl⟩) | (go_at_call 110; refine (HC.out _ (Q.refl _)).mono ?_; rintro e w2 ⟨rfl, nn, rfl⟩) | (go_at_call_of 156 A; refine (HA.out _).mono ?_; rintro e w3 ⟨rfl, rfl⟩) | (go_at_call_of 156 B; refine (HB.out _).mono ?_; rintro e w4 ⟨rfl, rfl⟩))
    go_ret
    exact ⟨ret_int (by rw [HO.out]; rfl), (Q.refl _).drewN _⟩
  · go_enter Tryz.func133, Tryz.ntmps133
    go_wp2_with (first | (go_at_call 40; refine (HP.out _).mono ?_; rintro e w1 ⟨rfl, rfl⟩) | (go_at_call 110; refine (HC.out _ (Q.refl _)).mono ?_; rintro e w2 ⟨rfl, nn, rfl⟩) | (go_at_call_of 156 A; refine (HA.out _).mono ?_; rintro e w3 ⟨rfl, rfl⟩) | (go_at_call_of 156 B; refine (HB.out _).mono ?_; rintro e w4 ⟨rfl, rfl⟩))
    go_ret
    exact ⟨ret_int (by rw [HO.out]; rfl), (Q.refl _).drewN _⟩
def idB (l : List UInt8) : Bool := decide (0 ≤ ownK l)
theorem id_any (s : ByteArray) (w : World) (hw : Std w) (hs : s.size < 4294967281) :
    Calls Tryz.prog 97 #[.string s] w fun e w' => e = .returned (.bool (idB s.data.toList)) ∧ Q w w' := by
  have HO := hid (owner_any s w hw hs)
  have HI : Hid (idB s.data.toList = decide (0 ≤ ownK s.data.toList)) := rfl
  generalize ownK s.data.toList = K at *
  clear hw hs
  go_enter Tryz.func97, Tryz.ntmps97
  go_wp2_with (go_at_call 133; refine HO.out.mono ?_; rintro e w1 ⟨rfl, q1⟩)
  go_ret
  exact ⟨ret_bool HI.out.symm, q1⟩
theorem colF_long {l : List UInt8} (h : 9 < l.length) : colF l = false := by
  unfold colF
  rw [decide_eq_false (show ¬ l.length ≤ 9 by omega)]
  simp
theorem colF_nolet {l : List UInt8} (h : allL l = false) : colF l = false := by
  unfold colF
  rw [h]
  simp
theorem colF_great {l : List UInt8} (h : 2199023255552 < colV l) : colF l = false := by
  unfold colF
  rw [decide_eq_false (show ¬ colV l ≤ 2199023255552 by omega)]
  simp
theorem colF_yes {l : List UInt8} (h0 : l ≠ []) (h1 : l.length ≤ 9) (h2 : allL l = true) (h3 : colV l ≤ 2199023255552) : colF l = true := by
  unfold colF
  rw [h2, decide_eq_true h3, decide_eq_true h1]
  have e0 : l.isEmpty = false := by cases l; exact absurd rfl h0; rfl
  rw [e0]
  rfl
theorem allL_no (s : ByteArray) (k : Nat) (h : k < s.size) (hd : let1 s[k] = false) : allL s.data.toList = false := by
  unfold allL
  rw [List.all_eq_false]
  exact ⟨s[k], get_mem s k h, by simp [hd]⟩
theorem colK_of {l : List UInt8} (b : Bool) (h : colF l = b) : Hid (colF l = b ∧ colK l = if b then (colV l : Int) - 1 else 0) := by
  refine ⟨h, ?_⟩
  unfold colK
  rw [h]
set_option maxHeartbeats 1000000 in
theorem rcol_any (s : ByteArray) (w : World) (hs : s.size ≤ 9223372036854775807) :
    Calls Tryz.prog 136 #[.string s] w fun e w' => e = .returned (.tuple #[.int .i64 (colK s.data.toList), .bool (colF s.data.toList)]) ∧ w' = w := by
  by_cases h0 : s.size = 0
  · have hF := colK_of (l := s.data.toList) false (by rw [show s.data.toList = [] from List.eq_nil_of_length_eq_zero (by rw [len_data]; exact h0)]; rfl)
    have h1 : (s.size : Int) < 1 := by omega
    clear h0
    go_enter Tryz.func136, Tryz.ntmps136
    go_wp2
    go_ret2
    exact ⟨by rw [hF.out.1, hF.out.2]; rfl, rfl⟩
  · have hp : 0 < s.size := by omega
    by_cases hg : 9 < s.size
    · have hF := colK_of (l := s.data.toList) false (colF_long (by rw [len_data]; exact hg))
      have h1 : ¬ (s.size : Int) < 1 := by omega
      clear h0
      go_enter Tryz.func136, Tryz.ntmps136
      go_wp2
      go_ret2
      exact ⟨by rw [hF.out.1, hF.out.2]; rfl, rfl⟩
    · clear h0
      go_enter Tryz.func136, Tryz.ntmps136
      go_wp2
      go_loop [4, 5] (fun a i => ∃ (k : Nat) (n : Int), k ≤ s.size ∧ i = .int .i64 k ∧ a = .int .i64 n ∧ 0 ≤ n ∧ n ≤ 7625597484986 ∧ Hid (allL (s.data.toList.take k) = true ∧ n = (colV (s.data.toList.take k) : Int))) (fun _ i => s.size - (intOf i).toNat)
      case atStart => exact ⟨0, 0, Nat.zero_le _, rfl, rfl, by omega, by omega, rfl, rfl⟩
      case round =>
        obtain ⟨k, n, hk, rfl, rfl, n0, n1, hn⟩ := hrel
        by_cases hlt : k < s.size
        · by_cases hd : let1 s[k] = true
          · have b0 : 65 ≤ (s[k].toNat : Int) := by unfold let1 at hd; simp at hd; omega
            have b1 : (s[k].toNat : Int) ≤ 90 := by unfold let1 at hd; simp at hd; omega
            have hv : Hid (allL (s.data.toList.take (k + 1)) = true ∧ (colV (s.data.toList.take (k + 1)) : Int) = n * 26 + ((s[k].toNat : Int) - 65) + 1) := by
              have := hn.out
              refine ⟨?_, ?_⟩
              · rw [take_snoc s k hlt, allL_app, this.1]
                unfold allL
                simp [hd]
              · rw [take_snoc s k hlt, colV_snoc, this.2]
                omega
            have hb := colV_nine _ hv.out.1 (by rw [List.length_take]; omega)
            have hb' : n * 26 + ((s[k].toNat : Int) - 65) + 1 ≤ 7625597484986 := by have := hv.out.2; omega
            clear hd hb
            go_wp2
            go_round
            case rel => exact ⟨k + 1, n * 26 + ((s[k].toNat : Int) - 65) + 1, by omega, by go_num, by go_num, by omega, by omega, hv.out.1, hv.out.2.symm⟩
            case measure => simp [intOf]; omega
          · have hF := colK_of false (colF_nolet (allL_no s k hlt (by simpa using hd)))
            by_cases b0 : (s[k].toNat : Int) < 65
            · clear hd
              go_wp2
              go_ret2
              exact ⟨by rw [hF.out.1, hF.out.2]; rfl, rfl⟩
            · have b1 : 90 < (s[k].toNat : Int) := by unfold let1 at hd; simp at hd; omega
              clear hd
              go_wp2
              go_ret2
              exact ⟨by rw [hF.out.1, hF.out.2]; rfl, rfl⟩
        · have hN : Hid (allL s.data.toList = true ∧ n = (colV s.data.toList : Int)) := by have := hn.out; rw [take_all s k (by omega)] at this; exact this
          by_cases hb : 2199023255552 < n
          · have hF := colK_of (l := s.data.toList) false (colF_great (by have := hN.out.2; omega))
            go_wp2
            go_ret2
            exact ⟨by rw [hF.out.1, hF.out.2]; rfl, rfl⟩
          · have hF := colK_of (l := s.data.toList) true (colF_yes (ne_of_pos hp) (by rw [len_data]; omega) hN.out.1 (by have := hN.out.2; omega))
            go_wp2
            go_ret2
            exact ⟨by rw [hF.out.1, hF.out.2, ← hN.out.2]; rfl, rfl⟩
set_option maxHeartbeats 1000000 in
theorem col_any (s : ByteArray) (w : World) (hs : s.size ≤ 9223372036854775807) :
    Calls Tryz.prog 203 #[.string s] w fun e w' => e = .returned (.tuple #[.int .i64 (colK s.data.toList), .bool (colF s.data.toList)]) ∧ w' = w := by
  have HL := hid (fun W => leading_any s W hs)
  have hle := lead_le s.data.toList
  rw [len_data] at hle
  have hall := hid (allL_iff_lead s.data.toList)
  rw [len_data] at hall
  generalize lead s.data.toList = D at *
  by_cases h0 : s.size = 0
  · have hF := colK_of (l := s.data.toList) false (by rw [show s.data.toList = [] from List.eq_nil_of_length_eq_zero (by rw [len_data]; exact h0)]; rfl)
    have h1 : ((s.size : Int) == 0) = true := by rw [beq_iff_eq]; omega
    clear h0 hle
    go_enter Tryz.func203, Tryz.ntmps203
    go_wp2
    go_ret2
    exact ⟨by rw [hF.out.1, hF.out.2]; rfl, rfl⟩
  · have hp : 0 < s.size := by omega
    have h1 : ((s.size : Int) == 0) = false := by rw [beq_eq_false_iff_ne]; omega
    by_cases hg : 9 < s.size
    · have hF := colK_of (l := s.data.toList) false (colF_long (by rw [len_data]; exact hg))
      clear h0 hle
      go_enter Tryz.func203, Tryz.ntmps203
      go_wp2
      go_ret2
      exact ⟨by rw [hF.out.1, hF.out.2]; rfl, rfl⟩
    · by_cases hD : (D : Int) < (s.size : Int)
      · have hF := colK_of (l := s.data.toList) false (colF_nolet (by rw [hall.out]; exact decide_eq_false (by omega)))
        clear h0 hle
        go_enter Tryz.func203, Tryz.ntmps203
        go_wp2_with (go_at_call 202; refine (HL.out _).mono ?_; rintro e w1 ⟨rfl, rfl⟩)
        go_ret2
        exact ⟨by rw [hF.out.1, hF.out.2]; rfl, rfl⟩
      · have hA : Hid (allL s.data.toList = true) := by show _ = _; rw [hall.out]; exact decide_eq_true (by omega)
        clear h0 hle
        go_enter Tryz.func203, Tryz.ntmps203
        go_wp2_with (go_at_call 202; refine (HL.out _).mono ?_; rintro e w1 ⟨rfl, rfl⟩)
        go_loop [4, 23] (fun a i => ∃ (k : Nat) (n : Int), k ≤ s.size ∧ i = .int .i64 k ∧ a = .int .i64 n ∧ 0 ≤ n ∧ n ≤ 7625597484986 ∧ Hid (allL (s.data.toList.take k) = true ∧ n = (colV (s.data.toList.take k) : Int))) (fun _ i => s.size - (intOf i).toNat)
        case atStart => exact ⟨0, 0, Nat.zero_le _, rfl, rfl, by omega, by omega, rfl, rfl⟩
        case round =>
          obtain ⟨k, n, hk, rfl, rfl, n0, n1, hn⟩ := hrel
          by_cases hlt : k < s.size
          · have hd : let1 s[k] = true := by
              have h := allL_mem hA.out (get_mem s k hlt)
              exact let_yes (by omega) (by omega)
            have b0 : 65 ≤ (s[k].toNat : Int) := by unfold let1 at hd; simp at hd; omega
            have b1 : (s[k].toNat : Int) ≤ 90 := by unfold let1 at hd; simp at hd; omega
            have hv : Hid (allL (s.data.toList.take (k + 1)) = true ∧ (colV (s.data.toList.take (k + 1)) : Int) = n * 26 + ((s[k].toNat : Int) - 65) + 1) := by
              have := hn.out
              refine ⟨?_, ?_⟩
              · rw [take_snoc s k hlt, allL_app, this.1]
                unfold allL
                simp [hd]
              · rw [take_snoc s k hlt, colV_snoc, this.2]
                omega
            have hb := colV_nine _ hv.out.1 (by rw [List.length_take]; omega)
            have hb' : n * 26 + ((s[k].toNat : Int) - 65) + 1 ≤ 7625597484986 := by have := hv.out.2; omega
            clear hd hb
            go_wp2
            go_round
            case rel => exact ⟨k + 1, n * 26 + ((s[k].toNat : Int) - 65) + 1, by omega, by go_num, by go_num, by omega, by omega, hv.out.1, hv.out.2.symm⟩
            case measure => simp [intOf]; omega
          · have hN : Hid (allL s.data.toList = true ∧ n = (colV s.data.toList : Int)) := by have := hn.out; rw [take_all s k (by omega)] at this; exact this
            by_cases hb : 2199023255552 < n
            · have hF := colK_of (l := s.data.toList) false (colF_great (by have := hN.out.2; omega))
              go_wp2
              go_ret2
              exact ⟨by rw [hF.out.1, hF.out.2]; rfl, rfl⟩
            · have hF := colK_of (l := s.data.toList) true (colF_yes (ne_of_pos hp) (by rw [len_data]; omega) hN.out.1 (by have := hN.out.2; omega))
              go_wp2
              go_ret2
              exact ⟨by rw [hF.out.1, hF.out.2, ← hN.out.2]; rfl, rfl⟩
theorem clone_any (s : ByteArray) (w : World) (hs : s.size ≤ 281474976710656) :
    Calls Tryz.prog 89 #[.string s] w fun e w' => e = .returned (.string s) ∧ Q w w' := by
  have HC := hid (fun W => Tryz.stringslite_Clone s W hs)
  clear hs
  go_enter Tryz.func89, Tryz.ntmps89
  go_wp2_with (go_at_call 119; refine (HC.out _).mono ?_; rintro e w1 ⟨rfl, q1⟩)
  go_ret
  exact ⟨rfl, q1⟩
def refT (l : List UInt8) : List UInt8 × Int × Int × Bool × Bool :=
  if refF l then
    ((if (Lib.cut l [33]).2.2 then (Lib.cut l [33]).1 else []),
     (val (Lib.trimPrefix ((Lib.trimPrefix (shP (Lib.cut l [33]) l) [36]).dropWhile let1) [36]) : Int) - 1,
     (colV ((Lib.trimPrefix (shP (Lib.cut l [33]) l) [36]).takeWhile let1) : Int) - 1,
     Lib.hasPrefix ((Lib.trimPrefix (shP (Lib.cut l [33]) l) [36]).dropWhile let1) [36],
     Lib.hasPrefix (shP (Lib.cut l [33]) l) [36])
  else ([], 0, 0, false, false)
def refA (t : List UInt8 × Int × Int × Bool × Bool) : Value := .agg #[.string ⟨t.1.toArray⟩, .int .i64 t.2.1, .int .i64 t.2.2.1, .bool t.2.2.2.1, .bool t.2.2.2.2]
def tailF (c : List UInt8) : Bool :=
  colF ((Lib.trimPrefix c [36]).takeWhile let1) &&
   (numF (Lib.trimPrefix ((Lib.trimPrefix c [36]).dropWhile let1) [36]) 2199023255552 &&
    decide (val (Lib.trimPrefix ((Lib.trimPrefix c [36]).dropWhile let1) [36]) ≠ 0))
def tailT (sh c : List UInt8) : List UInt8 × Int × Int × Bool × Bool :=
  (sh, (val (Lib.trimPrefix ((Lib.trimPrefix c [36]).dropWhile let1) [36]) : Int) - 1,
     (colV ((Lib.trimPrefix c [36]).takeWhile let1) : Int) - 1,
     Lib.hasPrefix ((Lib.trimPrefix c [36]).dropWhile let1) [36],
     Lib.hasPrefix c [36])
def noT : List UInt8 × Int × Int × Bool × Bool := ([], 0, 0, false, false)
theorem ref_free {l a b : List UInt8} (h : Lib.cut l [33] = (a, b, false)) : refF l = tailF l ∧ refT l = if tailF l then tailT [] l else noT := by
  have e : refF l = tailF l := by unfold refF tailF; rw [h]; rfl
  refine ⟨e, ?_⟩
  unfold refT
  rw [e, h]
  rfl
theorem ref_other {l a b : List UInt8} (h : Lib.cut l [33] = (a, b, true)) : refF l = (idB a && tailF b) ∧ refT l = if idB a && tailF b then tailT a b else noT := by
  have e : refF l = (idB a && tailF b) := by unfold refF tailF idB; rw [h]; rfl
  refine ⟨e, ?_⟩
  unfold refT
  rw [e, h]
  rfl
end Go.Proofs.YtgheopdadfnilaaGreatDoor
namespace Go.Proofs.YtgheopdadfnilaaGreatDoor.V
open Go.RowKit
theorem take_snoc (s : ByteArray) (k : Nat) (h : k < s.size) : s.data.toList.take (k + 1) = s.data.toList.take k ++ [s[k]] := by
  rw [List.take_succ_eq_append_getElem (by simpa using h)]; rfl
theorem take_all (s : ByteArray) (k : Nat) (h : s.size ≤ k) : s.data.toList.take k = s.data.toList :=
  List.take_of_length_le (by simpa using h)
theorem get_mem (s : ByteArray) (k : Nat) (h : k < s.size) : s[k] ∈ s.data.toList := by
  have : s[k] = s.data.toList[k]'(by simpa using h) := rfl
  rw [this]
  exact List.getElem_mem _
theorem allD_no (s : ByteArray) (k : Nat) (h : k < s.size) (hd : dig s[k] = false) : allD s.data.toList = false := by
  unfold allD
  rw [List.all_eq_false]
  exact ⟨s[k], get_mem s k h, by simp [hd]⟩
theorem ret_bool {a b : Bool} (h : a = b) : Ending.returned (.bool a) = .returned (.bool b) := by rw [h]
set_option maxHeartbeats 400000 in
theorem allDigits_any (s : ByteArray) (w : World) (hs : s.size ≤ 9223372036854775807) :
    Calls Tryz.prog 145 #[.string s] w fun e w' => e = .returned (.bool (allD s.data.toList)) ∧ w' = w := by
  go_enter Tryz.func145, Tryz.ntmps145
  go_wp2
  go_loop [6] (fun i => ∃ k : Nat, k ≤ s.size ∧ i = .int .i64 k ∧ Hid (allD (s.data.toList.take k) = true)) (fun i => s.size - (intOf i).toNat)
  case atStart => exact ⟨0, Nat.zero_le _, rfl, rfl⟩
  case round =>
    obtain ⟨k, hk, rfl, ha⟩ := hrel
    by_cases hlt : k < s.size
    · by_cases hd : dig s[k] = true
      · have ha' : Hid (allD (s.data.toList.take (k + 1)) = true) := by
          show _ = _
          rw [take_snoc s k hlt]
          have := ha.out
          unfold allD at *
          rw [List.all_append, this]
          simp [hd]
        have b0 : 48 ≤ (s[k].toNat : Int) := by unfold dig at hd; simp at hd; omega
        have b1 : (s[k].toNat : Int) ≤ 57 := by unfold dig at hd; simp at hd; omega
        clear hd
        go_wp2
        go_round
        case rel => exact ⟨k + 1, by omega, by go_num, ha'⟩
        case measure => simp [intOf]; omega
      · have hN := hid (allD_no s k hlt (by simpa using hd))
        by_cases b0 : (s[k].toNat : Int) < 48
        · clear hd
          go_wp2
          go_ret
          exact ⟨ret_bool hN.out.symm, rfl⟩
        · have b1 : 57 < (s[k].toNat : Int) := by unfold dig at hd; simp at hd; omega
          clear hd
          go_wp2
          go_ret
          exact ⟨ret_bool hN.out.symm, rfl⟩
    · have hN : Hid (allD s.data.toList = true) := by show _ = _; have := ha.out; rw [take_all s k (by omega)] at this; exact this
      go_wp2
      go_ret
      exact ⟨ret_bool hN.out.symm, rfl⟩
theorem val_snoc (l : List UInt8) (c : UInt8) : val (l ++ [c]) = val l * 10 + (c.toNat - 48) := by unfold val; rw [List.foldl_append]; rfl
theorem foldl_ge : ∀ (m : List UInt8) (n : Nat), n ≤ m.foldl (fun n c => n * 10 + (c.toNat - 48)) n
  | [], n => Nat.le_refl _
  | c :: m, n => by
    have := foldl_ge m (n * 10 + (c.toNat - 48))
    rw [List.foldl_cons]
    omega
theorem val_ge (l m : List UInt8) : val l ≤ val (l ++ m) := by unfold val; rw [List.foldl_append]; exact foldl_ge m _
def RdPost (V : Nat) (e : Ending) : Prop := ∃ (n : Int) (ok : Bool), e = .returned (.tuple #[.int .u64 n, .bool ok]) ∧ 0 ≤ n ∧ n < 18446744073709551616 ∧
      (ok = true → n = (V : Int)) ∧ (ok = false → 9223372036854775810 ≤ V)
set_option maxHeartbeats 400000 in
theorem readDigits_any (s : ByteArray) (w : World) (hs : s.size ≤ 9223372036854775807) (hd : allD s.data.toList = true) :
    Calls Tryz.prog 113 #[.string s] w fun e w' => RdPost (val s.data.toList) e ∧ w' = w := by
  have HD := hid hd
  clear hd
  go_enter Tryz.func113, Tryz.ntmps113
  go_wp2
  go_loop [4, 8] (fun a i => ∃ (k : Nat) (n : Int), k ≤ s.size ∧ i = .int .i64 k ∧ a = .int .u64 n ∧ 0 ≤ n ∧ n ≤ 9223372036854775809 ∧ Hid (n = (val (s.data.toList.take k) : Int))) (fun _ i => s.size - (intOf i).toNat)
  case atStart => exact ⟨0, 0, Nat.zero_le _, rfl, rfl, by omega, by omega, rfl⟩
  case round =>
    obtain ⟨k, n, hk, rfl, rfl, n0, n1, hn⟩ := hrel
    by_cases hlt : k < s.size
    · have hdk : dig s[k] = true := by
        have := HD.out
        unfold allD at this
        rw [List.all_eq_true] at this
        exact this _ (get_mem s k hlt)
      have b0 : 48 ≤ (s[k].toNat : Int) := by unfold dig at hdk; simp at hdk; omega
      have b1 : (s[k].toNat : Int) ≤ 57 := by unfold dig at hdk; simp at hdk; omega
      have hv : Hid ((val (s.data.toList.take (k + 1)) : Int) = n * 10 + ((s[k].toNat : Int) - 48)) := by
        show _ = _
        rw [take_snoc s k hlt, val_snoc, hn.out]
        omega
      clear hdk
      by_cases hb : 922337203685477580 < n
      · have hN : Hid (9223372036854775810 ≤ val s.data.toList) := by
          show _ ≤ _
          have h1 := val_ge (s.data.toList.take (k + 1)) (s.data.toList.drop (k + 1))
          rw [List.take_append_drop] at h1
          have h2 := hv.out
          omega
        go_wp2
        go_ret2
        exact ⟨⟨0, false, rfl, by omega, by omega, by simp, fun _ => hN.out⟩, rfl⟩
      · go_wp2
        go_round
        case rel => exact ⟨k + 1, n * 10 + ((s[k].toNat : Int) - 48), by omega, by go_num, rfl, by omega, by omega, hv.out.symm⟩
        case measure => simp [intOf]; omega
    · have hN : Hid (n = (val s.data.toList : Int)) := by show _ = _; have := hn.out; rw [take_all s k (by omega)] at this; exact this
      go_wp2
      go_ret2
      exact ⟨⟨n, true, rfl, n0, by omega, fun _ => hN.out, by simp⟩, rfl⟩
theorem headD_get (s : ByteArray) (h : 0 < s.size) : s.data.toList.headD 0 = s[0] := by
  have h' : 0 < s.data.toList.length := by simpa using h
  have e : s[0] = s.data.toList[0]'h' := rfl
  rw [e, List.headD_eq_head?_getD, List.head?_eq_getElem?, List.getElem?_eq_getElem h']
  rfl
set_option maxHeartbeats 400000 in
theorem isWhole_any (s : ByteArray) (w : World) (hs : s.size ≤ 9223372036854775807) :
    Calls Tryz.prog 111 #[.string s] w fun e w' => e = .returned (.bool (wholeB s.data.toList)) ∧ w' = w := by
  have et := hid (Lib.toList_data s)
  by_cases h1 : s.toList = [48]
  · have hW : Hid (wholeB s.data.toList = true) := by show _ = _; rw [← et.out, h1]; rfl
    go_enter Tryz.func111, Tryz.ntmps111
    go_wp2_with (go_at_call 145; refine (allDigits_any s _ hs).mono ?_; rintro e w' ⟨rfl, rfl⟩)
    go_ret
    exact ⟨ret_bool hW.out.symm, rfl⟩
  · have n1 : (s.toList == [48]) = false := by simpa using h1
    by_cases h2 : s.toList = []
    · have hW : Hid (wholeB s.data.toList = false) := by show _ = _; rw [← et.out, h2]; rfl
      go_enter Tryz.func111, Tryz.ntmps111
      go_wp2_with (go_at_call 145; refine (allDigits_any s _ hs).mono ?_; rintro e w' ⟨rfl, rfl⟩)
      go_ret
      exact ⟨ret_bool hW.out.symm, rfl⟩
    · have hp : 0 < s.size := by
        rcases Nat.eq_zero_or_pos s.size with h | h
        · exfalso; apply h2; rw [et.out]; apply List.eq_nil_of_length_eq_zero; simpa using h
        · exact h
      have hE : (s.toList.isEmpty) = false := by simpa using h2
      have hh := hid (headD_get s hp)
      by_cases h3 : s[0] = 48
      · have hW : Hid (wholeB s.data.toList = false) := by
          show _ = _
          unfold wholeB
          rw [hh.out, h3, ← et.out, n1]
          simp
        have h4 : ((s[0].toNat : Int) != 48) = false := by rw [h3]; rfl
        clear h3
        go_enter Tryz.func111, Tryz.ntmps111
        go_wp2_with (go_at_call 145; refine (allDigits_any s _ hs).mono ?_; rintro e w' ⟨rfl, rfl⟩)
        go_ret
        exact ⟨ret_bool hW.out.symm, rfl⟩
      · have hW : Hid (allD s.data.toList = wholeB s.data.toList) := by
          show _ = _
          unfold wholeB
          rw [hh.out, ← et.out, n1, hE]
          simp [h3]
        have h4 : ((s[0].toNat : Int) != 48) = true := by
          rw [bne_iff_ne]
          intro h
          apply h3
          apply UInt8.toNat_inj.1
          show s[0].toNat = 48
          omega
        clear h3
        go_enter Tryz.func111, Tryz.ntmps111
        go_wp2_with (go_at_call 145; refine (allDigits_any s _ hs).mono ?_; rintro e w' ⟨rfl, rfl⟩)
        go_ret
        exact ⟨ret_bool hW.out, rfl⟩
set_option maxHeartbeats 400000 in
theorem isPart_any (s : ByteArray) (w : World) (hs : s.size ≤ 9223372036854775807) :
    Calls Tryz.prog 112 #[.string s] w fun e w' => e = .returned (.bool (partB s.data.toList)) ∧ w' = w := by
  have et := hid (Lib.toList_data s)
  have el := hid (Lib.size_eq s)
  by_cases h2 : s.toList = []
  · have hW : Hid (partB s.data.toList = false) := by show _ = _; rw [← et.out, h2]; rfl
    go_enter Tryz.func112, Tryz.ntmps112
    go_wp2_with (go_at_call 145; refine (allDigits_any s _ hs).mono ?_; rintro e w' ⟨rfl, rfl⟩)
    go_ret
    exact ⟨ret_bool hW.out.symm, rfl⟩
  · have hE : (s.toList.isEmpty) = false := by simpa using h2
    by_cases h3 : s.size ≤ 4
    · have hW : Hid (allD s.data.toList = partB s.data.toList) := by
        show _ = _
        unfold partB
        rw [← el.out, ← et.out, hE]
        simp [h3]
      go_enter Tryz.func112, Tryz.ntmps112
      go_wp2_with (go_at_call 145; refine (allDigits_any s _ hs).mono ?_; rintro e w' ⟨rfl, rfl⟩)
      go_ret
      exact ⟨ret_bool hW.out, rfl⟩
    · have hW : Hid (partB s.data.toList = false) := by
        show _ = _
        unfold partB
        rw [← el.out]
        simp [h3]
      go_enter Tryz.func112, Tryz.ntmps112
      go_wp2_with (go_at_call 145; refine (allDigits_any s _ hs).mono ?_; rintro e w' ⟨rfl, rfl⟩)
      go_ret
      exact ⟨ret_bool hW.out.symm, rfl⟩
theorem size_mk (l : List UInt8) : (⟨l.toArray⟩ : ByteArray).size = l.length := by simp [ByteArray.size]
theorem cut_le (t : List UInt8) : (Lib.cut t [46]).1.length + (Lib.cut t [46]).2.1.length ≤ t.length := by
  unfold Lib.cut
  split
  · simp only [List.length_take, List.length_drop, List.length_cons, List.length_nil]
    omega
  · simp
theorem cut_none (t : List UInt8) (h : (Lib.cut t [46]).2.2 = false) : (Lib.cut t [46]).2.1 = [] := by
  unfold Lib.cut at *
  split
  · rename_i g; rw [if_pos g] at h; cases h
  · rfl
theorem trimPrefix_len (l p : List UInt8) : (Lib.trimPrefix l p).length ≤ l.length := by
  unfold Lib.trimPrefix
  split
  · rw [List.length_drop]; omega
  · exact Nat.le_refl _
theorem sgn_huge {n : Nat} {neg : Bool} (h : 9223372036854775810 ≤ n) : fitB (sgn n neg) = false := by
  apply fitB_no
  cases neg
  · show (n : Int) < _ ∨ _ < (n : Int)
    omega
  · show -(n : Int) < _ ∨ _ < -(n : Int)
    omega
theorem allD_of_whole {l : List UInt8} (h : wholeB l = true) : allD l = true := by
  unfold wholeB at h
  rw [Bool.or_eq_true] at h
  rcases h with h | h
  · rw [eq_of_beq h]; rfl
  · rw [Bool.and_eq_true] at h; exact h.2
theorem zeros_ex (k : Nat) : ByteArray.extract ⟨#[48, 48, 48, 48]⟩ k 4 = ⟨([48, 48, 48, 48].drop k : List UInt8).toArray⟩ := by
  apply ByteArray.ext
  apply Array.ext'
  rw [Lib.extract_data]
  show List.take (4 - k) (List.drop k [48, 48, 48, 48]) = _
  rw [List.take_of_length_le (by simp)]
set_option maxHeartbeats 400000 in
theorem parse_no1 (s : ByteArray) (w : World) (t wl pl : List UInt8) (ng pt : Bool) (hl : wl.length ≤ 4294967281)
    (hP : Hid (Calls Tryz.prog 40 #[.string s, .string ⟨#[45]⟩] w fun e w' => e = .returned (.tuple #[.string ⟨t.toArray⟩, .bool ng]) ∧ w' = w))
    (hC : Hid (Calls Tryz.prog 110 #[.string ⟨t.toArray⟩, .string ⟨#[46]⟩] w fun e w' => e = .returned (.tuple #[.string ⟨wl.toArray⟩, .string ⟨pl.toArray⟩, .bool pt]) ∧ ∃ n, w' = w.drewN n))
    (hw : wholeB wl = false) :
    Calls Tryz.prog 78 #[.string s] w fun e w' => e = .returned (.tuple #[.int .i64 0, .bool false]) ∧ Q w w' := by
  have sw : (⟨wl.toArray⟩ : ByteArray).size ≤ 9223372036854775807 := by rw [size_mk]; omega
  have HW := hid (fun w => isWhole_any ⟨wl.toArray⟩ w sw)
  simp only [hw] at HW
  clear sw hw
  go_enter Tryz.func78, Tryz.ntmps78
  go_wp2_with (first | (go_at_call 40; refine hP.out.mono ?_; rintro e w1 ⟨rfl, rfl⟩) | (go_at_call 110; refine hC.out.mono ?_; rintro e w2 ⟨rfl, n, rfl⟩) | (go_at_call 111; refine (HW.out _).mono ?_; rintro e w3 ⟨rfl, rfl⟩))
  go_ret2
  exact ⟨rfl, (Q.refl _).drewN _⟩
set_option maxHeartbeats 400000 in
theorem parse_no2 (s : ByteArray) (w : World) (t wl pl : List UInt8) (ng : Bool) (hl : wl.length + pl.length ≤ 4294967281)
    (hP : Hid (Calls Tryz.prog 40 #[.string s, .string ⟨#[45]⟩] w fun e w' => e = .returned (.tuple #[.string ⟨t.toArray⟩, .bool ng]) ∧ w' = w))
    (hC : Hid (Calls Tryz.prog 110 #[.string ⟨t.toArray⟩, .string ⟨#[46]⟩] w fun e w' => e = .returned (.tuple #[.string ⟨wl.toArray⟩, .string ⟨pl.toArray⟩, .bool true]) ∧ ∃ n, w' = w.drewN n))
    (hw : wholeB wl = true) (hp : partB pl = false) :
    Calls Tryz.prog 78 #[.string s] w fun e w' => e = .returned (.tuple #[.int .i64 0, .bool false]) ∧ Q w w' := by
  have sw : (⟨wl.toArray⟩ : ByteArray).size ≤ 9223372036854775807 := by rw [size_mk]; omega
  have sp : (⟨pl.toArray⟩ : ByteArray).size ≤ 9223372036854775807 := by rw [size_mk]; omega
  have HW := hid (fun w => isWhole_any ⟨wl.toArray⟩ w sw)
  have HP := hid (fun w => isPart_any ⟨pl.toArray⟩ w sp)
  simp only [hw] at HW
  simp only [hp] at HP
  clear sw hw hp sp
  go_enter Tryz.func78, Tryz.ntmps78
  go_wp2_with (first | (go_at_call 40; refine hP.out.mono ?_; rintro e w1 ⟨rfl, rfl⟩) | (go_at_call 110; refine hC.out.mono ?_; rintro e w2 ⟨rfl, n, rfl⟩) | (go_at_call 111; refine (HW.out _).mono ?_; rintro e w3 ⟨rfl, rfl⟩) | (go_at_call 112; refine (HP.out _).mono ?_; rintro e w3 ⟨rfl, rfl⟩))
  go_ret2
  exact ⟨rfl, (Q.refl _).drewN _⟩
set_option maxHeartbeats 400000 in
theorem parse_yes (s : ByteArray) (w : World) (t wl pl : List UInt8) (ng pt : Bool) (hl : wl.length + pl.length ≤ 4294967281)
    (hP : Hid (Calls Tryz.prog 40 #[.string s, .string ⟨#[45]⟩] w fun e w' => e = .returned (.tuple #[.string ⟨t.toArray⟩, .bool ng]) ∧ w' = w))
    (hC : Hid (Calls Tryz.prog 110 #[.string ⟨t.toArray⟩, .string ⟨#[46]⟩] w fun e w' => e = .returned (.tuple #[.string ⟨wl.toArray⟩, .string ⟨pl.toArray⟩, .bool pt]) ∧ ∃ n, w' = w.drewN n))
    (hw : wholeB wl = true) (hp : pt = true → partB pl = true) (hd : allD pl = true) (h4 : pl.length ≤ 4) :
    Calls Tryz.prog 78 #[.string s] w fun e w' => e = .returned (.tuple #[.int .i64 (keep (sgn (val (wl ++ pl ++ [48, 48, 48, 48].drop pl.length)) ng)), .bool (fitB (sgn (val (wl ++ pl ++ [48, 48, 48, 48].drop pl.length)) ng))]) ∧ Q w w' := by
  have sw : (⟨wl.toArray⟩ : ByteArray).size ≤ 9223372036854775807 := by rw [size_mk]; omega
  have sp : (⟨pl.toArray⟩ : ByteArray).size ≤ 9223372036854775807 := by rw [size_mk]; omega
  have HW := hid (fun w => isWhole_any ⟨wl.toArray⟩ w sw)
  have HP := hid (fun w => isPart_any ⟨pl.toArray⟩ w sp)
  have hdw := allD_of_whole hw
  simp only [hw] at HW
  have eX := zeros_ex pl.length
  have zl4 : ([48, 48, 48, 48].drop pl.length : List UInt8).length ≤ 4 := by rw [List.length_drop]; simp
  have hdz : allD ([48, 48, 48, 48].drop pl.length) = true := by
    unfold allD
    rw [List.all_eq_true]
    intro x hx
    have := List.mem_of_mem_drop hx
    simp at this
    subst this
    rfl
  have hd3 : allD (wl ++ pl ++ [48, 48, 48, 48].drop pl.length) = true := by
    unfold allD at *
    rw [List.all_append, List.all_append, hdw, hd, hdz]
    rfl
  clear hdz hdw
  generalize ([48, 48, 48, 48].drop pl.length : List UInt8) = zl at *
  have eC : ((⟨wl.toArray⟩ : ByteArray) ++ ⟨pl.toArray⟩ ++ ⟨zl.toArray⟩).data.toList = wl ++ pl ++ zl := by rw [bytes_cat, bytes_cat]
  have sC : ((⟨wl.toArray⟩ : ByteArray) ++ ⟨pl.toArray⟩ ++ ⟨zl.toArray⟩).size ≤ 9223372036854775807 := by rw [bytes_cat, bytes_cat, size_mk, List.length_append, List.length_append]; omega
  have HR := hid (fun w => readDigits_any ((⟨wl.toArray⟩ : ByteArray) ++ ⟨pl.toArray⟩ ++ ⟨zl.toArray⟩) w sC (by rw [eC]; exact hd3))
  rw [eC] at HR
  clear sw hw hd sp eC sC hd3
  generalize val (wl ++ pl ++ zl) = V at *
  cases pt
  · clear hp HP
    go_enter Tryz.func78, Tryz.ntmps78
    go_wp2_with (first | (go_at_call 40; refine hP.out.mono ?_; rintro e w1 ⟨rfl, rfl⟩) | (go_at_call 110; refine hC.out.mono ?_; rintro e w2 ⟨rfl, n, rfl⟩) | (go_at_call 111; refine (HW.out _).mono ?_; rintro e w3 ⟨rfl, rfl⟩) | (go_at_call 113; refine (HR.out _).mono ?_; rintro e w3 ⟨⟨k, ok, rfl, k0, k1, k2, k3⟩, rfl⟩; have K2 := hid k2; have K3 := hid k3; clear k2 k3) | (go_at_call 114; refine (signed_any k ng _ k0 k1).mono ?_; rintro e w3 ⟨rfl, rfl⟩))
    · have hf := sgn_huge (neg := ng) (K3.out (by simpa using ‹(!ok) = true›))
      go_ret2
      exact ⟨ret_two (keep_no hf).symm hf.symm, (Q.refl _).drewN _⟩
    · have hk := K2.out (by simpa using ‹(!ok) = false›)
      go_ret2
      exact ⟨ret_two (congrArg (fun x => keep (sgn x ng)) hk) (congrArg (fun x => fitB (sgn x ng)) hk), (Q.refl _).drewN _⟩
  · have hp' := hp rfl
    simp only [hp'] at HP
    clear hp hp'
    go_enter Tryz.func78, Tryz.ntmps78
    go_wp2_with (first | (go_at_call 40; refine hP.out.mono ?_; rintro e w1 ⟨rfl, rfl⟩) | (go_at_call 110; refine hC.out.mono ?_; rintro e w2 ⟨rfl, n, rfl⟩) | (go_at_call 111; refine (HW.out _).mono ?_; rintro e w3 ⟨rfl, rfl⟩) | (go_at_call 112; refine (HP.out _).mono ?_; rintro e w3 ⟨rfl, rfl⟩) | (go_at_call 113; refine (HR.out _).mono ?_; rintro e w3 ⟨⟨k, ok, rfl, k0, k1, k2, k3⟩, rfl⟩; have K2 := hid k2; have K3 := hid k3; clear k2 k3) | (go_at_call 114; refine (signed_any k ng _ k0 k1).mono ?_; rintro e w3 ⟨rfl, rfl⟩))
    · have hf := sgn_huge (neg := ng) (K3.out (by simpa using ‹(!ok) = true›))
      go_ret2
      exact ⟨ret_two (keep_no hf).symm hf.symm, (Q.refl _).drewN _⟩
    · have hk := K2.out (by simpa using ‹(!ok) = false›)
      go_ret2
      exact ⟨ret_two (congrArg (fun x => keep (sgn x ng)) hk) (congrArg (fun x => fitB (sgn x ng)) hk), (Q.refl _).drewN _⟩
theorem parse_any (s : ByteArray) (w : World) (hw : Std w) (hs : s.size < 4294967281) :
    Calls Tryz.prog 78 #[.string s] w fun e w' => e = .returned (.tuple #[.int .i64 (pk (parseO s.data.toList)), .bool (pf (parseO s.data.toList))]) ∧ Q w w' := by
  obtain ⟨m, hm⟩ := hw.len
  have hP := hid (Tryz.strings_CutPrefix s ⟨#[45]⟩ w)
  have ht := trimPrefix_len s.data.toList [45]
  have hl := Lib.size_eq s
  have hC := hid (Tryz.strings_Cut ⟨(Lib.trimPrefix s.data.toList [45]).toArray⟩ ⟨#[46]⟩ m w (by rw [size_mk]; omega) hm)
  have hc := cut_le (Lib.trimPrefix s.data.toList [45])
  have hn := cut_none (Lib.trimPrefix s.data.toList [45])
  unfold parseO
  generalize Lib.hasPrefix s.data.toList [45] = ng at *
  generalize Lib.trimPrefix s.data.toList [45] = t at *
  generalize (Lib.cut t [46]).1 = wl at *
  generalize (Lib.cut t [46]).2.1 = pl at *
  generalize (Lib.cut t [46]).2.2 = pt at *
  by_cases hw : wholeB wl = true
  · by_cases hp : pt = true → partB pl = true
    · have hcond : (wholeB wl && (!pt || partB pl)) = true := by
        rw [hw]
        cases pt
        · rfl
        · simpa using hp rfl
      rw [if_pos hcond]
      have h2 : allD pl = true ∧ pl.length ≤ 4 := by
        cases pt
        · rw [hn rfl]; exact ⟨rfl, by simp⟩
        · have := hp rfl
          unfold partB at this
          simp only [Bool.and_eq_true, decide_eq_true_eq] at this
          exact ⟨this.2, this.1.2⟩
      exact parse_yes s w t wl pl ng pt (by omega) hP hC hw hp h2.1 h2.2
    · have hpt : pt = true := by
        cases pt
        · exact absurd (fun h => by cases h) hp
        · rfl
      subst hpt
      have hpf : partB pl = false := by
        cases h : partB pl
        · rfl
        · exact absurd (fun _ => h) hp
      rw [if_neg (by simp [hpf])]
      exact parse_no2 s w t wl pl ng (by omega) hP hC hw hpf
  · have hw' : wholeB wl = false := by simpa using hw
    rw [if_neg (by simp [hw'])]
    exact parse_no1 s w t wl pl ng pt (by omega) hP hC hw'
end Go.Proofs.YtgheopdadfnilaaGreatDoor.V
