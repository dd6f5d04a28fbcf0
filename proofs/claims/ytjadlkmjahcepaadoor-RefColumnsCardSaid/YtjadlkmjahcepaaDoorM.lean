/- The law RefColumns, walked. -/
import Derived.Test.YtjadlkmjahcepaaDoorM0
import Derived.Test.YtjadlkmjahcepaaDoorG0
import Derived.Deep.CutBlock
namespace Go.Proofs.YtjadlkmjahcepaaDoor
open Go.RowKit
set_option linter.unusedVariables false
set_option linter.unusedSimpArgs false

set_option maxRecDepth 100000 in
set_option maxHeartbeats 2000000 in
theorem columns_no (n : Int) (w : World) (hw : Std w) (h : n < 0 ∨ 1099511627776 < n) :
    Calls Tryd.prog 5 #[.int .i64 n] w fun e w' => e = .returned (.bool true) ∧ Q w w' := by
  have HB := hid (begun_any w hw)
  have HN : Hid (∀ W, Calls Tryd.prog 19 #[.int .i64 (-1)] W fun e w' => e = .returned (.string ⟨#[]⟩) ∧ Q W w') := fun W => name_any (-1) W
  clear hw
  by_cases h0 : n < 0
  · clear h
    go_enter Tryd.func5, Tryd.ntmps5
    go_wp2_with (first | (go_at_call 6; refine HB.out.mono ?_; rintro e w1 ⟨rfl, q1⟩) | (go_at_call 19; refine (HN.out _).mono ?_; rintro e w2 ⟨rfl, q2⟩))
    go_ret
    exact ⟨rfl, q1.trans q2⟩
  · have h1 : 1099511627776 < n := by omega
    clear h
    go_enter Tryd.func5, Tryd.ntmps5
    go_wp2_with (first | (go_at_call 6; refine HB.out.mono ?_; rintro e w1 ⟨rfl, q1⟩) | (go_at_call 19; refine (HN.out _).mono ?_; rintro e w2 ⟨rfl, q2⟩))
    go_ret
    exact ⟨rfl, q1.trans q2⟩

set_option maxRecDepth 100000 in
set_option maxHeartbeats 4000000 in
theorem columns_yes (n m : Int) (S T : ByteArray) (w : World) (hw : Std w) (n0 : 0 ≤ n) (n1 : n ≤ 1099511627776) (em : n + 1 = m) (hS0 : 0 < S.size) (hS9 : S.size ≤ 9)
    (HN : Hid (∀ W, Calls Tryd.prog 19 #[.int .i64 n] W fun e w' => e = .returned (.string S) ∧ Q W w'))
    (HM : Hid (∀ W, Calls Tryd.prog 19 #[.int .i64 m] W fun e w' => e = .returned (.string T) ∧ Q W w'))
    (HA : Hid (allL S.data.toList = true)) (HT : Hid (T.data.toList = nmL (colV S.data.toList + 1))) (hT : T.size ≤ 100) :
    Calls Tryd.prog 5 #[.int .i64 n] w fun e w' => e = .returned (.bool true) ∧ Q w w' := by
  have HB := hid (begun_any w hw)
  have hcv := fun W => bw_run W S
  clear hw
  go_enter Tryd.func5, Tryd.ntmps5
  go_wp2_with (first | (go_at_call 6; refine HB.out.mono ?_; rintro e w1 ⟨rfl, q1⟩; have J := hid q1) | (go_at_call_of 19 m; refine (HM.out _).mono ?_; rintro e w3 ⟨rfl, q3⟩; have HZ := hid ((bw_sb w2 S).on q3); replace J := hid ((J.out.trans (bw_q w2 S)).trans q3)) | (go_at_call_of 19 n; refine (HN.out _).mono ?_; rintro e w2 ⟨rfl, q2⟩; replace J := hid (J.out.trans q2); have hcp := cp_ge w2 S))
  go_loopw [6] (fun i W => ∃ (x : Int) (a : List UInt8) (r : Nat), i = .int .i64 x ∧ Hid (x = (a.length : Int) - 1) ∧ -1 ≤ x ∧ x < 9 ∧ Hid (S.data.toList = a ++ List.replicate r 90) ∧ SB W w2.heap.size (a ++ List.replicate r 65) ∧ Q w W) (fun i _ => (intOf i + 1).toNat)
  case atStart => exact ⟨(S.size : Int) - 1, S.data.toList, 0, rfl, by show _ = _; rw [len_data], by omega, by omega, by show _ = _; simp, by simpa using HZ.out, J.out⟩
  case round =>
    obtain ⟨x, a, r, rfl, hx, x0, x1, hl, hsb, hq⟩ := hrel
    have HZ' := hid hsb
    have HQ := hid hq
    have hlen := congrArg List.length hl.out
    rw [len_data, List.length_append, List.length_replicate] at hlen
    clear hsb hq
    rcases List.eq_nil_or_concat a with rfl | ⟨a', c, rfl⟩
    · obtain rfl : x = -1 := by have := hx.out; simpa using this
      have hT' : Hid (T.data.toList = 65 :: List.replicate r 65) := by
        show _ = _
        rw [HT.out, hl.out, List.nil_append, succ_all]
      obtain ⟨X, eX⟩ : ∃ X : ByteArray, ⟨(List.replicate r 65).toArray⟩ = X := ⟨_, rfl⟩
      have hcb := sb_back HZ'.out S.size (cp w2 S) (by rw [List.nil_append, List.length_replicate]; simpa using hlen)
      rw [List.nil_append, eX] at hcb
      have eT : (⟨#[65]⟩ : ByteArray) ++ X = T := by
        rw [← eX, bytes_eq hT'.out]
        exact bytes_cat [65] (List.replicate r 65)
      have hXs : X.size ≤ 9 := by rw [← eX, size_mk, List.length_replicate]; simp at hlen; omega
      clear hlen eX
      go_wp2
      go_ret
      exact ⟨rfl, HQ.out⟩
    · obtain ⟨p, hp⟩ : ∃ p, a'.length = p := ⟨_, rfl⟩
      obtain rfl : x = (p : Int) := by have := hx.out; rw [List.concat_eq_append, List.length_append, List.length_singleton] at this; omega
      have e1 : (a'.concat c) ++ List.replicate r 65 = a' ++ c :: List.replicate r 65 := by simp
      have e2 : (a'.concat c) ++ List.replicate r 90 = a' ++ c :: List.replicate r 90 := by simp
      rw [e1] at HZ'
      rw [e2] at hl
      obtain ⟨hv, hf⟩ := HZ'.out.at
      have hbg := HZ'.out.big
      rw [hp] at hv hf
      have hpS : p < S.size := by rw [List.concat_eq_append, List.length_append, List.length_singleton] at hlen; omega
      have hcL : 65 ≤ c.toNat ∧ c.toNat ≤ 90 := by
        have h := HA.out
        rw [hl.out] at h
        exact allL_mem h (by simp)
      by_cases hc : c = 90
      · subst hc
        have hv' : wr.cell? ⟨w2.heap.size, p, none⟩ = some (.int .u8 90) := hv
        have HP := hid (HZ'.out.put 65)
        rw [hp] at HP
        have HP' : Hid (SB (wr.setCell ⟨w2.heap.size, p, none⟩ (.int .u8 65)) w2.heap.size (a' ++ List.replicate (r + 1) 65)) := by
          show SB _ _ _
          rw [List.replicate_succ]
          exact HP.out
        have hl' : Hid (S.data.toList = a' ++ List.replicate (r + 1) 90) := by show _ = _; rw [hl.out, List.replicate_succ]
        have HQ' := hid (HQ.out.setCell (b := w2.heap.size) (k := p) (by have := (q1.trans q2).size; exact this) (.int .u8 65))
        have HX : Hid ((p : Int) - 1 = (a'.length : Int) - 1) := by show _ = _; rw [hp]
        clear hv hlen e1 e2 hcL hp HP
        go_wp2
        go_roundw
        case rel => exact ⟨(p : Int) - 1, a', r + 1, rfl, HX, by omega, by omega, hl', HP'.out, HQ'.out⟩
        case measure => simp only [intOf]; omega
      · have hT' : Hid (T.data.toList = a' ++ UInt8.ofNat (c.toNat + 1) :: List.replicate r 65) := by
          show _ = _
          have h := HA.out
          rw [hl.out] at h
          rw [HT.out, hl.out, succ_one a' c r h hc]
        have hne : ((c.toNat : Int) == 90) = false := byte_ne (n := 90) (by omega) hc
        have HP := hid (HZ'.out.put (UInt8.ofNat (c.toNat + 1)))
        rw [hp, up_nat c hcL.2] at HP
        have hcb := sb_back HP.out S.size (cp w2 S) (by rw [List.length_append, List.length_cons, List.length_replicate]; rw [List.concat_eq_append, List.length_append, List.length_singleton] at hlen; omega)
        rw [← bytes_eq hT'.out] at hcb
        obtain ⟨v, ev⟩ : ∃ v : Int, (c.toNat : Int) = v := ⟨_, rfl⟩
        have ev2 : ((c.toNat + 1 : Nat) : Int) = v + 1 := by omega
        rw [ev2] at hcb
        rw [ev] at hv hne
        have hv0 : 65 ≤ v := by omega
        have hv1 : v ≤ 90 := by omega
        have HQ' := hid (HQ.out.setCell (b := w2.heap.size) (k := p) (by have := (q1.trans q2).size; exact this) (.int .u8 (v + 1)))
        clear hlen e1 e2 hcL hp HP ev ev2
        go_wp2
        go_ret
        exact ⟨rfl, HQ'.out⟩
theorem columns_walk (n : Int) (w : World) (hw : Std w) (b0 : -9223372036854775808 ≤ n) (b1 : n ≤ 9223372036854775807) :
    Calls Tryd.prog 5 #[.int .i64 n] w fun e w' => e = .returned (.bool true) ∧ Q w w' := by
  by_cases h : n < 0 ∨ 1099511627776 < n
  · exact columns_no n w hw h
  · have e1 : cnL n = nmL (n + 1).toNat := by unfold cnL; rw [if_pos (by omega)]
    have e2 : cnL (n + 1) = nmL ((n + 1).toNat + 1) := by unfold cnL; rw [if_pos (by omega), show (n + 1 + 1).toNat = (n + 1).toNat + 1 by omega]
    refine columns_yes n (n + 1) ⟨(cnL n).toArray⟩ ⟨(cnL (n + 1)).toArray⟩ w hw (by omega) (by omega) rfl ?_ ?_ (fun W => name_any n W) (fun W => name_any (n + 1) W) ?_ ?_ ?_
    · rw [size_mk, e1]
      exact List.length_pos_iff.2 (nm_ne _ (by omega))
    · rw [size_mk, e1]
      exact nm_nine _ (by omega)
    · show allL (cnL n) = true
      rw [e1]
      exact nm_all _
    · show cnL (n + 1) = nmL (colV (cnL n) + 1)
      rw [e1, e2, nm_val]
    · rw [size_mk]
      have := cn_len (n + 1)
      omega
end Go.Proofs.YtjadlkmjahcepaaDoor
