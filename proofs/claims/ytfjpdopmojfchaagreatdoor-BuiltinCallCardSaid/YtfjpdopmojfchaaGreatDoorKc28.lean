/- Values as numbers and texts, p. -/
import Derived.Test.YtfjpdopmojfchaaGreatDoorKc21
import Derived.Test.YtfjpdopmojfchaaGreatDoorKc17
import Derived.Test.YtfjpdopmojfchaaGreatDoorKc18
import Derived.Test.YtfjpdopmojfchaaGreatDoorKc26
import Derived.Test.YtfjpdopmojfchaaGreatDoorKc00
import Derived.Test.YtfjpdopmojfchaaGreatDoorKc27
import Derived.Test.YtfjpdopmojfchaaGreatDoorKc15
import Derived.Test.YtfjpdopmojfchaaGreatDoorKc11
import Derived.Deep.CutBlock
import Derived.Deep.RegionHeld3
import Derived.Deep.RegionWith
set_option linter.unusedVariables false
set_option linter.unusedSimpArgs false
set_option maxRecDepth 100000
set_option maxHeartbeats 8000000
namespace Go.Proofs.YtfjpdopmojfchaaGreatDoor
open Go.RowKit
theorem rnum_c (x : Cv) (hs : x.sl) (hm : x.may = true) : ∀ W, Calls Tryz.prog 49 #[x.v] W fun r W' => r = .returned (.tuple #[.int .i64 x.nN, .int .i64 x.nE]) ∧ Q W W' := fun W => rnumber_vk x.k x.n x.t x.b x.e W hs.t (vk_of hm)
theorem rtxt_c (x : Cv) (hs : x.sl) (hm : x.may = true) : ∀ W, Calls Tryz.prog 46 #[x.v] W fun r W' => r = .returned (.tuple #[.string x.tT, .int .i64 x.tE]) ∧ Q W W' := fun W => rtext_vk x.k x.n x.t x.b x.e W hs.t hs.n (vk_of hm)
theorem ba_of {op : ByteArray} {l : List UInt8} (h : op.toList = l) : op = ⟨l.toArray⟩ := by
  rw [Lib.toList_data] at h
  rw [← h]
def rE (f : Cv → Int) (x : Cv) : Int := if x.may = true then f x else 5
theorem rnumr_c (x : Cv) (w : World) (hs : x.sl) : Calls Tryz.prog 49 #[x.v] w fun r w' => r = .returned (.tuple #[.int .i64 (if x.may = true then x.nN else 0), .int .i64 (rE Cv.nE x)]) ∧ Q w w' := by
  unfold rE
  cases hm : x.may
  · exact rnumber_no x.k x.n x.t x.b x.e w hs.sm hm
  · exact rnum_c x hs hm w
theorem rtxtr_c (x : Cv) (w : World) (hs : x.sl) : Calls Tryz.prog 46 #[x.v] w fun r w' => r = .returned (.tuple #[.string (if x.may = true then x.tT else ⟨#[]⟩), .int .i64 (rE Cv.tE x)]) ∧ Q w w' := by
  unfold rE
  cases hm : x.may
  · exact rtext_no x.k x.n x.t x.b x.e w hs.sm hm
  · exact rtxt_c x hs hm w
theorem rtrur_c (x : Cv) (w : World) (hs : x.sl) : Calls Tryz.prog 79 #[x.v] w fun r w' => r = .returned (.tuple #[.bool (if x.may = true then x.tB else false), .int .i64 (rE Cv.bE x)]) ∧ Q w w' := rtru_c x w hs
theorem trouble_b6 (k : Int) (x : Cv) (w : World) (hs : x.sl) (hk : k = 6) : Calls Tryz.prog 35 #[.int .i64 k, x.v] w fun r w' => r = .returned (.int .i64 (rE Cv.bE x)) ∧ Q w w' := by
  subst hk
  have HC := hid (fun W => rtrur_c x W hs)
  have HA := hid (bx_new w (.int .i64 x.k) (.int .i64 x.n) (.string x.t) (.bool x.b) (.int .i64 x.e))
  generalize rE Cv.bE x = e at HC ⊢
  generalize (if x.may = true then x.tB else false) = y at HC
  clear hs
  obtain ⟨xk, xn, xt, xb, xe⟩ := x
  simp only [Cv.v, vv] at *
  go_enter Tryz.func35, Tryz.ntmps35
  go_wp2_with (go_at_call 79; refine (HC.out _).mono ?_; rintro r w1 ⟨rfl, q1⟩; have Q1 := hid (q1a q1); clear q1)
  go_ret
  exact ⟨rfl, Q1.out⟩
theorem trouble_b7 (k : Int) (x : Cv) (w : World) (hs : x.sl) (hk : k = 7) : Calls Tryz.prog 35 #[.int .i64 k, x.v] w fun r w' => r = .returned (.int .i64 (rE Cv.bE x)) ∧ Q w w' := by
  subst hk
  have HC := hid (fun W => rtrur_c x W hs)
  have HA := hid (bx_new w (.int .i64 x.k) (.int .i64 x.n) (.string x.t) (.bool x.b) (.int .i64 x.e))
  generalize rE Cv.bE x = e at HC ⊢
  generalize (if x.may = true then x.tB else false) = y at HC
  clear hs
  obtain ⟨xk, xn, xt, xb, xe⟩ := x
  simp only [Cv.v, vv] at *
  go_enter Tryz.func35, Tryz.ntmps35
  go_wp2_with (go_at_call 79; refine (HC.out _).mono ?_; rintro r w1 ⟨rfl, q1⟩; have Q1 := hid (q1a q1); clear q1)
  go_ret
  exact ⟨rfl, Q1.out⟩
theorem trouble_b8 (k : Int) (x : Cv) (w : World) (hs : x.sl) (hk : k = 8) : Calls Tryz.prog 35 #[.int .i64 k, x.v] w fun r w' => r = .returned (.int .i64 (rE Cv.bE x)) ∧ Q w w' := by
  subst hk
  have HC := hid (fun W => rtrur_c x W hs)
  have HA := hid (bx_new w (.int .i64 x.k) (.int .i64 x.n) (.string x.t) (.bool x.b) (.int .i64 x.e))
  generalize rE Cv.bE x = e at HC ⊢
  generalize (if x.may = true then x.tB else false) = y at HC
  clear hs
  obtain ⟨xk, xn, xt, xb, xe⟩ := x
  simp only [Cv.v, vv] at *
  go_enter Tryz.func35, Tryz.ntmps35
  go_wp2_with (go_at_call 79; refine (HC.out _).mono ?_; rintro r w1 ⟨rfl, q1⟩; have Q1 := hid (q1a q1); clear q1)
  go_ret
  exact ⟨rfl, Q1.out⟩
theorem trouble_n (k : Int) (x : Cv) (w : World) (hs : x.sl) (hk : k = 9) : Calls Tryz.prog 35 #[.int .i64 k, x.v] w fun r w' => r = .returned (.int .i64 (rE Cv.nE x)) ∧ Q w w' := by
  subst hk
  have HC := hid (fun W => rnumr_c x W hs)
  have HA := hid (bx_new w (.int .i64 x.k) (.int .i64 x.n) (.string x.t) (.bool x.b) (.int .i64 x.e))
  generalize rE Cv.nE x = e at HC ⊢
  generalize (if x.may = true then x.nN else 0) = y at HC
  clear hs
  obtain ⟨xk, xn, xt, xb, xe⟩ := x
  simp only [Cv.v, vv] at *
  go_enter Tryz.func35, Tryz.ntmps35
  go_wp2_with (go_at_call 49; refine (HC.out _).mono ?_; rintro r w1 ⟨rfl, q1⟩; have Q1 := hid (q1a q1); clear q1)
  go_ret
  exact ⟨rfl, Q1.out⟩
theorem trouble_t10 (k : Int) (x : Cv) (w : World) (hs : x.sl) (hk : k = 10) : Calls Tryz.prog 35 #[.int .i64 k, x.v] w fun r w' => r = .returned (.int .i64 (rE Cv.tE x)) ∧ Q w w' := by
  subst hk
  have HC := hid (fun W => rtxtr_c x W hs)
  have HA := hid (bx_new w (.int .i64 x.k) (.int .i64 x.n) (.string x.t) (.bool x.b) (.int .i64 x.e))
  generalize rE Cv.tE x = e at HC ⊢
  generalize (if x.may = true then x.tT else ⟨#[]⟩) = y at HC
  clear hs
  obtain ⟨xk, xn, xt, xb, xe⟩ := x
  simp only [Cv.v, vv] at *
  go_enter Tryz.func35, Tryz.ntmps35
  go_wp2_with (go_at_call 46; refine (HC.out _).mono ?_; rintro r w1 ⟨rfl, q1⟩; have Q1 := hid (q1a q1); clear q1)
  go_ret
  exact ⟨rfl, Q1.out⟩
theorem trouble_t11 (k : Int) (x : Cv) (w : World) (hs : x.sl) (hk : k = 11) : Calls Tryz.prog 35 #[.int .i64 k, x.v] w fun r w' => r = .returned (.int .i64 (rE Cv.tE x)) ∧ Q w w' := by
  subst hk
  have HC := hid (fun W => rtxtr_c x W hs)
  have HA := hid (bx_new w (.int .i64 x.k) (.int .i64 x.n) (.string x.t) (.bool x.b) (.int .i64 x.e))
  generalize rE Cv.tE x = e at HC ⊢
  generalize (if x.may = true then x.tT else ⟨#[]⟩) = y at HC
  clear hs
  obtain ⟨xk, xn, xt, xb, xe⟩ := x
  simp only [Cv.v, vv] at *
  go_enter Tryz.func35, Tryz.ntmps35
  go_wp2_with (go_at_call 46; refine (HC.out _).mono ?_; rintro r w1 ⟨rfl, q1⟩; have Q1 := hid (q1a q1); clear q1)
  go_ret
  exact ⟨rfl, Q1.out⟩
def nms : List ByteArray := [⟨#[83, 85, 77]⟩, ⟨#[77, 73, 78]⟩, ⟨#[77, 65, 88]⟩, ⟨#[67, 79, 85, 78, 84]⟩, ⟨#[65, 86, 69, 82, 65, 71, 69]⟩, ⟨#[73, 70]⟩, ⟨#[65, 78, 68]⟩, ⟨#[79, 82]⟩, ⟨#[78, 79, 84]⟩, ⟨#[65, 66, 83]⟩, ⟨#[76, 69, 78]⟩, ⟨#[67, 79, 78, 67, 65, 84]⟩, ⟨#[73, 83, 69, 82, 82, 79, 82]⟩, ⟨#[78, 65]⟩]
def plc (s : List UInt8) : Nat → List ByteArray → Int
  | _, [] => -1
  | i, n :: r => if n.toList = s then i else plc s (i + 1) r
theorem rknown_any (w : World) : Calls Tryz.prog 76 #[] w fun e w' => ∃ s, e = .returned s ∧ Sl encS 1 w' s nms ∧ Q w w' := by
  go_enter Tryz.func76, Tryz.ntmps76
  go_wp2
  refine bodyPost_ret (v := .slice (some ⟨w.heap.size, 0, none⟩) 14 14) (by simp [results, Tryz.results76, go_sem]) rfl ⟨_, rfl, ?_, (Q.refl _).alloc _⟩
  exact sl_lit encS_len w nms 14 rfl (by omega) 9
theorem plc_drop (s : List UInt8) (k : Nat) (hk : k < nms.length) : plc s k (nms.drop k) = if nms[k].toList = s then (k : Int) else plc s (k + 1) (nms.drop (k + 1)) := by
  rw [List.drop_eq_getElem_cons hk]
  rfl
set_option maxHeartbeats 1000000 in
theorem place_any (s : ByteArray) (w : World) : Calls Tryz.prog 31 #[.string s] w fun e w' => e = .returned (.int .i64 (plc s.toList 0 nms)) ∧ Q w w' := by
  have HK := hid (fun W => rknown_any W)
  obtain ⟨P, hP⟩ : ∃ P, plc s.toList 0 nms = P := ⟨_, rfl⟩
  have HP := hid hP
  rw [hP]
  clear hP
  go_enter Tryz.func31, Tryz.ntmps31
  go_wp2_with (go_at_call 76; refine (HK.out _).mono ?_; rintro e w1 ⟨sv, rfl, hsl, q1⟩; have HS := hid hsl; have Q1 := hid q1; obtain ⟨ao, cap, hsv, _, _⟩ := hsl.len; subst hsv; clear hsl q1)
  have h14 : nms.length = 14 := rfl
  rw [h14] at HS
  rw [h14]
  have H14 := hid h14
  clear h14
  go_loopw [2, 4] (fun r i W => ∃ k : Nat, k ≤ 14 ∧ i = .int .i64 k ∧ r = .int .i64 0 ∧ Hid (plc s.toList k (nms.drop k) = P) ∧ W = w1) (fun _ i _ => 14 - (intOf i).toNat)
  case atStart => exact ⟨0, Nat.zero_le _, rfl, rfl, HP, rfl⟩
  case round =>
    obtain ⟨k, hk, rfl, rfl, hp, rfl⟩ := hrel
    by_cases hlt : k < 14
    · have hkx : k < nms.length := by rw [H14.out]; exact hlt
      have hlt' : (k : Int) < 14 := by omega
      have hk0 : (0 : Int) ≤ (k : Int) := by omega
      obtain ⟨b, off, cap', e, _, _, hc⟩ := HS.out.at hkx
      simp only [Value.slice.injEq] at e
      obtain ⟨rfl, hyy, rfl⟩ := e
      clear hyy
      have c0 := hc 0 (.string nms[k]) rfl
      rw [Nat.mul_one, Nat.add_zero] at c0
      have hst := hp.out
      rw [plc_drop s.toList k hkx] at hst
      have HST := hid hst
      clear hc hst hp
      generalize nms[k] = n at c0 HST
      by_cases he : n.toList = s.toList
      · have hb : (n.toList == s.toList) = true := by simpa using he
        have HR : Hid ((k : Int) = P) := by show _ = _; have := HST.out; rw [if_pos he] at this; exact this
        go_wp2_with fail
        go_ret
        exact ⟨ret_int HR.out, Q1.out⟩
      · have hb : (n.toList == s.toList) = false := by simpa using he
        have HR : Hid (plc s.toList (k + 1) (nms.drop (k + 1)) = P) := by show _ = _; have := HST.out; rw [if_neg he] at this; exact this
        go_wp2_with fail
        go_roundw
        case rel => exact ⟨k + 1, by omega, by go_num, rfl, HR, by first | rfl | trivial⟩
        case measure => simp [intOf]; omega
    · have hk14 : k = 14 := by omega
      subst hk14
      have HR : Hid ((-1 : Int) = P) := hp.out
      have hl : ¬ ((14 : Nat) : Int) < 14 := by omega
      go_wp2_with fail
      go_ret
      exact ⟨ret_int HR.out, Q1.out⟩
end Go.Proofs.YtfjpdopmojfchaaGreatDoor
