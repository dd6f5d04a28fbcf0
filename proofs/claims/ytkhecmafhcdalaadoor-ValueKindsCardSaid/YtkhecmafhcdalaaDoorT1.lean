/- The reference of package value: Number, Text, Truth of every value. -/
import Derived.Test.YtkhecmafhcdalaaDoorN2
import Derived.Test.YtkhecmafhcdalaaDoorV6
import Derived.Test.YtkhecmafhcdalaaDoorV4
namespace Go.Proofs.YtkhecmafhcdalaaDoor
open Go.RowKit
set_option linter.unusedVariables false
set_option linter.unusedSimpArgs false

theorem rmay_bx (k n : Int) (t : ByteArray) (b : Bool) (e : Int) (A : Bool) (w : World) (hs : (t.size : Int) ≤ 9223372036854775000) (hA : mayB k n t.toList b e = A) :
    Calls Tryd.prog 22 #[.agg #[.int .i64 k, .int .i64 n, .string t, .bool b, .int .i64 e]] (bx w k n t b e) fun x w' => x = .returned (.bool A) ∧ Q (bx w k n t b e) w' := by
  rw [← hA]
  exact rmay_any k n t b e _ hs

set_option maxHeartbeats 1000000 in
theorem rnumber_no (k n : Int) (t : ByteArray) (b : Bool) (e : Int) (w : World) (hs : (t.size : Int) ≤ 9223372036854775000) (hm : mayB k n t.toList b e = false) :
    Calls Tryd.prog 16 #[vv k n t b e] w fun x w' => x = .returned (.tuple #[.int .i64 0, .int .i64 5]) ∧ Q w w' := by
  have HC := hid (rmay_bx k n t b e false w hs hm)
  clear hm
  unfold vv
  go_enter Tryd.func16, Tryd.ntmps16
  go_wp2_with (go_at_call 22; refine HC.out.mono ?_; rintro x w1 ⟨rfl, q1⟩)
  go_ret2
  exact ⟨rfl, q1a q1⟩
set_option maxHeartbeats 1000000 in
theorem rtext_no (k n : Int) (t : ByteArray) (b : Bool) (e : Int) (w : World) (hs : (t.size : Int) ≤ 9223372036854775000) (hm : mayB k n t.toList b e = false) :
    Calls Tryd.prog 18 #[vv k n t b e] w fun x w' => x = .returned (.tuple #[.string ⟨#[]⟩, .int .i64 5]) ∧ Q w w' := by
  have HC := hid (rmay_bx k n t b e false w hs hm)
  clear hm
  unfold vv
  go_enter Tryd.func18, Tryd.ntmps18
  go_wp2_with (go_at_call 22; refine HC.out.mono ?_; rintro x w1 ⟨rfl, q1⟩)
  go_ret2
  exact ⟨rfl, q1a q1⟩
set_option maxHeartbeats 1000000 in
theorem rtruth_no (k n : Int) (t : ByteArray) (b : Bool) (e : Int) (w : World) (hs : (t.size : Int) ≤ 9223372036854775000) (hm : mayB k n t.toList b e = false) :
    Calls Tryd.prog 20 #[vv k n t b e] w fun x w' => x = .returned (.tuple #[.bool false, .int .i64 5]) ∧ Q w w' := by
  have HC := hid (rmay_bx k n t b e false w hs hm)
  clear hm
  unfold vv
  go_enter Tryd.func20, Tryd.ntmps20
  go_wp2_with (go_at_call 22; refine HC.out.mono ?_; rintro x w1 ⟨rfl, q1⟩)
  go_ret2
  exact ⟨rfl, q1a q1⟩

set_option maxHeartbeats 2000000 in
theorem rnumber_vk (k n : Int) (t : ByteArray) (b : Bool) (e : Int) (w : World) (hs : (t.size : Int) ≤ 250) (hk : Vk k n t b e) :
    Calls Tryd.prog 16 #[vv k n t b e] w fun x w' => x = .returned (.tuple #[.int .i64 (numN k n t.toList b), .int .i64 (numE k t.toList e)]) ∧ Q w w' := by
  have HC := hid (rmay_bx k n t b e true w (by omega) hk.may)
  unfold vv
  rcases hk with ⟨rfl, rfl, rfl, rfl, rfl⟩ | ⟨rfl, rfl, rfl, rfl⟩ | ⟨rfl, rfl, rfl, rfl, h⟩ | ⟨rfl, rfl, rfl, rfl⟩ | ⟨rfl, rfl, rfl, rfl, h1, h7⟩
  · skip
    go_enter Tryd.func16, Tryd.ntmps16
    go_wp2_with (go_at_call 22; refine HC.out.mono ?_; rintro x w1 ⟨rfl, q1⟩; obtain ⟨g0, g1, g2, g3, g4⟩ := box0 q1)
    go_ret2
    exact ⟨rfl, q1a q1⟩
  · skip
    go_enter Tryd.func16, Tryd.ntmps16
    go_wp2_with (go_at_call 22; refine HC.out.mono ?_; rintro x w1 ⟨rfl, q1⟩; obtain ⟨g0, g1, g2, g3, g4⟩ := box0 q1)
    go_ret2
    exact ⟨rfl, q1a q1⟩
  · skip
    have HR := hid (fun w => rparse_any t w (by omega))
    rw [← Lib.toList_data] at HR
    unfold RP at HR
    have hk0 : pf (parseO t.toList) = false → pk (parseO t.toList) = 0 := by
      generalize parseO t.toList = o
      cases o with
      | none => intro; rfl
      | some n => intro h; exact keep_no h
    obtain ⟨K, eK⟩ : ∃ K, pk (parseO t.toList) = K := ⟨_, rfl⟩
    have HN : Hid (numN 2 0 t.toList false = K) := eK
    clear h
    cases hF : pf (parseO t.toList) with
    | false =>
      have hz := hk0 hF
      have HE : Hid (numE 2 t.toList 0 = 5) := by show _ = _; unfold numE; rw [if_pos rfl, hF]; rfl
      rw [hF, hz] at HR
      rw [hz] at eK
      subst eK
      clear hk0 hF hz
      go_enter Tryd.func16, Tryd.ntmps16
      go_wp2_with (first | (go_at_call 22; refine HC.out.mono ?_; rintro x w1 ⟨rfl, q1⟩; obtain ⟨g0, g1, g2, g3, g4⟩ := box0 q1) | (go_at_call 9; refine (HR.out _).mono ?_; rintro x w2 ⟨rfl, q2⟩))
      go_ret2
      exact ⟨vret_ii HN.out.symm HE.out.symm, (q1a q1).trans q2⟩
    | true =>
      have HE : Hid (numE 2 t.toList 0 = 0) := by show _ = _; unfold numE; rw [if_pos rfl, hF]; rfl
      rw [hF, eK] at HR
      clear hk0 hF eK
      go_enter Tryd.func16, Tryd.ntmps16
      go_wp2_with (first | (go_at_call 22; refine HC.out.mono ?_; rintro x w1 ⟨rfl, q1⟩; obtain ⟨g0, g1, g2, g3, g4⟩ := box0 q1) | (go_at_call 9; refine (HR.out _).mono ?_; rintro x w2 ⟨rfl, q2⟩))
      go_ret2
      exact ⟨vret_ii HN.out.symm HE.out.symm, (q1a q1).trans q2⟩
  · skip
    cases b
    · go_enter Tryd.func16, Tryd.ntmps16
      go_wp2_with (go_at_call 22; refine HC.out.mono ?_; rintro x w1 ⟨rfl, q1⟩; obtain ⟨g0, g1, g2, g3, g4⟩ := box0 q1)
      go_ret2
      exact ⟨rfl, q1a q1⟩
    · go_enter Tryd.func16, Tryd.ntmps16
      go_wp2_with (go_at_call 22; refine HC.out.mono ?_; rintro x w1 ⟨rfl, q1⟩; obtain ⟨g0, g1, g2, g3, g4⟩ := box0 q1)
      go_ret2
      exact ⟨rfl, q1a q1⟩
  · skip
    go_enter Tryd.func16, Tryd.ntmps16
    go_wp2_with (go_at_call 22; refine HC.out.mono ?_; rintro x w1 ⟨rfl, q1⟩; obtain ⟨g0, g1, g2, g3, g4⟩ := box0 q1)
    go_region
    go_wp2
    go_ret2
    exact ⟨rfl, (q1a q1).drew⟩

set_option maxHeartbeats 2000000 in
theorem rtext_vk (k n : Int) (t : ByteArray) (b : Bool) (e : Int) (w : World) (hs : (t.size : Int) ≤ 250) (hn : Fx n) (hk : Vk k n t b e) :
    Calls Tryd.prog 18 #[vv k n t b e] w fun x w' => x = .returned (.tuple #[.string ⟨(txtL k n t.data.toList b).toArray⟩, .int .i64 (txtE k e)]) ∧ Q w w' := by
  have HC := hid (rmay_bx k n t b e true w (by omega) hk.may)
  unfold vv
  rcases hk with ⟨rfl, rfl, rfl, rfl, rfl⟩ | ⟨rfl, rfl, rfl, rfl⟩ | ⟨rfl, rfl, rfl, rfl, h⟩ | ⟨rfl, rfl, rfl, rfl⟩ | ⟨rfl, rfl, rfl, rfl, h1, h7⟩
  · skip
    go_enter Tryd.func18, Tryd.ntmps18
    go_wp2_with (go_at_call 22; refine HC.out.mono ?_; rintro x w1 ⟨rfl, q1⟩; obtain ⟨g0, g1, g2, g3, g4⟩ := box0 q1)
    go_ret2
    exact ⟨rfl, q1a q1⟩
  · skip
    have HP := hid (fun w => rprint_any n w hn)
    clear hn
    go_enter Tryd.func18, Tryd.ntmps18
    go_wp2_with (first | (go_at_call 22; refine HC.out.mono ?_; rintro x w1 ⟨rfl, q1⟩; obtain ⟨g0, g1, g2, g3, g4⟩ := box0 q1) | (go_at_call 12; refine (HP.out _).mono ?_; rintro x w2 ⟨rfl, q2⟩))
    go_ret2
    exact ⟨rfl, (q1a q1).trans q2⟩
  · skip
    clear h hn
    go_enter Tryd.func18, Tryd.ntmps18
    go_wp2_with (go_at_call 22; refine HC.out.mono ?_; rintro x w1 ⟨rfl, q1⟩; obtain ⟨g0, g1, g2, g3, g4⟩ := box0 q1)
    go_ret2
    exact ⟨rfl, q1a q1⟩
  · skip
    clear hn
    cases b
    · go_enter Tryd.func18, Tryd.ntmps18
      go_wp2_with (go_at_call 22; refine HC.out.mono ?_; rintro x w1 ⟨rfl, q1⟩; obtain ⟨g0, g1, g2, g3, g4⟩ := box0 q1)
      go_ret2
      exact ⟨rfl, q1a q1⟩
    · go_enter Tryd.func18, Tryd.ntmps18
      go_wp2_with (go_at_call 22; refine HC.out.mono ?_; rintro x w1 ⟨rfl, q1⟩; obtain ⟨g0, g1, g2, g3, g4⟩ := box0 q1)
      go_ret2
      exact ⟨rfl, q1a q1⟩
  · skip
    clear hn
    go_enter Tryd.func18, Tryd.ntmps18
    go_wp2_with (go_at_call 22; refine HC.out.mono ?_; rintro x w1 ⟨rfl, q1⟩; obtain ⟨g0, g1, g2, g3, g4⟩ := box0 q1)
    go_region
    go_wp2
    go_ret2
    exact ⟨rfl, (q1a q1).drew⟩

set_option maxHeartbeats 2000000 in
theorem rtruth_vk (k n : Int) (t : ByteArray) (b : Bool) (e : Int) (w : World) (hs : (t.size : Int) ≤ 250) (hk : Vk k n t b e) :
    Calls Tryd.prog 20 #[vv k n t b e] w fun x w' => x = .returned (.tuple #[.bool (truB k n t.toList b), .int .i64 (truE k t.toList e)]) ∧ Q w w' := by
  have HC := hid (rmay_bx k n t b e true w (by omega) hk.may)
  unfold vv
  rcases hk with ⟨rfl, rfl, rfl, rfl, rfl⟩ | ⟨rfl, rfl, rfl, rfl⟩ | ⟨rfl, rfl, rfl, rfl, h⟩ | ⟨rfl, rfl, rfl, rfl⟩ | ⟨rfl, rfl, rfl, rfl, h1, h7⟩
  · skip
    go_enter Tryd.func20, Tryd.ntmps20
    go_wp2_with (go_at_call 22; refine HC.out.mono ?_; rintro x w1 ⟨rfl, q1⟩; obtain ⟨g0, g1, g2, g3, g4⟩ := box0 q1)
    go_ret2
    exact ⟨rfl, q1a q1⟩
  · skip
    go_enter Tryd.func20, Tryd.ntmps20
    go_wp2_with (go_at_call 22; refine HC.out.mono ?_; rintro x w1 ⟨rfl, q1⟩; obtain ⟨g0, g1, g2, g3, g4⟩ := box0 q1)
    all_goals go_ret2
    all_goals exact ⟨vret_bi (by simp [truB, bne, *]) rfl, q1a q1⟩
  · skip
    clear h
    by_cases h1 : t.toList = [84, 82, 85, 69]
    · have H : Hid (truB 2 0 t.toList false = true ∧ truE 2 t.toList 0 = 0) := by show _ ∧ _; rw [h1]; exact ⟨rfl, rfl⟩
      go_enter Tryd.func20, Tryd.ntmps20
      go_wp2_with (go_at_call 22; refine HC.out.mono ?_; rintro x w1 ⟨rfl, q1⟩; obtain ⟨g0, g1, g2, g3, g4⟩ := box0 q1)
      go_ret2
      exact ⟨vret_bi H.out.1.symm H.out.2.symm, q1a q1⟩
    · have h1' : (t.toList == [84, 82, 85, 69]) = false := by simpa using h1
      by_cases h2 : t.toList = [70, 65, 76, 83, 69]
      · have H : Hid (truB 2 0 t.toList false = false ∧ truE 2 t.toList 0 = 0) := by show _ ∧ _; rw [h2]; exact ⟨rfl, rfl⟩
        go_enter Tryd.func20, Tryd.ntmps20
        go_wp2_with (go_at_call 22; refine HC.out.mono ?_; rintro x w1 ⟨rfl, q1⟩; obtain ⟨g0, g1, g2, g3, g4⟩ := box0 q1)
        go_ret2
        exact ⟨vret_bi H.out.1.symm H.out.2.symm, q1a q1⟩
      · have H : Hid (truB 2 0 t.toList false = false ∧ truE 2 t.toList 0 = 5) := by show _ ∧ _; exact ⟨h1', by show rtE _ = 5; unfold rtE; rw [if_neg (by rintro (h | h); exact h1 h; exact h2 h)]⟩
        have h2' : (t.toList == [70, 65, 76, 83, 69]) = false := by simpa using h2
        go_enter Tryd.func20, Tryd.ntmps20
        go_wp2_with (go_at_call 22; refine HC.out.mono ?_; rintro x w1 ⟨rfl, q1⟩; obtain ⟨g0, g1, g2, g3, g4⟩ := box0 q1)
        go_ret2
        exact ⟨vret_bi H.out.1.symm H.out.2.symm, q1a q1⟩
  · skip
    go_enter Tryd.func20, Tryd.ntmps20
    go_wp2_with (go_at_call 22; refine HC.out.mono ?_; rintro x w1 ⟨rfl, q1⟩; obtain ⟨g0, g1, g2, g3, g4⟩ := box0 q1)
    all_goals go_ret2
    all_goals exact ⟨rfl, q1a q1⟩
  · skip
    go_enter Tryd.func20, Tryd.ntmps20
    go_wp2_with (go_at_call 22; refine HC.out.mono ?_; rintro x w1 ⟨rfl, q1⟩; obtain ⟨g0, g1, g2, g3, g4⟩ := box0 q1)
    go_region
    go_wp2
    go_ret2
    exact ⟨rfl, (q1a q1).drew⟩
end Go.Proofs.YtkhecmafhcdalaaDoor
