/- a1.Owner, Id: what each returns. -/
import Derived.Test.YtkipbcimjmialaaDoorA
namespace Go.Proofs.YtkipbcimjmialaaDoor
open Go.RowKit
set_option linter.unusedVariables false
set_option linter.unusedSimpArgs false

set_option maxHeartbeats 1000000 in
theorem owner_any (s : ByteArray) (w : World) (hw : Std w) (hs : s.size < 4294967281) :
    Calls Tryd.prog 61 #[.string s] w fun e w' => e = .returned (.int .i64 (ownK s.data.toList)) ∧ Q w w' := by
  have hl := Lib.trimPrefix_le s.data.toList [99]
  rw [len_data] at hl
  have HO : Hid (ownK s.data.toList = if Lib.hasPrefix s.data.toList [99] then ownP (Lib.cut (Lib.trimPrefix s.data.toList [99]) [110]) else -1) := rfl
  have HP : Hid (∀ W, Calls Tryd.prog 47 #[.string s, .string ⟨#[99]⟩] W fun e w' => e = .returned (.tuple #[.string ⟨(Lib.trimPrefix s.data.toList [99]).toArray⟩, .bool (Lib.hasPrefix s.data.toList [99])]) ∧ w' = W) := fun W => Tryd.strings_CutPrefix s ⟨#[99]⟩ W
  generalize Lib.trimPrefix s.data.toList [99] = t at *
  generalize Lib.hasPrefix s.data.toList [99] = ng at *
  have HC : Hid (∀ W, Q w W → Calls Tryd.prog 48 #[.string ⟨t.toArray⟩, .string ⟨#[110]⟩] W fun e w' => e = .returned (.tuple #[.string ⟨(Lib.cut t [110]).1.toArray⟩, .string ⟨(Lib.cut t [110]).2.1.toArray⟩, .bool (Lib.cut t [110]).2.2]) ∧ ∃ n, w' = W.drewN n) := by
    intro W q
    obtain ⟨m, hm⟩ := (hw.on q).len
    exact Tryd.strings_Cut ⟨t.toArray⟩ ⟨#[110]⟩ m W (by rw [size_mk]; omega) hm
  have hcl := cut_le 110 t
  generalize Lib.cut t [110] = p at *
  obtain ⟨a, b, f⟩ := p
  simp only at HC hcl
  have HA := hid (fun W => number_any ⟨a.toArray⟩ 15 15 W rfl (by omega) (by omega) (by rw [size_mk]; omega))
  have HB := hid (fun W => number_any ⟨b.toArray⟩ 999999 999999 W rfl (by omega) (by omega) (by rw [size_mk]; omega))
  simp only at HA HB
  unfold numK at HA HB
  generalize (⟨a.toArray⟩ : ByteArray) = A at *
  generalize (⟨b.toArray⟩ : ByteArray) = B at *
  generalize (⟨t.toArray⟩ : ByteArray) = T at *
  unfold ownP at HO
  simp only at HO
  generalize numF a 15 = fa at *
  generalize numF b 999999 = fb at *
  generalize ((val a : Nat) : Int) = va at *
  generalize ((val b : Nat) : Int) = vb at *
  clear hs hcl hl hw
  rcases ng with _ | _
  · go_enter Tryd.func61, Tryd.ntmps61
    go_wp2_with (first | (go_at_call 47; refine (HP.out _).mono ?_; rintro e w1 ⟨rfl, rfl⟩) | (go_at_call 48; refine (HC.out _ (Q.refl _)).mono ?_; rintro e w2 ⟨rfl, nn, rfl⟩) | (go_at_call_of 56 A; refine (HA.out _).mono ?_; rintro e w3 ⟨rfl, rfl⟩) | (go_at_call_of 56 B; refine (HB.out _).mono ?_; rintro e w4 ⟨rfl, rfl⟩))
    go_ret
    exact ⟨ret_int (by rw [HO.out]; rfl), Q.refl _⟩
  rcases f with _ | _
  · go_enter Tryd.func61, Tryd.ntmps61
    go_wp2_with (first | (go_at_call 47; refine (HP.out _).mono ?_; rintro e w1 ⟨rfl, rfl⟩) | (go_at_call 48; refine (HC.out _ (Q.refl _)).mono ?_; rintro e w2 ⟨rfl, nn, rfl⟩) | (go_at_call_of 56 A; refine (HA.out _).mono ?_; rintro e w3 ⟨rfl, rfl⟩) | (go_at_call_of 56 B; refine (HB.out _).mono ?_; rintro e w4 ⟨rfl, rfl⟩))
    go_ret
    exact ⟨ret_int (by rw [HO.out]; rfl), (Q.refl _).drewN _⟩
  rcases fa with _ | _ <;> rcases fb with _ | _
  · go_enter Tryd.func61, Tryd.ntmps61
    go_wp2_with (first | (go_at_call 47; refine (HP.out _).mono ?_; rintro e w1 ⟨rfl, rfl⟩) | (go_at_call 48; refine (HC.out _ (Q.refl _)).mono ?_; rintro e w2 ⟨rfl, nn, rfl⟩) | (go_at_call_of 56 A; refine (HA.out _).mono ?_; rintro e w3 ⟨rfl, rfl⟩) | (go_at_call_of 56 B; refine (HB.out _).mono ?_; rintro e w4 ⟨rfl, rfl⟩))
    go_ret
    exact ⟨ret_int (by rw [HO.out]; rfl), (Q.refl _).drewN _⟩
  · go_enter Tryd.func61, Tryd.ntmps61
    go_wp2_with (first | (go_at_call 47; refine (HP.out _).mono ?_; rintro e w1 ⟨rfl, rfl⟩) | (go_at_call 48; refine (HC.out _ (Q.refl _)).mono ?_; rintro e w2 ⟨rfl, nn, rfl⟩) | (go_at_call_of 56 A; refine (HA.out _).mono ?_; rintro e w3 ⟨rfl, rfl⟩) | (go_at_call_of 56 B; refine (HB.out _).mono ?_; rintro e w4 ⟨rfl, rfl⟩))
    go_ret
    exact ⟨ret_int (by rw [HO.out]; rfl), (Q.refl _).drewN _⟩
  · go_enter Tryd.func61, Tryd.ntmps61
    go_wp2_with (first | (go_at_call 47; refine (HP.out _).mono ?_; rintro e w1 ⟨rfl, rfl⟩) | (go_at_call 48; refine (HC.out _ (Q.refl _)).mono ?_; rintro e w2 ⟨rfl, nn, rfl⟩) | (go_at_call_of 56 A; refine (HA.out _).mono ?_; rintro e w3 ⟨rfl, rfl⟩) | (go_at_call_of 56 B; refine (HB.out _).mono ?_; rintro e w4 ⟨rfl, rfl⟩))
    go_ret
    exact ⟨ret_int (by rw [HO.out]; rfl), (Q.refl _).drewN _⟩
  · go_enter Tryd.func61, Tryd.ntmps61
    go_wp2_with (first | (go_at_call 47; refine (HP.out _).mono ?_; rintro e w1 ⟨rfl, rfl⟩) | (go_at_call 48; refine (HC.out _ (Q.refl _)).mono ?_; rintro e w2 ⟨rfl, nn, rfl⟩) | (go_at_call_of 56 A; refine (HA.out _).mono ?_; rintro e w3 ⟨rfl, rfl⟩) | (go_at_call_of 56 B; refine (HB.out _).mono ?_; rintro e w4 ⟨rfl, rfl⟩))
    go_ret
    exact ⟨ret_int (by rw [HO.out]; rfl), (Q.refl _).drewN _⟩

/-- is it an id? -/
def idB (l : List UInt8) : Bool := decide (0 ≤ ownK l)
theorem id_any (s : ByteArray) (w : World) (hw : Std w) (hs : s.size < 4294967281) :
    Calls Tryd.prog 53 #[.string s] w fun e w' => e = .returned (.bool (idB s.data.toList)) ∧ Q w w' := by
  have HO := hid (owner_any s w hw hs)
  have HI : Hid (idB s.data.toList = decide (0 ≤ ownK s.data.toList)) := rfl
  generalize ownK s.data.toList = K at *
  clear hw hs
  go_enter Tryd.func53, Tryd.ntmps53
  go_wp2_with (go_at_call 61; refine HO.out.mono ?_; rintro e w1 ⟨rfl, q1⟩)
  go_ret
  exact ⟨ret_bool HI.out.symm, q1⟩
end Go.Proofs.YtkipbcimjmialaaDoor
