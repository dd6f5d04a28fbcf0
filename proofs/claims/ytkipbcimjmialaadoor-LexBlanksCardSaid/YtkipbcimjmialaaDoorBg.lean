/- lex.quoted, walked. -/
import Derived.Test.YtkipbcimjmialaaDoorBd
import Derived.Test.YtkipbcimjmialaaDoorBf
namespace Go.Proofs.YtkipbcimjmialaaDoor
open Go.RowKit
set_option linter.unusedVariables false
set_option linter.unusedSimpArgs false


theorem bld_new (w : World) : Lib.IsBuilder 53 5 w.heap.size w.heap.size (Lib.byteCells []) (w.alloc (.cells #[.pointer none, .slice none 0 0] 53)) := by
  refine .inl ⟨Nat.le_refl _, .slice none 0 0, by exact Array.getElem?_push_size, World.ownsRow_nil _ _ _ _, by simp [Value.ownBlock]⟩
theorem cells_snoc (l : List UInt8) (c : UInt8) : Lib.byteCells l ++ [.int .u8 (c.toNat : Int)] = Lib.byteCells (l ++ [c]) := by simp [Lib.byteCells]
theorem cells_len (l : List UInt8) : (Lib.byteCells l).length = l.length := by simp [Lib.byteCells]
theorem drop_letters (s : ByteArray) (k : Nat) : ∃ T : ByteArray, s.extract k s.size = T ∧ T.data.toList = s.data.toList.drop k ∧ T.size = s.size - k := by
  refine ⟨_, rfl, ?_, by simp⟩
  rw [Lib.extract_data]
  exact List.take_of_length_le (by simp)

set_option maxHeartbeats 4000000 in
theorem quoted_any (s : ByteArray) (w : World) (hw : Std w) (hp : 0 < s.size) (hs : s.size ≤ 100000) :
    Calls Tryd.prog 12 #[.string s] w fun e w' => e = .returned (wv (quoW s.data.toList)) ∧ Q w w' := by
  obtain ⟨R, hR⟩ : ∃ R, quoF (s.data.toList.drop 1) [] 1 = R := ⟨_, rfl⟩
  have hq : quoW s.data.toList = quoP R := by unfold quoW; rw [hR]
  rw [hq]
  have HR := hid hR
  have HW := hid hw
  clear hR hq hw
  go_enter Tryd.func12, Tryd.ntmps12
  go_wp2
  go_loopw [6] (fun x W => ∃ (k : Nat) (acc : List UInt8), k ≤ s.size ∧ x = .int .i64 (k : Int) ∧ 1 ≤ k ∧ acc.length ≤ k ∧ Lib.IsBuilder 53 5 w.heap.size w.heap.size (Lib.byteCells acc) W ∧ Q w W ∧ Hid (quoF (s.data.toList.drop k) acc k = R)) (fun x _ => s.size - (intOf x).toNat)
  case atStart => exact ⟨1, [], by omega, rfl, by omega, by simp, bld_new w, (Q.refl _).alloc _, HR⟩
  case round =>
    obtain ⟨k, acc, hk, rfl, h1, hl, hB, hQ, hr⟩ := hrel
    have HB := hid hB
    have HQ := hid hQ
    clear hB hQ
    by_cases hlt : k < s.size
    · have ed := drop_cons s k hlt
      by_cases hc : s[k] = 34
      · have e34 := eq_byte (n := 34) (by omega) hc
        obtain ⟨T, eT, lT, zT⟩ := drop_letters s (k + 1)
        have hp2 := fun W => Tryd.strings_HasPrefix T ⟨#[34]⟩ W
        have hr2 := hr.out
        rw [ed, hc] at hr2
        rw [lT] at hp2
        have eT' : s.extract ((k : Int) + 1).toNat s.size = T := by rw [show ((k : Int) + 1).toNat = k + 1 by omega]; exact eT
        cases hb : Lib.hasPrefix (s.data.toList.drop (k + 1)) [34]
        · rw [show (⟨#[34]⟩ : ByteArray).data.toList = [34] from rfl, hb] at hp2
          rw [quoF_end hb] at hr2
          have HP := hid hp2
          have HS := hid (Tryd.Builder_String_any w.heap.size w.heap.size acc wr HB.out HQ.out.size)
          have HC := hid (fun W (q : Q w W) => closed_any ⟨acc.toArray⟩ (k + 1) W (HW.out.on q) (by rw [size_mk]; omega))
          have HR2 : Hid (quoP R = quoP (some (acc, k + 1))) := by show _ = _; rw [← hr2]
          have HC2 : Hid (∀ W, Q w W → Calls Tryd.prog 24 #[.string ⟨acc.toArray⟩, .int .i64 ((k : Int) + 1)] W fun e w' => e = .returned (wv (quoP (some (acc, k + 1)))) ∧ Q W w') := HC
          clear hp2 hr2 hb lT ed hr HC
          generalize quoP (some (acc, k + 1)) = q at HR2 HC2
          obtain ⟨a, t, n⟩ := q
          unfold wv at HC2
          simp only at HC2
          have HQ2 : Hid (∀ W, Below w.heap.size wr W → Q w W) := hid (fun W h => Below.trans HQ.out h)
          go_wp2_with (first | (go_at_call 23; refine (HP.out _).mono ?_; rintro e w1 ⟨rfl, h1⟩; replace h1 := h1.symm; subst h1) | (go_at_call 25; refine HS.out.mono ?_; rintro e w2 ⟨rfl, q2⟩; have Q2 := hid (HQ2.out _ q2); clear q2) | (go_at_call 24; refine (HC2.out _ Q2.out).mono ?_; rintro e w3 ⟨rfl, q3⟩; have Q3 := hid q3; clear q3))
          go_ret3
          exact ⟨by rw [HR2.out]; rfl, Q2.out.trans Q3.out⟩
        · rw [show (⟨#[34]⟩ : ByteArray).data.toList = [34] from rfl, hb] at hp2
          obtain ⟨r', er⟩ := two_of hb
          have hz : k + 1 < s.size := by
            have := congrArg List.length er
            simp at this
            omega
          have ed2 := drop_cons s (k + 1) hz
          have hc2 : s[k + 1] = 34 := by rw [er] at ed2; exact (List.cons.inj ed2).1.symm
          rw [ed2, hc2, quoF_two] at hr2
          have HP := hid hp2
          have HR2 := hid hr2
          have e2 := hid (writeByte_any w.heap.size w.heap.size (Lib.byteCells acc) (s[k + 1].toNat : Int) wr HB.out (by rw [cells_len]; omega) HQ.out.size)
          rw [cells_snoc, hc2] at e2
          have hget : ((s[k + 1].toNat : Nat) : Int) = 34 := by rw [hc2]; rfl
          clear hp2 hr2 hb lT ed ed2 hr er
          go_wp2_with (first | (go_at_call 23; refine (HP.out _).mono ?_; rintro e w1 ⟨rfl, h1⟩; replace h1 := h1.symm; subst h1) | (go_at_call 26; refine e2.out.mono ?_; rintro e w2 ⟨rfl, h2, q2⟩; have B2 := hid h2; have Q2 := hid (Below.trans HQ.out q2); clear q2 h2))
          go_roundw
          case rel => exact ⟨k + 2, acc ++ [34], by omega, by go_num, by omega, by simp; omega, .inr B2.out, Q2.out, HR2⟩
          case measure => simp [intOf]; omega
      · have e34 := byte_ne (n := 34) (by omega) hc
        have hr2 := hr.out
        rw [ed, quoF_not hc] at hr2
        have HR2 := hid hr2
        have e2 := hid (writeByte_any w.heap.size w.heap.size (Lib.byteCells acc) (s[k].toNat : Int) wr HB.out (by rw [cells_len]; omega) HQ.out.size)
        rw [cells_snoc] at e2
        clear hr2 ed hr
        go_wp2_with (go_at_call 26; refine e2.out.mono ?_; rintro e w2 ⟨rfl, h2, q2⟩; have B2 := hid h2; have Q2 := hid (Below.trans HQ.out q2); clear q2 h2)
        go_roundw
        case rel => exact ⟨k + 1, acc ++ [s[k]], by omega, by go_num, by omega, by simp; omega, .inr B2.out, Q2.out, HR2⟩
        case measure => simp [intOf]; omega
    · have hr2 := hr.out
      rw [List.drop_of_length_le (by simp; omega)] at hr2
      have HR2 : Hid (quoP R = bad) := by show _ = _; rw [← hr2]; rfl
      clear hr2 hr
      go_wp2_with fail
      go_ret3
      exact ⟨ret_bad HR2.out, HQ.out⟩
end Go.Proofs.YtkipbcimjmialaaDoor
