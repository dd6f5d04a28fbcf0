/- ref.word of an error, walked. -/
import Derived.Test.YtkipbcimjmialaaDoorCa
import Derived.Test.YtkipbcimjmialaaDoorBd
namespace Go.Proofs.YtkipbcimjmialaaDoor
open Go.RowKit
set_option linter.unusedVariables false
set_option linter.unusedSimpArgs false


theorem pre_take {l p : List UInt8} : Lib.hasPrefix l p = (l.take p.length == p) := by
  unfold Lib.hasPrefix
  rw [Bool.eq_iff_iff, List.isPrefixOf_iff_prefix, beq_iff_eq]
  constructor
  · intro h
    exact (List.prefix_iff_eq_take.1 h).symm
  · intro h
    exact List.prefix_iff_eq_take.2 h.symm
theorem pre_part (s N : ByteArray) (i : Nat) : ((s.extract i (i + N.size)).toList == N.toList) = Lib.hasPrefix (s.data.toList.drop i) N.data.toList := by
  rw [pre_take, Lib.toList_data, Lib.toList_data, Lib.extract_data, len_data, Nat.add_sub_cancel_left]
theorem pre_short {s N : ByteArray} {i : Nat} (h : s.size < i + N.size) (hi : i ≤ s.size) : Lib.hasPrefix (s.data.toList.drop i) N.data.toList = false := by
  rw [Bool.eq_false_iff]
  intro hx
  have := prefix_len hx
  rw [List.length_drop, len_data, len_data] at this
  omega

set_option maxRecDepth 100000 in
set_option maxHeartbeats 4000000 in
theorem rword_err (s : ByteArray) (i : Nat) (w : World) (hs : s.size ≤ 100000) (hi : i < s.size) (h35 : s[i] = 35)
    (HF : Hid (wordF (s.data.toList.drop i) = errP (([1, 2, 3, 4, 5, 6, 7] : List Int).find? (fun e => Lib.hasPrefix (s.data.toList.drop i) (enL e))))) :
    Calls Tryd.prog 11 #[.string s, .int .i64 (i : Int)] w fun e w' => e = .returned (rwv (wordF (s.data.toList.drop i)) i) ∧ Q w w' := by
  have HJ0 := hid (fun W => solid_any s[i] W)
  rw [show joinB s[i] = false by rw [h35]; rfl] at HJ0
  have e0 : ((s[i].toNat : Int) == 35) = true := eq_byte (n := 35) (by omega) h35
  have e1 : ((s[i].toNat : Int) == 34) = false := byte_ne (n := 34) (c := s[i]) (by omega) (by rw [h35]; decide)
  generalize wordF (s.data.toList.drop i) = wf at HF ⊢
  have HS := hid (WB.start w)
  clear h35
  go_enter Tryd.func11, Tryd.ntmps11
  go_wp2_with (go_at_call 17; refine (HJ0.out _).mono ?_; rintro e w9 ⟨rfl, h9⟩; replace h9 := h9.symm; subst h9)
  try simp only [e0, e1]
  go_loopw [12] (fun x W => ∃ k : Nat, k ≤ 7 ∧ x = .int .i64 ((k : Int) + 1) ∧ WB w W ∧ Hid (wf = errP ((([1, 2, 3, 4, 5, 6, 7] : List Int).drop k).find? (fun e => Lib.hasPrefix (s.data.toList.drop i) (enL e))))) (fun x _ => 8 - (intOf x).toNat)
  case atStart => exact ⟨0, by omega, rfl, HS.out, HF⟩
  case round =>
    obtain ⟨k, hk, rfl, hJB, hr⟩ := hrel
    have HJB := hid hJB
    clear hJB
    by_cases hlt : k < 7
    · have hn := fun W => V.rname_any ((k : Int) + 1) W
      obtain ⟨N, eN⟩ : ∃ N : ByteArray, ⟨(enL ((k : Int) + 1)).toArray⟩ = N := ⟨_, rfl⟩
      have lN : N.data.toList = enL ((k : Int) + 1) := by rw [← eN]
      have zN : N.size ≤ 100 ∧ 0 < N.size := by
        rw [← len_data, lN]
        rcases (by omega : k = 0 ∨ k = 1 ∨ k = 2 ∨ k = 3 ∨ k = 4 ∨ k = 5 ∨ k = 6) with rfl | rfl | rfl | rfl | rfl | rfl | rfl <;> decide
      obtain ⟨zN, zN0⟩ := zN
      rw [eN] at hn
      have H1 := hid hn
      have hr2 := hr.out
      rw [err_step k hlt, List.find?_cons, ← lN] at hr2
      clear hn eN hr
      by_cases hfit : i + N.size ≤ s.size
      · obtain ⟨X, eX⟩ : ∃ X, s.extract i (i + N.size) = X := ⟨_, rfl⟩
        have hp := pre_part s N i
        rw [eX] at hp
        have eX' : s.extract i ((i : Int) + (N.size : Int)).toNat = X := by rw [show ((i : Int) + (N.size : Int)).toNat = i + N.size by omega]; exact eX
        have hfi : (i : Int) + (N.size : Int) ≤ (s.size : Int) := by omega
        cases hb : Lib.hasPrefix (s.data.toList.drop i) N.data.toList
        · rw [hb] at hp hr2
          have HR := hid hr2
          clear hr2 hb lN
          go_wp2_with (go_at_call 22; refine (H1.out _).mono ?_; rintro e w1 ⟨rfl, q1⟩; have J1 := hid (HJB.out.on q1); clear q1; have d0 := J1.out.c0; have d1 := J1.out.c1; have d2 := J1.out.c2; have g0 := J1.out.f0; have g1 := J1.out.f1; have g2 := J1.out.f2)
          go_roundw
          case rel => exact ⟨k + 1, by omega, by go_num, J1.out, HR⟩
          case measure => simp [intOf]; omega
        · rw [hb] at hp hr2
          have HB : Hid (wf = (5, N.data.toList, N.size)) := by show _ = _; rw [hr2, ← len_data, lN]; rfl
          clear hr2 hb lN
          go_wp2_with (go_at_call 22; refine (H1.out _).mono ?_; rintro e w1 ⟨rfl, q1⟩; have J1 := hid (HJB.out.on q1); clear q1; have d0 := J1.out.c0; have d1 := J1.out.c1; have d2 := J1.out.c2; have g0 := J1.out.f0; have g1 := J1.out.f1; have g2 := J1.out.f2)
          refine bodyPost_ret (v := .tuple #[.agg #[.int .i64 5, .string N, .int .i64 (i : Int)], .int .i64 (N.size : Int)]) (by simp [results, Tryd.results11, go_sem, d0, d1, d2, g0, g1, g2]) rfl ⟨ret_rw HB.out (by omega) rfl rfl rfl, ?_⟩
          repeat' (first | with_reducible exact J1.out.q | with_reducible refine Q.setCell ?_ (Nat.le_refl _) _ | with_reducible refine Q.drewN ?_ _ | with_reducible refine Q.drew ?_ | with_reducible refine Q.alloc ?_ _)
      · rw [pre_short (by omega) (by omega)] at hr2
        have HR := hid hr2
        clear hr2 lN
        go_wp2_with (go_at_call 22; refine (H1.out _).mono ?_; rintro e w1 ⟨rfl, q1⟩; have J1 := hid (HJB.out.on q1); clear q1; have d0 := J1.out.c0; have d1 := J1.out.c1; have d2 := J1.out.c2; have g0 := J1.out.f0; have g1 := J1.out.f1; have g2 := J1.out.f2)
        go_roundw
        case rel => exact ⟨k + 1, by omega, by go_num, J1.out, HR⟩
        case measure => simp [intOf]; omega
    · have e : k = 7 := by omega
      subst e
      have HB : Hid (wf = bad) := hid hr.out
      have d0 := HJB.out.c0
      have d1 := HJB.out.c1
      have d2 := HJB.out.c2
      have g0 := HJB.out.f0
      have g1 := HJB.out.f1
      have g2 := HJB.out.f2
      clear hr
      go_wp2_with fail
      refine bodyPost_ret (v := .tuple #[.agg #[.int .i64 0, .string ⟨#[]⟩, .int .i64 0], .int .i64 0]) (by simp [results, Tryd.results11, go_sem, d0, d1, d2, g0, g1, g2]) rfl ⟨ret_rbad HB.out, ?_⟩
      repeat' (first | with_reducible exact HJB.out.q | with_reducible refine Q.setCell ?_ (Nat.le_refl _) _ | with_reducible refine Q.drewN ?_ _ | with_reducible refine Q.drew ?_ | with_reducible refine Q.alloc ?_ _)
end Go.Proofs.YtkipbcimjmialaaDoor
