/- ref.word, whole. -/
import Derived.Test.YtkipbcimjmialaaDoorCb
import Derived.Test.YtkipbcimjmialaaDoorCc
import Derived.Test.YtkipbcimjmialaaDoorCd
import Derived.Test.YtkipbcimjmialaaDoorCe
import Derived.Test.YtkipbcimjmialaaDoorCf
import Derived.Test.YtkipbcimjmialaaDoorCg
import Derived.Test.YtkipbcimjmialaaDoorBb
namespace Go.Proofs.YtkipbcimjmialaaDoor
open Go.RowKit
set_option linter.unusedVariables false
set_option linter.unusedSimpArgs false


theorem tw_mem {p : UInt8 → Bool} {x : UInt8} : ∀ {l : List UInt8}, x ∈ l.takeWhile p → p x = true
  | [], h => by simp at h
  | c :: r, h => by
    rw [List.takeWhile_cons] at h
    split at h
    · rename_i hc
      rcases List.mem_cons.1 h with rfl | h'
      · exact hc
      · exact tw_mem h'
    · simp at h
theorem hp_one' (a c : UInt8) (r : List UInt8) : Lib.hasPrefix (a :: r) [c] = (c == a) := by
  unfold Lib.hasPrefix
  simp [List.isPrefixOf]

theorem rword_join (s : ByteArray) (i : Nat) (w : World) (hs : s.size ≤ 100000) (hi : i < s.size) (hj : joinB s[i] = true) (hF : wordF (s.data.toList.drop i) = joinW (s.data.toList.drop i)) :
    Calls Tryd.prog 11 #[.string s, .int .i64 (i : Int)] w fun e w' => e = .returned (rwv (wordF (s.data.toList.drop i)) i) ∧ Q w w' := by
  obtain ⟨M, T, hr, hM⟩ := run_at s i hi hj
  have hz := hr.zT
  have hlo := hr.lo
  have hle := hr.le
  have hT0 : 0 < T.size := by omega
  have hlen : (s.data.toList.drop i |>.takeWhile joinB).length = M - i := by omega
  have hJ : joinB T[0] = true := tw_mem (l := s.data.toList.drop i) (by rw [← hr.lT]; exact get_mem T 0 hT0)
  have h45 : T[0] ≠ 45 := fun e => by rw [e] at hJ; exact absurd hJ (by decide)
  have HP := fun W => V.rparse_any T W (by omega)
  have HR := fun W => rref_any T W (by omega)
  have HL := fun W => letters_any T W hT0 (by omega)
  have et := Lib.toList_data T
  have hpos := pk_pos (no_minus T hT0 h45)
  have hW : ∀ k, kindJ T.data.toList (Lib.hasPrefix (s.data.toList.drop M) [40]) = k → wordF (s.data.toList.drop i) = if k = 0 then bad else (k, T.data.toList, M - i) := by
    intro k hk
    rw [hF]
    unfold joinW
    rw [← hr.lT, hr.beh, hk, hr.lT, hlen]
  unfold V.RP at HP
  generalize V.pk (V.parseO T.data.toList) = pn at HP hpos
  cases hp : V.pf (V.parseO T.data.toList)
  · rw [hp] at HP
    cases hf : refF T.data.toList
    · rw [hf] at HR
      have hk := kind_rest (c := Lib.hasPrefix (s.data.toList.drop M) [40]) hp hf
      cases ha : allL T.data.toList
      · rw [ha] at HL
        refine rword_n0 s T i M w hs hi hr hj pn _ (hid HP) (hid HR) (hid HL) (hid ?_)
        rw [hW 0 ?_]; rfl
        rw [hk, if_neg]
        rintro (h | h | ⟨_, h⟩)
        · rw [h] at ha; exact absurd ha (by decide)
        · rw [h] at ha; exact absurd ha (by decide)
        · rw [ha] at h; cases h
      · rw [ha] at HL
        by_cases ht : T.data.toList = tru
        · refine rword_t s T i M w hs hi hr hj pn _ (hid HP) (hid HR) (hid HL) (by rw [et, ht]; rfl) (hid ?_)
          rw [hW 4 (by rw [hk, if_pos (Or.inl ht)])]; rfl
        · have e1 : (T.toList == [84, 82, 85, 69]) = false := by rw [et, beq_eq_false_iff_ne]; exact ht
          by_cases hf2 : T.data.toList = fls
          · refine rword_f s T i M w hs hi hr hj pn _ (hid HP) (hid HR) (hid HL) e1 (by rw [et, hf2]; rfl) (hid ?_)
            rw [hW 4 (by rw [hk, if_pos (Or.inr (Or.inl hf2))])]; rfl
          · have e2 : (T.toList == [70, 65, 76, 83, 69]) = false := by rw [et, beq_eq_false_iff_ne]; exact hf2
            by_cases hMs : M < s.size
            · by_cases h40 : s[M] = 40
              · have hc : Lib.hasPrefix (s.data.toList.drop M) [40] = true := by rw [drop_cons s M hMs, hp_one', h40]; rfl
                refine rword_c s T i M w hs hi hr hj pn _ (hid HP) (hid HR) (hid HL) e1 e2 (hid hMs) (hid fun _ => h40) (hid ?_)
                rw [hW 4 (by rw [hk, if_pos (Or.inr (Or.inr ⟨hc, ha⟩))])]; rfl
              · have hc : Lib.hasPrefix (s.data.toList.drop M) [40] = false := by rw [drop_cons s M hMs, hp_one', beq_eq_false_iff_ne]; exact fun e => h40 e.symm
                refine rword_b s T i M w hs hi hr hj pn _ (hid HP) (hid HR) (hid HL) e1 e2 (hid fun _ => h40) (hid ?_)
                rw [hW 0 ?_]; rfl
                rw [hk, if_neg]
                rintro (h | h | ⟨h, _⟩)
                · exact ht h
                · exact hf2 h
                · rw [hc] at h; cases h
            · have hc : Lib.hasPrefix (s.data.toList.drop M) [40] = false := by rw [List.drop_of_length_le (by simp; omega)]; rfl
              refine rword_b s T i M w hs hi hr hj pn _ (hid HP) (hid HR) (hid HL) e1 e2 (hid fun h => absurd h hMs) (hid ?_)
              rw [hW 0 ?_]; rfl
              rw [hk, if_neg]
              rintro (h | h | ⟨h, _⟩)
              · exact ht h
              · exact hf2 h
              · rw [hc] at h; cases h
    · rw [hf] at HR
      refine rword_ref s T i M w hs hi hr hj pn _ (hid HP) (hid HR) (hid ?_)
      rw [hW 3 (kind_ref hp hf)]; rfl
  · rw [hp] at HP
    refine rword_num s T i M w hs hi hr hj hT0 pn (hid HP) hpos (byte_ne (n := 45) (by omega) h45) (hid ?_)
    rw [hW 1 (kind_num hp)]; rfl

theorem rword_any (s : ByteArray) (i : Nat) (w : World) (hs : s.size ≤ 100000) (hi : i < s.size) :
    Calls Tryd.prog 11 #[.string s, .int .i64 (i : Int)] w fun e w' => e = .returned (rwv (wordF (s.data.toList.drop i)) i) ∧ Q w w' := by
  have hh : (s.data.toList.drop i).headD 0 = s[i] := by rw [drop_cons s i hi]; rfl
  by_cases h34 : s[i] = 34
  · refine rword_quo s i w hs hi h34 _ (hid rfl) (hid ?_)
    unfold wordF
    rw [hh, if_pos h34]
    unfold quoW
    rw [List.drop_drop]
  · by_cases h35 : s[i] = 35
    · refine rword_err s i w hs hi h35 (hid ?_)
      unfold wordF
      rw [hh, if_neg h34, if_pos h35]
      rfl
    · cases hj : joinB s[i]
      · refine rword_sig s i w hs hi h34 h35 hj (hid ?_)
        unfold wordF
        rw [hh, if_neg h34, if_neg h35, if_neg (by simp [hj]), sgR_eq]
        rfl
      · refine rword_join s i w hs hi hj ?_
        unfold wordF
        rw [hh, if_neg h34, if_neg h35, if_pos hj]
end Go.Proofs.YtkipbcimjmialaaDoor
