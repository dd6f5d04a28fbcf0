/- counterpaneref5.Ref: what it returns. -/
import Derived.Test.YtkipbcimjmialaaDoorF4
import Derived.Test.YtkipbcimjmialaaDoorF2
namespace Go.Proofs.YtkipbcimjmialaaDoor
open Go.RowKit
set_option linter.unusedVariables false
set_option linter.unusedSimpArgs false

theorem dl_of (C : ByteArray) : Dl C ⟨(Lib.trimPrefix C.data.toList [36]).toArray⟩ (Lib.hasPrefix C.data.toList [36]) := by
  unfold Dl
  cases hb : Lib.hasPrefix C.data.toList [36]
  · refine .inr ⟨rfl, fun h e => ?_, ?_⟩
    · have h1 := drop_cons C 0 h
      rw [List.drop_zero] at h1
      rw [h1, e] at hb
      unfold Lib.hasPrefix at hb
      simp at hb
    · have : Lib.trimPrefix C.data.toList [36] = C.data.toList := by unfold Lib.trimPrefix; rw [hb]; rfl
      rw [this]
  · have hp : 0 < C.size := by
      rcases Nat.eq_zero_or_pos C.size with h | h
      · rw [show C.data.toList = [] from List.eq_nil_of_length_eq_zero (by rw [len_data]; exact h)] at hb
        unfold Lib.hasPrefix at hb
        simp at hb
      · exact h
    refine .inl ⟨rfl, hp, ?_, ?_⟩
    · have h1 := drop_cons C 0 hp
      rw [List.drop_zero] at h1
      rw [h1] at hb
      unfold Lib.hasPrefix at hb
      simp at hb
      exact hb.symm
    · apply bytes_eq
      rw [Lib.extract_data]
      have : Lib.trimPrefix C.data.toList [36] = C.data.toList.drop 1 := by unfold Lib.trimPrefix; rw [hb]; rfl
      rw [this]
      exact List.take_of_length_le (by rw [List.length_drop, len_data]; omega)
theorem numR_lo (l : List UInt8) (m : Nat) : -1 ≤ numR l m := by unfold numR; split <;> omega
theorem numR_hi (l : List UInt8) (m : Nat) : numR l m ≤ (m : Int) := by
  unfold numR
  split
  · rename_i h
    unfold numF at h
    simp only [Bool.and_eq_true, decide_eq_true_eq] at h
    omega
  · omega
theorem rf_eq (sh c : List UInt8) :
    rfR ⟨sh.toArray⟩ (colF ((Lib.trimPrefix c [36]).takeWhile let1)) (numR (Lib.trimPrefix ((Lib.trimPrefix c [36]).dropWhile let1) [36]) 2199023255552) (colK ((Lib.trimPrefix c [36]).takeWhile let1))
      (Lib.hasPrefix ((Lib.trimPrefix c [36]).dropWhile let1) [36]) (Lib.hasPrefix c [36]) = .tuple #[refA (if tailF c then tailT sh c else noT), .bool (tailF c)] := by
  unfold rfR tailF tailT numR colK
  cases colF ((Lib.trimPrefix c [36]).takeWhile let1)
  · rfl
  cases numF (Lib.trimPrefix ((Lib.trimPrefix c [36]).dropWhile let1) [36]) 2199023255552
  · rw [if_neg (by simp)]
    rfl
  generalize val (Lib.trimPrefix ((Lib.trimPrefix c [36]).dropWhile let1) [36]) = v
  by_cases h : v = 0
  · rw [if_neg (by simp; omega), decide_eq_false (by omega)]
    rfl
  · rw [if_pos (by simp; omega), decide_eq_true h]
    rfl
/-- the parts, for the walk -/
structure RT (C T E R G : ByteArray) (k : Nat) (ca ra cf : Bool) (col n : Int) : Prop where
  hd1 : Dl C T ca
  hd2 : Dl R G ra
  hk : k = lead T.data.toList
  hkT : k ≤ T.size
  hT : T.size ≤ 4000000000
  eE : T.extract 0 k = E
  eR : T.extract k T.size = R
  HK : ∀ W, Calls Tryd.prog 35 #[.string E] W fun e w' => e = .returned (.tuple #[.int .i64 col, .bool cf]) ∧ w' = W
  n0 : -1 ≤ n
  n1 : n ≤ 2199023255552
  HN : ∀ W, Calls Tryd.prog 36 #[.string G, .int .i64 2199023255552] W fun e w' => e = .returned (.int .i64 n) ∧ w' = W
theorem rt_of (C : ByteArray) (hs : C.size ≤ 4000000000) :
    ∃ T E R G, RT C T E R G (lead (Lib.trimPrefix C.data.toList [36])) (Lib.hasPrefix C.data.toList [36]) (Lib.hasPrefix ((Lib.trimPrefix C.data.toList [36]).dropWhile let1) [36])
      (colF ((Lib.trimPrefix C.data.toList [36]).takeWhile let1)) (colK ((Lib.trimPrefix C.data.toList [36]).takeWhile let1)) (numR (Lib.trimPrefix ((Lib.trimPrefix C.data.toList [36]).dropWhile let1) [36]) 2199023255552) := by
  have l1 := Lib.trimPrefix_le C.data.toList [36]
  rw [len_data] at l1
  have d1 := dl_of C
  generalize Lib.trimPrefix C.data.toList [36] = t at *
  have l2 := lead_le t
  have e1 : ((⟨t.toArray⟩ : ByteArray).extract 0 (lead t)).data.toList = t.takeWhile let1 := by
    rw [Lib.extract_data, ← take_lead]
    rfl
  have e2 : ((⟨t.toArray⟩ : ByteArray).extract (lead t) (⟨t.toArray⟩ : ByteArray).size).data.toList = t.dropWhile let1 := by
    rw [Lib.extract_data, ← drop_lead, size_mk]
    exact List.take_of_length_le (by simp)
  have l3 := Lib.trimPrefix_le (t.dropWhile let1) [36]
  have l4 : (t.dropWhile let1).length ≤ t.length := by rw [← drop_lead, List.length_drop]; omega
  have hK := fun W => rcol_any ((⟨t.toArray⟩ : ByteArray).extract 0 (lead t)) W (by rw [ByteArray.size_extract, size_mk]; omega)
  rw [e1] at hK
  have d2 := dl_of ((⟨t.toArray⟩ : ByteArray).extract (lead t) (⟨t.toArray⟩ : ByteArray).size)
  rw [e2] at d2
  exact ⟨_, _, _, _, d1, d2, rfl, by rw [size_mk]; exact l2, by rw [size_mk]; omega, rfl, rfl, hK, numR_lo _ _, numR_hi _ _,
    fun W => num_any ⟨(Lib.trimPrefix (t.dropWhile let1) [36]).toArray⟩ 2199023255552 2199023255552 W rfl (by omega) (by omega) (by rw [size_mk]; omega)⟩

theorem rref_any (s : ByteArray) (w : World) (hs : s.size ≤ 4000000000) :
    Calls Tryd.prog 19 #[.string s] w fun e w' => e = .returned (.tuple #[refA (refT s.data.toList), .bool (refF s.data.toList)]) ∧ Q w w' := by
  rcases cut_any 33 s.data.toList with ⟨a, b, ea, hna⟩ | hno
  · have ec := cut_at 33 a b hna
    rw [← ea] at ec
    obtain ⟨e1, e2⟩ := ref_other ec
    have hlen := congrArg List.length ea
    rw [len_data, List.length_append, List.length_cons] at hlen
    have hj : a.length < s.size := by omega
    have htake : s.data.toList.take a.length = a := by rw [ea, List.take_left]
    have hget : s[a.length] = 33 := by
      have h1 := drop_cons s a.length hj
      rw [ea, List.drop_left] at h1
      exact (List.cons.inj h1).1.symm
    have eA : s.extract 0 a.length = ⟨a.toArray⟩ := bytes_eq (by rw [Lib.extract_data]; exact htake)
    have eC : s.extract (a.length + 1) s.size = ⟨b.toArray⟩ := bytes_eq (by
      rw [Lib.extract_data, show s.data.toList.drop (a.length + 1) = b by
        have h1 := drop_cons s a.length hj
        rw [ea, List.drop_left] at h1
        rw [ea]
        exact (List.cons.inj h1).2.symm]
      exact List.take_of_length_le (by omega))
    have HI := fun W => rid_any ⟨a.toArray⟩ W (by rw [size_mk]; omega)
    simp only at HI
    rw [e1, e2]
    cases hi : idB a
    · rw [hi] at HI
      exact (rref_none s _ _ w hs (by rw [size_mk]; omega) a.length hj (by rw [hget]; rfl) (by show _ ∉ _; rw [htake]; exact hna) eA eC HI).mono fun e w' h => h
    · rw [hi] at HI
      obtain ⟨T, E, R, G, h⟩ := rt_of ⟨b.toArray⟩ (by rw [size_mk]; omega)
      refine (rref_other s _ _ T E R G _ _ _ _ _ _ w hs (by rw [size_mk]; omega) a.length hj (by rw [hget]; rfl) (by show _ ∉ _; rw [htake]; exact hna) eA eC HI h.hd1 h.hd2 h.hk h.hkT h.hT h.eE h.eR h.HK h.n0 h.n1 h.HN).mono fun e w' g => ⟨?_, g.2⟩
      rw [g.1, rf_eq a b, Bool.true_and]
  · have ec := cut_free 33 s.data.toList hno
    obtain ⟨e1, e2⟩ := ref_free ec
    rw [e1, e2]
    obtain ⟨T, E, R, G, h⟩ := rt_of s hs
    refine (rref_free s T E R G _ _ _ _ _ _ w hs hno h.hd1 h.hd2 h.hk h.hkT h.hT h.eE h.eR h.HK h.n0 h.n1 h.HN).mono fun e w' g => ⟨?_, g.2⟩
    rw [g.1]
    exact congrArg Ending.returned (rf_eq [] s.data.toList)
end Go.Proofs.YtkipbcimjmialaaDoor
