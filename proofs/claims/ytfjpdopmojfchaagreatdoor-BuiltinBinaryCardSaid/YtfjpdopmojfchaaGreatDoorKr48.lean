/- Values as numbers and texts, plainly; Binary of both. -/
import Derived.Test.YtfjpdopmojfchaaGreatDoorKr47
import Derived.Test.YtfjpdopmojfchaaGreatDoorKr34
import Derived.Test.YtfjpdopmojfchaaGreatDoorKr29
import Derived.Test.YtfjpdopmojfchaaGreatDoorKr24
import Derived.Test.YtfjpdopmojfchaaGreatDoorKr30
import Derived.Test.YtfjpdopmojfchaaGreatDoorKr33
import Derived.Test.YtfjpdopmojfchaaGreatDoorKr31
import Derived.Test.YtfjpdopmojfchaaGreatDoorKr32
import Derived.Test.YtfjpdopmojfchaaGreatDoorKr26
import Derived.Test.YtfjpdopmojfchaaGreatDoorKr27
import Derived.Test.YtfjpdopmojfchaaGreatDoorKr25
import Derived.Test.YtfjpdopmojfchaaGreatDoorKr28
import Derived.Test.YtfjpdopmojfchaaGreatDoorKr36
import Derived.Test.YtfjpdopmojfchaaGreatDoorKr35
import Derived.Test.YtfjpdopmojfchaaGreatDoorKr37
import Derived.Test.YtfjpdopmojfchaaGreatDoorKr43
import Derived.Test.YtfjpdopmojfchaaGreatDoorKr45
set_option linter.unusedVariables false
set_option linter.unusedSimpArgs false
namespace Go.Proofs.YtfjpdopmojfchaaGreatDoor
open Go.RowKit
theorem rnum_c (x : Cv) (hs : x.sl) (hm : x.may = true) : ∀ W, Calls Tryz.prog 49 #[x.v] W fun r W' => r = .returned (.tuple #[.int .i64 x.nN, .int .i64 x.nE]) ∧ Q W W' := fun W => rnumber_vk x.k x.n x.t x.b x.e W hs.t (vk_of hm)
theorem rtxt_c (x : Cv) (hs : x.sl) (hm : x.may = true) : ∀ W, Calls Tryz.prog 46 #[x.v] W fun r W' => r = .returned (.tuple #[.string x.tT, .int .i64 x.tE]) ∧ Q W W' := fun W => rtext_vk x.k x.n x.t x.b x.e W hs.t hs.n (vk_of hm)
theorem join2 (m n : ByteArray) : (⟨(joinL [m, n]).toArray⟩ : ByteArray) = m ++ n := by
  have h : (m ++ n).data.toList = joinL [m, n] := by
    rw [ByteArray.data_append]
    simp [joinL]
  rw [← h]
/-- both Binary answer one value -/
def Same (op : ByteArray) (a b : Cv) (w : World) : Prop := ∃ y : Cv, (∀ W, Q w W → Calls Tryz.prog 18 #[.string op, a.v, b.v] W fun r W' => r = .returned y.v ∧ Q W W') ∧ (∀ W, Calls Tryz.prog 19 #[.string op, a.v, b.v] W fun r W' => r = .returned y.v ∧ Q W W')
theorem ba_of {op : ByteArray} {l : List UInt8} (h : op.toList = l) : op = ⟨l.toArray⟩ := by
  rw [Lib.toList_data] at h
  rw [← h]
theorem same_err (op : ByteArray) (a b : Cv) (w : World) (hw : Std2 w) (ha : a.sl) (hb : b.sl) (he : worst [ctd a, ctd b] ≠ 0) : Same op a b w := by
  refine ⟨er (worst [ctd a, ctd b]), fun W q => bin_err a b _ _ W (hw.on q) ha.sm hb.sm rfl rfl op _ rfl he, fun W => ?_⟩
  have hp : 0 < worst [ctd a, ctd b] := by have := (worst_lo [ctd a, ctd b]).1; omega
  cases ma : a.may <;> cases mb : b.may
  · have ea : ctd a = er 5 := by unfold ctd; rw [ma]; rfl
    have eb : ctd b = er 5 := by unfold ctd; rw [mb]; rfl
    rw [ea, eb] at hp ⊢
    exact rbin_nn a b W ha.sm hb.sm ma mb op _ rfl hp
  · have ea : ctd a = er 5 := by unfold ctd; rw [ma]; rfl
    rw [ea, ctd_may mb] at hp ⊢
    exact rbin_ny a b W ha.sm hb.sm ma mb op _ rfl hp
  · have eb : ctd b = er 5 := by unfold ctd; rw [mb]; rfl
    rw [eb, ctd_may ma] at hp ⊢
    exact rbin_yn a b W ha.sm hb.sm ma mb op _ rfl hp
  · rw [ctd_may ma, ctd_may mb] at hp ⊢
    exact rbin_err a b W ha.sm hb.sm ma mb op _ rfl hp
theorem may_of_ctd {a : Cv} (h : (ctd a).k ≠ 4) : a.may = true := by
  cases hm : a.may
  · exfalso; apply h; unfold ctd; rw [hm]; rfl
  · rfl
/-- + - * / of sides one of which is no number -/
theorem same_no (o : Nat) (op : ByteArray) (a b : Cv) (w : World) (hw : Std2 w) (ha : a.sl) (hb : b.sl) (ma : a.may = true) (mb : b.may = true) (he : worst [a, b] = 0)
    (HP : ∀ W (y : Cv), Q w W → (∀ W', Q W W' → Calls Tryz.prog 39 #[.string op, a.v, b.v] W' fun r W'' => r = .returned y.v ∧ Q W' W'') → Calls Tryz.prog 18 #[.string op, a.v, b.v] W fun r W' => r = .returned y.v ∧ Q W W')
    (h : a.nE ≠ 0 ∨ b.nE ≠ 0) (h0 : op.toList ≠ [38]) (h1 : op.toList ≠ [61]) (h2 : op.toList ≠ [60, 62]) (h3 : op.toList ≠ [60]) (h4 : op.toList ≠ [60, 61]) (h5 : op.toList ≠ [62]) (h6 : op.toList ≠ [62, 61]) : Same op a b w := by
  have l1 := nE_lo ma
  have l2 := nE_lo mb
  by_cases hx : a.nE = 0
  · have hz : b.nE ≠ 0 := by rcases h with h | h; exact absurd hx h; exact h
    refine ⟨er 5, fun W q => HP W _ q (fun W' q' => ?_), fun W => ?_⟩
    · have hA := num_c a W' (hw.on (q.trans q')) ha ma
      have hB := num_c b W' (hw.on (q.trans q')) hb mb
      rw [hx] at hA
      exact calc_no2 op a b a.nN b.nN 0 b.nE W' hA hB hz
    · exact rbin_no2 a b W ha.sm hb.sm ma mb op he a.nN b.nN a.nE b.nE (rnum_c a ha ma) (rnum_c b hb mb) hx (by omega) h0 h1 h2 h3 h4 h5 h6
  · refine ⟨er 5, fun W q => HP W _ q (fun W' q' => ?_), fun W => ?_⟩
    · exact calc_no1 op a b a.nN b.nN a.nE b.nE W' (num_c a W' (hw.on (q.trans q')) ha ma) (num_c b W' (hw.on (q.trans q')) hb mb) hx
    · exact rbin_no1 a b W ha.sm hb.sm ma mb op he a.nN b.nN a.nE b.nE (rnum_c a ha ma) (rnum_c b hb mb) (by omega) h0 h1 h2 h3 h4 h5 h6
theorem same_add (a b : Cv) (w : World) (hw : Std2 w) (ha : a.sl) (hb : b.sl) (ma : a.may = true) (mb : b.may = true) (he : worst [a, b] = 0) : Same ⟨#[43]⟩ a b w := by
  by_cases h : a.nE = 0 ∧ b.nE = 0
  · refine ⟨resV (a.nN + b.nN), fun W q => bin_add a b a b _ W (hw.on q) ha.sm hb.sm (ctd_may ma) (ctd_may mb) he (fun W' q' => ?_), fun W => ?_⟩
    · have hA := num_c a W' (hw.on (q.trans q')) ha ma
      have hB := num_c b W' (hw.on (q.trans q')) hb mb
      rw [h.1] at hA
      rw [h.2] at hB
      exact calc_add a b a.nN b.nN W' hA hB (nN_fx ha) (nN_fx hb)
    · have hA := rnum_c a ha ma
      have hB := rnum_c b hb mb
      rw [h.1] at hA
      rw [h.2] at hB
      exact rbin_add a b W ha.sm hb.sm ma mb he a.nN b.nN hA hB (nN_fx ha) (nN_fx hb)
  · exact same_no 0 _ a b w hw ha hb ma mb he (fun W y q H => bin_add a b a b y W (hw.on q) ha.sm hb.sm (ctd_may ma) (ctd_may mb) he H) (by omega) (by rw [Lib.toList_data]; decide) (by rw [Lib.toList_data]; decide) (by rw [Lib.toList_data]; decide) (by rw [Lib.toList_data]; decide) (by rw [Lib.toList_data]; decide) (by rw [Lib.toList_data]; decide) (by rw [Lib.toList_data]; decide)
theorem same_sub (a b : Cv) (w : World) (hw : Std2 w) (ha : a.sl) (hb : b.sl) (ma : a.may = true) (mb : b.may = true) (he : worst [a, b] = 0) : Same ⟨#[45]⟩ a b w := by
  by_cases h : a.nE = 0 ∧ b.nE = 0
  · refine ⟨resV (a.nN - b.nN), fun W q => bin_sub a b a b _ W (hw.on q) ha.sm hb.sm (ctd_may ma) (ctd_may mb) he (fun W' q' => ?_), fun W => ?_⟩
    · have hA := num_c a W' (hw.on (q.trans q')) ha ma
      have hB := num_c b W' (hw.on (q.trans q')) hb mb
      rw [h.1] at hA
      rw [h.2] at hB
      exact calc_sub a b a.nN b.nN W' hA hB (nN_fx ha) (nN_fx hb)
    · have hA := rnum_c a ha ma
      have hB := rnum_c b hb mb
      rw [h.1] at hA
      rw [h.2] at hB
      exact rbin_sub a b W ha.sm hb.sm ma mb he a.nN b.nN hA hB (nN_fx ha) (nN_fx hb)
  · exact same_no 0 _ a b w hw ha hb ma mb he (fun W y q H => bin_sub a b a b y W (hw.on q) ha.sm hb.sm (ctd_may ma) (ctd_may mb) he H) (by omega) (by rw [Lib.toList_data]; decide) (by rw [Lib.toList_data]; decide) (by rw [Lib.toList_data]; decide) (by rw [Lib.toList_data]; decide) (by rw [Lib.toList_data]; decide) (by rw [Lib.toList_data]; decide) (by rw [Lib.toList_data]; decide)
theorem same_mul (a b : Cv) (w : World) (hw : Std2 w) (ha : a.sl) (hb : b.sl) (ma : a.may = true) (mb : b.may = true) (he : worst [a, b] = 0) : Same ⟨#[42]⟩ a b w := by
  by_cases h : a.nE = 0 ∧ b.nE = 0
  · refine ⟨resV (mulV a.nN b.nN), fun W q => bin_mul a b a b _ W (hw.on q) ha.sm hb.sm (ctd_may ma) (ctd_may mb) he (fun W' q' => ?_), fun W => ?_⟩
    · have hA := num_c a W' (hw.on (q.trans q')) ha ma
      have hB := num_c b W' (hw.on (q.trans q')) hb mb
      rw [h.1] at hA
      rw [h.2] at hB
      exact calc_mul a b a.nN b.nN W' hA hB (nN_fx ha) (nN_fx hb)
    · have hA := rnum_c a ha ma
      have hB := rnum_c b hb mb
      rw [h.1] at hA
      rw [h.2] at hB
      exact rbin_mul a b W ha.sm hb.sm ma mb he a.nN b.nN hA hB (nN_fx ha) (nN_fx hb)
  · exact same_no 0 _ a b w hw ha hb ma mb he (fun W y q H => bin_mul a b a b y W (hw.on q) ha.sm hb.sm (ctd_may ma) (ctd_may mb) he H) (by omega) (by rw [Lib.toList_data]; decide) (by rw [Lib.toList_data]; decide) (by rw [Lib.toList_data]; decide) (by rw [Lib.toList_data]; decide) (by rw [Lib.toList_data]; decide) (by rw [Lib.toList_data]; decide) (by rw [Lib.toList_data]; decide)
theorem same_div (a b : Cv) (w : World) (hw : Std2 w) (ha : a.sl) (hb : b.sl) (ma : a.may = true) (mb : b.may = true) (he : worst [a, b] = 0) : Same ⟨#[47]⟩ a b w := by
  by_cases h : a.nE = 0 ∧ b.nE = 0
  · by_cases hz : b.nN = 0
    · refine ⟨er 3, fun W q => bin_div a b a b _ W (hw.on q) ha.sm hb.sm (ctd_may ma) (ctd_may mb) he (fun W' q' => ?_), fun W => ?_⟩
      · have hA := num_c a W' (hw.on (q.trans q')) ha ma
        have hB := num_c b W' (hw.on (q.trans q')) hb mb
        rw [h.1] at hA
        rw [h.2] at hB
        exact calc_div0 ⟨#[]⟩ a b a.nN b.nN 0 0 W' hA hB hz
      · have hA := rnum_c a ha ma
        have hB := rnum_c b hb mb
        rw [h.1] at hA
        rw [h.2, hz] at hB
        exact rbin_div0 a b W ha.sm hb.sm ma mb he a.nN hA hB
    · have hz' : (b.nN == 0) = false := by simpa using hz
      refine ⟨resV (divV a.nN b.nN), fun W q => bin_div a b a b _ W (hw.on q) ha.sm hb.sm (ctd_may ma) (ctd_may mb) he (fun W' q' => ?_), fun W => ?_⟩
      · have hA := num_c a W' (hw.on (q.trans q')) ha ma
        have hB := num_c b W' (hw.on (q.trans q')) hb mb
        rw [h.1] at hA
        rw [h.2] at hB
        exact calc_div a b a.nN b.nN W' hA hB (nN_fx ha) (nN_fx hb) hz'
      · have hA := rnum_c a ha ma
        have hB := rnum_c b hb mb
        rw [h.1] at hA
        rw [h.2] at hB
        exact rbin_div a b W ha.sm hb.sm ma mb he a.nN b.nN hA hB (nN_fx ha) (nN_fx hb) hz'
  · exact same_no 0 _ a b w hw ha hb ma mb he (fun W y q H => bin_div a b a b y W (hw.on q) ha.sm hb.sm (ctd_may ma) (ctd_may mb) he H) (by omega) (by rw [Lib.toList_data]; decide) (by rw [Lib.toList_data]; decide) (by rw [Lib.toList_data]; decide) (by rw [Lib.toList_data]; decide) (by rw [Lib.toList_data]; decide) (by rw [Lib.toList_data]; decide) (by rw [Lib.toList_data]; decide)
theorem tE_zero {x : Cv} (h : x.k ≠ 4) : x.tE = 0 := by unfold Cv.tE txtE; rw [if_neg h]
theorem same_amp (a b : Cv) (w : World) (hw : Std2 w) (ha : a.sl) (hb : b.sl) (ma : a.may = true) (mb : b.may = true) (he : worst [a, b] = 0) : Same ⟨#[38]⟩ a b w := by
  obtain ⟨ka, kb⟩ := worst2_k ma mb he
  have ea := tE_zero ka
  have eb := tE_zero kb
  have sa := tT_size ha
  have sb := tT_size hb
  have htw : tw Cv.tE [a, b] = 0 := by
    unfold tw fs
    simp only [List.map_cons, List.map_nil, ea, eb]
    rfl
  have hok : oks Cv.tE Cv.tT [a, b] = [a.tT, b.tT] := by
    unfold oks
    simp [ea, eb]
  have hj : joinV [a.tT, b.tT] = if a.tT.size + b.tT.size ≤ 200 then tx (a.tT ++ b.tT) else er 5 := by
    have hl : (joinL [a.tT, b.tT]).length = a.tT.size + b.tT.size := by
      simp only [joinL, List.flatMap_cons, List.flatMap_nil, List.append_nil, List.length_append, bytes_len]
    unfold joinV
    rw [hl, join2]
  refine ⟨joinV [a.tT, b.tT], fun W q => bin_amp a b a b _ W (hw.on q) ha.sm hb.sm (ctd_may ma) (ctd_may mb) he (fun W' p r sl q' c1 c2 hsl => ?_), fun W => ?_⟩
  · have h := taken_join [a, b] Cv.tE Cv.tT sl (joinV [a.tT, b.tT]) p r W' (hw.on (q.trans q')) hsl (by simp) c1 c2
      (fun x hx => by simp at hx; rcases hx with rfl | rfl; exact tE_lo ma; exact tE_lo mb)
      (fun x hx => by simp at hx; rcases hx with rfl | rfl; exact txt_c x W' (hw.on (q.trans q')) ha ma; exact txt_c x W' (hw.on (q.trans q')) hb mb)
      (fun _ W2 s q2 hs => by
        rw [hok] at hs
        exact join_any _ s W2 hs (by simp) (fun t ht => by simp at ht; rcases ht with rfl | rfl <;> omega))
    rw [htw, if_pos rfl] at h
    exact h
  · rw [hj]
    split
    · exact rbin_amp a b W ha.sm hb.sm ma mb he a.tT b.tT a.tE b.tE (rtxt_c a ha ma) (rtxt_c b hb mb) (by omega) (by omega) (by assumption)
    · exact rbin_ampb a b W ha.sm hb.sm ma mb he a.tT b.tT a.tE b.tE (rtxt_c a ha ma) (rtxt_c b hb mb) (by omega) (by omega) (by omega)
theorem same_eq (a b : Cv) (w : World) (hw : Std2 w) (ha : a.sl) (hb : b.sl) (ma : a.may = true) (mb : b.may = true) (he : worst [a, b] = 0) : Same ⟨#[61]⟩ a b w := by
  obtain ⟨ka, kb⟩ := worst2_k ma mb he
  exact ⟨_, fun W q => bin_eq a b a b W (hw.on q) ha.sm hb.sm (ctd_may ma) (ctd_may mb) he _ rfl, fun W => rbin_eq a b W ha.sm hb.sm ma mb ka kb he _ rfl⟩
theorem same_ne (a b : Cv) (w : World) (hw : Std2 w) (ha : a.sl) (hb : b.sl) (ma : a.may = true) (mb : b.may = true) (he : worst [a, b] = 0) : Same ⟨#[60, 62]⟩ a b w := by
  obtain ⟨ka, kb⟩ := worst2_k ma mb he
  exact ⟨_, fun W q => bin_ne a b a b W (hw.on q) ha.sm hb.sm (ctd_may ma) (ctd_may mb) he _ rfl, fun W => rbin_ne a b W ha.sm hb.sm ma mb ka kb he _ rfl⟩
theorem same_lt (a b : Cv) (w : World) (hw : Std2 w) (ha : a.sl) (hb : b.sl) (ma : a.may = true) (mb : b.may = true) (he : worst [a, b] = 0) : Same ⟨#[60]⟩ a b w := by
  obtain ⟨ka, kb⟩ := worst2_k ma mb he
  exact ⟨_, fun W q => bin_lt a b a b W (hw.on q) ha.sm hb.sm (ctd_may ma) (ctd_may mb) he _ rfl, fun W => rbin_lt a b W ha.sm hb.sm ma mb ka kb he _ rfl⟩
theorem same_le (a b : Cv) (w : World) (hw : Std2 w) (ha : a.sl) (hb : b.sl) (ma : a.may = true) (mb : b.may = true) (he : worst [a, b] = 0) : Same ⟨#[60, 61]⟩ a b w := by
  obtain ⟨ka, kb⟩ := worst2_k ma mb he
  exact ⟨_, fun W q => bin_le a b a b W (hw.on q) ha.sm hb.sm (ctd_may ma) (ctd_may mb) he _ rfl, fun W => rbin_le a b W ha.sm hb.sm ma mb ka kb he _ rfl⟩
theorem same_gt (a b : Cv) (w : World) (hw : Std2 w) (ha : a.sl) (hb : b.sl) (ma : a.may = true) (mb : b.may = true) (he : worst [a, b] = 0) : Same ⟨#[62]⟩ a b w := by
  obtain ⟨ka, kb⟩ := worst2_k ma mb he
  exact ⟨_, fun W q => bin_gt a b a b W (hw.on q) ha.sm hb.sm (ctd_may ma) (ctd_may mb) he _ rfl, fun W => rbin_gt a b W ha.sm hb.sm ma mb ka kb he _ rfl⟩
theorem same_ge (a b : Cv) (w : World) (hw : Std2 w) (ha : a.sl) (hb : b.sl) (ma : a.may = true) (mb : b.may = true) (he : worst [a, b] = 0) : Same ⟨#[62, 61]⟩ a b w := by
  obtain ⟨ka, kb⟩ := worst2_k ma mb he
  exact ⟨_, fun W q => bin_ge a b a b W (hw.on q) ha.sm hb.sm (ctd_may ma) (ctd_may mb) he _ rfl, fun W => rbin_ge a b W ha.sm hb.sm ma mb ka kb he _ rfl⟩
theorem same_any (op : ByteArray) (a b : Cv) (w : World) (hw : Std2 w) (ha : a.sl) (hb : b.sl) : Same op a b w := by
  by_cases he : worst [ctd a, ctd b] = 0
  · obtain ⟨ka, kb⟩ := worst2_k (ctd_may' a) (ctd_may' b) he
    have ma := may_of_ctd ka
    have mb := may_of_ctd kb
    rw [ctd_may ma, ctd_may mb] at he
    rw [ctd_may ma] at ka
    rw [ctd_may mb] at kb
    by_cases o0 : op.toList = [43]
    · rw [ba_of o0]; exact same_add a b w hw ha hb ma mb he
    by_cases o1 : op.toList = [45]
    · rw [ba_of o1]; exact same_sub a b w hw ha hb ma mb he
    by_cases o2 : op.toList = [42]
    · rw [ba_of o2]; exact same_mul a b w hw ha hb ma mb he
    by_cases o3 : op.toList = [47]
    · rw [ba_of o3]; exact same_div a b w hw ha hb ma mb he
    by_cases o4 : op.toList = [38]
    · rw [ba_of o4]; exact same_amp a b w hw ha hb ma mb he
    by_cases o5 : op.toList = [61]
    · rw [ba_of o5]; exact same_eq a b w hw ha hb ma mb he
    by_cases o6 : op.toList = [60, 62]
    · rw [ba_of o6]; exact same_ne a b w hw ha hb ma mb he
    by_cases o7 : op.toList = [60]
    · rw [ba_of o7]; exact same_lt a b w hw ha hb ma mb he
    by_cases o8 : op.toList = [60, 61]
    · rw [ba_of o8]; exact same_le a b w hw ha hb ma mb he
    by_cases o9 : op.toList = [62]
    · rw [ba_of o9]; exact same_gt a b w hw ha hb ma mb he
    by_cases o10 : op.toList = [62, 61]
    · rw [ba_of o10]; exact same_ge a b w hw ha hb ma mb he
    by_cases h : a.nE = 0 ∧ b.nE = 0
    · refine ⟨er 5, fun W q => bin_other a b a b W (hw.on q) ha.sm hb.sm (ctd_may ma) (ctd_may mb) op he o0 o1 o2 o3 o4 o5 o6 o7 o8 o9 o10, fun W => ?_⟩
      have hA := rnum_c a ha ma
      have hB := rnum_c b hb mb
      rw [h.1] at hA
      rw [h.2] at hB
      exact rbin_oth a b W ha.sm hb.sm ma mb op he a.nN b.nN 0 0 hA hB o4 o5 o6 o7 o8 o9 o10 o0 o1 o2 o3
    · have l1 := nE_lo ma
      have l2 := nE_lo mb
      refine ⟨er 5, fun W q => bin_other a b a b W (hw.on q) ha.sm hb.sm (ctd_may ma) (ctd_may mb) op he o0 o1 o2 o3 o4 o5 o6 o7 o8 o9 o10, fun W => ?_⟩
      by_cases hx : a.nE = 0
      · exact rbin_no2 a b W ha.sm hb.sm ma mb op he a.nN b.nN a.nE b.nE (rnum_c a ha ma) (rnum_c b hb mb) hx (by omega) o4 o5 o6 o7 o8 o9 o10
      · exact rbin_no1 a b W ha.sm hb.sm ma mb op he a.nN b.nN a.nE b.nE (rnum_c a ha ma) (rnum_c b hb mb) (by omega) o4 o5 o6 o7 o8 o9 o10
  · exact same_err op a b w hw ha hb he
end Go.Proofs.YtfjpdopmojfchaaGreatDoor
