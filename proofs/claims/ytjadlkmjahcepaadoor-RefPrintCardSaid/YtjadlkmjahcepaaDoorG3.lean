/- counterpaneref5.PrintRef: what it returns. -/
import Derived.Test.YtjadlkmjahcepaaDoorG0
namespace Go.Proofs.YtjadlkmjahcepaaDoor
open Go.RowKit
set_option linter.unusedVariables false
set_option linter.unusedSimpArgs false

theorem bytes_nil (s : ByteArray) : s ++ ⟨([] : List UInt8).toArray⟩ = s := by
  apply ByteArray.ext
  simp
set_option maxHeartbeats 1000000 in
theorem rprint_no (sh : ByteArray) (row col : Int) (ra ca : Bool) (w : World)
    (HM : Hid (∀ W, Calls Tryd.prog 21 #[rv sh row col ra ca] W fun e w' => e = .returned (.bool false) ∧ Q W w')) :
    Calls Tryd.prog 18 #[rv sh row col ra ca] w fun e w' => e = .returned (.string ⟨#[]⟩) ∧ Q w w' := by
  go_enter Tryd.func18, Tryd.ntmps18
  go_wp2_with (go_at_call 21; refine (HM.out _).mono ?_; rintro e w1 ⟨rfl, q1⟩)
  go_ret
  exact ⟨rfl, ((Q.refl _).alloc _).trans q1⟩

set_option maxHeartbeats 2000000 in
theorem rprint_plain (sh SH NM DC X1 X2 X3 X4 : ByteArray) (row col : Int) (ra ca : Bool) (w : World) (hz : sh.size ≤ 1000)
    (HM : Hid (∀ W, Calls Tryd.prog 21 #[rv sh row col ra ca] W fun e w' => e = .returned (.bool true) ∧ Q W w'))
    (hE : (sh.toList == []) = true)
    (HN : Hid (∀ W, Calls Tryd.prog 20 #[.int .i64 col] W fun e w' => e = .returned (.string NM) ∧ Q W w'))
    (HD : Hid (∀ W, Calls Tryd.prog 31 #[.int .i64 (row + 1)] W fun e w' => e = .returned (.string DC) ∧ Q W w'))
    (r0 : 0 ≤ row) (r1 : row < 2199023255552) (hc : Cat ⟨#[]⟩ ⟨(sgL ca).toArray⟩ NM ⟨(sgL ra).toArray⟩ DC X1 X2 X3 X4) :
    Calls Tryd.prog 18 #[rv sh row col ra ca] w fun e w' => e = .returned (.string X4) ∧ Q w w' := by
  obtain ⟨e1, e2, e3, e4, z0, z1, z2, z3, z4, y1, y2, y3, y4⟩ := hc
  have J := hid (PB.start w sh row col ra ca)
  cases ca <;> cases ra
  · have e1' : (⟨#[]⟩ : ByteArray) = X1 := by rw [← e1]; exact (bytes_nil _).symm
    clear e1
    subst e1'
    have e3' : X2 = X3 := by rw [← e3]; exact (bytes_nil _).symm
    clear e3
    subst e3'
    go_enter Tryd.func18, Tryd.ntmps18
    go_wp2_with (first | (go_at_call 21; refine (HM.out _).mono ?_; rintro e w1 ⟨rfl, q1⟩; replace J := hid (J.out.on q1); have a0 := J.out.c0; have a1 := J.out.c1; have a2 := J.out.c2; have a3 := J.out.c3; have a4 := J.out.c4) | (go_at_call 20; refine (HN.out _).mono ?_; rintro e w2 ⟨rfl, q2⟩; replace J := hid (J.out.on q2); have d0 := J.out.c0; have d1 := J.out.c1; have d2 := J.out.c2; have d3 := J.out.c3; have d4 := J.out.c4) | (go_at_call 31; refine (HD.out _).mono ?_; rintro e w3 ⟨rfl, q3⟩; replace J := hid (J.out.on q3)))
    go_ret
    exact ⟨rfl, J.out.q⟩
  · have e1' : (⟨#[]⟩ : ByteArray) = X1 := by rw [← e1]; exact (bytes_nil _).symm
    clear e1
    subst e1'
    replace e3 : X2 ++ ⟨#[36]⟩ = X3 := e3
    go_enter Tryd.func18, Tryd.ntmps18
    go_wp2_with (first | (go_at_call 21; refine (HM.out _).mono ?_; rintro e w1 ⟨rfl, q1⟩; replace J := hid (J.out.on q1); have a0 := J.out.c0; have a1 := J.out.c1; have a2 := J.out.c2; have a3 := J.out.c3; have a4 := J.out.c4) | (go_at_call 20; refine (HN.out _).mono ?_; rintro e w2 ⟨rfl, q2⟩; replace J := hid (J.out.on q2); have d0 := J.out.c0; have d1 := J.out.c1; have d2 := J.out.c2; have d3 := J.out.c3; have d4 := J.out.c4) | (go_at_call 31; refine (HD.out _).mono ?_; rintro e w3 ⟨rfl, q3⟩; replace J := hid (J.out.on q3)))
    go_ret
    exact ⟨rfl, J.out.q⟩
  · replace e1 : (⟨#[]⟩ : ByteArray) ++ ⟨#[36]⟩ = X1 := e1
    have e3' : X2 = X3 := by rw [← e3]; exact (bytes_nil _).symm
    clear e3
    subst e3'
    go_enter Tryd.func18, Tryd.ntmps18
    go_wp2_with (first | (go_at_call 21; refine (HM.out _).mono ?_; rintro e w1 ⟨rfl, q1⟩; replace J := hid (J.out.on q1); have a0 := J.out.c0; have a1 := J.out.c1; have a2 := J.out.c2; have a3 := J.out.c3; have a4 := J.out.c4) | (go_at_call 20; refine (HN.out _).mono ?_; rintro e w2 ⟨rfl, q2⟩; replace J := hid (J.out.on q2); have d0 := J.out.c0; have d1 := J.out.c1; have d2 := J.out.c2; have d3 := J.out.c3; have d4 := J.out.c4) | (go_at_call 31; refine (HD.out _).mono ?_; rintro e w3 ⟨rfl, q3⟩; replace J := hid (J.out.on q3)))
    go_ret
    exact ⟨rfl, J.out.q⟩
  · replace e1 : (⟨#[]⟩ : ByteArray) ++ ⟨#[36]⟩ = X1 := e1
    replace e3 : X2 ++ ⟨#[36]⟩ = X3 := e3
    go_enter Tryd.func18, Tryd.ntmps18
    go_wp2_with (first | (go_at_call 21; refine (HM.out _).mono ?_; rintro e w1 ⟨rfl, q1⟩; replace J := hid (J.out.on q1); have a0 := J.out.c0; have a1 := J.out.c1; have a2 := J.out.c2; have a3 := J.out.c3; have a4 := J.out.c4) | (go_at_call 20; refine (HN.out _).mono ?_; rintro e w2 ⟨rfl, q2⟩; replace J := hid (J.out.on q2); have d0 := J.out.c0; have d1 := J.out.c1; have d2 := J.out.c2; have d3 := J.out.c3; have d4 := J.out.c4) | (go_at_call 31; refine (HD.out _).mono ?_; rintro e w3 ⟨rfl, q3⟩; replace J := hid (J.out.on q3)))
    go_ret
    exact ⟨rfl, J.out.q⟩

set_option maxHeartbeats 2000000 in
theorem rprint_sheet (sh SH NM DC X1 X2 X3 X4 : ByteArray) (row col : Int) (ra ca : Bool) (w : World) (hz : sh.size ≤ 1000)
    (HM : Hid (∀ W, Calls Tryd.prog 21 #[rv sh row col ra ca] W fun e w' => e = .returned (.bool true) ∧ Q W w'))
    (hE : (sh.toList == []) = false)
    (eS : sh ++ ⟨#[33]⟩ = SH)
    (HN : Hid (∀ W, Calls Tryd.prog 20 #[.int .i64 col] W fun e w' => e = .returned (.string NM) ∧ Q W w'))
    (HD : Hid (∀ W, Calls Tryd.prog 31 #[.int .i64 (row + 1)] W fun e w' => e = .returned (.string DC) ∧ Q W w'))
    (r0 : 0 ≤ row) (r1 : row < 2199023255552) (hc : Cat SH ⟨(sgL ca).toArray⟩ NM ⟨(sgL ra).toArray⟩ DC X1 X2 X3 X4) :
    Calls Tryd.prog 18 #[rv sh row col ra ca] w fun e w' => e = .returned (.string X4) ∧ Q w w' := by
  obtain ⟨e1, e2, e3, e4, z0, z1, z2, z3, z4, y1, y2, y3, y4⟩ := hc
  have J := hid (PB.start w sh row col ra ca)
  cases ca <;> cases ra
  · have e1' : SH = X1 := by rw [← e1]; exact (bytes_nil _).symm
    clear e1
    subst e1'
    have e3' : X2 = X3 := by rw [← e3]; exact (bytes_nil _).symm
    clear e3
    subst e3'
    go_enter Tryd.func18, Tryd.ntmps18
    go_wp2_with (first | (go_at_call 21; refine (HM.out _).mono ?_; rintro e w1 ⟨rfl, q1⟩; replace J := hid (J.out.on q1); have a0 := J.out.c0; have a1 := J.out.c1; have a2 := J.out.c2; have a3 := J.out.c3; have a4 := J.out.c4) | (go_at_call 20; refine (HN.out _).mono ?_; rintro e w2 ⟨rfl, q2⟩; replace J := hid (J.out.on q2); have d0 := J.out.c0; have d1 := J.out.c1; have d2 := J.out.c2; have d3 := J.out.c3; have d4 := J.out.c4) | (go_at_call 31; refine (HD.out _).mono ?_; rintro e w3 ⟨rfl, q3⟩; replace J := hid (J.out.on q3)))
    go_ret
    exact ⟨rfl, J.out.q⟩
  · have e1' : SH = X1 := by rw [← e1]; exact (bytes_nil _).symm
    clear e1
    subst e1'
    replace e3 : X2 ++ ⟨#[36]⟩ = X3 := e3
    go_enter Tryd.func18, Tryd.ntmps18
    go_wp2_with (first | (go_at_call 21; refine (HM.out _).mono ?_; rintro e w1 ⟨rfl, q1⟩; replace J := hid (J.out.on q1); have a0 := J.out.c0; have a1 := J.out.c1; have a2 := J.out.c2; have a3 := J.out.c3; have a4 := J.out.c4) | (go_at_call 20; refine (HN.out _).mono ?_; rintro e w2 ⟨rfl, q2⟩; replace J := hid (J.out.on q2); have d0 := J.out.c0; have d1 := J.out.c1; have d2 := J.out.c2; have d3 := J.out.c3; have d4 := J.out.c4) | (go_at_call 31; refine (HD.out _).mono ?_; rintro e w3 ⟨rfl, q3⟩; replace J := hid (J.out.on q3)))
    go_ret
    exact ⟨rfl, J.out.q⟩
  · replace e1 : SH ++ ⟨#[36]⟩ = X1 := e1
    have e3' : X2 = X3 := by rw [← e3]; exact (bytes_nil _).symm
    clear e3
    subst e3'
    go_enter Tryd.func18, Tryd.ntmps18
    go_wp2_with (first | (go_at_call 21; refine (HM.out _).mono ?_; rintro e w1 ⟨rfl, q1⟩; replace J := hid (J.out.on q1); have a0 := J.out.c0; have a1 := J.out.c1; have a2 := J.out.c2; have a3 := J.out.c3; have a4 := J.out.c4) | (go_at_call 20; refine (HN.out _).mono ?_; rintro e w2 ⟨rfl, q2⟩; replace J := hid (J.out.on q2); have d0 := J.out.c0; have d1 := J.out.c1; have d2 := J.out.c2; have d3 := J.out.c3; have d4 := J.out.c4) | (go_at_call 31; refine (HD.out _).mono ?_; rintro e w3 ⟨rfl, q3⟩; replace J := hid (J.out.on q3)))
    go_ret
    exact ⟨rfl, J.out.q⟩
  · replace e1 : SH ++ ⟨#[36]⟩ = X1 := e1
    replace e3 : X2 ++ ⟨#[36]⟩ = X3 := e3
    go_enter Tryd.func18, Tryd.ntmps18
    go_wp2_with (first | (go_at_call 21; refine (HM.out _).mono ?_; rintro e w1 ⟨rfl, q1⟩; replace J := hid (J.out.on q1); have a0 := J.out.c0; have a1 := J.out.c1; have a2 := J.out.c2; have a3 := J.out.c3; have a4 := J.out.c4) | (go_at_call 20; refine (HN.out _).mono ?_; rintro e w2 ⟨rfl, q2⟩; replace J := hid (J.out.on q2); have d0 := J.out.c0; have d1 := J.out.c1; have d2 := J.out.c2; have d3 := J.out.c3; have d4 := J.out.c4) | (go_at_call 31; refine (HD.out _).mono ?_; rintro e w3 ⟨rfl, q3⟩; replace J := hid (J.out.on q3)))
    go_ret
    exact ⟨rfl, J.out.q⟩

theorem rprint_any (sh : ByteArray) (row col : Int) (ra ca : Bool) (w : World) (hs : sh.size ≤ 1000) :
    Calls Tryd.prog 18 #[rv sh row col ra ca] w fun e w' => e = .returned (.string ⟨(prR sh.data.toList row col ra ca).toArray⟩) ∧ Q w w' := by
  have HM := fun W => rmay_any sh row col ra ca W (by omega)
  have et := Lib.toList_data sh
  unfold prR
  cases h1 : mayR sh.data.toList row col
  · rw [h1] at HM
    exact (rprint_no sh row col ra ca w HM).mono fun e w' g => g
  rw [h1] at HM
  have hb : (0 ≤ row ∧ row < 2199023255552) ∧ (0 ≤ col ∧ col < 2199023255552) := by
    unfold mayR at h1
    simp only [Bool.and_eq_true, decide_eq_true_eq] at h1
    exact h1.2
  obtain ⟨b1, b2⟩ := hb
  obtain ⟨X1, X2, X3, hc⟩ := cat_of sh.data.toList row col ra ca (by rw [len_data]; exact hs) b1.1 b1.2
  have HD := fun W => rdec_any (row + 1) W (by omega) (by omega)
  by_cases he : sh.toList = []
  · have he2 : sh.data.toList = [] := by rw [← et, he]
    rw [he2] at hc ⊢
    exact (rprint_plain sh ⟨#[]⟩ _ _ X1 X2 X3 _ row col ra ca w hs HM (by rw [he]; rfl) (fun W => rname_any col W) HD b1.1 b1.2 hc).mono fun e w' g => g
  · have hei : sh.data.toList.isEmpty = false := by
      rw [← et]
      cases hh : sh.toList
      · exact absurd hh he
      · rfl
    have eS : sh ++ ⟨#[33]⟩ = ⟨(shX sh.data.toList).toArray⟩ := by
      unfold shX
      rw [hei]
      have e := bytes_cat sh.data.toList [33]
      exact e
    exact (rprint_sheet sh _ _ _ X1 X2 X3 _ row col ra ca w hs HM (by simpa using he) eS (fun W => rname_any col W) HD b1.1 b1.2 hc).mono fun e w' g => g
end Go.Proofs.YtjadlkmjahcepaaDoor
