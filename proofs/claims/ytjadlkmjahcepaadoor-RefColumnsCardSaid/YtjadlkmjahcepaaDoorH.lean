/- counterpanelaw5.same, Short; counterpaneref5.MayRef; counterpaneref1.Dec: what each returns. -/
import Derived.Test.YtjadlkmjahcepaaDoorE2
import Derived.Test.YtjadlkmjahcepaaDoorD
namespace Go.Proofs.YtjadlkmjahcepaaDoor
open Go.RowKit
set_option linter.unusedVariables false
set_option linter.unusedSimpArgs false

/-- a reference, as the program holds it -/
abbrev rv (sh : ByteArray) (row col : Int) (ra ca : Bool) : Value := .agg #[.string sh, .int .i64 row, .int .i64 col, .bool ra, .bool ca]
set_option maxHeartbeats 1000000 in
theorem same_any (sh : ByteArray) (row col : Int) (ra ca : Bool) (w : World) :
    Calls Tryd.prog 12 #[rv sh row col ra ca, rv sh row col ra ca] w fun e w' => e = .returned (.bool true) ∧ Q w w' := by
  cases ra <;> cases ca
  all_goals
    go_enter Tryd.func12, Tryd.ntmps12
    go_wp2
    go_ret
    exact ⟨rfl, ((Q.refl _).alloc _).alloc _⟩
/-- may a reference be? -/
def mayR (sh : List UInt8) (row col : Int) : Bool := (sh.isEmpty || idB sh) && (decide (0 ≤ row ∧ row < 2199023255552) && decide (0 ≤ col ∧ col < 2199023255552))
set_option maxHeartbeats 1000000 in
theorem rmay_any (sh : ByteArray) (row col : Int) (ra ca : Bool) (w : World) (hs : sh.size ≤ 4000000000) :
    Calls Tryd.prog 21 #[rv sh row col ra ca] w fun e w' => e = .returned (.bool (mayR sh.data.toList row col)) ∧ Q w w' := by
  have HI := hid (fun W => rid_any sh W (by omega))
  have HV : Hid (mayR sh.data.toList row col = ((sh.data.toList.isEmpty || idB sh.data.toList) && (decide (0 ≤ row ∧ row < 2199023255552) && decide (0 ≤ col ∧ col < 2199023255552)))) := rfl
  have et := hid (Lib.toList_data sh)
  have main : ∀ X : Bool, (sh.data.toList.isEmpty || idB sh.data.toList) = X → Hid (mayR sh.data.toList row col = (X && (decide (0 ≤ row ∧ row < 2199023255552) && decide (0 ≤ col ∧ col < 2199023255552)))) := fun X e => by show _ = _; rw [HV.out, e]
  by_cases he : sh.toList = []
  · have HX := main true (by rw [← et.out, he]; rfl)
    have he' : (sh.toList == []) = true := by rw [he]; rfl
    clear main HV
    by_cases a : 0 ≤ row
    · by_cases b : row < 2199023255552
      · by_cases c : 0 ≤ col
        · by_cases d : col < 2199023255552
          · go_enter Tryd.func21, Tryd.ntmps21
            go_wp2
            go_ret
            exact ⟨ret_bool (by rw [HX.out, Bool.eq_iff_iff]; simp; omega), (Q.refl _).alloc _⟩
          · go_enter Tryd.func21, Tryd.ntmps21
            go_wp2
            go_ret
            exact ⟨ret_bool (by rw [HX.out, Bool.eq_iff_iff]; simp; omega), (Q.refl _).alloc _⟩
        · go_enter Tryd.func21, Tryd.ntmps21
          go_wp2
          go_ret
          exact ⟨ret_bool (by rw [HX.out, Bool.eq_iff_iff]; simp; omega), (Q.refl _).alloc _⟩
      · go_enter Tryd.func21, Tryd.ntmps21
        go_wp2
        go_ret
        exact ⟨ret_bool (by rw [HX.out, Bool.eq_iff_iff]; simp; omega), (Q.refl _).alloc _⟩
    · go_enter Tryd.func21, Tryd.ntmps21
      go_wp2
      go_ret
      exact ⟨ret_bool (by rw [HX.out, Bool.eq_iff_iff]; simp; omega), (Q.refl _).alloc _⟩
  · have he' : (sh.toList == []) = false := by simpa using he
    have hei : sh.data.toList.isEmpty = false := by
      rw [← et.out]
      cases hh : sh.toList
      · exact absurd hh he
      · rfl
    cases hB : idB sh.data.toList
    · have HX := main false (by rw [hei, hB]; rfl)
      rw [hB] at HI
      clear main HV he hei
      go_enter Tryd.func21, Tryd.ntmps21
      go_wp2_with (go_at_call 14; refine (HI.out _).mono ?_; rintro e w1 ⟨rfl, rfl⟩)
      go_ret
      exact ⟨ret_bool (by rw [HX.out]; rfl), (Q.refl _).alloc _⟩
    · have HX := main true (by rw [hei, hB]; rfl)
      rw [hB] at HI
      clear main HV he hei
      by_cases a : 0 ≤ row
      · by_cases b : row < 2199023255552
        · by_cases c : 0 ≤ col
          · by_cases d : col < 2199023255552
            · go_enter Tryd.func21, Tryd.ntmps21
              go_wp2_with (go_at_call 14; refine (HI.out _).mono ?_; rintro e w1 ⟨rfl, rfl⟩)
              go_ret
              exact ⟨ret_bool (by rw [HX.out, Bool.eq_iff_iff]; simp; omega), (Q.refl _).alloc _⟩
            · go_enter Tryd.func21, Tryd.ntmps21
              go_wp2_with (go_at_call 14; refine (HI.out _).mono ?_; rintro e w1 ⟨rfl, rfl⟩)
              go_ret
              exact ⟨ret_bool (by rw [HX.out, Bool.eq_iff_iff]; simp; omega), (Q.refl _).alloc _⟩
          · go_enter Tryd.func21, Tryd.ntmps21
            go_wp2_with (go_at_call 14; refine (HI.out _).mono ?_; rintro e w1 ⟨rfl, rfl⟩)
            go_ret
            exact ⟨ret_bool (by rw [HX.out, Bool.eq_iff_iff]; simp; omega), (Q.refl _).alloc _⟩
        · go_enter Tryd.func21, Tryd.ntmps21
          go_wp2_with (go_at_call 14; refine (HI.out _).mono ?_; rintro e w1 ⟨rfl, rfl⟩)
          go_ret
          exact ⟨ret_bool (by rw [HX.out, Bool.eq_iff_iff]; simp; omega), (Q.refl _).alloc _⟩
      · go_enter Tryd.func21, Tryd.ntmps21
        go_wp2_with (go_at_call 14; refine (HI.out _).mono ?_; rintro e w1 ⟨rfl, rfl⟩)
        go_ret
        exact ⟨ret_bool (by rw [HX.out, Bool.eq_iff_iff]; simp; omega), (Q.refl _).alloc _⟩
set_option maxHeartbeats 1000000 in
theorem rdec_any (n : Int) (w : World) (n0 : 0 ≤ n) (n1 : n ≤ 2199023255552) :
    Calls Tryd.prog 31 #[.int .i64 n] w fun e w' => e = .returned (.string ⟨(Lib.decDigits n.toNat).toArray⟩) ∧ Q w w' := by
  have HD := hid (fun W => dec_int n.toNat n W (by show _ = _; omega) (by show _ < _; omega) n0 (by omega))
  go_enter Tryd.func31, Tryd.ntmps31
  go_wp2_with (go_at_call 36; refine (HD.out _).mono ?_; rintro e w1 ⟨rfl, q1⟩)
  go_ret
  exact ⟨rfl, q1⟩
theorem short_any (s : ByteArray) (n : Int) (w : World) (n0 : 0 ≤ n) (n1 : n ≤ 1000) :
    Calls Tryd.prog 7 #[.string s, .int .i64 n] w fun e w' => e = .returned (.string (if n < (s.size : Int) then s.extract 0 n.toNat else s)) ∧ w' = w := by
  by_cases h : n < (s.size : Int)
  · have HE := hid (if_pos h : (if n < (s.size : Int) then s.extract 0 n.toNat else s) = _)
    go_enter Tryd.func7, Tryd.ntmps7
    go_wp2
    go_ret
    exact ⟨ret_str rfl, rfl⟩
  · have HE := hid (if_neg h : (if n < (s.size : Int) then s.extract 0 n.toNat else s) = _)
    go_enter Tryd.func7, Tryd.ntmps7
    go_wp2
    go_ret
    exact ⟨ret_str rfl, rfl⟩
end Go.Proofs.YtjadlkmjahcepaaDoor
