/- The law RefParse, walked. -/
import Derived.Test.YtjadlkmjahcepaaDoorI
import Derived.Test.YtjadlkmjahcepaaDoorF5
namespace Go.Proofs.YtjadlkmjahcepaaDoor
open Go.RowKit
set_option linter.unusedVariables false
set_option linter.unusedSimpArgs false

set_option maxRecDepth 100000 in
set_option maxHeartbeats 4000000 in
theorem parse_core (s T : ByteArray) (w : World) (hw : Std w) (hT : (T.size : Int) ≤ 60) (hs : ∀ W, Calls Tryd.prog 7 #[.string s, .int .i64 60] W fun e w' => e = .returned (.string T) ∧ w' = W) :
    Calls Tryd.prog 3 #[.string s] w fun e w' => e = .returned (.bool true) ∧ Q w w' := by
  have HB := hid (begun_any w hw)
  have HS := hid hs
  have HP := hid (fun W (q : Q w W) => parse_any T W (hw.on q) (by omega))
  have HR := hid (fun W => rref_any T W (by omega))
  have HC := hid (fun W => col_any T W (by omega))
  have HD := hid (fun W => rcol_any T W (by omega))
  have HI := hid (fun W (q : Q w W) => id_any T W (hw.on q) (by omega))
  have HJ := hid (fun W => rid_any T W (by omega))
  have HO := hid (fun W (q : Q w W) => owner_any T W (hw.on q) (by omega))
  have HQ := hid (fun W => rowner_any T W (by omega))
  generalize refT T.data.toList = R at *
  obtain ⟨sh, row, col, ra, ca⟩ := R
  have eR : refA (sh, row, col, ra, ca) = rv ⟨sh.toArray⟩ row col ra ca := rfl
  rw [eR] at HP HR
  generalize (⟨sh.toArray⟩ : ByteArray) = SH at *
  generalize refF T.data.toList = f at *
  generalize colK T.data.toList = K at *
  generalize colF T.data.toList = g at *
  generalize idB T.data.toList = i at *
  generalize ownK T.data.toList = O at *
  have HE := hid (fun W => same_any SH row col ra ca W)
  clear hw hs hT eR
  go_enter Tryd.func3, Tryd.ntmps3
  go_wp2_with (first
    | (go_at_call 6; refine HB.out.mono ?_; rintro e w1 ⟨rfl, q1⟩; have J := hid q1)
    | (go_at_call 7; refine (HS.out _).mono ?_; rintro e w2 ⟨rfl, rfl⟩)
    | (go_at_call 8; refine (HP.out _ J.out).mono ?_; rintro e w3 ⟨rfl, q3⟩; replace J := hid ((J.out.trans q3).alloc (.cells #[.string SH, .int .i64 row, .int .i64 col, .bool ra, .bool ca] 25)))
    | (go_at_call 9; refine (HR.out _).mono ?_; rintro e w4 ⟨rfl, q4⟩; obtain ⟨hc4, hf4⟩ := bcell q4; have y4 : w3.heap.size < w4.heap.size := q4.lt (by simp); replace J := hid ((J.out.trans q4).alloc (.cells #[.string SH, .int .i64 row, .int .i64 col, .bool ra, .bool ca] 25)))
    | (go_at_call 10; refine (HC.out _).mono ?_; rintro e w5 ⟨rfl, rfl⟩)
    | (go_at_call 11; refine (HD.out _).mono ?_; rintro e w6 ⟨rfl, rfl⟩)
    | (go_at_call 12; refine (HE.out _).mono ?_; rintro e w7 ⟨rfl, q7⟩; replace J := hid (J.out.trans q7))
    | (go_at_call 13; refine (HI.out _ J.out).mono ?_; rintro e w8 ⟨rfl, q8⟩; replace J := hid (J.out.trans q8))
    | (go_at_call 14; refine (HJ.out _).mono ?_; rintro e w9 ⟨rfl, rfl⟩)
    | (go_at_call 15; refine (HO.out _ J.out).mono ?_; rintro e w10 ⟨rfl, q10⟩; replace J := hid (J.out.trans q10))
    | (go_at_call 16; refine (HQ.out _).mono ?_; rintro e w11 ⟨rfl, rfl⟩))
  go_ret
  exact ⟨rfl, J.out⟩
theorem parse_walk (s : ByteArray) (w : World) (hw : Std w) :
    Calls Tryd.prog 3 #[.string s] w fun e w' => e = .returned (.bool true) ∧ Q w w' := by
  by_cases h : (60 : Int) < (s.size : Int)
  · refine parse_core s (s.extract 0 60) w hw (by simp only [ByteArray.size_extract]; omega) (fun W => ?_)
    have g := short_any s 60 W (by omega) (by omega)
    rw [if_pos h] at g
    exact g
  · refine parse_core s s w hw (by omega) (fun W => ?_)
    have g := short_any s 60 W (by omega) (by omega)
    rw [if_neg h] at g
    exact g
end Go.Proofs.YtjadlkmjahcepaaDoor
