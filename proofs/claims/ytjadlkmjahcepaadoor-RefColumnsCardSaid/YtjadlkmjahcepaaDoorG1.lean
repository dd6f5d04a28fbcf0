/- a1.Print, walked. -/
import Derived.Test.YtjadlkmjahcepaaDoorG0
import Derived.Deep.RegionHeld3
import Derived.Deep.CutBlock
import Derived.Deep.CutRange
namespace Go.Proofs.YtjadlkmjahcepaaDoor
open Go.RowKit
set_option linter.unusedVariables false
set_option linter.unusedSimpArgs false

set_option maxHeartbeats 2000000 in
theorem print_plain (sh SH SA NM SB DC X1 X2 X3 X4 : ByteArray) (row col : Int) (ra ca : Bool) (w : World) (hz : sh.size ≤ 1000)
    (HM1 : Hid (∀ W, Calls Tryd.prog 28 #[.int .i64 row] W fun e w' => e = .returned (.bool true) ∧ w' = W))
    (HM2 : Hid (∀ W, Calls Tryd.prog 28 #[.int .i64 col] W fun e w' => e = .returned (.bool true) ∧ w' = W))
    (hE : (sh.toList == []) = true)
    (HS1 : Hid (∀ W, Calls Tryd.prog 29 #[.bool ca] W fun e w' => e = .returned (.string SA) ∧ w' = W))
    (HS2 : Hid (∀ W, Calls Tryd.prog 29 #[.bool ra] W fun e w' => e = .returned (.string SB) ∧ w' = W))
    (HN : Hid (∀ W, Calls Tryd.prog 19 #[.int .i64 col] W fun e w' => e = .returned (.string NM) ∧ Q W w'))
    (HF : Hid (∀ W, Q w W → Calls Tryd.prog 30 #[.int .i64 (row + 1), .int .i64 10] W fun e w' => e = .returned (.string DC) ∧ Q W w'))
    (r0 : 0 ≤ row) (r1 : row < 2199023255552) (hc : Cat ⟨#[]⟩ SA NM SB DC X1 X2 X3 X4) :
    Calls Tryd.prog 17 #[rv sh row col ra ca] w fun e w' => e = .returned (.string X4) ∧ Q w w' := by
  obtain ⟨e1, e2, e3, e4, z0, z1, z2, z3, z4, y1, y2, y3, y4⟩ := hc
  have k1 : ¬ 9223372036854775807 < SA.size := by omega
  have k2 : ¬ 9223372036854775807 < X1.size + NM.size := by omega
  have k3 : ¬ 9223372036854775807 < X2.size + SB.size := by omega
  have k4 : ¬ 9223372036854775807 < X3.size + DC.size := by omega
  have hwr : IntKind.i64.wrap (row + 1) = row + 1 := by rw [IntKind.wrap_i64]; omega
  have J := hid (PB.start w sh row col ra ca)
  go_enter Tryd.func17, Tryd.ntmps17
  go_upto_region 8 with (first | (go_at_call_of 28 row; refine (HM1.out _).mono ?_; rintro e w1 ⟨rfl, rfl⟩) | (go_at_call_of 28 col; refine (HM2.out _).mono ?_; rintro e w1 ⟨rfl, rfl⟩))
  have hk0 : Hid ((w.alloc (.cells #[.string sh, .int .i64 row, .int .i64 col, .bool ra, .bool ca] 25)).drew.cell? ⟨w.heap.size, 1, none⟩ = some (.int .i64 row) ∧ (w.alloc (.cells #[.string sh, .int .i64 row, .int .i64 col, .bool ra, .bool ca] 25)).drew.cell? ⟨w.heap.size, 2, none⟩ = some (.int .i64 col) ∧ (w.alloc (.cells #[.string sh, .int .i64 row, .int .i64 col, .bool ra, .bool ca] 25)).drew.cell? ⟨w.heap.size, 3, none⟩ = some (.bool ra) ∧ (w.alloc (.cells #[.string sh, .int .i64 row, .int .i64 col, .bool ra, .bool ca] 25)).drew.cell? ⟨w.heap.size, 4, none⟩ = some (.bool ca)) := ⟨J.out.c1, J.out.c2, J.out.c3, J.out.c4⟩
  go_region_held3 (fun W => W.cell? ⟨w.heap.size, 1, none⟩ = some (.int .i64 row) ∧ W.cell? ⟨w.heap.size, 2, none⟩ = some (.int .i64 col) ∧ W.cell? ⟨w.heap.size, 3, none⟩ = some (.bool ra) ∧ W.cell? ⟨w.heap.size, 4, none⟩ = some (.bool ca)) (with_reducible (first | exact hk0.out | exact hk1.out | exact hk2.out))
    (first
      | (go_at_call_of 29 ca; refine (HS1.out _).mono ?_; rintro r w9 ⟨rfl, rfl⟩)
      | (go_at_call_of 29 ra; refine (HS2.out _).mono ?_; rintro r w9 ⟨rfl, rfl⟩)
      | (go_at_call 19; refine (HN.out _).mono ?_; rintro r w5 ⟨rfl, q5⟩; replace J := hid (J.out.on (Q.trans (Q.drew (Q.refl _)) q5)); have hk1 : Hid (w5.cell? ⟨w.heap.size, 1, none⟩ = some (.int .i64 row) ∧ w5.cell? ⟨w.heap.size, 2, none⟩ = some (.int .i64 col) ∧ w5.cell? ⟨w.heap.size, 3, none⟩ = some (.bool ra) ∧ w5.cell? ⟨w.heap.size, 4, none⟩ = some (.bool ca)) := ⟨J.out.c1, J.out.c2, J.out.c3, J.out.c4⟩)
      | (go_at_call 30; refine (HF.out _ J.out.q).mono ?_; rintro r w6 ⟨rfl, q6⟩; replace J := hid (J.out.on q6); have hk2 : Hid (w6.cell? ⟨w.heap.size, 1, none⟩ = some (.int .i64 row) ∧ w6.cell? ⟨w.heap.size, 2, none⟩ = some (.int .i64 col) ∧ w6.cell? ⟨w.heap.size, 3, none⟩ = some (.bool ra) ∧ w6.cell? ⟨w.heap.size, 4, none⟩ = some (.bool ca)) := ⟨J.out.c1, J.out.c2, J.out.c3, J.out.c4⟩))
  go_wp2
  go_ret
  exact ⟨rfl, J.out.q⟩

set_option maxHeartbeats 2000000 in
theorem print_sheet (sh SH SA NM SB DC X1 X2 X3 X4 : ByteArray) (row col : Int) (ra ca : Bool) (w : World) (hz : sh.size ≤ 1000)
    (HM1 : Hid (∀ W, Calls Tryd.prog 28 #[.int .i64 row] W fun e w' => e = .returned (.bool true) ∧ w' = W))
    (HM2 : Hid (∀ W, Calls Tryd.prog 28 #[.int .i64 col] W fun e w' => e = .returned (.bool true) ∧ w' = W))
    (hE : (sh.toList == []) = false)
    (HI : Hid (∀ W, Q w W → Calls Tryd.prog 13 #[.string sh] W fun e w' => e = .returned (.bool true) ∧ Q W w')) (eS : sh ++ ⟨#[33]⟩ = SH)
    (HS1 : Hid (∀ W, Calls Tryd.prog 29 #[.bool ca] W fun e w' => e = .returned (.string SA) ∧ w' = W))
    (HS2 : Hid (∀ W, Calls Tryd.prog 29 #[.bool ra] W fun e w' => e = .returned (.string SB) ∧ w' = W))
    (HN : Hid (∀ W, Calls Tryd.prog 19 #[.int .i64 col] W fun e w' => e = .returned (.string NM) ∧ Q W w'))
    (HF : Hid (∀ W, Q w W → Calls Tryd.prog 30 #[.int .i64 (row + 1), .int .i64 10] W fun e w' => e = .returned (.string DC) ∧ Q W w'))
    (r0 : 0 ≤ row) (r1 : row < 2199023255552) (hc : Cat SH SA NM SB DC X1 X2 X3 X4) :
    Calls Tryd.prog 17 #[rv sh row col ra ca] w fun e w' => e = .returned (.string X4) ∧ Q w w' := by
  obtain ⟨e1, e2, e3, e4, z0, z1, z2, z3, z4, y1, y2, y3, y4⟩ := hc
  have k1 : ¬ 9223372036854775807 < SH.size + SA.size := by omega
  have k2 : ¬ 9223372036854775807 < X1.size + NM.size := by omega
  have k3 : ¬ 9223372036854775807 < X2.size + SB.size := by omega
  have k4 : ¬ 9223372036854775807 < X3.size + DC.size := by omega
  have hwr : IntKind.i64.wrap (row + 1) = row + 1 := by rw [IntKind.wrap_i64]; omega
  have J := hid (PB.start w sh row col ra ca)
  go_enter Tryd.func17, Tryd.ntmps17
  go_upto_region 8 with (first | (go_at_call_of 28 row; refine (HM1.out _).mono ?_; rintro e w1 ⟨rfl, rfl⟩) | (go_at_call_of 28 col; refine (HM2.out _).mono ?_; rintro e w1 ⟨rfl, rfl⟩) | (go_at_call 13; refine (HI.out _ (by repeat (first | exact Q.refl _ | refine Q.drewN ?_ _ | refine Q.alloc ?_ _))).mono ?_; rintro e w3 ⟨rfl, q3⟩; replace J := hid (J.out.on q3); have d0 := J.out.c0; have d1 := J.out.c1; have d2 := J.out.c2; have d3 := J.out.c3; have d4 := J.out.c4))
  have hk0 : Hid (w3.drew.cell? ⟨w.heap.size, 1, none⟩ = some (.int .i64 row) ∧ w3.drew.cell? ⟨w.heap.size, 2, none⟩ = some (.int .i64 col) ∧ w3.drew.cell? ⟨w.heap.size, 3, none⟩ = some (.bool ra) ∧ w3.drew.cell? ⟨w.heap.size, 4, none⟩ = some (.bool ca)) := ⟨J.out.c1, J.out.c2, J.out.c3, J.out.c4⟩
  go_region_held3 (fun W => W.cell? ⟨w.heap.size, 1, none⟩ = some (.int .i64 row) ∧ W.cell? ⟨w.heap.size, 2, none⟩ = some (.int .i64 col) ∧ W.cell? ⟨w.heap.size, 3, none⟩ = some (.bool ra) ∧ W.cell? ⟨w.heap.size, 4, none⟩ = some (.bool ca)) (with_reducible (first | exact hk0.out | exact hk1.out | exact hk2.out))
    (first
      | (go_at_call_of 29 ca; refine (HS1.out _).mono ?_; rintro r w9 ⟨rfl, rfl⟩)
      | (go_at_call_of 29 ra; refine (HS2.out _).mono ?_; rintro r w9 ⟨rfl, rfl⟩)
      | (go_at_call 19; refine (HN.out _).mono ?_; rintro r w5 ⟨rfl, q5⟩; replace J := hid (J.out.on (Q.trans (Q.drew (Q.refl _)) q5)); have hk1 : Hid (w5.cell? ⟨w.heap.size, 1, none⟩ = some (.int .i64 row) ∧ w5.cell? ⟨w.heap.size, 2, none⟩ = some (.int .i64 col) ∧ w5.cell? ⟨w.heap.size, 3, none⟩ = some (.bool ra) ∧ w5.cell? ⟨w.heap.size, 4, none⟩ = some (.bool ca)) := ⟨J.out.c1, J.out.c2, J.out.c3, J.out.c4⟩)
      | (go_at_call 30; refine (HF.out _ J.out.q).mono ?_; rintro r w6 ⟨rfl, q6⟩; replace J := hid (J.out.on q6); have hk2 : Hid (w6.cell? ⟨w.heap.size, 1, none⟩ = some (.int .i64 row) ∧ w6.cell? ⟨w.heap.size, 2, none⟩ = some (.int .i64 col) ∧ w6.cell? ⟨w.heap.size, 3, none⟩ = some (.bool ra) ∧ w6.cell? ⟨w.heap.size, 4, none⟩ = some (.bool ca)) := ⟨J.out.c1, J.out.c2, J.out.c3, J.out.c4⟩))
  go_wp2
  go_ret
  exact ⟨rfl, J.out.q⟩
end Go.Proofs.YtjadlkmjahcepaaDoor
