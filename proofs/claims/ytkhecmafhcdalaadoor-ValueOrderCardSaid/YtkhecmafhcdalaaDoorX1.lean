/- The law ValueOrder, walked. -/
import Derived.Test.YtkhecmafhcdalaaDoorX0
namespace Go.Proofs.YtkhecmafhcdalaaDoor
open Go.RowKit
set_option linter.unusedVariables false
set_option linter.unusedSimpArgs false

theorem cmpI_lo (a b : Int) : -1 ≤ cmpI a b ∧ cmpI a b ≤ 1 := by
  unfold cmpI
  repeat' split
  all_goals omega
theorem cmpT_lo (a b : List UInt8) : -1 ≤ cmpT a b ∧ cmpT a b ≤ 1 := by
  unfold cmpT
  repeat' split
  all_goals omega
theorem orI_lo : ∀ l : List Int, (∀ x ∈ l, -1 ≤ x ∧ x ≤ 1) → -1 ≤ orI l ∧ orI l ≤ 1
  | [], _ => by simp [orI]
  | z :: l, h => by
    have h1 := orI_lo l (fun x hx => h x (by simp [hx]))
    have h2 := h z (by simp)
    unfold orI
    split
    · exact h1
    · exact h2
theorem cmpV_lo (k n : Int) (t : List UInt8) (b : Bool) (e : Int) (k' n' : Int) (t' : List UInt8) (b' : Bool) (e' : Int) : -1 ≤ cmpV k n t b e k' n' t' b' e' ∧ cmpV k n t b e k' n' t' b' e' ≤ 1 := by
  unfold cmpV
  split
  · refine orI_lo _ fun x hx => ?_
    simp at hx
    rcases hx with rfl | rfl | rfl | rfl | rfl
    · exact cmpI_lo _ _
    · exact cmpI_lo _ _
    · exact cmpT_lo _ _
    · exact cmpI_lo _ _
    · exact cmpI_lo _ _
  · exact cmpI_lo _ _

set_option maxRecDepth 100000 in
set_option maxHeartbeats 8000000 in
theorem order_walk (k n : Int) (t : ByteArray) (b : Bool) (e : Int) (k' n' : Int) (t' : ByteArray) (b' : Bool) (e' : Int) (k2 n2 : Int) (t2 : ByteArray) (b2 : Bool) (e2 : Int) (m : Int) (w : World) (hw : Std2 w) :
    Calls Tryd.prog 5 #[vv k n t b e, vv k' n' t' b' e', vv k2 n2 t2 b2 e2, .int .i64 m] w fun x w' => x = .returned (.bool true) ∧ Q w w' := by
  have HB := hid (fun W (q : Q w W) => begun2_any W (hw.on q))
  have HU := hid (fun W => cut_any2 k n t b e W)
  have HU' := hid (fun W => cut_any2 k' n' t' b' e' W)
  have HU2 := hid (fun W => cut_any2 k2 n2 t2 b2 e2 W)
  obtain ⟨T, eT⟩ : ∃ T, cutT t = T := ⟨_, rfl⟩
  obtain ⟨T', eT'⟩ : ∃ T, cutT t' = T := ⟨_, rfl⟩
  obtain ⟨T2, eT2⟩ : ∃ T, cutT t2 = T := ⟨_, rfl⟩
  have hT := cutT_size t
  have hT' := cutT_size t'
  have hT2 := cutT_size t2
  rw [eT] at HU hT
  rw [eT'] at HU' hT'
  rw [eT2] at HU2 hT2
  obtain ⟨x, ex⟩ : ∃ x, cv (k, n, T.toList, b, e) (k', n', T'.toList, b', e') = x := ⟨_, rfl⟩
  obtain ⟨y, ey⟩ : ∃ y, cv (k', n', T'.toList, b', e') (k2, n2, T2.toList, b2, e2) = y := ⟨_, rfl⟩
  obtain ⟨z, ez⟩ : ∃ z, cv (k, n, T.toList, b, e) (k2, n2, T2.toList, b2, e2) = z := ⟨_, rfl⟩
  obtain ⟨E, eE⟩ : ∃ E, eqB k n T.toList b e k' n' T'.toList b' e' = E := ⟨_, rfl⟩
  have hx := cmpV_lo k n T.toList b e k' n' T'.toList b' e'
  have hz : Hid (x ≤ 0 → y ≤ 0 → z ≤ 0) := fun h1 h2 => by rw [← ez]; exact cv_trans (by rw [ex]; exact h1) (by rw [ey]; exact h2)
  have ex' : cmpV k n T.toList b e k' n' T'.toList b' e' = x := ex
  rw [ex'] at hx
  obtain ⟨x0, x1⟩ := hx
  have hwr : IntKind.i64.wrap (-x) = -x := by rw [IntKind.wrap_i64]; omega
  have HAB : Hid (∀ W, Q w W → Calls Tryd.prog 23 #[.agg #[.int .i64 k, .int .i64 n, .string T, .bool b, .int .i64 e], .agg #[.int .i64 k', .int .i64 n', .string T', .bool b', .int .i64 e']] W fun r w' => r = .returned (.int .i64 x) ∧ Q W w') := fun W q => by
    rw [← ex]; exact compare_any k n T b e k' n' T' b' e' W (hw.on q) (by omega) (by omega)
  have HBA : Hid (∀ W, Q w W → Calls Tryd.prog 23 #[.agg #[.int .i64 k', .int .i64 n', .string T', .bool b', .int .i64 e'], .agg #[.int .i64 k, .int .i64 n, .string T, .bool b, .int .i64 e]] W fun r w' => r = .returned (.int .i64 (-x)) ∧ Q W w') := fun W q => by
    rw [← ex, ← cv_anti]; exact compare_any k' n' T' b' e' k n T b e W (hw.on q) (by omega) (by omega)
  have HAA : Hid (∀ W, Q w W → Calls Tryd.prog 23 #[.agg #[.int .i64 k, .int .i64 n, .string T, .bool b, .int .i64 e], .agg #[.int .i64 k, .int .i64 n, .string T, .bool b, .int .i64 e]] W fun r w' => r = .returned (.int .i64 0) ∧ Q W w') := fun W q => by
    rw [← cv_refl (k, n, T.toList, b, e)]; exact compare_any k n T b e k n T b e W (hw.on q) (by omega) (by omega)
  have HBC : Hid (∀ W, Q w W → Calls Tryd.prog 23 #[.agg #[.int .i64 k', .int .i64 n', .string T', .bool b', .int .i64 e'], .agg #[.int .i64 k2, .int .i64 n2, .string T2, .bool b2, .int .i64 e2]] W fun r w' => r = .returned (.int .i64 y) ∧ Q W w') := fun W q => by
    rw [← ey]; exact compare_any k' n' T' b' e' k2 n2 T2 b2 e2 W (hw.on q) (by omega) (by omega)
  have HAC : Hid (∀ W, Q w W → Calls Tryd.prog 23 #[.agg #[.int .i64 k, .int .i64 n, .string T, .bool b, .int .i64 e], .agg #[.int .i64 k2, .int .i64 n2, .string T2, .bool b2, .int .i64 e2]] W fun r w' => r = .returned (.int .i64 z) ∧ Q W w') := fun W q => by
    rw [← ez]; exact compare_any k n T b e k2 n2 T2 b2 e2 W (hw.on q) (by omega) (by omega)
  have HRR : Hid (∀ W, Q w W → Calls Tryd.prog 24 #[.agg #[.int .i64 k, .int .i64 n, .string T, .bool b, .int .i64 e], .agg #[.int .i64 k', .int .i64 n', .string T', .bool b', .int .i64 e']] W fun r w' => r = .returned (.int .i64 x) ∧ Q W w') := fun W q => by
    rw [← ex]; exact rcompare_any k n T b e k' n' T' b' e' W (by omega) (by omega)
  have HEQ : Hid (∀ W, Q w W → Calls Tryd.prog 25 #[.agg #[.int .i64 k, .int .i64 n, .string T, .bool b, .int .i64 e], .agg #[.int .i64 k', .int .i64 n', .string T', .bool b', .int .i64 e']] W fun r w' => r = .returned (.bool E) ∧ Q W w') := fun W q => by
    rw [← eE]; exact eq_any k n T b e k' n' T' b' e' W
  have HRE : Hid (∀ W, Q w W → Calls Tryd.prog 26 #[.agg #[.int .i64 k, .int .i64 n, .string T, .bool b, .int .i64 e], .agg #[.int .i64 k', .int .i64 n', .string T', .bool b', .int .i64 e']] W fun r w' => r = .returned (.bool E) ∧ Q W w') := fun W q => by
    rw [← eE]; exact req_any k n T b e k' n' T' b' e' W
  have HN := hid (fun W (q : Q w W) => name_any m W (hw.on q).nam)
  have HRN := hid (fun W => rname_any m W)
  clear ex ex' ey ez eE eT eT' eT2 hT hT' hT2 hw
  unfold vv at *
  have J := b3_new w k n t b e k' n' t' b' e' k2 n2 t2 b2 e2
  go_enter Tryd.func5, Tryd.ntmps5
  go_wp2_with (go_at_call 13; refine (HB.out _ J.q).mono ?_; rintro x w1 ⟨rfl, q1⟩; replace J := J.on q1; clear q1)
  go_upto_region 4 with fail
  go_cut [] from 14 to 19 (fun W => B3 w k n T b e k' n' T' b' e' k2 n2 T2 b2 e2 W)
  case first =>
    have x0 := J.x.c0
    have x1 := J.x.c1
    have x2 := J.x.c2
    have x3 := J.x.c3
    have x4 := J.x.c4
    have y0 := J.y.c0
    have y1 := J.y.c1
    have y2 := J.y.c2
    have y3 := J.y.c3
    have y4 := J.y.c4
    have z0 := J.z.c0
    have z1 := J.z.c1
    have z2 := J.z.c2
    have z3 := J.z.c3
    have z4 := J.z.c4
    go_region_with (first
      | (go_at_call_of 14 t; refine (HU.out _).mono ?_; rintro x w2 ⟨rfl, q2⟩; replace J := (J.drew).on q2; clear q2; have px0 := J.x.c0; have px1 := J.x.c1; have px2 := J.x.c2; have px3 := J.x.c3; have px4 := J.x.c4; have py0 := J.y.c0; have py1 := J.y.c1; have py2 := J.y.c2; have py3 := J.y.c3; have py4 := J.y.c4; have pz0 := J.z.c0; have pz1 := J.z.c1; have pz2 := J.z.c2; have pz3 := J.z.c3; have pz4 := J.z.c4)
      | (go_at_call_of 14 t'; refine (HU'.out _).mono ?_; rintro x w3 ⟨rfl, q2⟩; replace J := J.on q2; clear q2; have rx0 := J.x.c0; have rx1 := J.x.c1; have rx2 := J.x.c2; have rx3 := J.x.c3; have rx4 := J.x.c4; have ry0 := J.y.c0; have ry1 := J.y.c1; have ry2 := J.y.c2; have ry3 := J.y.c3; have ry4 := J.y.c4; have rz0 := J.z.c0; have rz1 := J.z.c1; have rz2 := J.z.c2; have rz3 := J.z.c3; have rz4 := J.z.c4)
      | (go_at_call_of 14 t2; refine (HU2.out _).mono ?_; rintro x w4 ⟨rfl, q2⟩; replace J := J.on q2; clear q2; have sx0 := J.x.c0; have sx1 := J.x.c1; have sx2 := J.x.c2; have sx3 := J.x.c3; have sx4 := J.x.c4; have sy0 := J.y.c0; have sy1 := J.y.c1; have sy2 := J.y.c2; have sy3 := J.y.c3; have sy4 := J.y.c4; have sz0 := J.z.c0; have sz1 := J.z.c1; have sz2 := J.z.c2; have sz3 := J.z.c3; have sz4 := J.z.c4; have sfx0 := J.x.f0; have sfx1 := J.x.f1; have sfx2 := J.x.f2; have sfx3 := J.x.f3; have sfx4 := J.x.f4; have sfy0 := J.y.f0; have sfy1 := J.y.f1; have sfy2 := J.y.f2; have sfy3 := J.y.f3; have sfy4 := J.y.f4; have sfz0 := J.z.f0; have sfz1 := J.z.f1; have sfz2 := J.z.f2; have sfz3 := J.z.f3; have sfz4 := J.z.f4))
    all_goals
      go_wp2_with fail
      go_meet
      case rel => exact J.setAll T T' T2
  case rest =>
    have J := hcut
    clear hcut
    have ax0 := J.x.c0
    have ax1 := J.x.c1
    have ax2 := J.x.c2
    have ax3 := J.x.c3
    have ax4 := J.x.c4
    have ay0 := J.y.c0
    have ay1 := J.y.c1
    have ay2 := J.y.c2
    have ay3 := J.y.c3
    have ay4 := J.y.c4
    have az0 := J.z.c0
    have az1 := J.z.c1
    have az2 := J.z.c2
    have az3 := J.z.c3
    have az4 := J.z.c4
    go_upto_region 6 with (go_at_call 23; refine (HAB.out _ J.q).mono ?_; rintro r w5 ⟨rfl, q2⟩; replace J := J.on q2; clear q2)
    have hk0 : Hid (w5.drew.cell? ⟨w.heap.size, 0, none⟩ = some (.int .i64 k) ∧ w5.drew.cell? ⟨w.heap.size, 1, none⟩ = some (.int .i64 n) ∧ w5.drew.cell? ⟨w.heap.size, 2, none⟩ = some (.string T) ∧ w5.drew.cell? ⟨w.heap.size, 3, none⟩ = some (.bool b) ∧ w5.drew.cell? ⟨w.heap.size, 4, none⟩ = some (.int .i64 e) ∧ w5.drew.cell? ⟨w.heap.size + 1, 0, none⟩ = some (.int .i64 k') ∧ w5.drew.cell? ⟨w.heap.size + 1, 1, none⟩ = some (.int .i64 n') ∧ w5.drew.cell? ⟨w.heap.size + 1, 2, none⟩ = some (.string T') ∧ w5.drew.cell? ⟨w.heap.size + 1, 3, none⟩ = some (.bool b') ∧ w5.drew.cell? ⟨w.heap.size + 1, 4, none⟩ = some (.int .i64 e')) := ⟨J.x.c0, J.x.c1, J.x.c2, J.x.c3, J.x.c4, J.y.c0, J.y.c1, J.y.c2, J.y.c3, J.y.c4⟩
    go_region_held3 (fun W => (W.cell? ⟨w.heap.size, 0, none⟩ = some (.int .i64 k) ∧ W.cell? ⟨w.heap.size, 1, none⟩ = some (.int .i64 n) ∧ W.cell? ⟨w.heap.size, 2, none⟩ = some (.string T) ∧ W.cell? ⟨w.heap.size, 3, none⟩ = some (.bool b) ∧ W.cell? ⟨w.heap.size, 4, none⟩ = some (.int .i64 e) ∧ W.cell? ⟨w.heap.size + 1, 0, none⟩ = some (.int .i64 k') ∧ W.cell? ⟨w.heap.size + 1, 1, none⟩ = some (.int .i64 n') ∧ W.cell? ⟨w.heap.size + 1, 2, none⟩ = some (.string T') ∧ W.cell? ⟨w.heap.size + 1, 3, none⟩ = some (.bool b') ∧ W.cell? ⟨w.heap.size + 1, 4, none⟩ = some (.int .i64 e'))) (with_reducible (first | exact hk0.out | exact hk1.out | exact hk2.out | exact hk3.out | exact hk4.out | exact hk5.out))
      (first
        | (go_at_call 24; refine (HRR.out _ J.q.drew).mono ?_; rintro r w6 ⟨rfl, q2⟩; replace J := J.drew.on q2; clear q2; have hk1 : Hid (w6.cell? ⟨w.heap.size, 0, none⟩ = some (.int .i64 k) ∧ w6.cell? ⟨w.heap.size, 1, none⟩ = some (.int .i64 n) ∧ w6.cell? ⟨w.heap.size, 2, none⟩ = some (.string T) ∧ w6.cell? ⟨w.heap.size, 3, none⟩ = some (.bool b) ∧ w6.cell? ⟨w.heap.size, 4, none⟩ = some (.int .i64 e) ∧ w6.cell? ⟨w.heap.size + 1, 0, none⟩ = some (.int .i64 k') ∧ w6.cell? ⟨w.heap.size + 1, 1, none⟩ = some (.int .i64 n') ∧ w6.cell? ⟨w.heap.size + 1, 2, none⟩ = some (.string T') ∧ w6.cell? ⟨w.heap.size + 1, 3, none⟩ = some (.bool b') ∧ w6.cell? ⟨w.heap.size + 1, 4, none⟩ = some (.int .i64 e')) := ⟨J.x.c0, J.x.c1, J.x.c2, J.x.c3, J.x.c4, J.y.c0, J.y.c1, J.y.c2, J.y.c3, J.y.c4⟩)
        | (go_at_call_of 23 T'; refine (HBA.out _ J.q).mono ?_; rintro r w7 ⟨rfl, q2⟩; replace J := J.on q2; clear q2; have hk2 : Hid (w7.cell? ⟨w.heap.size, 0, none⟩ = some (.int .i64 k) ∧ w7.cell? ⟨w.heap.size, 1, none⟩ = some (.int .i64 n) ∧ w7.cell? ⟨w.heap.size, 2, none⟩ = some (.string T) ∧ w7.cell? ⟨w.heap.size, 3, none⟩ = some (.bool b) ∧ w7.cell? ⟨w.heap.size, 4, none⟩ = some (.int .i64 e) ∧ w7.cell? ⟨w.heap.size + 1, 0, none⟩ = some (.int .i64 k') ∧ w7.cell? ⟨w.heap.size + 1, 1, none⟩ = some (.int .i64 n') ∧ w7.cell? ⟨w.heap.size + 1, 2, none⟩ = some (.string T') ∧ w7.cell? ⟨w.heap.size + 1, 3, none⟩ = some (.bool b') ∧ w7.cell? ⟨w.heap.size + 1, 4, none⟩ = some (.int .i64 e')) := ⟨J.x.c0, J.x.c1, J.x.c2, J.x.c3, J.x.c4, J.y.c0, J.y.c1, J.y.c2, J.y.c3, J.y.c4⟩)
        | (go_at_call 25; refine (HEQ.out _ J.q).mono ?_; rintro r w8 ⟨rfl, q2⟩; replace J := J.on q2; clear q2; have hk3 : Hid (w8.cell? ⟨w.heap.size, 0, none⟩ = some (.int .i64 k) ∧ w8.cell? ⟨w.heap.size, 1, none⟩ = some (.int .i64 n) ∧ w8.cell? ⟨w.heap.size, 2, none⟩ = some (.string T) ∧ w8.cell? ⟨w.heap.size, 3, none⟩ = some (.bool b) ∧ w8.cell? ⟨w.heap.size, 4, none⟩ = some (.int .i64 e) ∧ w8.cell? ⟨w.heap.size + 1, 0, none⟩ = some (.int .i64 k') ∧ w8.cell? ⟨w.heap.size + 1, 1, none⟩ = some (.int .i64 n') ∧ w8.cell? ⟨w.heap.size + 1, 2, none⟩ = some (.string T') ∧ w8.cell? ⟨w.heap.size + 1, 3, none⟩ = some (.bool b') ∧ w8.cell? ⟨w.heap.size + 1, 4, none⟩ = some (.int .i64 e')) := ⟨J.x.c0, J.x.c1, J.x.c2, J.x.c3, J.x.c4, J.y.c0, J.y.c1, J.y.c2, J.y.c3, J.y.c4⟩)
        | (go_at_call 26; refine (HRE.out _ J.q).mono ?_; rintro r w9 ⟨rfl, q2⟩; replace J := J.on q2; clear q2; have hk4 : Hid (w9.cell? ⟨w.heap.size, 0, none⟩ = some (.int .i64 k) ∧ w9.cell? ⟨w.heap.size, 1, none⟩ = some (.int .i64 n) ∧ w9.cell? ⟨w.heap.size, 2, none⟩ = some (.string T) ∧ w9.cell? ⟨w.heap.size, 3, none⟩ = some (.bool b) ∧ w9.cell? ⟨w.heap.size, 4, none⟩ = some (.int .i64 e) ∧ w9.cell? ⟨w.heap.size + 1, 0, none⟩ = some (.int .i64 k') ∧ w9.cell? ⟨w.heap.size + 1, 1, none⟩ = some (.int .i64 n') ∧ w9.cell? ⟨w.heap.size + 1, 2, none⟩ = some (.string T') ∧ w9.cell? ⟨w.heap.size + 1, 3, none⟩ = some (.bool b') ∧ w9.cell? ⟨w.heap.size + 1, 4, none⟩ = some (.int .i64 e')) := ⟨J.x.c0, J.x.c1, J.x.c2, J.x.c3, J.x.c4, J.y.c0, J.y.c1, J.y.c2, J.y.c3, J.y.c4⟩)
        | (go_at_call_of 23 T; refine (HAA.out _ J.q).mono ?_; rintro r w10 ⟨rfl, q2⟩; replace J := J.on q2; clear q2; have hk5 : Hid (w10.cell? ⟨w.heap.size, 0, none⟩ = some (.int .i64 k) ∧ w10.cell? ⟨w.heap.size, 1, none⟩ = some (.int .i64 n) ∧ w10.cell? ⟨w.heap.size, 2, none⟩ = some (.string T) ∧ w10.cell? ⟨w.heap.size, 3, none⟩ = some (.bool b) ∧ w10.cell? ⟨w.heap.size, 4, none⟩ = some (.int .i64 e) ∧ w10.cell? ⟨w.heap.size + 1, 0, none⟩ = some (.int .i64 k') ∧ w10.cell? ⟨w.heap.size + 1, 1, none⟩ = some (.int .i64 n') ∧ w10.cell? ⟨w.heap.size + 1, 2, none⟩ = some (.string T') ∧ w10.cell? ⟨w.heap.size + 1, 3, none⟩ = some (.bool b') ∧ w10.cell? ⟨w.heap.size + 1, 4, none⟩ = some (.int .i64 e')) := ⟨J.x.c0, J.x.c1, J.x.c2, J.x.c3, J.x.c4, J.y.c0, J.y.c1, J.y.c2, J.y.c3, J.y.c4⟩))
    have zx0 := J.x.c0
    have zx1 := J.x.c1
    have zx2 := J.x.c2
    have zx3 := J.x.c3
    have zx4 := J.x.c4
    have zy0 := J.y.c0
    have zy1 := J.y.c1
    have zy2 := J.y.c2
    have zy3 := J.y.c3
    have zy4 := J.y.c4
    have zz0 := J.z.c0
    have zz1 := J.z.c1
    have zz2 := J.z.c2
    have zz3 := J.z.c3
    have zz4 := J.z.c4
    by_cases hx : x ≤ 0
    · by_cases hy : y ≤ 0
      · have hzz := hz.out hx hy
        go_wp2_with (first
          | (go_at_call_of 23 T'; refine (HBC.out _ J.q).mono ?_; rintro r w11 ⟨rfl, q2⟩; replace J := J.on q2; clear q2; have vx0 := J.x.c0; have vx1 := J.x.c1; have vx2 := J.x.c2; have vx3 := J.x.c3; have vx4 := J.x.c4; have vy0 := J.y.c0; have vy1 := J.y.c1; have vy2 := J.y.c2; have vy3 := J.y.c3; have vy4 := J.y.c4; have vz0 := J.z.c0; have vz1 := J.z.c1; have vz2 := J.z.c2; have vz3 := J.z.c3; have vz4 := J.z.c4)
          | (go_at_call_of 23 T; refine (HAC.out _ J.q).mono ?_; rintro r w12 ⟨rfl, q2⟩; replace J := J.on q2; clear q2)
          | (go_at_call 27; refine (HN.out _ J.q).mono ?_; rintro r w13 ⟨rfl, rfl⟩)
          | (go_at_call 28; refine (HRN.out _).mono ?_; rintro r w13 ⟨rfl, q2⟩; replace J := J.on q2; clear q2))
        go_ret
        exact ⟨rfl, J.q⟩
      · go_wp2_with (first
          | (go_at_call_of 23 T'; refine (HBC.out _ J.q).mono ?_; rintro r w11 ⟨rfl, q2⟩; replace J := J.on q2; clear q2)
          | (go_at_call 27; refine (HN.out _ J.q).mono ?_; rintro r w13 ⟨rfl, rfl⟩)
          | (go_at_call 28; refine (HRN.out _).mono ?_; rintro r w13 ⟨rfl, q2⟩; replace J := J.on q2; clear q2))
        go_ret
        exact ⟨rfl, J.q⟩
    · go_wp2_with (first
        | (go_at_call 27; refine (HN.out _ J.q).mono ?_; rintro r w13 ⟨rfl, rfl⟩)
        | (go_at_call 28; refine (HRN.out _).mono ?_; rintro r w13 ⟨rfl, q2⟩; replace J := J.on q2; clear q2))
      go_ret
      exact ⟨rfl, J.q⟩
end Go.Proofs.YtkhecmafhcdalaaDoor
