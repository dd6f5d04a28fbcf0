/- The law ValueKinds, walked. -/
import Derived.Test.YtkhecmafhcdalaaDoorT1
import Derived.Test.YtkhecmafhcdalaaDoorX0
namespace Go.Proofs.YtkhecmafhcdalaaDoor
open Go.RowKit
set_option linter.unusedVariables false
set_option linter.unusedSimpArgs false

/-- one value in its box -/
structure B1 (w : World) (k n : Int) (t : ByteArray) (b : Bool) (e : Int) (W : World) : Prop where
  q : Q w W
  x : Bx W w.heap.size (.int .i64 k) (.int .i64 n) (.string t) (.bool b) (.int .i64 e)
theorem B1.on {w W W' : World} {k n : Int} {t : ByteArray} {b : Bool} {e : Int} (h : B1 w k n t b e W) (g : Q W W') : B1 w k n t b e W' := ⟨h.q.trans g, h.x.on g⟩
theorem B1.drew {w W : World} {k n : Int} {t : ByteArray} {b : Bool} {e : Int} (h : B1 w k n t b e W) : B1 w k n t b e W.drew := h.on (Q.refl _).drew
theorem b1_new (w : World) (k n : Int) (t : ByteArray) (b : Bool) (e : Int) : B1 w k n t b e (w.alloc (.cells #[.int .i64 k, .int .i64 n, .string t, .bool b, .int .i64 e] 30)) := ⟨(Q.refl _).alloc _, bx_new w _ _ _ _ _⟩
theorem B1.set {w W : World} {k n : Int} {t : ByteArray} {b : Bool} {e : Int} (h : B1 w k n t b e W) (s : ByteArray) :
    B1 w k n s b e (set5 W w.heap.size (.int .i64 k) (.int .i64 n) (.string s) (.bool b) (.int .i64 e)) := ⟨h.q.set5 (Nat.le_refl _), h.x.set5⟩

set_option maxRecDepth 100000 in
set_option maxHeartbeats 8000000 in
theorem kinds_core (k n : Int) (t : ByteArray) (b : Bool) (e : Int) (T : ByteArray) (eT : cutT t = T) (N E1 E2 E3 : Int) (X : ByteArray) (B M : Bool) (w : World) (hw : Std2 w)
    (h15 : (∀ W, Q w W → Calls Tryd.prog 15 #[.agg #[.int .i64 k, .int .i64 n, .string T, .bool b, .int .i64 e]] W fun r w' => r = .returned (.tuple #[.int .i64 N, .int .i64 E1]) ∧ Q W w'))
    (h16 : (∀ W, Q w W → Calls Tryd.prog 16 #[.agg #[.int .i64 k, .int .i64 n, .string T, .bool b, .int .i64 e]] W fun r w' => r = .returned (.tuple #[.int .i64 N, .int .i64 E1]) ∧ Q W w'))
    (h17 : (∀ W, Q w W → Calls Tryd.prog 17 #[.agg #[.int .i64 k, .int .i64 n, .string T, .bool b, .int .i64 e]] W fun r w' => r = .returned (.tuple #[.string X, .int .i64 E2]) ∧ Q W w'))
    (h18 : (∀ W, Q w W → Calls Tryd.prog 18 #[.agg #[.int .i64 k, .int .i64 n, .string T, .bool b, .int .i64 e]] W fun r w' => r = .returned (.tuple #[.string X, .int .i64 E2]) ∧ Q W w'))
    (h19 : (∀ W, Q w W → Calls Tryd.prog 19 #[.agg #[.int .i64 k, .int .i64 n, .string T, .bool b, .int .i64 e]] W fun r w' => r = .returned (.tuple #[.bool B, .int .i64 E3]) ∧ Q W w'))
    (h20 : (∀ W, Q w W → Calls Tryd.prog 20 #[.agg #[.int .i64 k, .int .i64 n, .string T, .bool b, .int .i64 e]] W fun r w' => r = .returned (.tuple #[.bool B, .int .i64 E3]) ∧ Q W w'))
    (h21 : (∀ W, Q w W → Calls Tryd.prog 21 #[.agg #[.int .i64 k, .int .i64 n, .string T, .bool b, .int .i64 e]] W fun r w' => r = .returned (.bool M) ∧ Q W w'))
    (h22 : (∀ W, Q w W → Calls Tryd.prog 22 #[.agg #[.int .i64 k, .int .i64 n, .string T, .bool b, .int .i64 e]] W fun r w' => r = .returned (.bool M) ∧ Q W w')) :
    Calls Tryd.prog 4 #[vv k n t b e] w fun r w' => r = .returned (.bool true) ∧ Q w w' := by
  have HB := hid (fun W (q : Q w W) => begun2_any W (hw.on q))
  have HU := hid (fun W => cut_any2 k n t b e W)
  rw [eT] at HU
  have H15 := hid h15
  have H16 := hid h16
  have H17 := hid h17
  have H18 := hid h18
  have H19 := hid h19
  have H20 := hid h20
  have H21 := hid h21
  have H22 := hid h22
  clear hw eT h15 h16 h17 h18 h19 h20 h21 h22
  unfold vv at *
  have J := b1_new w k n t b e
  go_enter Tryd.func4, Tryd.ntmps4
  go_upto_region 5 with (first
    | (go_at_call 13; refine (HB.out _ J.q).mono ?_; rintro r w1 ⟨rfl, q2⟩; replace J := J.on q2; clear q2; have a0 := J.x.c0; have a1 := J.x.c1; have a2 := J.x.c2; have a3 := J.x.c3; have a4 := J.x.c4)
    | (go_at_call 14; refine (HU.out _).mono ?_; rintro r w2 ⟨rfl, q2⟩; replace J := J.on q2; clear q2; have d0 := J.x.c0; have d1 := J.x.c1; have d2 := J.x.c2; have d3 := J.x.c3; have d4 := J.x.c4; have df0 := J.x.f0; have df1 := J.x.f1; have df2 := J.x.f2; have df3 := J.x.f3; have df4 := J.x.f4))
  have J2 := J.set T
  obtain ⟨w3, hw3⟩ : ∃ w3, set5 w2 w.heap.size (.int .i64 k) (.int .i64 n) (.string T) (.bool b) (.int .i64 e) = w3 := ⟨_, rfl⟩
  rw [hw3] at J2
  unfold set5 at hw3
  rw [hw3]
  clear hw3 J a0 d0 df0 a1 d1 df1 a2 d2 df2 a3 d3 df3 a4 d4 df4
  have J := J2
  clear J2
  have s0 := J.x.c0
  have s1 := J.x.c1
  have s2 := J.x.c2
  have s3 := J.x.c3
  have s4 := J.x.c4
  go_upto_region 11 with (first
    | (go_at_call 15; refine (H15.out _ J.q).mono ?_; rintro r w15 ⟨rfl, q2⟩; replace J := J.on q2; clear q2; have c15_0 := J.x.c0; have c15_1 := J.x.c1; have c15_2 := J.x.c2; have c15_3 := J.x.c3; have c15_4 := J.x.c4)
    | (go_at_call 16; refine (H16.out _ J.q).mono ?_; rintro r w16 ⟨rfl, q2⟩; replace J := J.on q2; clear q2; have c16_0 := J.x.c0; have c16_1 := J.x.c1; have c16_2 := J.x.c2; have c16_3 := J.x.c3; have c16_4 := J.x.c4)
    | (go_at_call 17; refine (H17.out _ J.q).mono ?_; rintro r w17 ⟨rfl, q2⟩; replace J := J.on q2; clear q2; have c17_0 := J.x.c0; have c17_1 := J.x.c1; have c17_2 := J.x.c2; have c17_3 := J.x.c3; have c17_4 := J.x.c4)
    | (go_at_call 18; refine (H18.out _ J.q).mono ?_; rintro r w18 ⟨rfl, q2⟩; replace J := J.on q2; clear q2; have c18_0 := J.x.c0; have c18_1 := J.x.c1; have c18_2 := J.x.c2; have c18_3 := J.x.c3; have c18_4 := J.x.c4)
    | (go_at_call 19; refine (H19.out _ J.q).mono ?_; rintro r w19 ⟨rfl, q2⟩; replace J := J.on q2; clear q2; have c19_0 := J.x.c0; have c19_1 := J.x.c1; have c19_2 := J.x.c2; have c19_3 := J.x.c3; have c19_4 := J.x.c4)
    | (go_at_call 20; refine (H20.out _ J.q).mono ?_; rintro r w20 ⟨rfl, q2⟩; replace J := J.on q2; clear q2; have c20_0 := J.x.c0; have c20_1 := J.x.c1; have c20_2 := J.x.c2; have c20_3 := J.x.c3; have c20_4 := J.x.c4))
  have hk0 : Hid (w20.drew.cell? ⟨w.heap.size, 0, none⟩ = some (.int .i64 k) ∧ w20.drew.cell? ⟨w.heap.size, 1, none⟩ = some (.int .i64 n) ∧ w20.drew.cell? ⟨w.heap.size, 2, none⟩ = some (.string T) ∧ w20.drew.cell? ⟨w.heap.size, 3, none⟩ = some (.bool b) ∧ w20.drew.cell? ⟨w.heap.size, 4, none⟩ = some (.int .i64 e)) := ⟨J.x.c0, J.x.c1, J.x.c2, J.x.c3, J.x.c4⟩
  go_region_held3 (fun W => (W.cell? ⟨w.heap.size, 0, none⟩ = some (.int .i64 k) ∧ W.cell? ⟨w.heap.size, 1, none⟩ = some (.int .i64 n) ∧ W.cell? ⟨w.heap.size, 2, none⟩ = some (.string T) ∧ W.cell? ⟨w.heap.size, 3, none⟩ = some (.bool b) ∧ W.cell? ⟨w.heap.size, 4, none⟩ = some (.int .i64 e))) (with_reducible (first | exact hk0.out | exact hk1.out | exact hk2.out))
    (first
      | (go_at_call 21; refine (H21.out _ J.q.drew).mono ?_; rintro r w21 ⟨rfl, q2⟩; replace J := J.drew.on q2; clear q2; have hk1 : Hid (w21.cell? ⟨w.heap.size, 0, none⟩ = some (.int .i64 k) ∧ w21.cell? ⟨w.heap.size, 1, none⟩ = some (.int .i64 n) ∧ w21.cell? ⟨w.heap.size, 2, none⟩ = some (.string T) ∧ w21.cell? ⟨w.heap.size, 3, none⟩ = some (.bool b) ∧ w21.cell? ⟨w.heap.size, 4, none⟩ = some (.int .i64 e)) := ⟨J.x.c0, J.x.c1, J.x.c2, J.x.c3, J.x.c4⟩)
      | (go_at_call 22; refine (H22.out _ J.q).mono ?_; rintro r w22 ⟨rfl, q2⟩; replace J := J.on q2; clear q2; have hk2 : Hid (w22.cell? ⟨w.heap.size, 0, none⟩ = some (.int .i64 k) ∧ w22.cell? ⟨w.heap.size, 1, none⟩ = some (.int .i64 n) ∧ w22.cell? ⟨w.heap.size, 2, none⟩ = some (.string T) ∧ w22.cell? ⟨w.heap.size, 3, none⟩ = some (.bool b) ∧ w22.cell? ⟨w.heap.size, 4, none⟩ = some (.int .i64 e)) := ⟨J.x.c0, J.x.c1, J.x.c2, J.x.c3, J.x.c4⟩))
  go_wp2
  go_ret
  exact ⟨rfl, J.q⟩

theorem kinds_walk (k n : Int) (t : ByteArray) (b : Bool) (e : Int) (w : World) (hw : Std2 w) (hn : Fx n) :
    Calls Tryd.prog 4 #[vv k n t b e] w fun r w' => r = .returned (.bool true) ∧ Q w w' := by
  have hT := cutT_size t
  obtain ⟨T, eT⟩ : ∃ T, cutT t = T := ⟨_, rfl⟩
  rw [eT] at hT
  cases hM : mayB k n T.toList b e with
  | false =>
    exact kinds_core k n t b e T eT 0 5 5 5 ⟨#[]⟩ false false w hw
      (fun W q => number_no k n T b e W (hw.on q) (by omega) hM) (fun W q => rnumber_no k n T b e W (by omega) hM)
      (fun W q => text_no k n T b e W (hw.on q) (by omega) hM) (fun W q => rtext_no k n T b e W (by omega) hM)
      (fun W q => truth_no k n T b e W (hw.on q) (by omega) hM) (fun W q => rtruth_no k n T b e W (by omega) hM)
      (fun W q => by rw [← hM]; exact may_any k n T b e W (hw.on q) (by omega)) (fun W q => by rw [← hM]; exact rmay_any k n T b e W (by omega))
  | true =>
    have hv := vk_of hM
    exact kinds_core k n t b e T eT (numN k n T.toList b) (numE k T.toList e) (txtE k e) (truE k T.toList e) ⟨(txtL k n T.data.toList b).toArray⟩ (truB k n T.toList b) true w hw
      (fun W q => number_vk k n T b e W (hw.on q) (by omega) hv) (fun W q => rnumber_vk k n T b e W (by omega) hv)
      (fun W q => text_vk k n T b e W (hw.on q) (by omega) hn hv) (fun W q => rtext_vk k n T b e W (by omega) hn hv)
      (fun W q => truth_vk k n T b e W (hw.on q) (by omega) hv) (fun W q => rtruth_vk k n T b e W (by omega) hv)
      (fun W q => by rw [← hM]; exact may_any k n T b e W (hw.on q) (by omega)) (fun W q => by rw [← hM]; exact rmay_any k n T b e W (by omega))
end Go.Proofs.YtkhecmafhcdalaaDoor
