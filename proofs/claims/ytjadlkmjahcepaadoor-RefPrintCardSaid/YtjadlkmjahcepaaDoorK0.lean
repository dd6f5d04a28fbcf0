/- The law RefPrint, walked. -/
import Derived.Test.YtjadlkmjahcepaaDoorI
import Derived.Test.YtjadlkmjahcepaaDoorG3
import Derived.Test.YtjadlkmjahcepaaDoorF1
namespace Go.Proofs.YtjadlkmjahcepaaDoor
open Go.RowKit
set_option linter.unusedVariables false
set_option linter.unusedSimpArgs false

theorem PB.set0 {w W : World} {sh : ByteArray} {row col : Int} {ra ca : Bool} (h : PB w W sh row col ra ca) (T : ByteArray) : PB w (W.setCell ⟨w.heap.size, 0, none⟩ (.string T)) T row col ra ca := by
  refine ⟨h.q.setCell (Nat.le_refl _) _, World.cell?_setCell_same _ _ _ h.c0, ?_, ?_, ?_, ?_⟩
  · rw [World.cell?_setCell_other _ _ _ _ (by simp)]; exact h.c1
  · rw [World.cell?_setCell_other _ _ _ _ (by simp)]; exact h.c2
  · rw [World.cell?_setCell_other _ _ _ _ (by simp)]; exact h.c3
  · rw [World.cell?_setCell_other _ _ _ _ (by simp)]; exact h.c4

set_option maxRecDepth 100000 in
set_option maxHeartbeats 4000000 in
theorem print_t0 (t T P C : ByteArray) (row col n K : Int) (ra ca : Bool) (w : World) (n0 : 0 ≤ n) (n1 : n < 2199023255552) (HB : Hid (∀ W, Q w W → Calls Tryd.prog 6 #[] W fun e w' => e = .returned (.bool true) ∧ Q W w'))
    (HS : Hid (∀ W, Calls Tryd.prog 7 #[.string t, .int .i64 40] W fun e w' => e = .returned (.string T) ∧ w' = W))
    (HR : Hid (∀ W, Q w W → Calls Tryd.prog 17 #[rv T row col ra ca] W fun e w' => e = .returned (.string P) ∧ Q W w'))
    (HR2 : Hid (∀ W, Calls Tryd.prog 18 #[rv T row col ra ca] W fun e w' => e = .returned (.string P) ∧ Q W w'))
    (HN : Hid (∀ W, Calls Tryd.prog 19 #[.int .i64 n] W fun e w' => e = .returned (.string C) ∧ Q W w'))
    (HN2 : Hid (∀ W, Calls Tryd.prog 20 #[.int .i64 n] W fun e w' => e = .returned (.string C) ∧ Q W w'))
    (HP : Hid (∀ W, Q w W → Calls Tryd.prog 8 #[.string P] W fun e w' => e = .returned (.tuple #[rv T row col ra ca, .bool true]) ∧ Q W w'))
    (HC : Hid (∀ W, Calls Tryd.prog 10 #[.string C] W fun e w' => e = .returned (.tuple #[.int .i64 n, .bool true]) ∧ w' = W))
    (HM : Hid (∀ W, Calls Tryd.prog 21 #[rv T row col ra ca] W fun e w' => e = .returned (.bool true) ∧ Q W w')) :
    Calls Tryd.prog 4 #[rv t row col ra ca, .int .i64 n] w fun e w' => e = .returned (.bool true) ∧ Q w w' := by
  have HE := hid (fun W => same_any T row col ra ca W)
  have J := hid (PB.start w t row col ra ca)
  go_enter Tryd.func4, Tryd.ntmps4
  go_wp2_with (first
    | (go_at_call 6; refine (HB.out _ J.out.q).mono ?_; rintro e w1 ⟨rfl, q1⟩; obtain ⟨hc1, hf1⟩ := bcell q1; have y1 : w.heap.size < w1.heap.size := q1.lt (by simp); replace J := hid ((J.out.on q1).set0 T))
    | (go_at_call 7; refine (HS.out _).mono ?_; rintro e w2 ⟨rfl, rfl⟩)
    | (go_at_call 17; refine (HR.out _ J.out.q).mono ?_; rintro e w3 ⟨rfl, q3⟩; replace J := hid (J.out.on q3); have a0 := J.out.c0; have a1 := J.out.c1; have a2 := J.out.c2; have a3 := J.out.c3; have a4 := J.out.c4)
    | (go_at_call 18; refine (HR2.out _).mono ?_; rintro e w4 ⟨rfl, q4⟩; replace J := hid (J.out.on q4); have b0 := J.out.c0; have b1 := J.out.c1; have b2 := J.out.c2; have b3 := J.out.c3; have b4 := J.out.c4)
    | (go_at_call 19; refine (HN.out _).mono ?_; rintro e w5 ⟨rfl, q5⟩; replace J := hid (J.out.on q5); have c0 := J.out.c0; have c1 := J.out.c1; have c2 := J.out.c2; have c3 := J.out.c3; have c4 := J.out.c4; try (have p0 := G.out.on q5; clear G; have G := hid p0; clear p0; have h0 := G.out.c0; have h1 := G.out.c1; have h2 := G.out.c2; have h3 := G.out.c3; have h4 := G.out.c4))
    | (go_at_call 20; refine (HN2.out _).mono ?_; rintro e w6 ⟨rfl, q6⟩; replace J := hid (J.out.on q6); have d0 := J.out.c0; have d1 := J.out.c1; have d2 := J.out.c2; have d3 := J.out.c3; have d4 := J.out.c4)
    | (go_at_call 8; refine (HP.out _ J.out.q).mono ?_; rintro e w7 ⟨rfl, q7⟩; replace J := hid ((J.out.on q7).on ((Q.refl _).alloc (.cells #[.string T, .int .i64 row, .int .i64 col, .bool ra, .bool ca] 25))); have f0 := J.out.c0; have f1 := J.out.c1; have f2 := J.out.c2; have f3 := J.out.c3; have f4 := J.out.c4; have G := hid (PB.start w7 T row col ra ca))
    | (go_at_call 10; refine (HC.out _).mono ?_; rintro e w8 ⟨rfl, rfl⟩)
    | (go_at_call 21; refine (HM.out _).mono ?_; rintro e w9 ⟨rfl, q9⟩; replace J := hid (J.out.on q9); have k0 := J.out.c0; have k1 := J.out.c1; have k2 := J.out.c2; have k3 := J.out.c3; have k4 := J.out.c4; replace G := hid (G.out.on q9); have l0 := G.out.c0; have l1 := G.out.c1; have l2 := G.out.c2; have l3 := G.out.c3; have l4 := G.out.c4)
    | (go_at_call 12; refine (HE.out _).mono ?_; rintro e w10 ⟨rfl, q10⟩; replace J := hid (J.out.on q10)))
  go_ret
  refine ⟨?_, J.out.q⟩
  first | rfl | exact ret_bool (by simp; omega)

set_option maxRecDepth 100000 in
set_option maxHeartbeats 4000000 in
theorem print_t1 (t T P C : ByteArray) (row col n K : Int) (ra ca : Bool) (w : World) (n0 : n < 0) (HB : Hid (∀ W, Q w W → Calls Tryd.prog 6 #[] W fun e w' => e = .returned (.bool true) ∧ Q W w'))
    (HS : Hid (∀ W, Calls Tryd.prog 7 #[.string t, .int .i64 40] W fun e w' => e = .returned (.string T) ∧ w' = W))
    (HR : Hid (∀ W, Q w W → Calls Tryd.prog 17 #[rv T row col ra ca] W fun e w' => e = .returned (.string P) ∧ Q W w'))
    (HR2 : Hid (∀ W, Calls Tryd.prog 18 #[rv T row col ra ca] W fun e w' => e = .returned (.string P) ∧ Q W w'))
    (HN : Hid (∀ W, Calls Tryd.prog 19 #[.int .i64 n] W fun e w' => e = .returned (.string C) ∧ Q W w'))
    (HN2 : Hid (∀ W, Calls Tryd.prog 20 #[.int .i64 n] W fun e w' => e = .returned (.string C) ∧ Q W w'))
    (HP : Hid (∀ W, Q w W → Calls Tryd.prog 8 #[.string P] W fun e w' => e = .returned (.tuple #[rv T row col ra ca, .bool true]) ∧ Q W w'))
    (HC : Hid (∀ W, Calls Tryd.prog 10 #[.string C] W fun e w' => e = .returned (.tuple #[.int .i64 K, .bool false]) ∧ w' = W))
    (HM : Hid (∀ W, Calls Tryd.prog 21 #[rv T row col ra ca] W fun e w' => e = .returned (.bool true) ∧ Q W w')) :
    Calls Tryd.prog 4 #[rv t row col ra ca, .int .i64 n] w fun e w' => e = .returned (.bool true) ∧ Q w w' := by
  have HE := hid (fun W => same_any T row col ra ca W)
  have n0' : ¬ 0 ≤ n := by omega
  have J := hid (PB.start w t row col ra ca)
  go_enter Tryd.func4, Tryd.ntmps4
  go_wp2_with (first
    | (go_at_call 6; refine (HB.out _ J.out.q).mono ?_; rintro e w1 ⟨rfl, q1⟩; obtain ⟨hc1, hf1⟩ := bcell q1; have y1 : w.heap.size < w1.heap.size := q1.lt (by simp); replace J := hid ((J.out.on q1).set0 T))
    | (go_at_call 7; refine (HS.out _).mono ?_; rintro e w2 ⟨rfl, rfl⟩)
    | (go_at_call 17; refine (HR.out _ J.out.q).mono ?_; rintro e w3 ⟨rfl, q3⟩; replace J := hid (J.out.on q3); have a0 := J.out.c0; have a1 := J.out.c1; have a2 := J.out.c2; have a3 := J.out.c3; have a4 := J.out.c4)
    | (go_at_call 18; refine (HR2.out _).mono ?_; rintro e w4 ⟨rfl, q4⟩; replace J := hid (J.out.on q4); have b0 := J.out.c0; have b1 := J.out.c1; have b2 := J.out.c2; have b3 := J.out.c3; have b4 := J.out.c4)
    | (go_at_call 19; refine (HN.out _).mono ?_; rintro e w5 ⟨rfl, q5⟩; replace J := hid (J.out.on q5); have c0 := J.out.c0; have c1 := J.out.c1; have c2 := J.out.c2; have c3 := J.out.c3; have c4 := J.out.c4; try (have p0 := G.out.on q5; clear G; have G := hid p0; clear p0; have h0 := G.out.c0; have h1 := G.out.c1; have h2 := G.out.c2; have h3 := G.out.c3; have h4 := G.out.c4))
    | (go_at_call 20; refine (HN2.out _).mono ?_; rintro e w6 ⟨rfl, q6⟩; replace J := hid (J.out.on q6); have d0 := J.out.c0; have d1 := J.out.c1; have d2 := J.out.c2; have d3 := J.out.c3; have d4 := J.out.c4)
    | (go_at_call 8; refine (HP.out _ J.out.q).mono ?_; rintro e w7 ⟨rfl, q7⟩; replace J := hid ((J.out.on q7).on ((Q.refl _).alloc (.cells #[.string T, .int .i64 row, .int .i64 col, .bool ra, .bool ca] 25))); have f0 := J.out.c0; have f1 := J.out.c1; have f2 := J.out.c2; have f3 := J.out.c3; have f4 := J.out.c4; have G := hid (PB.start w7 T row col ra ca))
    | (go_at_call 10; refine (HC.out _).mono ?_; rintro e w8 ⟨rfl, rfl⟩)
    | (go_at_call 21; refine (HM.out _).mono ?_; rintro e w9 ⟨rfl, q9⟩; replace J := hid (J.out.on q9); have k0 := J.out.c0; have k1 := J.out.c1; have k2 := J.out.c2; have k3 := J.out.c3; have k4 := J.out.c4; replace G := hid (G.out.on q9); have l0 := G.out.c0; have l1 := G.out.c1; have l2 := G.out.c2; have l3 := G.out.c3; have l4 := G.out.c4)
    | (go_at_call 12; refine (HE.out _).mono ?_; rintro e w10 ⟨rfl, q10⟩; replace J := hid (J.out.on q10)))
  go_ret
  refine ⟨?_, J.out.q⟩
  first | rfl | exact ret_bool (by simp; omega)

set_option maxRecDepth 100000 in
set_option maxHeartbeats 4000000 in
theorem print_t2 (t T P C : ByteArray) (row col n K : Int) (ra ca : Bool) (w : World) (n0 : 0 ≤ n) (n1 : 2199023255552 ≤ n) (HB : Hid (∀ W, Q w W → Calls Tryd.prog 6 #[] W fun e w' => e = .returned (.bool true) ∧ Q W w'))
    (HS : Hid (∀ W, Calls Tryd.prog 7 #[.string t, .int .i64 40] W fun e w' => e = .returned (.string T) ∧ w' = W))
    (HR : Hid (∀ W, Q w W → Calls Tryd.prog 17 #[rv T row col ra ca] W fun e w' => e = .returned (.string P) ∧ Q W w'))
    (HR2 : Hid (∀ W, Calls Tryd.prog 18 #[rv T row col ra ca] W fun e w' => e = .returned (.string P) ∧ Q W w'))
    (HN : Hid (∀ W, Calls Tryd.prog 19 #[.int .i64 n] W fun e w' => e = .returned (.string C) ∧ Q W w'))
    (HN2 : Hid (∀ W, Calls Tryd.prog 20 #[.int .i64 n] W fun e w' => e = .returned (.string C) ∧ Q W w'))
    (HP : Hid (∀ W, Q w W → Calls Tryd.prog 8 #[.string P] W fun e w' => e = .returned (.tuple #[rv T row col ra ca, .bool true]) ∧ Q W w'))
    (HC : Hid (∀ W, Calls Tryd.prog 10 #[.string C] W fun e w' => e = .returned (.tuple #[.int .i64 K, .bool false]) ∧ w' = W))
    (HM : Hid (∀ W, Calls Tryd.prog 21 #[rv T row col ra ca] W fun e w' => e = .returned (.bool true) ∧ Q W w')) :
    Calls Tryd.prog 4 #[rv t row col ra ca, .int .i64 n] w fun e w' => e = .returned (.bool true) ∧ Q w w' := by
  have HE := hid (fun W => same_any T row col ra ca W)
  have n1' : ¬ n < 2199023255552 := by omega
  have J := hid (PB.start w t row col ra ca)
  go_enter Tryd.func4, Tryd.ntmps4
  go_wp2_with (first
    | (go_at_call 6; refine (HB.out _ J.out.q).mono ?_; rintro e w1 ⟨rfl, q1⟩; obtain ⟨hc1, hf1⟩ := bcell q1; have y1 : w.heap.size < w1.heap.size := q1.lt (by simp); replace J := hid ((J.out.on q1).set0 T))
    | (go_at_call 7; refine (HS.out _).mono ?_; rintro e w2 ⟨rfl, rfl⟩)
    | (go_at_call 17; refine (HR.out _ J.out.q).mono ?_; rintro e w3 ⟨rfl, q3⟩; replace J := hid (J.out.on q3); have a0 := J.out.c0; have a1 := J.out.c1; have a2 := J.out.c2; have a3 := J.out.c3; have a4 := J.out.c4)
    | (go_at_call 18; refine (HR2.out _).mono ?_; rintro e w4 ⟨rfl, q4⟩; replace J := hid (J.out.on q4); have b0 := J.out.c0; have b1 := J.out.c1; have b2 := J.out.c2; have b3 := J.out.c3; have b4 := J.out.c4)
    | (go_at_call 19; refine (HN.out _).mono ?_; rintro e w5 ⟨rfl, q5⟩; replace J := hid (J.out.on q5); have c0 := J.out.c0; have c1 := J.out.c1; have c2 := J.out.c2; have c3 := J.out.c3; have c4 := J.out.c4; try (have p0 := G.out.on q5; clear G; have G := hid p0; clear p0; have h0 := G.out.c0; have h1 := G.out.c1; have h2 := G.out.c2; have h3 := G.out.c3; have h4 := G.out.c4))
    | (go_at_call 20; refine (HN2.out _).mono ?_; rintro e w6 ⟨rfl, q6⟩; replace J := hid (J.out.on q6); have d0 := J.out.c0; have d1 := J.out.c1; have d2 := J.out.c2; have d3 := J.out.c3; have d4 := J.out.c4)
    | (go_at_call 8; refine (HP.out _ J.out.q).mono ?_; rintro e w7 ⟨rfl, q7⟩; replace J := hid ((J.out.on q7).on ((Q.refl _).alloc (.cells #[.string T, .int .i64 row, .int .i64 col, .bool ra, .bool ca] 25))); have f0 := J.out.c0; have f1 := J.out.c1; have f2 := J.out.c2; have f3 := J.out.c3; have f4 := J.out.c4; have G := hid (PB.start w7 T row col ra ca))
    | (go_at_call 10; refine (HC.out _).mono ?_; rintro e w8 ⟨rfl, rfl⟩)
    | (go_at_call 21; refine (HM.out _).mono ?_; rintro e w9 ⟨rfl, q9⟩; replace J := hid (J.out.on q9); have k0 := J.out.c0; have k1 := J.out.c1; have k2 := J.out.c2; have k3 := J.out.c3; have k4 := J.out.c4; replace G := hid (G.out.on q9); have l0 := G.out.c0; have l1 := G.out.c1; have l2 := G.out.c2; have l3 := G.out.c3; have l4 := G.out.c4)
    | (go_at_call 12; refine (HE.out _).mono ?_; rintro e w10 ⟨rfl, q10⟩; replace J := hid (J.out.on q10)))
  go_ret
  refine ⟨?_, J.out.q⟩
  first | rfl | exact ret_bool (by simp; omega)

set_option maxRecDepth 100000 in
set_option maxHeartbeats 4000000 in
theorem print_f0 (t T P C : ByteArray) (row col n K : Int) (ra ca : Bool) (w : World) (n0 : 0 ≤ n) (n1 : n < 2199023255552) (HB : Hid (∀ W, Q w W → Calls Tryd.prog 6 #[] W fun e w' => e = .returned (.bool true) ∧ Q W w'))
    (HS : Hid (∀ W, Calls Tryd.prog 7 #[.string t, .int .i64 40] W fun e w' => e = .returned (.string T) ∧ w' = W))
    (HR : Hid (∀ W, Q w W → Calls Tryd.prog 17 #[rv T row col ra ca] W fun e w' => e = .returned (.string P) ∧ Q W w'))
    (HR2 : Hid (∀ W, Calls Tryd.prog 18 #[rv T row col ra ca] W fun e w' => e = .returned (.string P) ∧ Q W w'))
    (HN : Hid (∀ W, Calls Tryd.prog 19 #[.int .i64 n] W fun e w' => e = .returned (.string C) ∧ Q W w'))
    (HN2 : Hid (∀ W, Calls Tryd.prog 20 #[.int .i64 n] W fun e w' => e = .returned (.string C) ∧ Q W w'))
    (HP : Hid (∀ W, Q w W → Calls Tryd.prog 8 #[.string P] W fun e w' => e = .returned (.tuple #[rv ⟨#[]⟩ 0 0 false false, .bool false]) ∧ Q W w'))
    (HC : Hid (∀ W, Calls Tryd.prog 10 #[.string C] W fun e w' => e = .returned (.tuple #[.int .i64 n, .bool true]) ∧ w' = W))
    (HM : Hid (∀ W, Calls Tryd.prog 21 #[rv T row col ra ca] W fun e w' => e = .returned (.bool false) ∧ Q W w')) :
    Calls Tryd.prog 4 #[rv t row col ra ca, .int .i64 n] w fun e w' => e = .returned (.bool true) ∧ Q w w' := by
  have HE := hid (fun W => same_any T row col ra ca W)
  have J := hid (PB.start w t row col ra ca)
  go_enter Tryd.func4, Tryd.ntmps4
  go_wp2_with (first
    | (go_at_call 6; refine (HB.out _ J.out.q).mono ?_; rintro e w1 ⟨rfl, q1⟩; obtain ⟨hc1, hf1⟩ := bcell q1; have y1 : w.heap.size < w1.heap.size := q1.lt (by simp); replace J := hid ((J.out.on q1).set0 T))
    | (go_at_call 7; refine (HS.out _).mono ?_; rintro e w2 ⟨rfl, rfl⟩)
    | (go_at_call 17; refine (HR.out _ J.out.q).mono ?_; rintro e w3 ⟨rfl, q3⟩; replace J := hid (J.out.on q3); have a0 := J.out.c0; have a1 := J.out.c1; have a2 := J.out.c2; have a3 := J.out.c3; have a4 := J.out.c4)
    | (go_at_call 18; refine (HR2.out _).mono ?_; rintro e w4 ⟨rfl, q4⟩; replace J := hid (J.out.on q4); have b0 := J.out.c0; have b1 := J.out.c1; have b2 := J.out.c2; have b3 := J.out.c3; have b4 := J.out.c4)
    | (go_at_call 19; refine (HN.out _).mono ?_; rintro e w5 ⟨rfl, q5⟩; replace J := hid (J.out.on q5); have c0 := J.out.c0; have c1 := J.out.c1; have c2 := J.out.c2; have c3 := J.out.c3; have c4 := J.out.c4; try (have p0 := G.out.on q5; clear G; have G := hid p0; clear p0; have h0 := G.out.c0; have h1 := G.out.c1; have h2 := G.out.c2; have h3 := G.out.c3; have h4 := G.out.c4))
    | (go_at_call 20; refine (HN2.out _).mono ?_; rintro e w6 ⟨rfl, q6⟩; replace J := hid (J.out.on q6); have d0 := J.out.c0; have d1 := J.out.c1; have d2 := J.out.c2; have d3 := J.out.c3; have d4 := J.out.c4)
    | (go_at_call 8; refine (HP.out _ J.out.q).mono ?_; rintro e w7 ⟨rfl, q7⟩; replace J := hid ((J.out.on q7).on ((Q.refl _).alloc (.cells #[.string ⟨#[]⟩, .int .i64 0, .int .i64 0, .bool false, .bool false] 25))); have f0 := J.out.c0; have f1 := J.out.c1; have f2 := J.out.c2; have f3 := J.out.c3; have f4 := J.out.c4; have G := hid (PB.start w7 ⟨#[]⟩ 0 0 false false))
    | (go_at_call 10; refine (HC.out _).mono ?_; rintro e w8 ⟨rfl, rfl⟩)
    | (go_at_call 21; refine (HM.out _).mono ?_; rintro e w9 ⟨rfl, q9⟩; replace J := hid (J.out.on q9); have k0 := J.out.c0; have k1 := J.out.c1; have k2 := J.out.c2; have k3 := J.out.c3; have k4 := J.out.c4; replace G := hid (G.out.on q9); have l0 := G.out.c0; have l1 := G.out.c1; have l2 := G.out.c2; have l3 := G.out.c3; have l4 := G.out.c4)
    | (go_at_call 12; refine (HE.out _).mono ?_; rintro e w10 ⟨rfl, q10⟩; replace J := hid (J.out.on q10)))
  go_ret
  refine ⟨?_, J.out.q⟩
  first | rfl | exact ret_bool (by simp; omega)

set_option maxRecDepth 100000 in
set_option maxHeartbeats 4000000 in
theorem print_f1 (t T P C : ByteArray) (row col n K : Int) (ra ca : Bool) (w : World) (n0 : n < 0) (HB : Hid (∀ W, Q w W → Calls Tryd.prog 6 #[] W fun e w' => e = .returned (.bool true) ∧ Q W w'))
    (HS : Hid (∀ W, Calls Tryd.prog 7 #[.string t, .int .i64 40] W fun e w' => e = .returned (.string T) ∧ w' = W))
    (HR : Hid (∀ W, Q w W → Calls Tryd.prog 17 #[rv T row col ra ca] W fun e w' => e = .returned (.string P) ∧ Q W w'))
    (HR2 : Hid (∀ W, Calls Tryd.prog 18 #[rv T row col ra ca] W fun e w' => e = .returned (.string P) ∧ Q W w'))
    (HN : Hid (∀ W, Calls Tryd.prog 19 #[.int .i64 n] W fun e w' => e = .returned (.string C) ∧ Q W w'))
    (HN2 : Hid (∀ W, Calls Tryd.prog 20 #[.int .i64 n] W fun e w' => e = .returned (.string C) ∧ Q W w'))
    (HP : Hid (∀ W, Q w W → Calls Tryd.prog 8 #[.string P] W fun e w' => e = .returned (.tuple #[rv ⟨#[]⟩ 0 0 false false, .bool false]) ∧ Q W w'))
    (HC : Hid (∀ W, Calls Tryd.prog 10 #[.string C] W fun e w' => e = .returned (.tuple #[.int .i64 K, .bool false]) ∧ w' = W))
    (HM : Hid (∀ W, Calls Tryd.prog 21 #[rv T row col ra ca] W fun e w' => e = .returned (.bool false) ∧ Q W w')) :
    Calls Tryd.prog 4 #[rv t row col ra ca, .int .i64 n] w fun e w' => e = .returned (.bool true) ∧ Q w w' := by
  have HE := hid (fun W => same_any T row col ra ca W)
  have n0' : ¬ 0 ≤ n := by omega
  have J := hid (PB.start w t row col ra ca)
  go_enter Tryd.func4, Tryd.ntmps4
  go_wp2_with (first
    | (go_at_call 6; refine (HB.out _ J.out.q).mono ?_; rintro e w1 ⟨rfl, q1⟩; obtain ⟨hc1, hf1⟩ := bcell q1; have y1 : w.heap.size < w1.heap.size := q1.lt (by simp); replace J := hid ((J.out.on q1).set0 T))
    | (go_at_call 7; refine (HS.out _).mono ?_; rintro e w2 ⟨rfl, rfl⟩)
    | (go_at_call 17; refine (HR.out _ J.out.q).mono ?_; rintro e w3 ⟨rfl, q3⟩; replace J := hid (J.out.on q3); have a0 := J.out.c0; have a1 := J.out.c1; have a2 := J.out.c2; have a3 := J.out.c3; have a4 := J.out.c4)
    | (go_at_call 18; refine (HR2.out _).mono ?_; rintro e w4 ⟨rfl, q4⟩; replace J := hid (J.out.on q4); have b0 := J.out.c0; have b1 := J.out.c1; have b2 := J.out.c2; have b3 := J.out.c3; have b4 := J.out.c4)
    | (go_at_call 19; refine (HN.out _).mono ?_; rintro e w5 ⟨rfl, q5⟩; replace J := hid (J.out.on q5); have c0 := J.out.c0; have c1 := J.out.c1; have c2 := J.out.c2; have c3 := J.out.c3; have c4 := J.out.c4; try (have p0 := G.out.on q5; clear G; have G := hid p0; clear p0; have h0 := G.out.c0; have h1 := G.out.c1; have h2 := G.out.c2; have h3 := G.out.c3; have h4 := G.out.c4))
    | (go_at_call 20; refine (HN2.out _).mono ?_; rintro e w6 ⟨rfl, q6⟩; replace J := hid (J.out.on q6); have d0 := J.out.c0; have d1 := J.out.c1; have d2 := J.out.c2; have d3 := J.out.c3; have d4 := J.out.c4)
    | (go_at_call 8; refine (HP.out _ J.out.q).mono ?_; rintro e w7 ⟨rfl, q7⟩; replace J := hid ((J.out.on q7).on ((Q.refl _).alloc (.cells #[.string ⟨#[]⟩, .int .i64 0, .int .i64 0, .bool false, .bool false] 25))); have f0 := J.out.c0; have f1 := J.out.c1; have f2 := J.out.c2; have f3 := J.out.c3; have f4 := J.out.c4; have G := hid (PB.start w7 ⟨#[]⟩ 0 0 false false))
    | (go_at_call 10; refine (HC.out _).mono ?_; rintro e w8 ⟨rfl, rfl⟩)
    | (go_at_call 21; refine (HM.out _).mono ?_; rintro e w9 ⟨rfl, q9⟩; replace J := hid (J.out.on q9); have k0 := J.out.c0; have k1 := J.out.c1; have k2 := J.out.c2; have k3 := J.out.c3; have k4 := J.out.c4; replace G := hid (G.out.on q9); have l0 := G.out.c0; have l1 := G.out.c1; have l2 := G.out.c2; have l3 := G.out.c3; have l4 := G.out.c4)
    | (go_at_call 12; refine (HE.out _).mono ?_; rintro e w10 ⟨rfl, q10⟩; replace J := hid (J.out.on q10)))
  go_ret
  refine ⟨?_, J.out.q⟩
  first | rfl | exact ret_bool (by simp; omega)

set_option maxRecDepth 100000 in
set_option maxHeartbeats 4000000 in
theorem print_f2 (t T P C : ByteArray) (row col n K : Int) (ra ca : Bool) (w : World) (n0 : 0 ≤ n) (n1 : 2199023255552 ≤ n) (HB : Hid (∀ W, Q w W → Calls Tryd.prog 6 #[] W fun e w' => e = .returned (.bool true) ∧ Q W w'))
    (HS : Hid (∀ W, Calls Tryd.prog 7 #[.string t, .int .i64 40] W fun e w' => e = .returned (.string T) ∧ w' = W))
    (HR : Hid (∀ W, Q w W → Calls Tryd.prog 17 #[rv T row col ra ca] W fun e w' => e = .returned (.string P) ∧ Q W w'))
    (HR2 : Hid (∀ W, Calls Tryd.prog 18 #[rv T row col ra ca] W fun e w' => e = .returned (.string P) ∧ Q W w'))
    (HN : Hid (∀ W, Calls Tryd.prog 19 #[.int .i64 n] W fun e w' => e = .returned (.string C) ∧ Q W w'))
    (HN2 : Hid (∀ W, Calls Tryd.prog 20 #[.int .i64 n] W fun e w' => e = .returned (.string C) ∧ Q W w'))
    (HP : Hid (∀ W, Q w W → Calls Tryd.prog 8 #[.string P] W fun e w' => e = .returned (.tuple #[rv ⟨#[]⟩ 0 0 false false, .bool false]) ∧ Q W w'))
    (HC : Hid (∀ W, Calls Tryd.prog 10 #[.string C] W fun e w' => e = .returned (.tuple #[.int .i64 K, .bool false]) ∧ w' = W))
    (HM : Hid (∀ W, Calls Tryd.prog 21 #[rv T row col ra ca] W fun e w' => e = .returned (.bool false) ∧ Q W w')) :
    Calls Tryd.prog 4 #[rv t row col ra ca, .int .i64 n] w fun e w' => e = .returned (.bool true) ∧ Q w w' := by
  have HE := hid (fun W => same_any T row col ra ca W)
  have n1' : ¬ n < 2199023255552 := by omega
  have J := hid (PB.start w t row col ra ca)
  go_enter Tryd.func4, Tryd.ntmps4
  go_wp2_with (first
    | (go_at_call 6; refine (HB.out _ J.out.q).mono ?_; rintro e w1 ⟨rfl, q1⟩; obtain ⟨hc1, hf1⟩ := bcell q1; have y1 : w.heap.size < w1.heap.size := q1.lt (by simp); replace J := hid ((J.out.on q1).set0 T))
    | (go_at_call 7; refine (HS.out _).mono ?_; rintro e w2 ⟨rfl, rfl⟩)
    | (go_at_call 17; refine (HR.out _ J.out.q).mono ?_; rintro e w3 ⟨rfl, q3⟩; replace J := hid (J.out.on q3); have a0 := J.out.c0; have a1 := J.out.c1; have a2 := J.out.c2; have a3 := J.out.c3; have a4 := J.out.c4)
    | (go_at_call 18; refine (HR2.out _).mono ?_; rintro e w4 ⟨rfl, q4⟩; replace J := hid (J.out.on q4); have b0 := J.out.c0; have b1 := J.out.c1; have b2 := J.out.c2; have b3 := J.out.c3; have b4 := J.out.c4)
    | (go_at_call 19; refine (HN.out _).mono ?_; rintro e w5 ⟨rfl, q5⟩; replace J := hid (J.out.on q5); have c0 := J.out.c0; have c1 := J.out.c1; have c2 := J.out.c2; have c3 := J.out.c3; have c4 := J.out.c4; try (have p0 := G.out.on q5; clear G; have G := hid p0; clear p0; have h0 := G.out.c0; have h1 := G.out.c1; have h2 := G.out.c2; have h3 := G.out.c3; have h4 := G.out.c4))
    | (go_at_call 20; refine (HN2.out _).mono ?_; rintro e w6 ⟨rfl, q6⟩; replace J := hid (J.out.on q6); have d0 := J.out.c0; have d1 := J.out.c1; have d2 := J.out.c2; have d3 := J.out.c3; have d4 := J.out.c4)
    | (go_at_call 8; refine (HP.out _ J.out.q).mono ?_; rintro e w7 ⟨rfl, q7⟩; replace J := hid ((J.out.on q7).on ((Q.refl _).alloc (.cells #[.string ⟨#[]⟩, .int .i64 0, .int .i64 0, .bool false, .bool false] 25))); have f0 := J.out.c0; have f1 := J.out.c1; have f2 := J.out.c2; have f3 := J.out.c3; have f4 := J.out.c4; have G := hid (PB.start w7 ⟨#[]⟩ 0 0 false false))
    | (go_at_call 10; refine (HC.out _).mono ?_; rintro e w8 ⟨rfl, rfl⟩)
    | (go_at_call 21; refine (HM.out _).mono ?_; rintro e w9 ⟨rfl, q9⟩; replace J := hid (J.out.on q9); have k0 := J.out.c0; have k1 := J.out.c1; have k2 := J.out.c2; have k3 := J.out.c3; have k4 := J.out.c4; replace G := hid (G.out.on q9); have l0 := G.out.c0; have l1 := G.out.c1; have l2 := G.out.c2; have l3 := G.out.c3; have l4 := G.out.c4)
    | (go_at_call 12; refine (HE.out _).mono ?_; rintro e w10 ⟨rfl, q10⟩; replace J := hid (J.out.on q10)))
  go_ret
  refine ⟨?_, J.out.q⟩
  first | rfl | exact ret_bool (by simp; omega)

end Go.Proofs.YtjadlkmjahcepaaDoor
