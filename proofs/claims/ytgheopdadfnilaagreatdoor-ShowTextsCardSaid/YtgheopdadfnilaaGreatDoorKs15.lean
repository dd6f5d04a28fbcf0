/- The program's reader: brackets; P.first of the reference, walked: errors. -/
import Derived.Test.YtgheopdadfnilaaGreatDoorKs14
import Derived.Test.YtgheopdadfnilaaGreatDoorKs13
namespace Go.Proofs.YtgheopdadfnilaaGreatDoor
open Go.RowKit
set_option linter.unusedVariables false
set_option linter.unusedSimpArgs false
theorem RepP.inN {p : Nat} {L : List Wd} {b off cap : Nat} {W W' : World} {e : Ending} (h : RepP p L b off cap W none e W') : ∃ (k m : Int) (t : ByteArray) (bb : Bool) (er : Int) (a1 : Option Addr) (l1 c1 : Nat) (a2 : Option Addr) (l2 c2 : Nat), e = .returned (.tuple #[.agg #[.int .i64 k, .int .i64 m, .string t, .bool bb, .int .i64 er, .slice a1 l1 c1, .slice a2 l2 c2], .bool false]) ∧ Qx p W W' ∧ True := by
  obtain ⟨k, m, t, bb, er, a1, l1, c1, a2, l2, c2, he, hq, _⟩ := h
  exact ⟨k, m, t, bb, er, a1, l1, c1, a2, l2, c2, he, hq, trivial⟩
theorem RepP.inY {p : Nat} {L : List Wd} {b off cap : Nat} {W W' : World} {x : Ex} {j : Nat} {e : Ending} (h : RepP p L b off cap W (some (x, j)) e W') : ∃ (k m : Int) (t : ByteArray) (bb : Bool) (er : Int) (a1 : Option Addr) (l1 c1 : Nat) (a2 : Option Addr) (l2 c2 : Nat), e = .returned (.tuple #[.agg #[.int .i64 k, .int .i64 m, .string t, .bool bb, .int .i64 er, .slice a1 l1 c1, .slice a2 l2 c2], .bool true]) ∧ Qx p W W' ∧ Rdg (fun b => W.heap.size ≤ b) W' x (.agg #[.int .i64 k, .int .i64 m, .string t, .bool bb, .int .i64 er, .slice a1 l1 c1, .slice a2 l2 c2]) ∧ PT W' p L b off cap j := by
  obtain ⟨k, m, t, bb, er, a1, l1, c1, a2, l2, c2, he, hq, hr⟩ := h
  exact ⟨k, m, t, bb, er, a1, l1, c1, a2, l2, c2, he, hq, (hr x j rfl).1, (hr x j rfl).2⟩
set_option maxRecDepth 100000 in
set_option maxHeartbeats 8000000 in
theorem pbrack_none (L : List Wd) (p b off cap i : Nat) (W : World) (h : PT W p L b off cap i) (hi : i < L.length) (hr : L.length ≤ 50000)  (HT : Hid (∀ W1, PT W1 p L b off cap i → Calls Tryz.prog 108 #[.pointer (some ⟨p, 0, none⟩), .int .i64 1] W1 fun e W' => RepP p L b off cap W1 none e W')) :
    Calls Tryz.prog 184 #[.pointer (some ⟨p, 0, none⟩)] W fun e W' => RepP p L b off cap W none e W' := by
  have hlt := h.lt
  have hbW := h.blk i hi
  have HP := hid h
  have HZ := hid (tb_new W (.int .i64 0) (.int .i64 0) (.string ⟨#[]⟩) (.bool false) (.int .i64 0) (.slice none 0 0) (.slice none 0 0) 26)
  clear h
  go_enter Tryz.func184, Tryz.ntmps184
  go_wp2_with (go_at_call 108; refine (HT.out _ (HP.out.on (by repeat (first | with_reducible exact Q.refl _ | with_reducible refine Q.drewN ?_ _ | with_reducible refine Q.drew ?_ | with_reducible refine Q.alloc ?_ _ | with_reducible refine Q.setCell ?_ (by simp) _)))).mono ?_; rintro e w2 h2; obtain ⟨k, m, t, bb, er, a1, l1, c1, a2, l2, c2, rfl, q2, r2⟩ := h2.inN; have Q2 := hid q2; have R2 := hid r2; clear h2 q2 r2; have Z2w := hid (HZ.out.on Q2.out (by omega)); have Z2 := hid ((HZ.out.on Q2.out (by omega)).on ((Qx.refl p _).alloc (.cells #[.int .i64 k, .int .i64 m, .string t, .bool bb, .int .i64 er, .slice a1 l1 c1, .slice a2 l2 c2] 26)) (by omega)); have hs2 : W.heap.size < w2.heap.size := (by have := Q2.out.size; simp at this; omega); have E2 := hid (tb_new w2 (.int .i64 k) (.int .i64 m) (.string t) (.bool bb) (.int .i64 er) (.slice a1 l1 c1) (.slice a2 l2 c2) 26))
  have g0 := Z2w.out.g0
  have g1 := Z2w.out.g1
  have g2 := Z2w.out.g2
  have g3 := Z2w.out.g3
  have g4 := Z2w.out.g4
  have g5 := Z2w.out.g5
  have g6 := Z2w.out.g6
  have x0 := Z2w.out.f 0
  have x1 := Z2w.out.f 1
  have x2 := Z2w.out.f 2
  have x3 := Z2w.out.f 3
  have x4 := Z2w.out.f 4
  have x5 := Z2w.out.f 5
  have x6 := Z2w.out.f 6
  have hWw : W.heap.size ≠ w2.heap.size := by omega
  go_region
  obtain ⟨Vn, hVn, TVn, QVn⟩ : ∃ Vn, Vn = ((((((((w2.setCell ⟨W.heap.size, 0, none⟩ (.int .i64 k)).setCell ⟨W.heap.size, 1, none⟩ (.int .i64 m)).setCell ⟨W.heap.size, 2, none⟩ (.string t)).setCell ⟨W.heap.size, 3, none⟩ (.bool bb)).setCell ⟨W.heap.size, 4, none⟩ (.int .i64 er)).setCell ⟨W.heap.size, 5, none⟩ (.slice a1 l1 c1)).setCell ⟨W.heap.size, 6, none⟩ (.slice a2 l2 c2)).alloc (.cells #[.int .i64 k, .int .i64 m, .string t, .bool bb, .int .i64 er, .slice a1 l1 c1, .slice a2 l2 c2] 26)).drew ∧ Tb Vn W.heap.size (.int .i64 k) (.int .i64 m) (.string t) (.bool bb) (.int .i64 er) (.slice a1 l1 c1) (.slice a2 l2 c2) ∧ Qx p W Vn := by
    have hq : Qx p W w2 := ((Qx.refl p W).alloc _).trans Q2.out
    have hle : W.heap.size ≤ W.heap.size := Nat.le_refl _
    exact ⟨_, rfl, ((Z2w.out.put _ _ _ _ _ _ _).on ((Qx.refl p _).alloc _) (by omega)).on ((Qx.refl p _).drew) (by omega), ((((((((hq.new hle _ _).new hle _ _).new hle _ _).new hle _ _).new hle _ _).new hle _ _).new hle _ _).alloc _).drew⟩
  rw [← hVn]
  have TVh := hid TVn
  clear hVn g0 x0 g1 x1 g2 x2 g3 x3 g4 x4 g5 x5 g6 x6 TVn
  have g0 := TVh.out.g0
  have g1 := TVh.out.g1
  have g2 := TVh.out.g2
  have g3 := TVh.out.g3
  have g4 := TVh.out.g4
  have g5 := TVh.out.g5
  have g6 := TVh.out.g6
  all_goals go_wp2_with fail
  all_goals refine bodyPost_ret (v := .tuple #[.agg #[.int .i64 k, .int .i64 m, .string t, .bool bb, .int .i64 er, .slice a1 l1 c1, .slice a2 l2 c2], .bool false]) (by simp [results, Tryz.results184, go_sem, g0, g1, g2, g3, g4, g5, g6]) rfl ?_
  exact ⟨k, m, t, bb, er, a1, l1, c1, a2, l2, c2, rfl, QVn, fun x j e => by cases e⟩
set_option maxRecDepth 100000 in
set_option maxHeartbeats 8000000 in
theorem pbrack_yes (L : List Wd) (p b off cap i : Nat) (W : World) (h : PT W p L b off cap i) (hi : i < L.length) (hr : L.length ≤ 50000) (x : Ex) (j : Nat) (hj : j < L.length) (hw : isW L j [41] = true) (HT : Hid (∀ W1, PT W1 p L b off cap i → Calls Tryz.prog 108 #[.pointer (some ⟨p, 0, none⟩), .int .i64 1] W1 fun e W' => RepP p L b off cap W1 (some (x, j)) e W')) :
    Calls Tryz.prog 184 #[.pointer (some ⟨p, 0, none⟩)] W fun e W' => RepP p L b off cap W (some (x, j + 1)) e W' := by
  have hlt := h.lt
  have hbW := h.blk i hi
  have HP := hid h
  have HZ := hid (tb_new W (.int .i64 0) (.int .i64 0) (.string ⟨#[]⟩) (.bool false) (.int .i64 0) (.slice none 0 0) (.slice none 0 0) 26)
  have hc := hid (fun W1 (g : PT W1 p L b off cap j) => ptake_any W1 p L b off cap j ⟨#[41]⟩ g hj hr (by simp))
  rw [show (⟨#[41]⟩ : ByteArray).data.toList = [41] from rfl, hw] at hc
  clear h
  go_enter Tryz.func184, Tryz.ntmps184
  go_wp2_with (go_at_call 108; refine (HT.out _ (HP.out.on (by repeat (first | with_reducible exact Q.refl _ | with_reducible refine Q.drewN ?_ _ | with_reducible refine Q.drew ?_ | with_reducible refine Q.alloc ?_ _ | with_reducible refine Q.setCell ?_ (by simp) _)))).mono ?_; rintro e w2 h2; obtain ⟨k, m, t, bb, er, a1, l1, c1, a2, l2, c2, rfl, q2, r2⟩ := h2.inY; have Q2 := hid q2; have R2 := hid r2; clear h2 q2 r2; have Z2w := hid (HZ.out.on Q2.out (by omega)); have Z2 := hid ((HZ.out.on Q2.out (by omega)).on ((Qx.refl p _).alloc (.cells #[.int .i64 k, .int .i64 m, .string t, .bool bb, .int .i64 er, .slice a1 l1 c1, .slice a2 l2 c2] 26)) (by omega)); have hs2 : W.heap.size < w2.heap.size := (by have := Q2.out.size; simp at this; omega); have E2 := hid (tb_new w2 (.int .i64 k) (.int .i64 m) (.string t) (.bool bb) (.int .i64 er) (.slice a1 l1 c1) (.slice a2 l2 c2) 26); have P2 := hid (R2.out.2.on ((Q.refl _).alloc (.cells #[.int .i64 k, .int .i64 m, .string t, .bool bb, .int .i64 er, .slice a1 l1 c1, .slice a2 l2 c2] 26))))
  have d0 := Z2.out.g0
  have d1 := Z2.out.g1
  have d2 := Z2.out.g2
  have d3 := Z2.out.g3
  have d4 := Z2.out.g4
  have d5 := Z2.out.g5
  have d6 := Z2.out.g6
  have y0 := Z2.out.f 0
  have y1 := Z2.out.f 1
  have y2 := Z2.out.f 2
  have y3 := Z2.out.f 3
  have y4 := Z2.out.f 4
  have y5 := Z2.out.f 5
  have y6 := Z2.out.f 6
  have g0 := Z2w.out.g0
  have g1 := Z2w.out.g1
  have g2 := Z2w.out.g2
  have g3 := Z2w.out.g3
  have g4 := Z2w.out.g4
  have g5 := Z2w.out.g5
  have g6 := Z2w.out.g6
  have x0 := Z2w.out.f 0
  have x1 := Z2w.out.f 1
  have x2 := Z2w.out.f 2
  have x3 := Z2w.out.f 3
  have x4 := Z2w.out.f 4
  have x5 := Z2w.out.f 5
  have x6 := Z2w.out.f 6
  have hWw : W.heap.size ≠ w2.heap.size := by omega
  go_region_with (first | (go_at_call 166; refine (hc.out _ (P2.out.on (by repeat (first | with_reducible exact Q.refl _ | with_reducible refine Q.drewN ?_ _ | with_reducible refine Q.drew ?_ | with_reducible refine Q.alloc ?_ _ | with_reducible refine Q.setCell ?_ (by simp) _)))).mono ?_; rintro e9 w5 ⟨rfl, q5, p5⟩; have Q5 : Hid (Qx p (w2.alloc (.cells #[.int .i64 k, .int .i64 m, .string t, .bool bb, .int .i64 er, .slice a1 l1 c1, .slice a2 l2 c2] 26)) w5) := hid (Qx.trans (by repeat (first | with_reducible exact Qx.refl _ _ | with_reducible refine Qx.drewN ?_ _ | with_reducible refine Qx.drew ?_ | with_reducible refine Qx.alloc ?_ _ | with_reducible refine Qx.own ?_ _ _ | with_reducible refine Qx.new ?_ (by simp) _ _)) q5); have P5 := hid p5; have E5 := hid (E2.out.on Q5.out (by omega)); have Z5 := hid (Z2.out.on Q5.out (by omega)); clear q5 p5; have e0 := Z5.out.g0; have e1 := Z5.out.g1; have e2 := Z5.out.g2; have e3 := Z5.out.g3; have e4 := Z5.out.g4; have e5 := Z5.out.g5; have e6 := Z5.out.g6; have r0 := Z5.out.f 0; have r1 := Z5.out.f 1; have r2 := Z5.out.f 2; have r3 := Z5.out.f 3; have r4 := Z5.out.f 4; have r5 := Z5.out.f 5; have r6 := Z5.out.f 6; have n0 := E5.out.g0; have n1 := E5.out.g1; have n2 := E5.out.g2; have n3 := E5.out.g3; have n4 := E5.out.g4; have n5 := E5.out.g5; have n6 := E5.out.g6))
  all_goals go_wp2_with fail
  all_goals refine bodyPost_ret (v := .tuple #[.agg #[.int .i64 k, .int .i64 m, .string t, .bool bb, .int .i64 er, .slice a1 l1 c1, .slice a2 l2 c2], .bool true]) (by simp [results, Tryz.results184, go_sem, e0, e1, e2, e3, e4, e5, e6]) rfl ?_
  all_goals exact finP (some (x, j + 1)) k m t bb er a1 l1 c1 a2 l2 c2 hlt hbW ((((Qx.refl p W).alloc _).trans Q2.out).alloc _ |>.trans Q5.out) (fun x' j' e => by cases e; exact ⟨Rdg.on Q5.out (fun b hb => by omega) _ _ (Rdg.on ((Qx.refl p _).alloc _) (fun b hb => by omega) _ _ (Rdg.mono (fun b hb => by simp at hb; omega) _ _ R2.out.1)), P5.out⟩)
set_option maxRecDepth 100000 in
set_option maxHeartbeats 8000000 in
theorem pbrack_no (L : List Wd) (p b off cap i : Nat) (W : World) (h : PT W p L b off cap i) (hi : i < L.length) (hr : L.length ≤ 50000) (x : Ex) (j : Nat) (hj : j < L.length) (hw : isW L j [41] = false) (HT : Hid (∀ W1, PT W1 p L b off cap i → Calls Tryz.prog 108 #[.pointer (some ⟨p, 0, none⟩), .int .i64 1] W1 fun e W' => RepP p L b off cap W1 (some (x, j)) e W')) :
    Calls Tryz.prog 184 #[.pointer (some ⟨p, 0, none⟩)] W fun e W' => RepP p L b off cap W none e W' := by
  have hlt := h.lt
  have hbW := h.blk i hi
  have HP := hid h
  have HZ := hid (tb_new W (.int .i64 0) (.int .i64 0) (.string ⟨#[]⟩) (.bool false) (.int .i64 0) (.slice none 0 0) (.slice none 0 0) 26)
  have hc := hid (fun W1 (g : PT W1 p L b off cap j) => ptake_any W1 p L b off cap j ⟨#[41]⟩ g hj hr (by simp))
  rw [show (⟨#[41]⟩ : ByteArray).data.toList = [41] from rfl, hw] at hc
  clear h
  go_enter Tryz.func184, Tryz.ntmps184
  go_wp2_with (go_at_call 108; refine (HT.out _ (HP.out.on (by repeat (first | with_reducible exact Q.refl _ | with_reducible refine Q.drewN ?_ _ | with_reducible refine Q.drew ?_ | with_reducible refine Q.alloc ?_ _ | with_reducible refine Q.setCell ?_ (by simp) _)))).mono ?_; rintro e w2 h2; obtain ⟨k, m, t, bb, er, a1, l1, c1, a2, l2, c2, rfl, q2, r2⟩ := h2.inY; have Q2 := hid q2; have R2 := hid r2; clear h2 q2 r2; have Z2w := hid (HZ.out.on Q2.out (by omega)); have Z2 := hid ((HZ.out.on Q2.out (by omega)).on ((Qx.refl p _).alloc (.cells #[.int .i64 k, .int .i64 m, .string t, .bool bb, .int .i64 er, .slice a1 l1 c1, .slice a2 l2 c2] 26)) (by omega)); have hs2 : W.heap.size < w2.heap.size := (by have := Q2.out.size; simp at this; omega); have E2 := hid (tb_new w2 (.int .i64 k) (.int .i64 m) (.string t) (.bool bb) (.int .i64 er) (.slice a1 l1 c1) (.slice a2 l2 c2) 26); have P2 := hid (R2.out.2.on ((Q.refl _).alloc (.cells #[.int .i64 k, .int .i64 m, .string t, .bool bb, .int .i64 er, .slice a1 l1 c1, .slice a2 l2 c2] 26))))
  have d0 := Z2.out.g0
  have d1 := Z2.out.g1
  have d2 := Z2.out.g2
  have d3 := Z2.out.g3
  have d4 := Z2.out.g4
  have d5 := Z2.out.g5
  have d6 := Z2.out.g6
  have y0 := Z2.out.f 0
  have y1 := Z2.out.f 1
  have y2 := Z2.out.f 2
  have y3 := Z2.out.f 3
  have y4 := Z2.out.f 4
  have y5 := Z2.out.f 5
  have y6 := Z2.out.f 6
  have g0 := Z2w.out.g0
  have g1 := Z2w.out.g1
  have g2 := Z2w.out.g2
  have g3 := Z2w.out.g3
  have g4 := Z2w.out.g4
  have g5 := Z2w.out.g5
  have g6 := Z2w.out.g6
  have x0 := Z2w.out.f 0
  have x1 := Z2w.out.f 1
  have x2 := Z2w.out.f 2
  have x3 := Z2w.out.f 3
  have x4 := Z2w.out.f 4
  have x5 := Z2w.out.f 5
  have x6 := Z2w.out.f 6
  have hWw : W.heap.size ≠ w2.heap.size := by omega
  go_region_with (first | (go_at_call 166; refine (hc.out _ (P2.out.on (by repeat (first | with_reducible exact Q.refl _ | with_reducible refine Q.drewN ?_ _ | with_reducible refine Q.drew ?_ | with_reducible refine Q.alloc ?_ _ | with_reducible refine Q.setCell ?_ (by simp) _)))).mono ?_; rintro e9 w5 ⟨rfl, q5, p5⟩; have Q5 : Hid (Qx p (w2.alloc (.cells #[.int .i64 k, .int .i64 m, .string t, .bool bb, .int .i64 er, .slice a1 l1 c1, .slice a2 l2 c2] 26)) w5) := hid (Qx.trans (by repeat (first | with_reducible exact Qx.refl _ _ | with_reducible refine Qx.drewN ?_ _ | with_reducible refine Qx.drew ?_ | with_reducible refine Qx.alloc ?_ _ | with_reducible refine Qx.own ?_ _ _ | with_reducible refine Qx.new ?_ (by simp) _ _)) q5); have P5 := hid p5; have E5 := hid (E2.out.on Q5.out (by omega)); have Z5 := hid (Z2.out.on Q5.out (by omega)); clear q5 p5; have e0 := Z5.out.g0; have e1 := Z5.out.g1; have e2 := Z5.out.g2; have e3 := Z5.out.g3; have e4 := Z5.out.g4; have e5 := Z5.out.g5; have e6 := Z5.out.g6; have r0 := Z5.out.f 0; have r1 := Z5.out.f 1; have r2 := Z5.out.f 2; have r3 := Z5.out.f 3; have r4 := Z5.out.f 4; have r5 := Z5.out.f 5; have r6 := Z5.out.f 6; have n0 := E5.out.g0; have n1 := E5.out.g1; have n2 := E5.out.g2; have n3 := E5.out.g3; have n4 := E5.out.g4; have n5 := E5.out.g5; have n6 := E5.out.g6))
  all_goals go_wp2_with fail
  all_goals refine bodyPost_ret (v := .tuple #[.agg #[.int .i64 k, .int .i64 m, .string t, .bool bb, .int .i64 er, .slice a1 l1 c1, .slice a2 l2 c2], .bool false]) (by simp [results, Tryz.results184, go_sem, e0, e1, e2, e3, e4, e5, e6]) rfl ?_
  all_goals exact finP none k m t bb er a1 l1 c1 a2 l2 c2 hlt hbW ((((Qx.refl p W).alloc _).trans Q2.out).alloc _ |>.trans Q5.out) (fun x' j' e => by cases e)
end Go.Proofs.YtgheopdadfnilaaGreatDoor
namespace Go.Proofs.YtgheopdadfnilaaGreatDoor
open Go.RowKit
set_option linter.unusedVariables false
set_option linter.unusedSimpArgs false
theorem errN_min {t : List UInt8} (h : errN t ≠ 0) : 1 ≤ errN t ∧ errN t ≤ 7 ∧ enL (errN t : Int) = t ∧ ∀ e : Nat, 1 ≤ e → e < errN t → enL (e : Int) ≠ t := by
  by_cases h1 : t = enL 1
  · have e : errN t = 1 := by unfold errN; rw [if_pos h1]
    rw [e]
    exact ⟨by omega, by omega, h1.symm, fun e a b => by omega⟩
  · by_cases h2 : t = enL 2
    · have e : errN t = 2 := by unfold errN; rw [if_neg h1, if_pos h2]
      rw [e]
      refine ⟨by omega, by omega, h2.symm, fun e a b => ?_⟩
      have : e = 1 := by omega
      subst this
      exact fun x => h1 x.symm
    · by_cases h3 : t = enL 3
      · have e : errN t = 3 := by unfold errN; rw [if_neg h1, if_neg h2, if_pos h3]
        rw [e]
        refine ⟨by omega, by omega, h3.symm, fun e a b => ?_⟩
        have : e = 1 ∨ e = 2 := by omega
        rcases this with rfl | rfl
        · exact fun x => h1 x.symm
        · exact fun x => h2 x.symm
      · by_cases h4 : t = enL 4
        · have e : errN t = 4 := by unfold errN; rw [if_neg h1, if_neg h2, if_neg h3, if_pos h4]
          rw [e]
          refine ⟨by omega, by omega, h4.symm, fun e a b => ?_⟩
          have : e = 1 ∨ e = 2 ∨ e = 3 := by omega
          rcases this with rfl | rfl | rfl
          · exact fun x => h1 x.symm
          · exact fun x => h2 x.symm
          · exact fun x => h3 x.symm
        · by_cases h5 : t = enL 5
          · have e : errN t = 5 := by unfold errN; rw [if_neg h1, if_neg h2, if_neg h3, if_neg h4, if_pos h5]
            rw [e]
            refine ⟨by omega, by omega, h5.symm, fun e a b => ?_⟩
            have : e = 1 ∨ e = 2 ∨ e = 3 ∨ e = 4 := by omega
            rcases this with rfl | rfl | rfl | rfl
            · exact fun x => h1 x.symm
            · exact fun x => h2 x.symm
            · exact fun x => h3 x.symm
            · exact fun x => h4 x.symm
          · by_cases h6 : t = enL 6
            · have e : errN t = 6 := by unfold errN; rw [if_neg h1, if_neg h2, if_neg h3, if_neg h4, if_neg h5, if_pos h6]
              rw [e]
              refine ⟨by omega, by omega, h6.symm, fun e a b => ?_⟩
              have : e = 1 ∨ e = 2 ∨ e = 3 ∨ e = 4 ∨ e = 5 := by omega
              rcases this with rfl | rfl | rfl | rfl | rfl
              · exact fun x => h1 x.symm
              · exact fun x => h2 x.symm
              · exact fun x => h3 x.symm
              · exact fun x => h4 x.symm
              · exact fun x => h5 x.symm
            · by_cases h7 : t = enL 7
              · have e : errN t = 7 := by unfold errN; rw [if_neg h1, if_neg h2, if_neg h3, if_neg h4, if_neg h5, if_neg h6, if_pos h7]
                rw [e]
                refine ⟨by omega, by omega, h7.symm, fun e a b => ?_⟩
                have : e = 1 ∨ e = 2 ∨ e = 3 ∨ e = 4 ∨ e = 5 ∨ e = 6 := by omega
                rcases this with rfl | rfl | rfl | rfl | rfl | rfl
                · exact fun x => h1 x.symm
                · exact fun x => h2 x.symm
                · exact fun x => h3 x.symm
                · exact fun x => h4 x.symm
                · exact fun x => h5 x.symm
                · exact fun x => h6 x.symm
              · exact absurd (by unfold errN; rw [if_neg h1, if_neg h2, if_neg h3, if_neg h4, if_neg h5, if_neg h6, if_neg h7]) h
end Go.Proofs.YtgheopdadfnilaaGreatDoor
