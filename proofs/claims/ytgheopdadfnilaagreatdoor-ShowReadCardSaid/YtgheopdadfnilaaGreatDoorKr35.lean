/- P.first of the reference, walked: brackets. -/
import Derived.Test.YtgheopdadfnilaaGreatDoorKr17
set_option linter.unusedVariables false
set_option linter.unusedSimpArgs false
set_option maxRecDepth 100000
namespace Go.Proofs.YtgheopdadfnilaaGreatDoor
open Go.RowKit
set_option maxHeartbeats 8000000 in
theorem first_paren_bad (L : List Wd) (p b off cap : Nat) (s : St) (W : World) (h : PS W p L b off cap s.i s.bd s.n) (hi : s.i < L.length) (hr : L.length ≤ 50000) (hn : s.n ≤ s.i) (hw : isW L s.i [40] = true) (r : Ex × St) (hbd : r.2.bd = true) (HT : Hid (∀ W1, PS W1 p L b off cap s.on.i s.on.bd s.on.n → Calls Tryz.prog 38 #[.pointer (some ⟨p, 0, none⟩), .int .i64 1] W1 fun e W' => Rep p L b off cap W1 r e W')) :
    Calls Tryz.prog 105 #[.pointer (some ⟨p, 0, none⟩)] W fun e W' => Rep p L b off cap W (r.1, r.2) e W' := by
  have hlt := h.lt
  have hbW := h.blk hi
  obtain ⟨T, q, hT, kw⟩ := h.kw hi
  have HTT := hid hT
  have HK := hid kw
  generalize hkk : (kAt L s.i : Int) = kk at HK
  have hpW : p ≠ W.heap.size := by omega
  have HBD := hid hbd
  clear hbd
  have HP := hid h
  have hroom : (s.i : Int) + 1 ≤ 9223372036854775807 := by omega
  have HZ := hid ((tb_new W (.int .i64 0) (.int .i64 0) (.string ⟨#[]⟩) (.bool false) (.int .i64 0) (.slice none 0 0) (.slice none 0 0) 26).on (((Qx.refl p _).alloc (.cells #[.int .i64 kk, .string T, .int .i64 q] 74)).drew) (by omega))
  have HB := hid ((wb_new (W.alloc (.cells #[.int .i64 0, .int .i64 0, .string ⟨#[]⟩, .bool false, .int .i64 0, .slice none 0 0, .slice none 0 0] 26)) (.int .i64 kk) (.string T) (.int .i64 q) 74).on ((Qx.refl p _).drew) (by simp; omega))
  rw [show (W.alloc (.cells #[.int .i64 0, .int .i64 0, .string ⟨#[]⟩, .bool false, .int .i64 0, .slice none 0 0, .slice none 0 0] 26)).heap.size = W.heap.size + 1 by simp] at HB
  have hc := hid (fun W1 (g : PS W1 p L b off cap s.i s.bd s.n) => take_any W1 p L b off cap s.i s.bd s.n ⟨#[40]⟩ g hi)
  rw [show (⟨#[40]⟩ : ByteArray).data.toList = [40] from rfl, hw] at hc
  clear h kw hT
  go_enter Tryz.func105, Tryz.ntmps105
  go_wp2_with fail
  go_region_held3 (fun V => V.cell? ⟨p, 0, none⟩ = some (.slice (some ⟨b, off, none⟩) L.length cap) ∧ V.cell? ⟨p, 1, none⟩ = some (.int .i64 (s.i : Int)) ∧ V.cell? ⟨b, off + s.i * 3, none⟩ = some (.int .i64 kk) ∧ V.cell? ⟨b, off + s.i * 3 + 1, none⟩ = some (.string T) ∧ V.cell? ⟨b, off + s.i * 3 + 2, none⟩ = some (.int .i64 q)) (exact HK.out.on (by repeat (first | exact Q.refl _ | refine Q.drewN ?_ _ | refine Q.drew ?_ | refine Q.alloc ?_ _ | refine Q.setCell ?_ (by simp) _))) (fail)
  go_wp2_with (first | (go_at_call 38; refine (HT.out _ P1.out).mono ?_; rintro e w2 ⟨v, rfl, hr2, q2, p2⟩; obtain ⟨k, m, t, bb, er, a1, l1, c1, a2, l2, c2, rfl⟩ := hr2.shape; have R2 := hid hr2; have Q2 := hid q2; have P2 := hid p2; have Z2 := hid (Z1.out.on q2 (by omega)); have hsz : w1.heap.size ≤ w2.heap.size := q2.size; clear hr2 q2 p2; have hp2 : p ≠ w2.heap.size := (by omega); have hW2 : W.heap.size ≠ w2.heap.size := (by omega); have PX := hid (P2.out.on ((Q.refl _).alloc (.cells #[.int .i64 k, .int .i64 m, .string t, .bool bb, .int .i64 er, .slice a1 l1 c1, .slice a2 l2 c2] 26))); have u2 := PX.out.c2; rw [HBD.out] at u2; have v2 := PX.out.f2; have Z5 := hid ((Z2.out.on ((Qx.refl p _).alloc (.cells #[.int .i64 k, .int .i64 m, .string t, .bool bb, .int .i64 er, .slice a1 l1 c1, .slice a2 l2 c2] 26)) (by omega)).on ((Qx.refl p _).own 2 (.bool true)) (by omega)); have X5 := hid ((tb_new w2 (.int .i64 k) (.int .i64 m) (.string t) (.bool bb) (.int .i64 er) (.slice a1 l1 c1) (.slice a2 l2 c2) 26).on ((Qx.refl p _).own 2 (.bool true)) (by omega)); clear hp2 hW2; have d0 := Z5.out.g0; have d1 := Z5.out.g1; have d2 := Z5.out.g2; have d3 := Z5.out.g3; have d4 := Z5.out.g4; have d5 := Z5.out.g5; have d6 := Z5.out.g6; have y0 := Z5.out.f 0; have y1 := Z5.out.f 1; have y2 := Z5.out.f 2; have y3 := Z5.out.f 3; have y4 := Z5.out.f 4; have y5 := Z5.out.f 5; have y6 := Z5.out.f 6; have n0 := X5.out.g0; have n1 := X5.out.g1; have n2 := X5.out.g2; have n3 := X5.out.g3; have n4 := X5.out.g4; have n5 := X5.out.g5; have n6 := X5.out.g6) | (go_at_call 104; refine (hc.out _ (HP.out.on (by repeat (first | exact Q.refl _ | refine Q.drewN ?_ _ | refine Q.drew ?_ | refine Q.alloc ?_ _ | refine Q.setCell ?_ (by simp) _)))).mono ?_; rintro e w1 ⟨rfl, q1, p1⟩; have Q1 : Hid (Qx p W w1) := hid (Qx.trans (by repeat (first | with_reducible exact Qx.refl _ _ | with_reducible refine Qx.drewN ?_ _ | with_reducible refine Qx.drew ?_ | with_reducible refine Qx.alloc ?_ _ | with_reducible refine Qx.own ?_ _ _ | with_reducible refine Qx.new ?_ (by simp) _ _)) q1); have P1 := hid p1; have Z1 := hid (HZ.out.on q1 (by omega)); have B1 := hid (HB.out.on q1 (by omega)); have hsw : W.heap.size + 1 < w1.heap.size := World.block_lt_of_cell? w1 ⟨W.heap.size + 1, 0, none⟩ B1.out.g0; clear q1 p1; have x1 := P1.out.c1; have z1 := P1.out.f1; have b0 := B1.out.g0; have b1 := B1.out.g1; have b2 := B1.out.g2))
  refine bodyPost_ret (v := .agg #[.int .i64 k, .int .i64 m, .string t, .bool bb, .int .i64 er, .slice a1 l1 c1, .slice a2 l2 c2]) (by simp [results, Tryz.results105, go_sem, d0, d1, d2, d3, d4, d5, d6, n0, n1, n2, n3, n4, n5, n6]) rfl ?_
  have hp2 : p ≠ w2.heap.size := by omega
  have hq : Qx p W _ := (((Q1.out.trans Q2.out).alloc (.cells #[.int .i64 k, .int .i64 m, .string t, .bool bb, .int .i64 er, .slice a1 l1 c1, .slice a2 l2 c2] 26)).own 2 (.bool true))
  have PY := PX.out.set2 true
  rw [← HBD.out] at PY
  exact fin7 (s' := r.2) k m t bb er a1 l1 c1 a2 l2 c2 hlt hbW hq (Rdg.on (((Qx.refl p _).alloc _).own _ _) (fun b hb => by omega) _ _ (Rdg.mono (fun b hb => by omega) _ _ R2.out)) (by rw [← HBD.out]; exact PY)
set_option maxHeartbeats 8000000 in
theorem first_paren_yes (L : List Wd) (p b off cap : Nat) (s : St) (W : World) (h : PS W p L b off cap s.i s.bd s.n) (hi : s.i < L.length) (hr : L.length ≤ 50000) (hn : s.n ≤ s.i) (hw : isW L s.i [40] = true) (r : Ex × St) (hbd : r.2.bd = false) (hri : r.2.i < L.length) (hw2 : isW L r.2.i [41] = true) (HT : Hid (∀ W1, PS W1 p L b off cap s.on.i s.on.bd s.on.n → Calls Tryz.prog 38 #[.pointer (some ⟨p, 0, none⟩), .int .i64 1] W1 fun e W' => Rep p L b off cap W1 r e W')) :
    Calls Tryz.prog 105 #[.pointer (some ⟨p, 0, none⟩)] W fun e W' => Rep p L b off cap W (r.1, r.2.on) e W' := by
  have hlt := h.lt
  have hbW := h.blk hi
  obtain ⟨T, q, hT, kw⟩ := h.kw hi
  have HTT := hid hT
  have HK := hid kw
  generalize hkk : (kAt L s.i : Int) = kk at HK
  have hpW : p ≠ W.heap.size := by omega
  have HBD := hid hbd
  clear hbd
  have hc2 := hid (fun W1 (g : PS W1 p L b off cap r.2.i r.2.bd r.2.n) => take_any W1 p L b off cap r.2.i r.2.bd r.2.n ⟨#[41]⟩ g hri)
  rw [show (⟨#[41]⟩ : ByteArray).data.toList = [41] from rfl, hw2] at hc2
  have HP := hid h
  have hroom : (s.i : Int) + 1 ≤ 9223372036854775807 := by omega
  have HZ := hid ((tb_new W (.int .i64 0) (.int .i64 0) (.string ⟨#[]⟩) (.bool false) (.int .i64 0) (.slice none 0 0) (.slice none 0 0) 26).on (((Qx.refl p _).alloc (.cells #[.int .i64 kk, .string T, .int .i64 q] 74)).drew) (by omega))
  have HB := hid ((wb_new (W.alloc (.cells #[.int .i64 0, .int .i64 0, .string ⟨#[]⟩, .bool false, .int .i64 0, .slice none 0 0, .slice none 0 0] 26)) (.int .i64 kk) (.string T) (.int .i64 q) 74).on ((Qx.refl p _).drew) (by simp; omega))
  rw [show (W.alloc (.cells #[.int .i64 0, .int .i64 0, .string ⟨#[]⟩, .bool false, .int .i64 0, .slice none 0 0, .slice none 0 0] 26)).heap.size = W.heap.size + 1 by simp] at HB
  have hc := hid (fun W1 (g : PS W1 p L b off cap s.i s.bd s.n) => take_any W1 p L b off cap s.i s.bd s.n ⟨#[40]⟩ g hi)
  rw [show (⟨#[40]⟩ : ByteArray).data.toList = [40] from rfl, hw] at hc
  clear h kw hT
  go_enter Tryz.func105, Tryz.ntmps105
  go_wp2_with fail
  go_region_held3 (fun V => V.cell? ⟨p, 0, none⟩ = some (.slice (some ⟨b, off, none⟩) L.length cap) ∧ V.cell? ⟨p, 1, none⟩ = some (.int .i64 (s.i : Int)) ∧ V.cell? ⟨b, off + s.i * 3, none⟩ = some (.int .i64 kk) ∧ V.cell? ⟨b, off + s.i * 3 + 1, none⟩ = some (.string T) ∧ V.cell? ⟨b, off + s.i * 3 + 2, none⟩ = some (.int .i64 q)) (exact HK.out.on (by repeat (first | exact Q.refl _ | refine Q.drewN ?_ _ | refine Q.drew ?_ | refine Q.alloc ?_ _ | refine Q.setCell ?_ (by simp) _))) (fail)
  go_wp2_with (first | (go_at_call 104; refine (hc2.out _ PX.out).mono ?_; rintro e w4 ⟨rfl, q4, p4⟩; have Q4 := hid q4; have P4 := hid p4; have X4 := hid ((tb_new w2 (.int .i64 k) (.int .i64 m) (.string t) (.bool bb) (.int .i64 er) (.slice a1 l1 c1) (.slice a2 l2 c2) 26).on q4 (by omega)); have Z4 := hid ((Z2.out.on ((Qx.refl p _).alloc _) (by omega)).on q4 (by omega)); clear q4 p4; have t2 := P4.out.c2; have s2 := P4.out.f2; have e0 := Z4.out.g0; have e1 := Z4.out.g1; have e2 := Z4.out.g2; have e3 := Z4.out.g3; have e4 := Z4.out.g4; have e5 := Z4.out.g5; have e6 := Z4.out.g6; have r0 := Z4.out.f 0; have r1 := Z4.out.f 1; have r2 := Z4.out.f 2; have r3 := Z4.out.f 3; have r4 := Z4.out.f 4; have r5 := Z4.out.f 5; have r6 := Z4.out.f 6; have n0 := X4.out.g0; have n1 := X4.out.g1; have n2 := X4.out.g2; have n3 := X4.out.g3; have n4 := X4.out.g4; have n5 := X4.out.g5; have n6 := X4.out.g6) | (go_at_call 38; refine (HT.out _ P1.out).mono ?_; rintro e w2 ⟨v, rfl, hr2, q2, p2⟩; obtain ⟨k, m, t, bb, er, a1, l1, c1, a2, l2, c2, rfl⟩ := hr2.shape; have R2 := hid hr2; have Q2 := hid q2; have P2 := hid p2; have Z2 := hid (Z1.out.on q2 (by omega)); have hsz : w1.heap.size ≤ w2.heap.size := q2.size; clear hr2 q2 p2; have hp2 : p ≠ w2.heap.size := (by omega); have hW2 : W.heap.size ≠ w2.heap.size := (by omega); have PX := hid (P2.out.on ((Q.refl _).alloc (.cells #[.int .i64 k, .int .i64 m, .string t, .bool bb, .int .i64 er, .slice a1 l1 c1, .slice a2 l2 c2] 26))); have u2 := PX.out.c2; rw [HBD.out] at u2; have v2 := PX.out.f2; have d0 := Z2.out.g0; have d1 := Z2.out.g1; have d2 := Z2.out.g2; have d3 := Z2.out.g3; have d4 := Z2.out.g4; have d5 := Z2.out.g5; have d6 := Z2.out.g6; have y0 := Z2.out.f 0; have y1 := Z2.out.f 1; have y2 := Z2.out.f 2; have y3 := Z2.out.f 3; have y4 := Z2.out.f 4; have y5 := Z2.out.f 5; have y6 := Z2.out.f 6) | (go_at_call 104; refine (hc.out _ (HP.out.on (by repeat (first | exact Q.refl _ | refine Q.drewN ?_ _ | refine Q.drew ?_ | refine Q.alloc ?_ _ | refine Q.setCell ?_ (by simp) _)))).mono ?_; rintro e w1 ⟨rfl, q1, p1⟩; have Q1 : Hid (Qx p W w1) := hid (Qx.trans (by repeat (first | with_reducible exact Qx.refl _ _ | with_reducible refine Qx.drewN ?_ _ | with_reducible refine Qx.drew ?_ | with_reducible refine Qx.alloc ?_ _ | with_reducible refine Qx.own ?_ _ _ | with_reducible refine Qx.new ?_ (by simp) _ _)) q1); have P1 := hid p1; have Z1 := hid (HZ.out.on q1 (by omega)); have B1 := hid (HB.out.on q1 (by omega)); have hsw : W.heap.size + 1 < w1.heap.size := World.block_lt_of_cell? w1 ⟨W.heap.size + 1, 0, none⟩ B1.out.g0; clear q1 p1; have x1 := P1.out.c1; have z1 := P1.out.f1; have b0 := B1.out.g0; have b1 := B1.out.g1; have b2 := B1.out.g2))
  refine bodyPost_ret (v := .agg #[.int .i64 k, .int .i64 m, .string t, .bool bb, .int .i64 er, .slice a1 l1 c1, .slice a2 l2 c2]) (by simp [results, Tryz.results105, go_sem, e0, e1, e2, e3, e4, e5, e6, n0, n1, n2, n3, n4, n5, n6]) rfl ?_
  have hq : Qx p W _ := (((Q1.out.trans Q2.out).alloc (.cells #[.int .i64 k, .int .i64 m, .string t, .bool bb, .int .i64 er, .slice a1 l1 c1, .slice a2 l2 c2] 26)).trans Q4.out).own 2 (.bool false)
  have PY := P4.out.set2 false
  exact fin7 (s' := r.2.on) k m t bb er a1 l1 c1 a2 l2 c2 hlt hbW hq (Rdg.on ((((Qx.refl p _).alloc _).trans Q4.out).own _ _) (fun b hb => by omega) _ _ (Rdg.mono (fun b hb => by omega) _ _ R2.out)) (by rw [on_bd, HBD.out]; exact PY)
set_option maxHeartbeats 8000000 in
theorem first_paren_no (L : List Wd) (p b off cap : Nat) (s : St) (W : World) (h : PS W p L b off cap s.i s.bd s.n) (hi : s.i < L.length) (hr : L.length ≤ 50000) (hn : s.n ≤ s.i) (hw : isW L s.i [40] = true) (r : Ex × St) (hbd : r.2.bd = false) (hri : r.2.i < L.length) (hw2 : isW L r.2.i [41] = false) (HT : Hid (∀ W1, PS W1 p L b off cap s.on.i s.on.bd s.on.n → Calls Tryz.prog 38 #[.pointer (some ⟨p, 0, none⟩), .int .i64 1] W1 fun e W' => Rep p L b off cap W1 r e W')) :
    Calls Tryz.prog 105 #[.pointer (some ⟨p, 0, none⟩)] W fun e W' => Rep p L b off cap W (r.1, r.2.bad) e W' := by
  have hlt := h.lt
  have hbW := h.blk hi
  obtain ⟨T, q, hT, kw⟩ := h.kw hi
  have HTT := hid hT
  have HK := hid kw
  generalize hkk : (kAt L s.i : Int) = kk at HK
  have hpW : p ≠ W.heap.size := by omega
  have HBD := hid hbd
  clear hbd
  have hc2 := hid (fun W1 (g : PS W1 p L b off cap r.2.i r.2.bd r.2.n) => take_any W1 p L b off cap r.2.i r.2.bd r.2.n ⟨#[41]⟩ g hri)
  rw [show (⟨#[41]⟩ : ByteArray).data.toList = [41] from rfl, hw2] at hc2
  have HP := hid h
  have hroom : (s.i : Int) + 1 ≤ 9223372036854775807 := by omega
  have HZ := hid ((tb_new W (.int .i64 0) (.int .i64 0) (.string ⟨#[]⟩) (.bool false) (.int .i64 0) (.slice none 0 0) (.slice none 0 0) 26).on (((Qx.refl p _).alloc (.cells #[.int .i64 kk, .string T, .int .i64 q] 74)).drew) (by omega))
  have HB := hid ((wb_new (W.alloc (.cells #[.int .i64 0, .int .i64 0, .string ⟨#[]⟩, .bool false, .int .i64 0, .slice none 0 0, .slice none 0 0] 26)) (.int .i64 kk) (.string T) (.int .i64 q) 74).on ((Qx.refl p _).drew) (by simp; omega))
  rw [show (W.alloc (.cells #[.int .i64 0, .int .i64 0, .string ⟨#[]⟩, .bool false, .int .i64 0, .slice none 0 0, .slice none 0 0] 26)).heap.size = W.heap.size + 1 by simp] at HB
  have hc := hid (fun W1 (g : PS W1 p L b off cap s.i s.bd s.n) => take_any W1 p L b off cap s.i s.bd s.n ⟨#[40]⟩ g hi)
  rw [show (⟨#[40]⟩ : ByteArray).data.toList = [40] from rfl, hw] at hc
  clear h kw hT
  go_enter Tryz.func105, Tryz.ntmps105
  go_wp2_with fail
  go_region_held3 (fun V => V.cell? ⟨p, 0, none⟩ = some (.slice (some ⟨b, off, none⟩) L.length cap) ∧ V.cell? ⟨p, 1, none⟩ = some (.int .i64 (s.i : Int)) ∧ V.cell? ⟨b, off + s.i * 3, none⟩ = some (.int .i64 kk) ∧ V.cell? ⟨b, off + s.i * 3 + 1, none⟩ = some (.string T) ∧ V.cell? ⟨b, off + s.i * 3 + 2, none⟩ = some (.int .i64 q)) (exact HK.out.on (by repeat (first | exact Q.refl _ | refine Q.drewN ?_ _ | refine Q.drew ?_ | refine Q.alloc ?_ _ | refine Q.setCell ?_ (by simp) _))) (fail)
  go_wp2_with (first | (go_at_call 104; refine (hc2.out _ PX.out).mono ?_; rintro e w4 ⟨rfl, q4, p4⟩; have Q4 := hid q4; have P4 := hid p4; have X4 := hid ((tb_new w2 (.int .i64 k) (.int .i64 m) (.string t) (.bool bb) (.int .i64 er) (.slice a1 l1 c1) (.slice a2 l2 c2) 26).on q4 (by omega)); have Z4 := hid ((Z2.out.on ((Qx.refl p _).alloc _) (by omega)).on q4 (by omega)); clear q4 p4; have t2 := P4.out.c2; have s2 := P4.out.f2; have e0 := Z4.out.g0; have e1 := Z4.out.g1; have e2 := Z4.out.g2; have e3 := Z4.out.g3; have e4 := Z4.out.g4; have e5 := Z4.out.g5; have e6 := Z4.out.g6; have r0 := Z4.out.f 0; have r1 := Z4.out.f 1; have r2 := Z4.out.f 2; have r3 := Z4.out.f 3; have r4 := Z4.out.f 4; have r5 := Z4.out.f 5; have r6 := Z4.out.f 6; have n0 := X4.out.g0; have n1 := X4.out.g1; have n2 := X4.out.g2; have n3 := X4.out.g3; have n4 := X4.out.g4; have n5 := X4.out.g5; have n6 := X4.out.g6) | (go_at_call 38; refine (HT.out _ P1.out).mono ?_; rintro e w2 ⟨v, rfl, hr2, q2, p2⟩; obtain ⟨k, m, t, bb, er, a1, l1, c1, a2, l2, c2, rfl⟩ := hr2.shape; have R2 := hid hr2; have Q2 := hid q2; have P2 := hid p2; have Z2 := hid (Z1.out.on q2 (by omega)); have hsz : w1.heap.size ≤ w2.heap.size := q2.size; clear hr2 q2 p2; have hp2 : p ≠ w2.heap.size := (by omega); have hW2 : W.heap.size ≠ w2.heap.size := (by omega); have PX := hid (P2.out.on ((Q.refl _).alloc (.cells #[.int .i64 k, .int .i64 m, .string t, .bool bb, .int .i64 er, .slice a1 l1 c1, .slice a2 l2 c2] 26))); have u2 := PX.out.c2; rw [HBD.out] at u2; have v2 := PX.out.f2; have d0 := Z2.out.g0; have d1 := Z2.out.g1; have d2 := Z2.out.g2; have d3 := Z2.out.g3; have d4 := Z2.out.g4; have d5 := Z2.out.g5; have d6 := Z2.out.g6; have y0 := Z2.out.f 0; have y1 := Z2.out.f 1; have y2 := Z2.out.f 2; have y3 := Z2.out.f 3; have y4 := Z2.out.f 4; have y5 := Z2.out.f 5; have y6 := Z2.out.f 6) | (go_at_call 104; refine (hc.out _ (HP.out.on (by repeat (first | exact Q.refl _ | refine Q.drewN ?_ _ | refine Q.drew ?_ | refine Q.alloc ?_ _ | refine Q.setCell ?_ (by simp) _)))).mono ?_; rintro e w1 ⟨rfl, q1, p1⟩; have Q1 : Hid (Qx p W w1) := hid (Qx.trans (by repeat (first | with_reducible exact Qx.refl _ _ | with_reducible refine Qx.drewN ?_ _ | with_reducible refine Qx.drew ?_ | with_reducible refine Qx.alloc ?_ _ | with_reducible refine Qx.own ?_ _ _ | with_reducible refine Qx.new ?_ (by simp) _ _)) q1); have P1 := hid p1; have Z1 := hid (HZ.out.on q1 (by omega)); have B1 := hid (HB.out.on q1 (by omega)); have hsw : W.heap.size + 1 < w1.heap.size := World.block_lt_of_cell? w1 ⟨W.heap.size + 1, 0, none⟩ B1.out.g0; clear q1 p1; have x1 := P1.out.c1; have z1 := P1.out.f1; have b0 := B1.out.g0; have b1 := B1.out.g1; have b2 := B1.out.g2))
  refine bodyPost_ret (v := .agg #[.int .i64 k, .int .i64 m, .string t, .bool bb, .int .i64 er, .slice a1 l1 c1, .slice a2 l2 c2]) (by simp [results, Tryz.results105, go_sem, e0, e1, e2, e3, e4, e5, e6, n0, n1, n2, n3, n4, n5, n6]) rfl ?_
  have hq : Qx p W _ := (((Q1.out.trans Q2.out).alloc (.cells #[.int .i64 k, .int .i64 m, .string t, .bool bb, .int .i64 er, .slice a1 l1 c1, .slice a2 l2 c2] 26)).trans Q4.out).own 2 (.bool true)
  have PY := P4.out.set2 true
  exact fin7 (s' := r.2.bad) k m t bb er a1 l1 c1 a2 l2 c2 hlt hbW hq (Rdg.on ((((Qx.refl p _).alloc _).trans Q4.out).own _ _) (fun b hb => by omega) _ _ (Rdg.mono (fun b hb => by omega) _ _ R2.out)) PY
end Go.Proofs.YtgheopdadfnilaaGreatDoor
