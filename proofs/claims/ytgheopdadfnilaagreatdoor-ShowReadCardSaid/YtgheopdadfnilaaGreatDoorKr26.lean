/- The program's reader: ranges. -/
import Derived.Test.YtgheopdadfnilaaGreatDoorKr25
set_option linter.unusedVariables false
set_option linter.unusedSimpArgs false
set_option maxRecDepth 100000
namespace Go.Proofs.YtgheopdadfnilaaGreatDoor
open Go.RowKit
set_option maxHeartbeats 8000000 in
theorem pref_range (L : List Wd) (p b off cap i : Nat) (W : World) (T : ByteArray) (t : List UInt8) (hT : T.data.toList = t) (h : PT W p L b off cap i) (hi : i < L.length) (hr : L.length ≤ 50000) (hs : Std W) (h5 : 6 ≤ p) (hz : t.length ≤ 1000) (hok : refF t = true) (hE : Ends L) (hz2 : ∀ i, (tAt L i).length ≤ 1000) (hw : isW L i [58] = true) (h3 : kAt L (i + 1) = 3) (hok2 : refF (tAt L (i + 1)) = true) (hsh : (refT (tAt L (i + 1))).1 = []) :
    Calls Tryz.prog 186 #[.pointer (some ⟨p, 0, none⟩), .string T] W fun e W' => RepP p L b off cap W (some (rangeE (refT t) (refT (tAt L (i + 1))), i + 2)) e W' := by
  have hlt := h.lt
  have hbW := h.blk i hi
  have HP := hid h
  have HZ := hid (tb_new W (.int .i64 0) (.int .i64 0) (.string ⟨#[]⟩) (.bool false) (.int .i64 0) (.slice none 0 0) (.slice none 0 0) 26)
  obtain ⟨S, row, col, ra, ca, hS, hA⟩ := ref_parts T.data.toList
  have HRf := hid (fun W1 (g : Std W1) => parse_any T W1 g (by rw [← hT] at hz; simp at hz; omega))
  rw [hA, hT, hok] at HRf
  have HS := hid hS
  have HTT := hid hT
  have HSt := hid hs
  clear hA hS hs hok
  have hc := hid (fun W1 (g : PT W1 p L b off cap i) => ptake_any W1 p L b off cap i ⟨#[58]⟩ g hi hr (by simp))
  rw [show (⟨#[58]⟩ : ByteArray).data.toList = [58] from rfl, hw] at hc
  obtain ⟨j, hj⟩ : ∃ j, j = i + 1 := ⟨_, rfl⟩
  have hij : j < L.length := by rw [hj]; exact hE.sign hw
  obtain ⟨T2, hT2, lT2⟩ : ∃ T2 : ByteArray, T2 = ⟨(tAt L j).toArray⟩ ∧ T2.data.toList = tAt L j := ⟨_, rfl, rfl⟩
  have HWd := hid (fun W1 (g : PT W1 p L b off cap j) => word_any W1 p L.length b off cap j _ _ _ (g.kw hij) hij hr)
  rw [← hT2] at HWd
  generalize ((L.getD j ⟨7, [], 0⟩).p : Int) = q at HWd
  have F0 : ∀ (k : Int) (w : World), (Instr.field 141 (.agg #[.int .i64 k, .string T2, .int .i64 q]) 0).run Tryz.prog w = .ok (.int .i64 k) w := fun k w => fd0 _ _ _ w
  have F1 : ∀ (k : Int) (w : World), (Instr.field 141 (.agg #[.int .i64 k, .string T2, .int .i64 q]) 1).run Tryz.prog w = .ok (.string T2) w := fun k w => fd1 _ _ _ w
  have HJ := hid hj
  have HT2 := hid lT2
  rw [← hj] at h3
  obtain ⟨S', row', col', ra', ca', hS', hA'⟩ := ref_parts T2.data.toList
  have HRf2 := hid (fun W1 (g : Std W1) => parse_any T2 W1 g (by have := hz2 j; rw [← lT2] at this; simp at this; omega))
  rw [hA', lT2] at HRf2
  rw [h3] at HWd
  have HS' := hid hS'
  rw [← hj] at hok2 hsh ⊢
  rw [hok2] at HRf2
  have e9 : (S'.toList == []) = true := by rw [toL]; rw [lT2] at hS'; rw [hS'] at hsh; rw [show S'.data.toList = [] from hsh]; rfl
  clear hsh
  clear hj hT2 lT2 h3 hok2 hS' hA' hz2
  clear h hT hz
  go_enter Tryz.func186, Tryz.ntmps186
  go_upto_region 8 with (first | (go_at_call 196; refine (HRf2.out _ ((HSt.out.onx QW2.out h5).on Q4.out)).mono ?_; rintro e w5 ⟨rfl, q5⟩; have Q5 : Hid (Q w2 w5) := hid (Q4.out.trans q5); have hs5 : w2.heap.size ≤ w5.heap.size := Q5.out.size; have hp5 : p ≠ w5.heap.size := (by omega); have P5 := hid ((P4.out.on q5).on ((Q.refl _).alloc (.cells #[.string S', .int .i64 row', .int .i64 col', .bool ra', .bool ca'] 63))); clear q5; have c15 := P5.out.c1; have f15 := P5.out.f1) | (go_at_call 109; refine (HWd.out _ P3.out).mono ?_; rintro e w4 ⟨rfl, q4⟩; have Q4 : Hid (Q w2 w4) := hid (Q3.out.trans q4); have P4 := hid (P3.out.on q4); clear q4) | (go_at_call 109; refine (HWd.out _ P2.out).mono ?_; rintro e w3 ⟨rfl, q3⟩; have Q3 := hid q3; have P3 := hid (P2.out.on q3); clear q3) | (go_at_call 196; refine (HRf.out _ (HSt.out.on (by repeat (first | with_reducible exact Q.refl _ | with_reducible refine Q.drewN ?_ _ | with_reducible refine Q.drew ?_ | with_reducible refine Q.alloc ?_ _ | with_reducible refine Q.setCell ?_ (by simp) _)))).mono ?_; rintro e w1 ⟨rfl, q1⟩; have Q1 : Hid (Q W w1) := hid (Q.trans (by repeat (first | with_reducible exact Q.refl _ | with_reducible refine Q.drewN ?_ _ | with_reducible refine Q.drew ?_ | with_reducible refine Q.alloc ?_ _ | with_reducible refine Q.setCell ?_ (by simp) _)) q1); have hs1 : W.heap.size < w1.heap.size := (by have := q1.size; simp at this; omega); have P1 := hid ((HP.out.on Q1.out).on ((Q.refl _).alloc (.cells #[.string S, .int .i64 row, .int .i64 col, .bool ra, .bool ca] 63))); have Z1 := hid (HZ.out.on (Qx.of (p := p) q1) (by omega)); clear q1) | (go_at_call 166; refine (hc.out _ P1.out).mono ?_; rintro e w2 ⟨rfl, q2, p2⟩; have Q2 := hid q2; have P2 : Hid (PT w2 p L b off cap j) := hid (by rw [HJ.out]; exact p2); have A2 := hid ((r5_new w1 S row col ra ca 63).on q2 (by omega)); have hs2 : w1.heap.size + 1 ≤ w2.heap.size := (by simpa using q2.size); have QW2 : Hid (Qx p W w2) := hid (((Qx.of Q1.out).alloc _).trans q2); have Z2 := hid ((Z1.out.on ((Qx.refl p _).alloc _) (by omega)).on q2 (by omega)); clear q2 p2))
  obtain ⟨Vq, hV, PV, ZV, AV, BV, QV⟩ : ∃ Vq, Vq = (w5.alloc (.cells #[.string S', .int .i64 row', .int .i64 col', .bool ra', .bool ca'] 63)).setCell ⟨p, 1, none⟩ (.int .i64 ((j : Int) + 1)) ∧ PT Vq p L b off cap (j + 1) ∧ Tb Vq W.heap.size (.int .i64 0) (.int .i64 0) (.string ⟨#[]⟩) (.bool false) (.int .i64 0) (.slice none 0 0) (.slice none 0 0) ∧ R5 Vq w1.heap.size 0 S row col ra ca ∧ R5 Vq w5.heap.size 0 S' row' col' ra' ca' ∧ Qx p W Vq :=
    ⟨_, rfl, P5.out.set1 (j + 1) _ (by omega), ((Z2.out.on (Qx.of (p := p) Q5.out) (by omega)).on ((Qx.refl p _).alloc _) (by omega)).on ((Qx.refl p _).own _ _) (by omega), ((A2.out.on (Qx.of (p := p) Q5.out) (by omega)).on ((Qx.refl p _).alloc _) (by omega)).on ((Qx.refl p _).own _ _) (by omega), (r5_new _ _ _ _ _ _ _).on ((Qx.refl p _).own _ _) (by omega), ((QW2.out.trans (Qx.of Q5.out)).alloc _).own _ _⟩
  rw [← hV]
  have PVh := hid PV
  have ZVh := hid ZV
  have AVh := hid AV
  have BVh := hid BV
  have QVh := hid QV
  have hsv : w5.heap.size < Vq.heap.size := World.block_lt_of_cell? Vq ⟨w5.heap.size, 0, none⟩ BV.g0
  have hWv : W.heap.size ≠ Vq.heap.size := by omega
  have hWv2 : W.heap.size < Vq.heap.size := by omega
  have ZA := hid (ZV.on ((Qx.refl p _).alloc (.cells #[.string S, .int .i64 row, .int .i64 col, .bool ra, .bool ca, .string S', .int .i64 row', .int .i64 col', .bool ra', .bool ca'] 63)) (by omega))
  have g0 := ZV.g0
  have g1 := ZV.g1
  have g2 := ZV.g2
  have g3 := ZV.g3
  have g4 := ZV.g4
  have g5 := ZV.g5
  have g6 := ZV.g6
  have x0 := ZV.f 0
  have x1 := ZV.f 1
  have x2 := ZV.f 2
  have x3 := ZV.f 3
  have x4 := ZV.f 4
  have x5 := ZV.f 5
  have x6 := ZV.f 6
  have m0 := AV.g0
  have m1 := AV.g1
  have m2 := AV.g2
  have m3 := AV.g3
  have m4 := AV.g4
  have n0 := BV.g0
  have n1 := BV.g1
  have n2 := BV.g2
  have n3 := BV.g3
  have n4 := BV.g4
  simp only [Nat.zero_add] at m1 m2 m3 m4 n1 n2 n3 n4
  clear hV PV ZV AV BV QV c15 f15
  go_region
  obtain ⟨Vn, hVn, TVn, QVn, AB, PN⟩ : ∃ Vn, Vn = ((((((((Vq.setCell ⟨W.heap.size, 0, none⟩ (.int .i64 6)).setCell ⟨W.heap.size, 1, none⟩ (.int .i64 0)).setCell ⟨W.heap.size, 2, none⟩ (.string ⟨#[]⟩)).setCell ⟨W.heap.size, 3, none⟩ (.bool false)).setCell ⟨W.heap.size, 4, none⟩ (.int .i64 0)).setCell ⟨W.heap.size, 5, none⟩ (.slice (some ⟨Vq.heap.size, 0, none⟩) 2 2)).setCell ⟨W.heap.size, 6, none⟩ (.slice none 0 0)).alloc (.cells #[.string S, .int .i64 row, .int .i64 col, .bool ra, .bool ca, .string S', .int .i64 row', .int .i64 col', .bool ra', .bool ca'] 63)).drew ∧ Tb Vn W.heap.size (.int .i64 6) (.int .i64 0) (.string ⟨#[]⟩) (.bool false) (.int .i64 0) (.slice (some ⟨Vq.heap.size, 0, none⟩) 2 2) (.slice none 0 0) ∧ Qx p W Vn ∧ (R5 Vn Vq.heap.size 0 S row col ra ca ∧ R5 Vn Vq.heap.size 5 S' row' col' ra' ca') ∧ PT Vn p L b off cap (j + 1) := by
    have hle : W.heap.size ≤ W.heap.size := Nat.le_refl _
    have hq := QVh.out
    have QF : Qx W.heap.size Vq (((((((Vq.setCell ⟨W.heap.size, 0, none⟩ (.int .i64 6)).setCell ⟨W.heap.size, 1, none⟩ (.int .i64 0)).setCell ⟨W.heap.size, 2, none⟩ (.string ⟨#[]⟩)).setCell ⟨W.heap.size, 3, none⟩ (.bool false)).setCell ⟨W.heap.size, 4, none⟩ (.int .i64 0)).setCell ⟨W.heap.size, 5, none⟩ (.slice (some ⟨Vq.heap.size, 0, none⟩) 2 2)).setCell ⟨W.heap.size, 6, none⟩ (.slice none 0 0)) := (((((((Qx.refl _ _).own _ _).own _ _).own _ _).own _ _).own _ _).own _ _).own _ _
    have zS : (((((((Vq.setCell ⟨W.heap.size, 0, none⟩ (.int .i64 6)).setCell ⟨W.heap.size, 1, none⟩ (.int .i64 0)).setCell ⟨W.heap.size, 2, none⟩ (.string ⟨#[]⟩)).setCell ⟨W.heap.size, 3, none⟩ (.bool false)).setCell ⟨W.heap.size, 4, none⟩ (.int .i64 0)).setCell ⟨W.heap.size, 5, none⟩ (.slice (some ⟨Vq.heap.size, 0, none⟩) 2 2)).setCell ⟨W.heap.size, 6, none⟩ (.slice none 0 0)).heap.size = Vq.heap.size := by simp [World.setCell]
    have r2 := r5_two (((((((Vq.setCell ⟨W.heap.size, 0, none⟩ (.int .i64 6)).setCell ⟨W.heap.size, 1, none⟩ (.int .i64 0)).setCell ⟨W.heap.size, 2, none⟩ (.string ⟨#[]⟩)).setCell ⟨W.heap.size, 3, none⟩ (.bool false)).setCell ⟨W.heap.size, 4, none⟩ (.int .i64 0)).setCell ⟨W.heap.size, 5, none⟩ (.slice (some ⟨Vq.heap.size, 0, none⟩) 2 2)).setCell ⟨W.heap.size, 6, none⟩ (.slice none 0 0)) S row col ra ca S' row' col' ra' ca' 63
    rw [zS] at r2
    exact ⟨_, rfl, ((ZVh.out.put _ _ _ _ _ _ _).on ((Qx.refl p _).alloc _) (by omega)).on ((Qx.refl p _).drew) (by omega), ((((((((hq.new hle _ _).new hle _ _).new hle _ _).new hle _ _).new hle _ _).new hle _ _).new hle _ _).alloc _).drew, ⟨r2.1.on ((Qx.refl p _).drew) (by omega), r2.2.on ((Qx.refl p _).drew) (by omega)⟩, ((PVh.out.onx QF (by omega) (by omega) (by have := PVh.out.p5; omega)).on ((Q.refl _).alloc _)).on ((Q.refl _).drew)⟩
  rw [← hVn]
  have TVh := hid TVn
  have ABh := hid AB
  have PNh := hid PN
  clear hVn g0 x0 g1 x1 g2 x2 g3 x3 g4 x4 g5 x5 g6 x6 TVn AB PN m0 m1 m2 m3 m4 n0 n1 n2 n3 n4
  have g0 := TVh.out.g0
  have g1 := TVh.out.g1
  have g2 := TVh.out.g2
  have g3 := TVh.out.g3
  have g4 := TVh.out.g4
  have g5 := TVh.out.g5
  have g6 := TVh.out.g6
  go_wp2_with fail
  refine bodyPost_ret (v := .tuple #[.agg #[.int .i64 6, .int .i64 0, .string ⟨#[]⟩, .bool false, .int .i64 0, .slice (some ⟨Vq.heap.size, 0, none⟩) 2 2, .slice none 0 0], .bool true]) (by simp [results, Tryz.results186, go_sem, g0, g1, g2, g3, g4, g5, g6]) rfl ?_
  rw [show rangeE (refT t) (refT (tAt L j)) = rangeE (S.data.toList, row, col, ra, ca) (S'.data.toList, row', col', ra', ca') by rw [← HTT.out, ← HT2.out, HS.out, HS'.out], show i + 2 = j + 1 by have := HJ.out; omega]
  refine ⟨6, 0, ⟨#[]⟩, false, 0, some ⟨Vq.heap.size, 0, none⟩, 2, 2, none, 0, 0, rfl, QVn, fun x j' e => ?_⟩
  cases e
  exact ⟨rdg_range (show _ ≤ _ by omega) ABh.out.1 ABh.out.2, PNh.out⟩
set_option maxHeartbeats 8000000 in
theorem pref_none (L : List Wd) (p b off cap i : Nat) (W : World) (T : ByteArray) (t : List UInt8) (hT : T.data.toList = t) (h : PT W p L b off cap i) (hi : i < L.length) (hr : L.length ≤ 50000) (hs : Std W) (h5 : 6 ≤ p) (hz : t.length ≤ 1000) (hok : refF t = true) (hE : Ends L) (hz2 : ∀ i, (tAt L i).length ≤ 1000) (hw : isW L i [58] = true) (h3 : kAt L (i + 1) = 3) (hok2 : refF (tAt L (i + 1)) = false) :
    Calls Tryz.prog 186 #[.pointer (some ⟨p, 0, none⟩), .string T] W fun e W' => RepP p L b off cap W none e W' := by
  have hlt := h.lt
  have hbW := h.blk i hi
  have HP := hid h
  have HZ := hid (tb_new W (.int .i64 0) (.int .i64 0) (.string ⟨#[]⟩) (.bool false) (.int .i64 0) (.slice none 0 0) (.slice none 0 0) 26)
  obtain ⟨S, row, col, ra, ca, hS, hA⟩ := ref_parts T.data.toList
  have HRf := hid (fun W1 (g : Std W1) => parse_any T W1 g (by rw [← hT] at hz; simp at hz; omega))
  rw [hA, hT, hok] at HRf
  have HS := hid hS
  have HTT := hid hT
  have HSt := hid hs
  clear hA hS hs hok
  have hc := hid (fun W1 (g : PT W1 p L b off cap i) => ptake_any W1 p L b off cap i ⟨#[58]⟩ g hi hr (by simp))
  rw [show (⟨#[58]⟩ : ByteArray).data.toList = [58] from rfl, hw] at hc
  obtain ⟨j, hj⟩ : ∃ j, j = i + 1 := ⟨_, rfl⟩
  have hij : j < L.length := by rw [hj]; exact hE.sign hw
  obtain ⟨T2, hT2, lT2⟩ : ∃ T2 : ByteArray, T2 = ⟨(tAt L j).toArray⟩ ∧ T2.data.toList = tAt L j := ⟨_, rfl, rfl⟩
  have HWd := hid (fun W1 (g : PT W1 p L b off cap j) => word_any W1 p L.length b off cap j _ _ _ (g.kw hij) hij hr)
  rw [← hT2] at HWd
  generalize ((L.getD j ⟨7, [], 0⟩).p : Int) = q at HWd
  have F0 : ∀ (k : Int) (w : World), (Instr.field 141 (.agg #[.int .i64 k, .string T2, .int .i64 q]) 0).run Tryz.prog w = .ok (.int .i64 k) w := fun k w => fd0 _ _ _ w
  have F1 : ∀ (k : Int) (w : World), (Instr.field 141 (.agg #[.int .i64 k, .string T2, .int .i64 q]) 1).run Tryz.prog w = .ok (.string T2) w := fun k w => fd1 _ _ _ w
  have HJ := hid hj
  have HT2 := hid lT2
  rw [← hj] at h3
  obtain ⟨S', row', col', ra', ca', hS', hA'⟩ := ref_parts T2.data.toList
  have HRf2 := hid (fun W1 (g : Std W1) => parse_any T2 W1 g (by have := hz2 j; rw [← lT2] at this; simp at this; omega))
  rw [hA', lT2] at HRf2
  rw [h3] at HWd
  have HS' := hid hS'
  rw [← hj] at hok2
  rw [hok2] at HRf2
  clear hj hT2 lT2 h3 hok2 hS' hA' hz2
  clear h hT hz
  go_enter Tryz.func186, Tryz.ntmps186
  go_upto_region 8 with (first | (go_at_call 196; refine (HRf2.out _ ((HSt.out.onx QW2.out h5).on Q4.out)).mono ?_; rintro e w5 ⟨rfl, q5⟩; have Q5 : Hid (Q w2 w5) := hid (Q4.out.trans q5); have hs5 : w2.heap.size ≤ w5.heap.size := Q5.out.size; have hp5 : p ≠ w5.heap.size := (by omega); have P5 := hid ((P4.out.on q5).on ((Q.refl _).alloc (.cells #[.string S', .int .i64 row', .int .i64 col', .bool ra', .bool ca'] 63))); clear q5; have c15 := P5.out.c1; have f15 := P5.out.f1) | (go_at_call 109; refine (HWd.out _ P3.out).mono ?_; rintro e w4 ⟨rfl, q4⟩; have Q4 : Hid (Q w2 w4) := hid (Q3.out.trans q4); have P4 := hid (P3.out.on q4); clear q4) | (go_at_call 109; refine (HWd.out _ P2.out).mono ?_; rintro e w3 ⟨rfl, q3⟩; have Q3 := hid q3; have P3 := hid (P2.out.on q3); clear q3) | (go_at_call 196; refine (HRf.out _ (HSt.out.on (by repeat (first | with_reducible exact Q.refl _ | with_reducible refine Q.drewN ?_ _ | with_reducible refine Q.drew ?_ | with_reducible refine Q.alloc ?_ _ | with_reducible refine Q.setCell ?_ (by simp) _)))).mono ?_; rintro e w1 ⟨rfl, q1⟩; have Q1 : Hid (Q W w1) := hid (Q.trans (by repeat (first | with_reducible exact Q.refl _ | with_reducible refine Q.drewN ?_ _ | with_reducible refine Q.drew ?_ | with_reducible refine Q.alloc ?_ _ | with_reducible refine Q.setCell ?_ (by simp) _)) q1); have hs1 : W.heap.size < w1.heap.size := (by have := q1.size; simp at this; omega); have P1 := hid ((HP.out.on Q1.out).on ((Q.refl _).alloc (.cells #[.string S, .int .i64 row, .int .i64 col, .bool ra, .bool ca] 63))); have Z1 := hid (HZ.out.on (Qx.of (p := p) q1) (by omega)); clear q1) | (go_at_call 166; refine (hc.out _ P1.out).mono ?_; rintro e w2 ⟨rfl, q2, p2⟩; have Q2 := hid q2; have P2 : Hid (PT w2 p L b off cap j) := hid (by rw [HJ.out]; exact p2); have A2 := hid ((r5_new w1 S row col ra ca 63).on q2 (by omega)); have hs2 : w1.heap.size + 1 ≤ w2.heap.size := (by simpa using q2.size); have QW2 : Hid (Qx p W w2) := hid (((Qx.of Q1.out).alloc _).trans q2); have Z2 := hid ((Z1.out.on ((Qx.refl p _).alloc _) (by omega)).on q2 (by omega)); clear q2 p2))
  obtain ⟨Vq, hV, PV, ZV, AV, BV, QV⟩ : ∃ Vq, Vq = (w5.alloc (.cells #[.string S', .int .i64 row', .int .i64 col', .bool ra', .bool ca'] 63)).setCell ⟨p, 1, none⟩ (.int .i64 ((j : Int) + 1)) ∧ PT Vq p L b off cap (j + 1) ∧ Tb Vq W.heap.size (.int .i64 0) (.int .i64 0) (.string ⟨#[]⟩) (.bool false) (.int .i64 0) (.slice none 0 0) (.slice none 0 0) ∧ R5 Vq w1.heap.size 0 S row col ra ca ∧ R5 Vq w5.heap.size 0 S' row' col' ra' ca' ∧ Qx p W Vq :=
    ⟨_, rfl, P5.out.set1 (j + 1) _ (by omega), ((Z2.out.on (Qx.of (p := p) Q5.out) (by omega)).on ((Qx.refl p _).alloc _) (by omega)).on ((Qx.refl p _).own _ _) (by omega), ((A2.out.on (Qx.of (p := p) Q5.out) (by omega)).on ((Qx.refl p _).alloc _) (by omega)).on ((Qx.refl p _).own _ _) (by omega), (r5_new _ _ _ _ _ _ _).on ((Qx.refl p _).own _ _) (by omega), ((QW2.out.trans (Qx.of Q5.out)).alloc _).own _ _⟩
  rw [← hV]
  have PVh := hid PV
  have ZVh := hid ZV
  have AVh := hid AV
  have BVh := hid BV
  have QVh := hid QV
  have hsv : w5.heap.size < Vq.heap.size := World.block_lt_of_cell? Vq ⟨w5.heap.size, 0, none⟩ BV.g0
  have hWv : W.heap.size ≠ Vq.heap.size := by omega
  have hWv2 : W.heap.size < Vq.heap.size := by omega
  have ZA := hid (ZV.on ((Qx.refl p _).alloc (.cells #[.string S, .int .i64 row, .int .i64 col, .bool ra, .bool ca, .string S', .int .i64 row', .int .i64 col', .bool ra', .bool ca'] 63)) (by omega))
  have g0 := ZV.g0
  have g1 := ZV.g1
  have g2 := ZV.g2
  have g3 := ZV.g3
  have g4 := ZV.g4
  have g5 := ZV.g5
  have g6 := ZV.g6
  have x0 := ZV.f 0
  have x1 := ZV.f 1
  have x2 := ZV.f 2
  have x3 := ZV.f 3
  have x4 := ZV.f 4
  have x5 := ZV.f 5
  have x6 := ZV.f 6
  have m0 := AV.g0
  have m1 := AV.g1
  have m2 := AV.g2
  have m3 := AV.g3
  have m4 := AV.g4
  have n0 := BV.g0
  have n1 := BV.g1
  have n2 := BV.g2
  have n3 := BV.g3
  have n4 := BV.g4
  simp only [Nat.zero_add] at m1 m2 m3 m4 n1 n2 n3 n4
  clear hV PV ZV AV BV QV c15 f15
  go_region
  obtain ⟨Vn, hVn, TVn, QVn, AB, PN⟩ : ∃ Vn, Vn = ((((((((Vq.setCell ⟨W.heap.size, 0, none⟩ (.int .i64 6)).setCell ⟨W.heap.size, 1, none⟩ (.int .i64 0)).setCell ⟨W.heap.size, 2, none⟩ (.string ⟨#[]⟩)).setCell ⟨W.heap.size, 3, none⟩ (.bool false)).setCell ⟨W.heap.size, 4, none⟩ (.int .i64 0)).setCell ⟨W.heap.size, 5, none⟩ (.slice (some ⟨Vq.heap.size, 0, none⟩) 2 2)).setCell ⟨W.heap.size, 6, none⟩ (.slice none 0 0)).alloc (.cells #[.string S, .int .i64 row, .int .i64 col, .bool ra, .bool ca, .string S', .int .i64 row', .int .i64 col', .bool ra', .bool ca'] 63)).drew ∧ Tb Vn W.heap.size (.int .i64 6) (.int .i64 0) (.string ⟨#[]⟩) (.bool false) (.int .i64 0) (.slice (some ⟨Vq.heap.size, 0, none⟩) 2 2) (.slice none 0 0) ∧ Qx p W Vn ∧ (R5 Vn Vq.heap.size 0 S row col ra ca ∧ R5 Vn Vq.heap.size 5 S' row' col' ra' ca') ∧ PT Vn p L b off cap (j + 1) := by
    have hle : W.heap.size ≤ W.heap.size := Nat.le_refl _
    have hq := QVh.out
    have QF : Qx W.heap.size Vq (((((((Vq.setCell ⟨W.heap.size, 0, none⟩ (.int .i64 6)).setCell ⟨W.heap.size, 1, none⟩ (.int .i64 0)).setCell ⟨W.heap.size, 2, none⟩ (.string ⟨#[]⟩)).setCell ⟨W.heap.size, 3, none⟩ (.bool false)).setCell ⟨W.heap.size, 4, none⟩ (.int .i64 0)).setCell ⟨W.heap.size, 5, none⟩ (.slice (some ⟨Vq.heap.size, 0, none⟩) 2 2)).setCell ⟨W.heap.size, 6, none⟩ (.slice none 0 0)) := (((((((Qx.refl _ _).own _ _).own _ _).own _ _).own _ _).own _ _).own _ _).own _ _
    have zS : (((((((Vq.setCell ⟨W.heap.size, 0, none⟩ (.int .i64 6)).setCell ⟨W.heap.size, 1, none⟩ (.int .i64 0)).setCell ⟨W.heap.size, 2, none⟩ (.string ⟨#[]⟩)).setCell ⟨W.heap.size, 3, none⟩ (.bool false)).setCell ⟨W.heap.size, 4, none⟩ (.int .i64 0)).setCell ⟨W.heap.size, 5, none⟩ (.slice (some ⟨Vq.heap.size, 0, none⟩) 2 2)).setCell ⟨W.heap.size, 6, none⟩ (.slice none 0 0)).heap.size = Vq.heap.size := by simp [World.setCell]
    have r2 := r5_two (((((((Vq.setCell ⟨W.heap.size, 0, none⟩ (.int .i64 6)).setCell ⟨W.heap.size, 1, none⟩ (.int .i64 0)).setCell ⟨W.heap.size, 2, none⟩ (.string ⟨#[]⟩)).setCell ⟨W.heap.size, 3, none⟩ (.bool false)).setCell ⟨W.heap.size, 4, none⟩ (.int .i64 0)).setCell ⟨W.heap.size, 5, none⟩ (.slice (some ⟨Vq.heap.size, 0, none⟩) 2 2)).setCell ⟨W.heap.size, 6, none⟩ (.slice none 0 0)) S row col ra ca S' row' col' ra' ca' 63
    rw [zS] at r2
    exact ⟨_, rfl, ((ZVh.out.put _ _ _ _ _ _ _).on ((Qx.refl p _).alloc _) (by omega)).on ((Qx.refl p _).drew) (by omega), ((((((((hq.new hle _ _).new hle _ _).new hle _ _).new hle _ _).new hle _ _).new hle _ _).new hle _ _).alloc _).drew, ⟨r2.1.on ((Qx.refl p _).drew) (by omega), r2.2.on ((Qx.refl p _).drew) (by omega)⟩, ((PVh.out.onx QF (by omega) (by omega) (by have := PVh.out.p5; omega)).on ((Q.refl _).alloc _)).on ((Q.refl _).drew)⟩
  rw [← hVn]
  have TVh := hid TVn
  have ABh := hid AB
  have PNh := hid PN
  clear hVn g0 x0 g1 x1 g2 x2 g3 x3 g4 x4 g5 x5 g6 x6 TVn AB PN m0 m1 m2 m3 m4 n0 n1 n2 n3 n4
  have g0 := TVh.out.g0
  have g1 := TVh.out.g1
  have g2 := TVh.out.g2
  have g3 := TVh.out.g3
  have g4 := TVh.out.g4
  have g5 := TVh.out.g5
  have g6 := TVh.out.g6
  go_wp2_with fail
  refine bodyPost_ret (v := .tuple #[.agg #[.int .i64 6, .int .i64 0, .string ⟨#[]⟩, .bool false, .int .i64 0, .slice (some ⟨Vq.heap.size, 0, none⟩) 2 2, .slice none 0 0], .bool false]) (by simp [results, Tryz.results186, go_sem, g0, g1, g2, g3, g4, g5, g6]) rfl ?_
  exact ⟨6, 0, ⟨#[]⟩, false, 0, some ⟨Vq.heap.size, 0, none⟩, 2, 2, none, 0, 0, rfl, QVn, fun x j' e => by cases e⟩
set_option maxHeartbeats 8000000 in
theorem pref_sheet (L : List Wd) (p b off cap i : Nat) (W : World) (T : ByteArray) (t : List UInt8) (hT : T.data.toList = t) (h : PT W p L b off cap i) (hi : i < L.length) (hr : L.length ≤ 50000) (hs : Std W) (h5 : 6 ≤ p) (hz : t.length ≤ 1000) (hok : refF t = true) (hE : Ends L) (hz2 : ∀ i, (tAt L i).length ≤ 1000) (hw : isW L i [58] = true) (h3 : kAt L (i + 1) = 3) (hok2 : refF (tAt L (i + 1)) = true) (hsh : (refT (tAt L (i + 1))).1 ≠ []) :
    Calls Tryz.prog 186 #[.pointer (some ⟨p, 0, none⟩), .string T] W fun e W' => RepP p L b off cap W none e W' := by
  have hlt := h.lt
  have hbW := h.blk i hi
  have HP := hid h
  have HZ := hid (tb_new W (.int .i64 0) (.int .i64 0) (.string ⟨#[]⟩) (.bool false) (.int .i64 0) (.slice none 0 0) (.slice none 0 0) 26)
  obtain ⟨S, row, col, ra, ca, hS, hA⟩ := ref_parts T.data.toList
  have HRf := hid (fun W1 (g : Std W1) => parse_any T W1 g (by rw [← hT] at hz; simp at hz; omega))
  rw [hA, hT, hok] at HRf
  have HS := hid hS
  have HTT := hid hT
  have HSt := hid hs
  clear hA hS hs hok
  have hc := hid (fun W1 (g : PT W1 p L b off cap i) => ptake_any W1 p L b off cap i ⟨#[58]⟩ g hi hr (by simp))
  rw [show (⟨#[58]⟩ : ByteArray).data.toList = [58] from rfl, hw] at hc
  obtain ⟨j, hj⟩ : ∃ j, j = i + 1 := ⟨_, rfl⟩
  have hij : j < L.length := by rw [hj]; exact hE.sign hw
  obtain ⟨T2, hT2, lT2⟩ : ∃ T2 : ByteArray, T2 = ⟨(tAt L j).toArray⟩ ∧ T2.data.toList = tAt L j := ⟨_, rfl, rfl⟩
  have HWd := hid (fun W1 (g : PT W1 p L b off cap j) => word_any W1 p L.length b off cap j _ _ _ (g.kw hij) hij hr)
  rw [← hT2] at HWd
  generalize ((L.getD j ⟨7, [], 0⟩).p : Int) = q at HWd
  have F0 : ∀ (k : Int) (w : World), (Instr.field 141 (.agg #[.int .i64 k, .string T2, .int .i64 q]) 0).run Tryz.prog w = .ok (.int .i64 k) w := fun k w => fd0 _ _ _ w
  have F1 : ∀ (k : Int) (w : World), (Instr.field 141 (.agg #[.int .i64 k, .string T2, .int .i64 q]) 1).run Tryz.prog w = .ok (.string T2) w := fun k w => fd1 _ _ _ w
  have HJ := hid hj
  have HT2 := hid lT2
  rw [← hj] at h3
  obtain ⟨S', row', col', ra', ca', hS', hA'⟩ := ref_parts T2.data.toList
  have HRf2 := hid (fun W1 (g : Std W1) => parse_any T2 W1 g (by have := hz2 j; rw [← lT2] at this; simp at this; omega))
  rw [hA', lT2] at HRf2
  rw [h3] at HWd
  have HS' := hid hS'
  rw [← hj] at hok2 hsh
  rw [hok2] at HRf2
  have e9 : (S'.toList == []) = false := by rw [toL]; rw [lT2] at hS'; rw [hS'] at hsh; rw [beq_eq_false_iff_ne]; exact hsh
  clear hsh
  clear hj hT2 lT2 h3 hok2 hS' hA' hz2
  clear h hT hz
  go_enter Tryz.func186, Tryz.ntmps186
  go_upto_region 8 with (first | (go_at_call 196; refine (HRf2.out _ ((HSt.out.onx QW2.out h5).on Q4.out)).mono ?_; rintro e w5 ⟨rfl, q5⟩; have Q5 : Hid (Q w2 w5) := hid (Q4.out.trans q5); have hs5 : w2.heap.size ≤ w5.heap.size := Q5.out.size; have hp5 : p ≠ w5.heap.size := (by omega); have P5 := hid ((P4.out.on q5).on ((Q.refl _).alloc (.cells #[.string S', .int .i64 row', .int .i64 col', .bool ra', .bool ca'] 63))); clear q5; have c15 := P5.out.c1; have f15 := P5.out.f1) | (go_at_call 109; refine (HWd.out _ P3.out).mono ?_; rintro e w4 ⟨rfl, q4⟩; have Q4 : Hid (Q w2 w4) := hid (Q3.out.trans q4); have P4 := hid (P3.out.on q4); clear q4) | (go_at_call 109; refine (HWd.out _ P2.out).mono ?_; rintro e w3 ⟨rfl, q3⟩; have Q3 := hid q3; have P3 := hid (P2.out.on q3); clear q3) | (go_at_call 196; refine (HRf.out _ (HSt.out.on (by repeat (first | with_reducible exact Q.refl _ | with_reducible refine Q.drewN ?_ _ | with_reducible refine Q.drew ?_ | with_reducible refine Q.alloc ?_ _ | with_reducible refine Q.setCell ?_ (by simp) _)))).mono ?_; rintro e w1 ⟨rfl, q1⟩; have Q1 : Hid (Q W w1) := hid (Q.trans (by repeat (first | with_reducible exact Q.refl _ | with_reducible refine Q.drewN ?_ _ | with_reducible refine Q.drew ?_ | with_reducible refine Q.alloc ?_ _ | with_reducible refine Q.setCell ?_ (by simp) _)) q1); have hs1 : W.heap.size < w1.heap.size := (by have := q1.size; simp at this; omega); have P1 := hid ((HP.out.on Q1.out).on ((Q.refl _).alloc (.cells #[.string S, .int .i64 row, .int .i64 col, .bool ra, .bool ca] 63))); have Z1 := hid (HZ.out.on (Qx.of (p := p) q1) (by omega)); clear q1) | (go_at_call 166; refine (hc.out _ P1.out).mono ?_; rintro e w2 ⟨rfl, q2, p2⟩; have Q2 := hid q2; have P2 : Hid (PT w2 p L b off cap j) := hid (by rw [HJ.out]; exact p2); have A2 := hid ((r5_new w1 S row col ra ca 63).on q2 (by omega)); have hs2 : w1.heap.size + 1 ≤ w2.heap.size := (by simpa using q2.size); have QW2 : Hid (Qx p W w2) := hid (((Qx.of Q1.out).alloc _).trans q2); have Z2 := hid ((Z1.out.on ((Qx.refl p _).alloc _) (by omega)).on q2 (by omega)); clear q2 p2))
  obtain ⟨Vq, hV, PV, ZV, AV, BV, QV⟩ : ∃ Vq, Vq = (w5.alloc (.cells #[.string S', .int .i64 row', .int .i64 col', .bool ra', .bool ca'] 63)).setCell ⟨p, 1, none⟩ (.int .i64 ((j : Int) + 1)) ∧ PT Vq p L b off cap (j + 1) ∧ Tb Vq W.heap.size (.int .i64 0) (.int .i64 0) (.string ⟨#[]⟩) (.bool false) (.int .i64 0) (.slice none 0 0) (.slice none 0 0) ∧ R5 Vq w1.heap.size 0 S row col ra ca ∧ R5 Vq w5.heap.size 0 S' row' col' ra' ca' ∧ Qx p W Vq :=
    ⟨_, rfl, P5.out.set1 (j + 1) _ (by omega), ((Z2.out.on (Qx.of (p := p) Q5.out) (by omega)).on ((Qx.refl p _).alloc _) (by omega)).on ((Qx.refl p _).own _ _) (by omega), ((A2.out.on (Qx.of (p := p) Q5.out) (by omega)).on ((Qx.refl p _).alloc _) (by omega)).on ((Qx.refl p _).own _ _) (by omega), (r5_new _ _ _ _ _ _ _).on ((Qx.refl p _).own _ _) (by omega), ((QW2.out.trans (Qx.of Q5.out)).alloc _).own _ _⟩
  rw [← hV]
  have PVh := hid PV
  have ZVh := hid ZV
  have AVh := hid AV
  have BVh := hid BV
  have QVh := hid QV
  have hsv : w5.heap.size < Vq.heap.size := World.block_lt_of_cell? Vq ⟨w5.heap.size, 0, none⟩ BV.g0
  have hWv : W.heap.size ≠ Vq.heap.size := by omega
  have hWv2 : W.heap.size < Vq.heap.size := by omega
  have ZA := hid (ZV.on ((Qx.refl p _).alloc (.cells #[.string S, .int .i64 row, .int .i64 col, .bool ra, .bool ca, .string S', .int .i64 row', .int .i64 col', .bool ra', .bool ca'] 63)) (by omega))
  have g0 := ZV.g0
  have g1 := ZV.g1
  have g2 := ZV.g2
  have g3 := ZV.g3
  have g4 := ZV.g4
  have g5 := ZV.g5
  have g6 := ZV.g6
  have x0 := ZV.f 0
  have x1 := ZV.f 1
  have x2 := ZV.f 2
  have x3 := ZV.f 3
  have x4 := ZV.f 4
  have x5 := ZV.f 5
  have x6 := ZV.f 6
  have m0 := AV.g0
  have m1 := AV.g1
  have m2 := AV.g2
  have m3 := AV.g3
  have m4 := AV.g4
  have n0 := BV.g0
  have n1 := BV.g1
  have n2 := BV.g2
  have n3 := BV.g3
  have n4 := BV.g4
  simp only [Nat.zero_add] at m1 m2 m3 m4 n1 n2 n3 n4
  clear hV PV ZV AV BV QV c15 f15
  go_region
  obtain ⟨Vn, hVn, TVn, QVn, AB, PN⟩ : ∃ Vn, Vn = ((((((((Vq.setCell ⟨W.heap.size, 0, none⟩ (.int .i64 6)).setCell ⟨W.heap.size, 1, none⟩ (.int .i64 0)).setCell ⟨W.heap.size, 2, none⟩ (.string ⟨#[]⟩)).setCell ⟨W.heap.size, 3, none⟩ (.bool false)).setCell ⟨W.heap.size, 4, none⟩ (.int .i64 0)).setCell ⟨W.heap.size, 5, none⟩ (.slice (some ⟨Vq.heap.size, 0, none⟩) 2 2)).setCell ⟨W.heap.size, 6, none⟩ (.slice none 0 0)).alloc (.cells #[.string S, .int .i64 row, .int .i64 col, .bool ra, .bool ca, .string S', .int .i64 row', .int .i64 col', .bool ra', .bool ca'] 63)).drew ∧ Tb Vn W.heap.size (.int .i64 6) (.int .i64 0) (.string ⟨#[]⟩) (.bool false) (.int .i64 0) (.slice (some ⟨Vq.heap.size, 0, none⟩) 2 2) (.slice none 0 0) ∧ Qx p W Vn ∧ (R5 Vn Vq.heap.size 0 S row col ra ca ∧ R5 Vn Vq.heap.size 5 S' row' col' ra' ca') ∧ PT Vn p L b off cap (j + 1) := by
    have hle : W.heap.size ≤ W.heap.size := Nat.le_refl _
    have hq := QVh.out
    have QF : Qx W.heap.size Vq (((((((Vq.setCell ⟨W.heap.size, 0, none⟩ (.int .i64 6)).setCell ⟨W.heap.size, 1, none⟩ (.int .i64 0)).setCell ⟨W.heap.size, 2, none⟩ (.string ⟨#[]⟩)).setCell ⟨W.heap.size, 3, none⟩ (.bool false)).setCell ⟨W.heap.size, 4, none⟩ (.int .i64 0)).setCell ⟨W.heap.size, 5, none⟩ (.slice (some ⟨Vq.heap.size, 0, none⟩) 2 2)).setCell ⟨W.heap.size, 6, none⟩ (.slice none 0 0)) := (((((((Qx.refl _ _).own _ _).own _ _).own _ _).own _ _).own _ _).own _ _).own _ _
    have zS : (((((((Vq.setCell ⟨W.heap.size, 0, none⟩ (.int .i64 6)).setCell ⟨W.heap.size, 1, none⟩ (.int .i64 0)).setCell ⟨W.heap.size, 2, none⟩ (.string ⟨#[]⟩)).setCell ⟨W.heap.size, 3, none⟩ (.bool false)).setCell ⟨W.heap.size, 4, none⟩ (.int .i64 0)).setCell ⟨W.heap.size, 5, none⟩ (.slice (some ⟨Vq.heap.size, 0, none⟩) 2 2)).setCell ⟨W.heap.size, 6, none⟩ (.slice none 0 0)).heap.size = Vq.heap.size := by simp [World.setCell]
    have r2 := r5_two (((((((Vq.setCell ⟨W.heap.size, 0, none⟩ (.int .i64 6)).setCell ⟨W.heap.size, 1, none⟩ (.int .i64 0)).setCell ⟨W.heap.size, 2, none⟩ (.string ⟨#[]⟩)).setCell ⟨W.heap.size, 3, none⟩ (.bool false)).setCell ⟨W.heap.size, 4, none⟩ (.int .i64 0)).setCell ⟨W.heap.size, 5, none⟩ (.slice (some ⟨Vq.heap.size, 0, none⟩) 2 2)).setCell ⟨W.heap.size, 6, none⟩ (.slice none 0 0)) S row col ra ca S' row' col' ra' ca' 63
    rw [zS] at r2
    exact ⟨_, rfl, ((ZVh.out.put _ _ _ _ _ _ _).on ((Qx.refl p _).alloc _) (by omega)).on ((Qx.refl p _).drew) (by omega), ((((((((hq.new hle _ _).new hle _ _).new hle _ _).new hle _ _).new hle _ _).new hle _ _).new hle _ _).alloc _).drew, ⟨r2.1.on ((Qx.refl p _).drew) (by omega), r2.2.on ((Qx.refl p _).drew) (by omega)⟩, ((PVh.out.onx QF (by omega) (by omega) (by have := PVh.out.p5; omega)).on ((Q.refl _).alloc _)).on ((Q.refl _).drew)⟩
  rw [← hVn]
  have TVh := hid TVn
  have ABh := hid AB
  have PNh := hid PN
  clear hVn g0 x0 g1 x1 g2 x2 g3 x3 g4 x4 g5 x5 g6 x6 TVn AB PN m0 m1 m2 m3 m4 n0 n1 n2 n3 n4
  have g0 := TVh.out.g0
  have g1 := TVh.out.g1
  have g2 := TVh.out.g2
  have g3 := TVh.out.g3
  have g4 := TVh.out.g4
  have g5 := TVh.out.g5
  have g6 := TVh.out.g6
  go_wp2_with fail
  refine bodyPost_ret (v := .tuple #[.agg #[.int .i64 6, .int .i64 0, .string ⟨#[]⟩, .bool false, .int .i64 0, .slice (some ⟨Vq.heap.size, 0, none⟩) 2 2, .slice none 0 0], .bool false]) (by simp [results, Tryz.results186, go_sem, g0, g1, g2, g3, g4, g5, g6]) rfl ?_
  exact ⟨6, 0, ⟨#[]⟩, false, 0, some ⟨Vq.heap.size, 0, none⟩, 2, 2, none, 0, 0, rfl, QVn, fun x j' e => by cases e⟩
end Go.Proofs.YtgheopdadfnilaaGreatDoor
