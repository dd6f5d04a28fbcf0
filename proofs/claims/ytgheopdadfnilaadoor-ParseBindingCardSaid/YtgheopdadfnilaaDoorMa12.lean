/- The program's reader: ranges. P.call of the reference, walked: no arguments. Arguments: what the walk over them stands on. P.call of the reference, walked: arguments. The program's reader: arguments. The program's reader: arguments, walked. -/
import Derived.Test.YtgheopdadfnilaaDoorMa11
import Derived.Test.YtgheopdadfnilaaDoorMa07
import Derived.Maps.AppendAt
namespace Go.Proofs.YtgheopdadfnilaaDoor
open Go.RowKit
set_option linter.unusedVariables false
set_option linter.unusedSimpArgs false


set_option maxRecDepth 100000 in
set_option maxHeartbeats 8000000 in
theorem pref_range (L : List Wd) (p b off cap i : Nat) (W : World) (T : ByteArray) (t : List UInt8) (hT : T.data.toList = t) (h : PT W p L b off cap i) (hi : i < L.length) (hr : L.length ≤ 50000) (hs : Std W) (h5 : 5 ≤ p) (hz : t.length ≤ 1000) (hok : refF t = true) (hE : Ends L) (hz2 : ∀ i, (tAt L i).length ≤ 1000) (hw : isW L i [58] = true) (h3 : kAt L (i + 1) = 3) (hok2 : refF (tAt L (i + 1)) = true) (hsh : (refT (tAt L (i + 1))).1 = []) :
    Calls Tryd.prog 48 #[.pointer (some ⟨p, 0, none⟩), .string T] W fun e W' => RepP p L b off cap W (some (rangeE (refT t) (refT (tAt L (i + 1))), i + 2)) e W' := by
  have hlt := h.lt
  have hbW := h.blk i hi
  have HP := hid h
  have HZ := hid (tb_new W (.int .i64 0) (.int .i64 0) (.string ⟨#[]⟩) (.bool false) (.int .i64 0) (.slice none 0 0) (.slice none 0 0) 30)
  obtain ⟨S, row, col, ra, ca, hS, hA⟩ := ref_parts T.data.toList
  have HRf := hid (fun W1 (g : Std W1) => parse_any T W1 g (by rw [← hT] at hz; simp at hz; omega))
  rw [hA, hT, hok] at HRf
  have HS := hid hS
  have HTT := hid hT
  have HSt := hid hs
  clear hA hS hs hok
  have hc := hid (fun W1 (g : PT W1 p L b off cap i) => ptake_any W1 p L b off cap i ⟨#[58]⟩ g hi hr (by simp))
  rw [show (⟨#[58]⟩ : ByteArray).data.toList = [58] from rfl, hw] at hc
  obtain ⟨j, hj⟩ : ∃ j, j = i + 1 := ⟨_, rfl⟩
  have hij : j < L.length := by rw [hj]; exact hE.sign hw
  obtain ⟨T2, hT2, lT2⟩ : ∃ T2 : ByteArray, T2 = ⟨(tAt L j).toArray⟩ ∧ T2.data.toList = tAt L j := ⟨_, rfl, rfl⟩
  have HWd := hid (fun W1 (g : PT W1 p L b off cap j) => word_any W1 p L.length b off cap j _ _ _ (g.kw hij) hij hr)
  rw [← hT2] at HWd
  generalize ((L.getD j ⟨7, [], 0⟩).p : Int) = q at HWd
  have F0 : ∀ (k : Int) (w : World), (Instr.field 46 (.agg #[.int .i64 k, .string T2, .int .i64 q]) 0).run Tryd.prog w = .ok (.int .i64 k) w := fun k w => fd0 _ _ _ w
  have F1 : ∀ (k : Int) (w : World), (Instr.field 46 (.agg #[.int .i64 k, .string T2, .int .i64 q]) 1).run Tryd.prog w = .ok (.string T2) w := fun k w => fd1 _ _ _ w
  have HJ := hid hj
  have HT2 := hid lT2
  rw [← hj] at h3
  obtain ⟨S', row', col', ra', ca', hS', hA'⟩ := ref_parts T2.data.toList
  have HRf2 := hid (fun W1 (g : Std W1) => parse_any T2 W1 g (by have := hz2 j; rw [← lT2] at this; simp at this; omega))
  rw [hA', lT2] at HRf2
  rw [h3] at HWd
  have HS' := hid hS'
  rw [← hj] at hok2 hsh ⊢
  rw [hok2] at HRf2
  have e9 : (S'.toList == []) = true := by rw [toL]; rw [lT2] at hS'; rw [hS'] at hsh; rw [show S'.data.toList = [] from hsh]; rfl
  clear hsh
  clear hj hT2 lT2 h3 hok2 hS' hA' hz2
  clear h hT hz
  go_enter Tryd.func48, Tryd.ntmps48
  go_upto_region 8 with (first | (go_at_call 55; refine (HRf2.out _ ((HSt.out.onx QW2.out h5).on Q4.out)).mono ?_; rintro e w5 ⟨rfl, q5⟩; have Q5 : Hid (Q w2 w5) := hid (Q4.out.trans q5); have hs5 : w2.heap.size ≤ w5.heap.size := Q5.out.size; have hp5 : p ≠ w5.heap.size := (by omega); have P5 := hid ((P4.out.on q5).on ((Q.refl _).alloc (.cells #[.string S', .int .i64 row', .int .i64 col', .bool ra', .bool ca'] 49))); clear q5; have c15 := P5.out.c1; have f15 := P5.out.f1) | (go_at_call 12; refine (HWd.out _ P3.out).mono ?_; rintro e w4 ⟨rfl, q4⟩; have Q4 : Hid (Q w2 w4) := hid (Q3.out.trans q4); have P4 := hid (P3.out.on q4); clear q4) | (go_at_call 12; refine (HWd.out _ P2.out).mono ?_; rintro e w3 ⟨rfl, q3⟩; have Q3 := hid q3; have P3 := hid (P2.out.on q3); clear q3) | (go_at_call 55; refine (HRf.out _ (HSt.out.on (by repeat (first | with_reducible exact Q.refl _ | with_reducible refine Q.drewN ?_ _ | with_reducible refine Q.drew ?_ | with_reducible refine Q.alloc ?_ _ | with_reducible refine Q.setCell ?_ (by simp) _)))).mono ?_; rintro e w1 ⟨rfl, q1⟩; have Q1 : Hid (Q W w1) := hid (Q.trans (by repeat (first | with_reducible exact Q.refl _ | with_reducible refine Q.drewN ?_ _ | with_reducible refine Q.drew ?_ | with_reducible refine Q.alloc ?_ _ | with_reducible refine Q.setCell ?_ (by simp) _)) q1); have hs1 : W.heap.size < w1.heap.size := (by have := q1.size; simp at this; omega); have P1 := hid ((HP.out.on Q1.out).on ((Q.refl _).alloc (.cells #[.string S, .int .i64 row, .int .i64 col, .bool ra, .bool ca] 49))); have Z1 := hid (HZ.out.on (Qx.of (p := p) q1) (by omega)); clear q1) | (go_at_call 31; refine (hc.out _ P1.out).mono ?_; rintro e w2 ⟨rfl, q2, p2⟩; have Q2 := hid q2; have P2 : Hid (PT w2 p L b off cap j) := hid (by rw [HJ.out]; exact p2); have A2 := hid ((r5_new w1 S row col ra ca 49).on q2 (by omega)); have hs2 : w1.heap.size + 1 ≤ w2.heap.size := (by simpa using q2.size); have QW2 : Hid (Qx p W w2) := hid (((Qx.of Q1.out).alloc _).trans q2); have Z2 := hid ((Z1.out.on ((Qx.refl p _).alloc _) (by omega)).on q2 (by omega)); clear q2 p2))
  obtain ⟨Vq, hV, PV, ZV, AV, BV, QV⟩ : ∃ Vq, Vq = (w5.alloc (.cells #[.string S', .int .i64 row', .int .i64 col', .bool ra', .bool ca'] 49)).setCell ⟨p, 1, none⟩ (.int .i64 ((j : Int) + 1)) ∧ PT Vq p L b off cap (j + 1) ∧ Tb Vq W.heap.size (.int .i64 0) (.int .i64 0) (.string ⟨#[]⟩) (.bool false) (.int .i64 0) (.slice none 0 0) (.slice none 0 0) ∧ R5 Vq w1.heap.size 0 S row col ra ca ∧ R5 Vq w5.heap.size 0 S' row' col' ra' ca' ∧ Qx p W Vq :=
    ⟨_, rfl, P5.out.set1 (j + 1) _ (by omega), ((Z2.out.on (Qx.of (p := p) Q5.out) (by omega)).on ((Qx.refl p _).alloc _) (by omega)).on ((Qx.refl p _).own _ _) (by omega), ((A2.out.on (Qx.of (p := p) Q5.out) (by omega)).on ((Qx.refl p _).alloc _) (by omega)).on ((Qx.refl p _).own _ _) (by omega), (r5_new _ _ _ _ _ _ _).on ((Qx.refl p _).own _ _) (by omega), ((QW2.out.trans (Qx.of Q5.out)).alloc _).own _ _⟩
  rw [← hV]
  have PVh := hid PV
  have ZVh := hid ZV
  have AVh := hid AV
  have BVh := hid BV
  have QVh := hid QV
  have hsv : w5.heap.size < Vq.heap.size := World.block_lt_of_cell? Vq ⟨w5.heap.size, 0, none⟩ BV.g0
  have hWv : W.heap.size ≠ Vq.heap.size := by omega
  have hWv2 : W.heap.size < Vq.heap.size := by omega
  have ZA := hid (ZV.on ((Qx.refl p _).alloc (.cells #[.string S, .int .i64 row, .int .i64 col, .bool ra, .bool ca, .string S', .int .i64 row', .int .i64 col', .bool ra', .bool ca'] 49)) (by omega))
  have g0 := ZV.g0
  have g1 := ZV.g1
  have g2 := ZV.g2
  have g3 := ZV.g3
  have g4 := ZV.g4
  have g5 := ZV.g5
  have g6 := ZV.g6
  have x0 := ZV.f 0
  have x1 := ZV.f 1
  have x2 := ZV.f 2
  have x3 := ZV.f 3
  have x4 := ZV.f 4
  have x5 := ZV.f 5
  have x6 := ZV.f 6
  have m0 := AV.g0
  have m1 := AV.g1
  have m2 := AV.g2
  have m3 := AV.g3
  have m4 := AV.g4
  have n0 := BV.g0
  have n1 := BV.g1
  have n2 := BV.g2
  have n3 := BV.g3
  have n4 := BV.g4
  simp only [Nat.zero_add] at m1 m2 m3 m4 n1 n2 n3 n4
  clear hV PV ZV AV BV QV c15 f15
  go_region
  obtain ⟨Vn, hVn, TVn, QVn, AB, PN⟩ : ∃ Vn, Vn = ((((((((Vq.setCell ⟨W.heap.size, 0, none⟩ (.int .i64 6)).setCell ⟨W.heap.size, 1, none⟩ (.int .i64 0)).setCell ⟨W.heap.size, 2, none⟩ (.string ⟨#[]⟩)).setCell ⟨W.heap.size, 3, none⟩ (.bool false)).setCell ⟨W.heap.size, 4, none⟩ (.int .i64 0)).setCell ⟨W.heap.size, 5, none⟩ (.slice (some ⟨Vq.heap.size, 0, none⟩) 2 2)).setCell ⟨W.heap.size, 6, none⟩ (.slice none 0 0)).alloc (.cells #[.string S, .int .i64 row, .int .i64 col, .bool ra, .bool ca, .string S', .int .i64 row', .int .i64 col', .bool ra', .bool ca'] 49)).drew ∧ Tb Vn W.heap.size (.int .i64 6) (.int .i64 0) (.string ⟨#[]⟩) (.bool false) (.int .i64 0) (.slice (some ⟨Vq.heap.size, 0, none⟩) 2 2) (.slice none 0 0) ∧ Qx p W Vn ∧ (R5 Vn Vq.heap.size 0 S row col ra ca ∧ R5 Vn Vq.heap.size 5 S' row' col' ra' ca') ∧ PT Vn p L b off cap (j + 1) := by
    have hle : W.heap.size ≤ W.heap.size := Nat.le_refl _
    have hq := QVh.out
    have QF : Qx W.heap.size Vq (((((((Vq.setCell ⟨W.heap.size, 0, none⟩ (.int .i64 6)).setCell ⟨W.heap.size, 1, none⟩ (.int .i64 0)).setCell ⟨W.heap.size, 2, none⟩ (.string ⟨#[]⟩)).setCell ⟨W.heap.size, 3, none⟩ (.bool false)).setCell ⟨W.heap.size, 4, none⟩ (.int .i64 0)).setCell ⟨W.heap.size, 5, none⟩ (.slice (some ⟨Vq.heap.size, 0, none⟩) 2 2)).setCell ⟨W.heap.size, 6, none⟩ (.slice none 0 0)) := (((((((Qx.refl _ _).own _ _).own _ _).own _ _).own _ _).own _ _).own _ _).own _ _
    have zS : (((((((Vq.setCell ⟨W.heap.size, 0, none⟩ (.int .i64 6)).setCell ⟨W.heap.size, 1, none⟩ (.int .i64 0)).setCell ⟨W.heap.size, 2, none⟩ (.string ⟨#[]⟩)).setCell ⟨W.heap.size, 3, none⟩ (.bool false)).setCell ⟨W.heap.size, 4, none⟩ (.int .i64 0)).setCell ⟨W.heap.size, 5, none⟩ (.slice (some ⟨Vq.heap.size, 0, none⟩) 2 2)).setCell ⟨W.heap.size, 6, none⟩ (.slice none 0 0)).heap.size = Vq.heap.size := by simp [World.setCell]
    have r2 := r5_two (((((((Vq.setCell ⟨W.heap.size, 0, none⟩ (.int .i64 6)).setCell ⟨W.heap.size, 1, none⟩ (.int .i64 0)).setCell ⟨W.heap.size, 2, none⟩ (.string ⟨#[]⟩)).setCell ⟨W.heap.size, 3, none⟩ (.bool false)).setCell ⟨W.heap.size, 4, none⟩ (.int .i64 0)).setCell ⟨W.heap.size, 5, none⟩ (.slice (some ⟨Vq.heap.size, 0, none⟩) 2 2)).setCell ⟨W.heap.size, 6, none⟩ (.slice none 0 0)) S row col ra ca S' row' col' ra' ca' 49
    rw [zS] at r2
    exact ⟨_, rfl, ((ZVh.out.put _ _ _ _ _ _ _).on ((Qx.refl p _).alloc _) (by omega)).on ((Qx.refl p _).drew) (by omega), ((((((((hq.new hle _ _).new hle _ _).new hle _ _).new hle _ _).new hle _ _).new hle _ _).new hle _ _).alloc _).drew, ⟨r2.1.on ((Qx.refl p _).drew) (by omega), r2.2.on ((Qx.refl p _).drew) (by omega)⟩, ((PVh.out.onx QF (by omega) (by omega) (by have := PVh.out.p5; omega)).on ((Q.refl _).alloc _)).on ((Q.refl _).drew)⟩
  rw [← hVn]
  have TVh := hid TVn
  have ABh := hid AB
  have PNh := hid PN
  clear hVn g0 x0 g1 x1 g2 x2 g3 x3 g4 x4 g5 x5 g6 x6 TVn AB PN m0 m1 m2 m3 m4 n0 n1 n2 n3 n4
  have g0 := TVh.out.g0
  have g1 := TVh.out.g1
  have g2 := TVh.out.g2
  have g3 := TVh.out.g3
  have g4 := TVh.out.g4
  have g5 := TVh.out.g5
  have g6 := TVh.out.g6
  go_wp2_with fail
  refine bodyPost_ret (v := .tuple #[.agg #[.int .i64 6, .int .i64 0, .string ⟨#[]⟩, .bool false, .int .i64 0, .slice (some ⟨Vq.heap.size, 0, none⟩) 2 2, .slice none 0 0], .bool true]) (by simp [results, Tryd.results48, go_sem, g0, g1, g2, g3, g4, g5, g6]) rfl ?_
  rw [show rangeE (refT t) (refT (tAt L j)) = rangeE (S.data.toList, row, col, ra, ca) (S'.data.toList, row', col', ra', ca') by rw [← HTT.out, ← HT2.out, HS.out, HS'.out], show i + 2 = j + 1 by have := HJ.out; omega]
  refine ⟨6, 0, ⟨#[]⟩, false, 0, some ⟨Vq.heap.size, 0, none⟩, 2, 2, none, 0, 0, rfl, QVn, fun x j' e => ?_⟩
  cases e
  exact ⟨rdg_range (show _ ≤ _ by omega) ABh.out.1 ABh.out.2, PNh.out⟩

set_option maxRecDepth 100000 in
set_option maxHeartbeats 8000000 in
theorem pref_none (L : List Wd) (p b off cap i : Nat) (W : World) (T : ByteArray) (t : List UInt8) (hT : T.data.toList = t) (h : PT W p L b off cap i) (hi : i < L.length) (hr : L.length ≤ 50000) (hs : Std W) (h5 : 5 ≤ p) (hz : t.length ≤ 1000) (hok : refF t = true) (hE : Ends L) (hz2 : ∀ i, (tAt L i).length ≤ 1000) (hw : isW L i [58] = true) (h3 : kAt L (i + 1) = 3) (hok2 : refF (tAt L (i + 1)) = false) :
    Calls Tryd.prog 48 #[.pointer (some ⟨p, 0, none⟩), .string T] W fun e W' => RepP p L b off cap W none e W' := by
  have hlt := h.lt
  have hbW := h.blk i hi
  have HP := hid h
  have HZ := hid (tb_new W (.int .i64 0) (.int .i64 0) (.string ⟨#[]⟩) (.bool false) (.int .i64 0) (.slice none 0 0) (.slice none 0 0) 30)
  obtain ⟨S, row, col, ra, ca, hS, hA⟩ := ref_parts T.data.toList
  have HRf := hid (fun W1 (g : Std W1) => parse_any T W1 g (by rw [← hT] at hz; simp at hz; omega))
  rw [hA, hT, hok] at HRf
  have HS := hid hS
  have HTT := hid hT
  have HSt := hid hs
  clear hA hS hs hok
  have hc := hid (fun W1 (g : PT W1 p L b off cap i) => ptake_any W1 p L b off cap i ⟨#[58]⟩ g hi hr (by simp))
  rw [show (⟨#[58]⟩ : ByteArray).data.toList = [58] from rfl, hw] at hc
  obtain ⟨j, hj⟩ : ∃ j, j = i + 1 := ⟨_, rfl⟩
  have hij : j < L.length := by rw [hj]; exact hE.sign hw
  obtain ⟨T2, hT2, lT2⟩ : ∃ T2 : ByteArray, T2 = ⟨(tAt L j).toArray⟩ ∧ T2.data.toList = tAt L j := ⟨_, rfl, rfl⟩
  have HWd := hid (fun W1 (g : PT W1 p L b off cap j) => word_any W1 p L.length b off cap j _ _ _ (g.kw hij) hij hr)
  rw [← hT2] at HWd
  generalize ((L.getD j ⟨7, [], 0⟩).p : Int) = q at HWd
  have F0 : ∀ (k : Int) (w : World), (Instr.field 46 (.agg #[.int .i64 k, .string T2, .int .i64 q]) 0).run Tryd.prog w = .ok (.int .i64 k) w := fun k w => fd0 _ _ _ w
  have F1 : ∀ (k : Int) (w : World), (Instr.field 46 (.agg #[.int .i64 k, .string T2, .int .i64 q]) 1).run Tryd.prog w = .ok (.string T2) w := fun k w => fd1 _ _ _ w
  have HJ := hid hj
  have HT2 := hid lT2
  rw [← hj] at h3
  obtain ⟨S', row', col', ra', ca', hS', hA'⟩ := ref_parts T2.data.toList
  have HRf2 := hid (fun W1 (g : Std W1) => parse_any T2 W1 g (by have := hz2 j; rw [← lT2] at this; simp at this; omega))
  rw [hA', lT2] at HRf2
  rw [h3] at HWd
  have HS' := hid hS'
  rw [← hj] at hok2
  rw [hok2] at HRf2
  clear hj hT2 lT2 h3 hok2 hS' hA' hz2
  clear h hT hz
  go_enter Tryd.func48, Tryd.ntmps48
  go_upto_region 8 with (first | (go_at_call 55; refine (HRf2.out _ ((HSt.out.onx QW2.out h5).on Q4.out)).mono ?_; rintro e w5 ⟨rfl, q5⟩; have Q5 : Hid (Q w2 w5) := hid (Q4.out.trans q5); have hs5 : w2.heap.size ≤ w5.heap.size := Q5.out.size; have hp5 : p ≠ w5.heap.size := (by omega); have P5 := hid ((P4.out.on q5).on ((Q.refl _).alloc (.cells #[.string S', .int .i64 row', .int .i64 col', .bool ra', .bool ca'] 49))); clear q5; have c15 := P5.out.c1; have f15 := P5.out.f1) | (go_at_call 12; refine (HWd.out _ P3.out).mono ?_; rintro e w4 ⟨rfl, q4⟩; have Q4 : Hid (Q w2 w4) := hid (Q3.out.trans q4); have P4 := hid (P3.out.on q4); clear q4) | (go_at_call 12; refine (HWd.out _ P2.out).mono ?_; rintro e w3 ⟨rfl, q3⟩; have Q3 := hid q3; have P3 := hid (P2.out.on q3); clear q3) | (go_at_call 55; refine (HRf.out _ (HSt.out.on (by repeat (first | with_reducible exact Q.refl _ | with_reducible refine Q.drewN ?_ _ | with_reducible refine Q.drew ?_ | with_reducible refine Q.alloc ?_ _ | with_reducible refine Q.setCell ?_ (by simp) _)))).mono ?_; rintro e w1 ⟨rfl, q1⟩; have Q1 : Hid (Q W w1) := hid (Q.trans (by repeat (first | with_reducible exact Q.refl _ | with_reducible refine Q.drewN ?_ _ | with_reducible refine Q.drew ?_ | with_reducible refine Q.alloc ?_ _ | with_reducible refine Q.setCell ?_ (by simp) _)) q1); have hs1 : W.heap.size < w1.heap.size := (by have := q1.size; simp at this; omega); have P1 := hid ((HP.out.on Q1.out).on ((Q.refl _).alloc (.cells #[.string S, .int .i64 row, .int .i64 col, .bool ra, .bool ca] 49))); have Z1 := hid (HZ.out.on (Qx.of (p := p) q1) (by omega)); clear q1) | (go_at_call 31; refine (hc.out _ P1.out).mono ?_; rintro e w2 ⟨rfl, q2, p2⟩; have Q2 := hid q2; have P2 : Hid (PT w2 p L b off cap j) := hid (by rw [HJ.out]; exact p2); have A2 := hid ((r5_new w1 S row col ra ca 49).on q2 (by omega)); have hs2 : w1.heap.size + 1 ≤ w2.heap.size := (by simpa using q2.size); have QW2 : Hid (Qx p W w2) := hid (((Qx.of Q1.out).alloc _).trans q2); have Z2 := hid ((Z1.out.on ((Qx.refl p _).alloc _) (by omega)).on q2 (by omega)); clear q2 p2))
  obtain ⟨Vq, hV, PV, ZV, AV, BV, QV⟩ : ∃ Vq, Vq = (w5.alloc (.cells #[.string S', .int .i64 row', .int .i64 col', .bool ra', .bool ca'] 49)).setCell ⟨p, 1, none⟩ (.int .i64 ((j : Int) + 1)) ∧ PT Vq p L b off cap (j + 1) ∧ Tb Vq W.heap.size (.int .i64 0) (.int .i64 0) (.string ⟨#[]⟩) (.bool false) (.int .i64 0) (.slice none 0 0) (.slice none 0 0) ∧ R5 Vq w1.heap.size 0 S row col ra ca ∧ R5 Vq w5.heap.size 0 S' row' col' ra' ca' ∧ Qx p W Vq :=
    ⟨_, rfl, P5.out.set1 (j + 1) _ (by omega), ((Z2.out.on (Qx.of (p := p) Q5.out) (by omega)).on ((Qx.refl p _).alloc _) (by omega)).on ((Qx.refl p _).own _ _) (by omega), ((A2.out.on (Qx.of (p := p) Q5.out) (by omega)).on ((Qx.refl p _).alloc _) (by omega)).on ((Qx.refl p _).own _ _) (by omega), (r5_new _ _ _ _ _ _ _).on ((Qx.refl p _).own _ _) (by omega), ((QW2.out.trans (Qx.of Q5.out)).alloc _).own _ _⟩
  rw [← hV]
  have PVh := hid PV
  have ZVh := hid ZV
  have AVh := hid AV
  have BVh := hid BV
  have QVh := hid QV
  have hsv : w5.heap.size < Vq.heap.size := World.block_lt_of_cell? Vq ⟨w5.heap.size, 0, none⟩ BV.g0
  have hWv : W.heap.size ≠ Vq.heap.size := by omega
  have hWv2 : W.heap.size < Vq.heap.size := by omega
  have ZA := hid (ZV.on ((Qx.refl p _).alloc (.cells #[.string S, .int .i64 row, .int .i64 col, .bool ra, .bool ca, .string S', .int .i64 row', .int .i64 col', .bool ra', .bool ca'] 49)) (by omega))
  have g0 := ZV.g0
  have g1 := ZV.g1
  have g2 := ZV.g2
  have g3 := ZV.g3
  have g4 := ZV.g4
  have g5 := ZV.g5
  have g6 := ZV.g6
  have x0 := ZV.f 0
  have x1 := ZV.f 1
  have x2 := ZV.f 2
  have x3 := ZV.f 3
  have x4 := ZV.f 4
  have x5 := ZV.f 5
  have x6 := ZV.f 6
  have m0 := AV.g0
  have m1 := AV.g1
  have m2 := AV.g2
  have m3 := AV.g3
  have m4 := AV.g4
  have n0 := BV.g0
  have n1 := BV.g1
  have n2 := BV.g2
  have n3 := BV.g3
  have n4 := BV.g4
  simp only [Nat.zero_add] at m1 m2 m3 m4 n1 n2 n3 n4
  clear hV PV ZV AV BV QV c15 f15
  go_region
  obtain ⟨Vn, hVn, TVn, QVn, AB, PN⟩ : ∃ Vn, Vn = ((((((((Vq.setCell ⟨W.heap.size, 0, none⟩ (.int .i64 6)).setCell ⟨W.heap.size, 1, none⟩ (.int .i64 0)).setCell ⟨W.heap.size, 2, none⟩ (.string ⟨#[]⟩)).setCell ⟨W.heap.size, 3, none⟩ (.bool false)).setCell ⟨W.heap.size, 4, none⟩ (.int .i64 0)).setCell ⟨W.heap.size, 5, none⟩ (.slice (some ⟨Vq.heap.size, 0, none⟩) 2 2)).setCell ⟨W.heap.size, 6, none⟩ (.slice none 0 0)).alloc (.cells #[.string S, .int .i64 row, .int .i64 col, .bool ra, .bool ca, .string S', .int .i64 row', .int .i64 col', .bool ra', .bool ca'] 49)).drew ∧ Tb Vn W.heap.size (.int .i64 6) (.int .i64 0) (.string ⟨#[]⟩) (.bool false) (.int .i64 0) (.slice (some ⟨Vq.heap.size, 0, none⟩) 2 2) (.slice none 0 0) ∧ Qx p W Vn ∧ (R5 Vn Vq.heap.size 0 S row col ra ca ∧ R5 Vn Vq.heap.size 5 S' row' col' ra' ca') ∧ PT Vn p L b off cap (j + 1) := by
    have hle : W.heap.size ≤ W.heap.size := Nat.le_refl _
    have hq := QVh.out
    have QF : Qx W.heap.size Vq (((((((Vq.setCell ⟨W.heap.size, 0, none⟩ (.int .i64 6)).setCell ⟨W.heap.size, 1, none⟩ (.int .i64 0)).setCell ⟨W.heap.size, 2, none⟩ (.string ⟨#[]⟩)).setCell ⟨W.heap.size, 3, none⟩ (.bool false)).setCell ⟨W.heap.size, 4, none⟩ (.int .i64 0)).setCell ⟨W.heap.size, 5, none⟩ (.slice (some ⟨Vq.heap.size, 0, none⟩) 2 2)).setCell ⟨W.heap.size, 6, none⟩ (.slice none 0 0)) := (((((((Qx.refl _ _).own _ _).own _ _).own _ _).own _ _).own _ _).own _ _).own _ _
    have zS : (((((((Vq.setCell ⟨W.heap.size, 0, none⟩ (.int .i64 6)).setCell ⟨W.heap.size, 1, none⟩ (.int .i64 0)).setCell ⟨W.heap.size, 2, none⟩ (.string ⟨#[]⟩)).setCell ⟨W.heap.size, 3, none⟩ (.bool false)).setCell ⟨W.heap.size, 4, none⟩ (.int .i64 0)).setCell ⟨W.heap.size, 5, none⟩ (.slice (some ⟨Vq.heap.size, 0, none⟩) 2 2)).setCell ⟨W.heap.size, 6, none⟩ (.slice none 0 0)).heap.size = Vq.heap.size := by simp [World.setCell]
    have r2 := r5_two (((((((Vq.setCell ⟨W.heap.size, 0, none⟩ (.int .i64 6)).setCell ⟨W.heap.size, 1, none⟩ (.int .i64 0)).setCell ⟨W.heap.size, 2, none⟩ (.string ⟨#[]⟩)).setCell ⟨W.heap.size, 3, none⟩ (.bool false)).setCell ⟨W.heap.size, 4, none⟩ (.int .i64 0)).setCell ⟨W.heap.size, 5, none⟩ (.slice (some ⟨Vq.heap.size, 0, none⟩) 2 2)).setCell ⟨W.heap.size, 6, none⟩ (.slice none 0 0)) S row col ra ca S' row' col' ra' ca' 49
    rw [zS] at r2
    exact ⟨_, rfl, ((ZVh.out.put _ _ _ _ _ _ _).on ((Qx.refl p _).alloc _) (by omega)).on ((Qx.refl p _).drew) (by omega), ((((((((hq.new hle _ _).new hle _ _).new hle _ _).new hle _ _).new hle _ _).new hle _ _).new hle _ _).alloc _).drew, ⟨r2.1.on ((Qx.refl p _).drew) (by omega), r2.2.on ((Qx.refl p _).drew) (by omega)⟩, ((PVh.out.onx QF (by omega) (by omega) (by have := PVh.out.p5; omega)).on ((Q.refl _).alloc _)).on ((Q.refl _).drew)⟩
  rw [← hVn]
  have TVh := hid TVn
  have ABh := hid AB
  have PNh := hid PN
  clear hVn g0 x0 g1 x1 g2 x2 g3 x3 g4 x4 g5 x5 g6 x6 TVn AB PN m0 m1 m2 m3 m4 n0 n1 n2 n3 n4
  have g0 := TVh.out.g0
  have g1 := TVh.out.g1
  have g2 := TVh.out.g2
  have g3 := TVh.out.g3
  have g4 := TVh.out.g4
  have g5 := TVh.out.g5
  have g6 := TVh.out.g6
  go_wp2_with fail
  refine bodyPost_ret (v := .tuple #[.agg #[.int .i64 6, .int .i64 0, .string ⟨#[]⟩, .bool false, .int .i64 0, .slice (some ⟨Vq.heap.size, 0, none⟩) 2 2, .slice none 0 0], .bool false]) (by simp [results, Tryd.results48, go_sem, g0, g1, g2, g3, g4, g5, g6]) rfl ?_
  exact ⟨6, 0, ⟨#[]⟩, false, 0, some ⟨Vq.heap.size, 0, none⟩, 2, 2, none, 0, 0, rfl, QVn, fun x j' e => by cases e⟩

set_option maxRecDepth 100000 in
set_option maxHeartbeats 8000000 in
theorem pref_sheet (L : List Wd) (p b off cap i : Nat) (W : World) (T : ByteArray) (t : List UInt8) (hT : T.data.toList = t) (h : PT W p L b off cap i) (hi : i < L.length) (hr : L.length ≤ 50000) (hs : Std W) (h5 : 5 ≤ p) (hz : t.length ≤ 1000) (hok : refF t = true) (hE : Ends L) (hz2 : ∀ i, (tAt L i).length ≤ 1000) (hw : isW L i [58] = true) (h3 : kAt L (i + 1) = 3) (hok2 : refF (tAt L (i + 1)) = true) (hsh : (refT (tAt L (i + 1))).1 ≠ []) :
    Calls Tryd.prog 48 #[.pointer (some ⟨p, 0, none⟩), .string T] W fun e W' => RepP p L b off cap W none e W' := by
  have hlt := h.lt
  have hbW := h.blk i hi
  have HP := hid h
  have HZ := hid (tb_new W (.int .i64 0) (.int .i64 0) (.string ⟨#[]⟩) (.bool false) (.int .i64 0) (.slice none 0 0) (.slice none 0 0) 30)
  obtain ⟨S, row, col, ra, ca, hS, hA⟩ := ref_parts T.data.toList
  have HRf := hid (fun W1 (g : Std W1) => parse_any T W1 g (by rw [← hT] at hz; simp at hz; omega))
  rw [hA, hT, hok] at HRf
  have HS := hid hS
  have HTT := hid hT
  have HSt := hid hs
  clear hA hS hs hok
  have hc := hid (fun W1 (g : PT W1 p L b off cap i) => ptake_any W1 p L b off cap i ⟨#[58]⟩ g hi hr (by simp))
  rw [show (⟨#[58]⟩ : ByteArray).data.toList = [58] from rfl, hw] at hc
  obtain ⟨j, hj⟩ : ∃ j, j = i + 1 := ⟨_, rfl⟩
  have hij : j < L.length := by rw [hj]; exact hE.sign hw
  obtain ⟨T2, hT2, lT2⟩ : ∃ T2 : ByteArray, T2 = ⟨(tAt L j).toArray⟩ ∧ T2.data.toList = tAt L j := ⟨_, rfl, rfl⟩
  have HWd := hid (fun W1 (g : PT W1 p L b off cap j) => word_any W1 p L.length b off cap j _ _ _ (g.kw hij) hij hr)
  rw [← hT2] at HWd
  generalize ((L.getD j ⟨7, [], 0⟩).p : Int) = q at HWd
  have F0 : ∀ (k : Int) (w : World), (Instr.field 46 (.agg #[.int .i64 k, .string T2, .int .i64 q]) 0).run Tryd.prog w = .ok (.int .i64 k) w := fun k w => fd0 _ _ _ w
  have F1 : ∀ (k : Int) (w : World), (Instr.field 46 (.agg #[.int .i64 k, .string T2, .int .i64 q]) 1).run Tryd.prog w = .ok (.string T2) w := fun k w => fd1 _ _ _ w
  have HJ := hid hj
  have HT2 := hid lT2
  rw [← hj] at h3
  obtain ⟨S', row', col', ra', ca', hS', hA'⟩ := ref_parts T2.data.toList
  have HRf2 := hid (fun W1 (g : Std W1) => parse_any T2 W1 g (by have := hz2 j; rw [← lT2] at this; simp at this; omega))
  rw [hA', lT2] at HRf2
  rw [h3] at HWd
  have HS' := hid hS'
  rw [← hj] at hok2 hsh
  rw [hok2] at HRf2
  have e9 : (S'.toList == []) = false := by rw [toL]; rw [lT2] at hS'; rw [hS'] at hsh; rw [beq_eq_false_iff_ne]; exact hsh
  clear hsh
  clear hj hT2 lT2 h3 hok2 hS' hA' hz2
  clear h hT hz
  go_enter Tryd.func48, Tryd.ntmps48
  go_upto_region 8 with (first | (go_at_call 55; refine (HRf2.out _ ((HSt.out.onx QW2.out h5).on Q4.out)).mono ?_; rintro e w5 ⟨rfl, q5⟩; have Q5 : Hid (Q w2 w5) := hid (Q4.out.trans q5); have hs5 : w2.heap.size ≤ w5.heap.size := Q5.out.size; have hp5 : p ≠ w5.heap.size := (by omega); have P5 := hid ((P4.out.on q5).on ((Q.refl _).alloc (.cells #[.string S', .int .i64 row', .int .i64 col', .bool ra', .bool ca'] 49))); clear q5; have c15 := P5.out.c1; have f15 := P5.out.f1) | (go_at_call 12; refine (HWd.out _ P3.out).mono ?_; rintro e w4 ⟨rfl, q4⟩; have Q4 : Hid (Q w2 w4) := hid (Q3.out.trans q4); have P4 := hid (P3.out.on q4); clear q4) | (go_at_call 12; refine (HWd.out _ P2.out).mono ?_; rintro e w3 ⟨rfl, q3⟩; have Q3 := hid q3; have P3 := hid (P2.out.on q3); clear q3) | (go_at_call 55; refine (HRf.out _ (HSt.out.on (by repeat (first | with_reducible exact Q.refl _ | with_reducible refine Q.drewN ?_ _ | with_reducible refine Q.drew ?_ | with_reducible refine Q.alloc ?_ _ | with_reducible refine Q.setCell ?_ (by simp) _)))).mono ?_; rintro e w1 ⟨rfl, q1⟩; have Q1 : Hid (Q W w1) := hid (Q.trans (by repeat (first | with_reducible exact Q.refl _ | with_reducible refine Q.drewN ?_ _ | with_reducible refine Q.drew ?_ | with_reducible refine Q.alloc ?_ _ | with_reducible refine Q.setCell ?_ (by simp) _)) q1); have hs1 : W.heap.size < w1.heap.size := (by have := q1.size; simp at this; omega); have P1 := hid ((HP.out.on Q1.out).on ((Q.refl _).alloc (.cells #[.string S, .int .i64 row, .int .i64 col, .bool ra, .bool ca] 49))); have Z1 := hid (HZ.out.on (Qx.of (p := p) q1) (by omega)); clear q1) | (go_at_call 31; refine (hc.out _ P1.out).mono ?_; rintro e w2 ⟨rfl, q2, p2⟩; have Q2 := hid q2; have P2 : Hid (PT w2 p L b off cap j) := hid (by rw [HJ.out]; exact p2); have A2 := hid ((r5_new w1 S row col ra ca 49).on q2 (by omega)); have hs2 : w1.heap.size + 1 ≤ w2.heap.size := (by simpa using q2.size); have QW2 : Hid (Qx p W w2) := hid (((Qx.of Q1.out).alloc _).trans q2); have Z2 := hid ((Z1.out.on ((Qx.refl p _).alloc _) (by omega)).on q2 (by omega)); clear q2 p2))
  obtain ⟨Vq, hV, PV, ZV, AV, BV, QV⟩ : ∃ Vq, Vq = (w5.alloc (.cells #[.string S', .int .i64 row', .int .i64 col', .bool ra', .bool ca'] 49)).setCell ⟨p, 1, none⟩ (.int .i64 ((j : Int) + 1)) ∧ PT Vq p L b off cap (j + 1) ∧ Tb Vq W.heap.size (.int .i64 0) (.int .i64 0) (.string ⟨#[]⟩) (.bool false) (.int .i64 0) (.slice none 0 0) (.slice none 0 0) ∧ R5 Vq w1.heap.size 0 S row col ra ca ∧ R5 Vq w5.heap.size 0 S' row' col' ra' ca' ∧ Qx p W Vq :=
    ⟨_, rfl, P5.out.set1 (j + 1) _ (by omega), ((Z2.out.on (Qx.of (p := p) Q5.out) (by omega)).on ((Qx.refl p _).alloc _) (by omega)).on ((Qx.refl p _).own _ _) (by omega), ((A2.out.on (Qx.of (p := p) Q5.out) (by omega)).on ((Qx.refl p _).alloc _) (by omega)).on ((Qx.refl p _).own _ _) (by omega), (r5_new _ _ _ _ _ _ _).on ((Qx.refl p _).own _ _) (by omega), ((QW2.out.trans (Qx.of Q5.out)).alloc _).own _ _⟩
  rw [← hV]
  have PVh := hid PV
  have ZVh := hid ZV
  have AVh := hid AV
  have BVh := hid BV
  have QVh := hid QV
  have hsv : w5.heap.size < Vq.heap.size := World.block_lt_of_cell? Vq ⟨w5.heap.size, 0, none⟩ BV.g0
  have hWv : W.heap.size ≠ Vq.heap.size := by omega
  have hWv2 : W.heap.size < Vq.heap.size := by omega
  have ZA := hid (ZV.on ((Qx.refl p _).alloc (.cells #[.string S, .int .i64 row, .int .i64 col, .bool ra, .bool ca, .string S', .int .i64 row', .int .i64 col', .bool ra', .bool ca'] 49)) (by omega))
  have g0 := ZV.g0
  have g1 := ZV.g1
  have g2 := ZV.g2
  have g3 := ZV.g3
  have g4 := ZV.g4
  have g5 := ZV.g5
  have g6 := ZV.g6
  have x0 := ZV.f 0
  have x1 := ZV.f 1
  have x2 := ZV.f 2
  have x3 := ZV.f 3
  have x4 := ZV.f 4
  have x5 := ZV.f 5
  have x6 := ZV.f 6
  have m0 := AV.g0
  have m1 := AV.g1
  have m2 := AV.g2
  have m3 := AV.g3
  have m4 := AV.g4
  have n0 := BV.g0
  have n1 := BV.g1
  have n2 := BV.g2
  have n3 := BV.g3
  have n4 := BV.g4
  simp only [Nat.zero_add] at m1 m2 m3 m4 n1 n2 n3 n4
  clear hV PV ZV AV BV QV c15 f15
  go_region
  obtain ⟨Vn, hVn, TVn, QVn, AB, PN⟩ : ∃ Vn, Vn = ((((((((Vq.setCell ⟨W.heap.size, 0, none⟩ (.int .i64 6)).setCell ⟨W.heap.size, 1, none⟩ (.int .i64 0)).setCell ⟨W.heap.size, 2, none⟩ (.string ⟨#[]⟩)).setCell ⟨W.heap.size, 3, none⟩ (.bool false)).setCell ⟨W.heap.size, 4, none⟩ (.int .i64 0)).setCell ⟨W.heap.size, 5, none⟩ (.slice (some ⟨Vq.heap.size, 0, none⟩) 2 2)).setCell ⟨W.heap.size, 6, none⟩ (.slice none 0 0)).alloc (.cells #[.string S, .int .i64 row, .int .i64 col, .bool ra, .bool ca, .string S', .int .i64 row', .int .i64 col', .bool ra', .bool ca'] 49)).drew ∧ Tb Vn W.heap.size (.int .i64 6) (.int .i64 0) (.string ⟨#[]⟩) (.bool false) (.int .i64 0) (.slice (some ⟨Vq.heap.size, 0, none⟩) 2 2) (.slice none 0 0) ∧ Qx p W Vn ∧ (R5 Vn Vq.heap.size 0 S row col ra ca ∧ R5 Vn Vq.heap.size 5 S' row' col' ra' ca') ∧ PT Vn p L b off cap (j + 1) := by
    have hle : W.heap.size ≤ W.heap.size := Nat.le_refl _
    have hq := QVh.out
    have QF : Qx W.heap.size Vq (((((((Vq.setCell ⟨W.heap.size, 0, none⟩ (.int .i64 6)).setCell ⟨W.heap.size, 1, none⟩ (.int .i64 0)).setCell ⟨W.heap.size, 2, none⟩ (.string ⟨#[]⟩)).setCell ⟨W.heap.size, 3, none⟩ (.bool false)).setCell ⟨W.heap.size, 4, none⟩ (.int .i64 0)).setCell ⟨W.heap.size, 5, none⟩ (.slice (some ⟨Vq.heap.size, 0, none⟩) 2 2)).setCell ⟨W.heap.size, 6, none⟩ (.slice none 0 0)) := (((((((Qx.refl _ _).own _ _).own _ _).own _ _).own _ _).own _ _).own _ _).own _ _
    have zS : (((((((Vq.setCell ⟨W.heap.size, 0, none⟩ (.int .i64 6)).setCell ⟨W.heap.size, 1, none⟩ (.int .i64 0)).setCell ⟨W.heap.size, 2, none⟩ (.string ⟨#[]⟩)).setCell ⟨W.heap.size, 3, none⟩ (.bool false)).setCell ⟨W.heap.size, 4, none⟩ (.int .i64 0)).setCell ⟨W.heap.size, 5, none⟩ (.slice (some ⟨Vq.heap.size, 0, none⟩) 2 2)).setCell ⟨W.heap.size, 6, none⟩ (.slice none 0 0)).heap.size = Vq.heap.size := by simp [World.setCell]
    have r2 := r5_two (((((((Vq.setCell ⟨W.heap.size, 0, none⟩ (.int .i64 6)).setCell ⟨W.heap.size, 1, none⟩ (.int .i64 0)).setCell ⟨W.heap.size, 2, none⟩ (.string ⟨#[]⟩)).setCell ⟨W.heap.size, 3, none⟩ (.bool false)).setCell ⟨W.heap.size, 4, none⟩ (.int .i64 0)).setCell ⟨W.heap.size, 5, none⟩ (.slice (some ⟨Vq.heap.size, 0, none⟩) 2 2)).setCell ⟨W.heap.size, 6, none⟩ (.slice none 0 0)) S row col ra ca S' row' col' ra' ca' 49
    rw [zS] at r2
    exact ⟨_, rfl, ((ZVh.out.put _ _ _ _ _ _ _).on ((Qx.refl p _).alloc _) (by omega)).on ((Qx.refl p _).drew) (by omega), ((((((((hq.new hle _ _).new hle _ _).new hle _ _).new hle _ _).new hle _ _).new hle _ _).new hle _ _).alloc _).drew, ⟨r2.1.on ((Qx.refl p _).drew) (by omega), r2.2.on ((Qx.refl p _).drew) (by omega)⟩, ((PVh.out.onx QF (by omega) (by omega) (by have := PVh.out.p5; omega)).on ((Q.refl _).alloc _)).on ((Q.refl _).drew)⟩
  rw [← hVn]
  have TVh := hid TVn
  have ABh := hid AB
  have PNh := hid PN
  clear hVn g0 x0 g1 x1 g2 x2 g3 x3 g4 x4 g5 x5 g6 x6 TVn AB PN m0 m1 m2 m3 m4 n0 n1 n2 n3 n4
  have g0 := TVh.out.g0
  have g1 := TVh.out.g1
  have g2 := TVh.out.g2
  have g3 := TVh.out.g3
  have g4 := TVh.out.g4
  have g5 := TVh.out.g5
  have g6 := TVh.out.g6
  go_wp2_with fail
  refine bodyPost_ret (v := .tuple #[.agg #[.int .i64 6, .int .i64 0, .string ⟨#[]⟩, .bool false, .int .i64 0, .slice (some ⟨Vq.heap.size, 0, none⟩) 2 2, .slice none 0 0], .bool false]) (by simp [results, Tryd.results48, go_sem, g0, g1, g2, g3, g4, g5, g6]) rfl ?_
  exact ⟨6, 0, ⟨#[]⟩, false, 0, some ⟨Vq.heap.size, 0, none⟩, 2, 2, none, 0, 0, rfl, QVn, fun x j' e => by cases e⟩
end Go.Proofs.YtgheopdadfnilaaDoor
namespace Go.Proofs.YtgheopdadfnilaaDoor
open Go.RowKit
set_option linter.unusedVariables false
set_option linter.unusedSimpArgs false


/-- a tree is laid into the block of the result and handed back -/
theorem fin7g {p : Nat} {L : List Wd} {b off cap : Nat} {W w3 : World} {x : Ex} {s' : St} (RB : Nat) (k m : Int) (t : ByteArray) (bb : Bool) (er : Int) (a1 : Option Addr) (l1 c1 : Nat) (a2 : Option Addr) (l2 c2 : Nat) (hRB : W.heap.size ≤ RB) (hp : p < W.heap.size) (hb : b < W.heap.size) (hq : Qx p W w3) (hr : Rdg (fun b => W.heap.size ≤ b ∧ b ≠ RB) w3 x (.agg #[.int .i64 k, .int .i64 m, .string t, .bool bb, .int .i64 er, .slice a1 l1 c1, .slice a2 l2 c2])) (h : PS w3 p L b off cap s'.i s'.bd s'.n) :
    Rep p L b off cap W (x, s') (.returned (.agg #[.int .i64 k, .int .i64 m, .string t, .bool bb, .int .i64 er, .slice a1 l1 c1, .slice a2 l2 c2])) (((((((w3.setCell ⟨RB, 0, none⟩ (.int .i64 k)).setCell ⟨RB, 1, none⟩ (.int .i64 m)).setCell ⟨RB, 2, none⟩ (.string t)).setCell ⟨RB, 3, none⟩ (.bool bb)).setCell ⟨RB, 4, none⟩ (.int .i64 er)).setCell ⟨RB, 5, none⟩ (.slice a1 l1 c1)).setCell ⟨RB, 6, none⟩ (.slice a2 l2 c2)) := by
  have QF : Qx RB w3 (((((((w3.setCell ⟨RB, 0, none⟩ (.int .i64 k)).setCell ⟨RB, 1, none⟩ (.int .i64 m)).setCell ⟨RB, 2, none⟩ (.string t)).setCell ⟨RB, 3, none⟩ (.bool bb)).setCell ⟨RB, 4, none⟩ (.int .i64 er)).setCell ⟨RB, 5, none⟩ (.slice a1 l1 c1)).setCell ⟨RB, 6, none⟩ (.slice a2 l2 c2)) := (((((((Qx.refl _ _).own _ _).own _ _).own _ _).own _ _).own _ _).own _ _).own _ _
  refine ⟨_, rfl, Rdg.mono (fun b hb => hb.1) _ _ (Rdg.on QF (fun b hb => hb.2) _ _ hr), ?_, h.onx QF (by omega) (by omega)⟩
  exact ((((((hq.new hRB _ _).new hRB _ _).new hRB _ _).new hRB _ _).new hRB _ _).new hRB _ _).new hRB _ _

end Go.Proofs.YtgheopdadfnilaaDoor
namespace Go.Proofs.YtgheopdadfnilaaDoor
open Go.RowKit
set_option linter.unusedVariables false
set_option linter.unusedSimpArgs false


/-- the seven values of a tree, as a row holds them -/
structure V7 where
  c0 : Value
  c1 : Value
  c2 : Value
  c3 : Value
  c4 : Value
  c5 : Value
  c6 : Value
def enc7 (x : V7) : List Value := [x.c0, x.c1, x.c2, x.c3, x.c4, x.c5, x.c6]
def agg7 (x : V7) : Value := .agg #[x.c0, x.c1, x.c2, x.c3, x.c4, x.c5, x.c6]
theorem enc7_len (x : V7) : (enc7 x).length = 7 := rfl
theorem info28 : (Tryd.prog.info? 30).map (fun i => (i.zero, i.size, i.bytes)) = some (some (.agg #[.int .i64 0, .int .i64 0, .string ⟨#[]⟩, .bool false, .int .i64 0, .slice none 0 0, .slice none 0 0]), 7, 96) := by kernel_rfl
/-- a tree's block, its kids' slice written over -/
theorem Tb.put6 {W : World} {q : Nat} {c0 c1 c2 c3 c4 c5 c6 : Value} (h : Tb W q c0 c1 c2 c3 c4 c5 c6) (d : Value) : Tb (W.setCell ⟨q, 6, none⟩ d) q c0 c1 c2 c3 c4 c5 d := by
  obtain ⟨h0, h1, h2, h3, h4, h5, h6, hf⟩ := h
  refine ⟨?_, ?_, ?_, ?_, ?_, ?_, World.cell?_setCell_same _ _ _ h6, fun j => by rw [World.frozen?_setCell]; exact hf j⟩
  all_goals (rw [World.cell?_setCell_other _ _ _ _ (by simp)]; assumption)
/-- what an append has turned: one block, which is not among the old ones that are named -/
theorem grown_qx {w w' : World} {v : Value} {n : Nat} (g : w.grownBy w' v.ownBlock) (hn : n ≤ w.heap.size) (ho : ∀ j, v.ownBlock = some j → n ≤ j) : ∃ r, Qx r w w' ∧ n ≤ r ∧ (v.ownBlock = some r ∨ r = w.heap.size) := by
  cases hv : v.ownBlock with
  | none =>
    rw [hv] at g
    exact ⟨w.heap.size, ⟨g.os, g.tape, g.output, g.size, fun i hi _ => g.block i hi (fun e => by cases e)⟩, hn, .inr rfl⟩
  | some j =>
    rw [hv] at g
    exact ⟨j, g, ho j hv, .inl rfl⟩
/-- trees in a row of one's own -/
theorem rdl_row {g : Nat → Prop} {W : World} {B q : Nat} : ∀ (ks : List Ex) (Ls : List V7) (o : Nat), ks.length = Ls.length → (∀ i (h : i < Ls.length), Ats enc7 W q (o + i * 7) Ls[i]) → (∀ i (h : i < ks.length) (h' : i < Ls.length), Rdg g W ks[i] (agg7 Ls[i])) → Rdg.RdLg g W ks q o := by
  intro ks
  induction ks with
  | nil => intro Ls o _ _ _; unfold Rdg.RdLg; trivial
  | cons x xs ih =>
    intro Ls o hl ha hr
    cases Ls with
    | nil => simp at hl
    | cons y ys =>
      unfold Rdg.RdLg
      have h0 := ha 0 (by simp)
      simp only [List.getElem_cons_zero, Nat.zero_mul, Nat.add_zero] at h0
      refine ⟨⟨y.c0, y.c1, y.c2, y.c3, y.c4, y.c5, y.c6, h0 0 _ rfl, h0 1 _ rfl, h0 2 _ rfl, h0 3 _ rfl, h0 4 _ rfl, h0 5 _ rfl, h0 6 _ rfl, hr 0 (by simp) (by simp)⟩, ?_⟩
      refine ih ys (o + 7) (by simpa using hl) (fun i h => ?_) (fun i h h' => ?_)
      · have := ha (i + 1) (by simpa using h)
        simp only [List.getElem_cons_succ] at this
        rw [show o + 7 + i * 7 = o + (i + 1) * 7 by omega]
        exact this
      · exact hr (i + 1) (by simpa using h) (by simpa using h')
/-- a call's tree -/
theorem rdg_call {g : Nat → Prop} {W : World} {B : Nat} {t : List UInt8} {T : ByteArray} (hT : T.data.toList = t) {ks : List Ex} {Ls : List V7} {kv : Value} (ow : Own enc7 30 7 B W kv Ls) (hl : ks.length = Ls.length) (hb : ∀ j, kv.ownBlock = some j → g j) (hr : ∀ i (h : i < ks.length) (h' : i < Ls.length), Rdg g W ks[i] (agg7 Ls[i])) :
    Rdg g W (callE t ks) (.agg #[.int .i64 9, .int .i64 0, .string T, .bool false, .int .i64 0, .slice none 0 0, kv]) := by
  have e : T = ⟨t.toArray⟩ := bytes_eq hT
  subst e
  unfold callE Rdg
  refine ⟨_, _, rfl, ⟨none, 0, rfl, Nat.le_refl _, Nat.zero_le _, fun h => absurd h (by simp)⟩, ?_⟩
  obtain ⟨ao, cap, hv, h1, h2⟩ := (ow.sl enc7_len (by omega)).len
  refine ⟨ao, cap, by rw [hl]; exact hv, by omega, h2, fun hn => ?_⟩
  have hpos : 0 < Ls.length := by rw [← hl]; exact List.length_pos_iff.2 hn
  obtain ⟨g', cap', hv', _, _, _, _⟩ := ow.shape hpos
  refine ⟨g', 0, ?_, hb g' (by rw [hv']; rfl), ?_, ?_⟩
  · rw [hv] at hv'
    simp only [Value.slice.injEq] at hv'
    exact hv'.1
  · obtain ⟨_, ho⟩ := ow
    rcases ho with ⟨hv0, _⟩ | ⟨g0, cap0, cur0, hv0, _, hg0, _⟩
    · rw [hv0] at hv'; cases hv'
    · rw [hv0] at hv'
      simp only [Value.slice.injEq, Option.some.injEq, Addr.mk.injEq] at hv'
      exact ⟨_, _, by rw [← hv'.1.1]; exact hg0⟩
  · rw [hv'] at ow
    exact rdl_row (B := B) ks Ls 0 hl (fun i h => by rw [Nat.zero_add]; exact ow.cell enc7_len h) hr
/-- where the loop over arguments stands -/
structure AI (L : List Wd) (p b off cap : Nat) (W : World) (T : ByteArray) (t : List UInt8) (R : Ex × St) (W' : World) (f' : Nat) (ks : List Ex) (s1 : St) (Ls : List V7) (ao : Option Addr) (cp : Nat) : Prop where
  st : PS W' p L b off cap s1.i s1.bd s1.n
  lt : s1.i < L.length
  nb : s1.n + 1 ≤ s1.i
  fe : treeF.argsF EE L f' t ks s1 = some R
  xb : Tb W' (W.heap.size + 2) (.int .i64 9) (.int .i64 0) (.string T) (.bool false) (.int .i64 0) (.slice none 0 0) (.slice ao Ls.length cp)
  zb : Tb W' (W.heap.size + 1) (.int .i64 0) (.int .i64 0) (.string ⟨#[]⟩) (.bool false) (.int .i64 0) (.slice none 0 0) (.slice none 0 0)
  ow : Own enc7 30 7 W.heap.size W' (.slice ao Ls.length cp) Ls
  ln : ks.length = Ls.length
  ob : ∀ j, (Value.slice ao Ls.length cp).ownBlock = some j → W.heap.size + 3 ≤ j
  rd : ∀ i (h : i < ks.length) (h' : i < Ls.length), Rdg (fun b => W.heap.size + 3 ≤ b ∧ (Value.slice ao Ls.length cp).ownBlock ≠ some b) W' ks[i] (agg7 Ls[i])
  qx : Qx p W W'
  kl : ks.length ≤ 31
  kb : s1.bd = false → ks.length ≤ 30
  sz : W.heap.size + 3 ≤ W'.heap.size
def mzA (n p : Nat) (W : World) : Nat := 2 * (n - far p W) + (match W.cell? ⟨p, 2, none⟩ with
  | some (.bool true) => 0
  | _ => 1)
theorem mzA_of {W : World} {p : Nat} {L : List Wd} {b off cap i : Nat} {bd : Bool} {n : Nat} (h : PS W p L b off cap i bd n) (m : Nat) : mzA m p W = 2 * (m - i) + (if bd then 0 else 1) := by
  unfold mzA
  rw [far_of h, h.c2]
  cases bd <;> rfl
theorem args_done {L : List Wd} {f : Nat} {t : List UInt8} {ks : List Ex} {s : St} {R : Ex × St} (h : s.bd = true) (e : treeF.argsF EE L f t ks s = some R) : R = (callE t ks, s.node) := by
  cases f with
  | zero => unfold treeF.argsF at e; cases e
  | succ f => rw [treeF.argsF, if_pos h] at e; exact (Option.some.inj e).symm
theorem args_end {L : List Wd} {f : Nat} {t : List UInt8} {ks : List Ex} {s : St} {R : Ex × St} (h : s.bd = false) (hw : isW L s.i [41] = true) (e : treeF.argsF EE L f t ks s = some R) : R = (callE t ks, s.on.node) := by
  cases f with
  | zero => unfold treeF.argsF at e; cases e
  | succ f => rw [treeF.argsF, if_neg (by rw [h]; simp), if_pos hw] at e; exact (Option.some.inj e).symm
theorem args_bad {L : List Wd} {f : Nat} {t : List UInt8} {ks : List Ex} {s : St} {R : Ex × St} (h : s.bd = false) (hw : isW L s.i [41] = false) (hn : ks ≠ [] ∧ isW L s.i [44] = false) (e : treeF.argsF EE L f t ks s = some R) : R = (callE t ks, s.bad) := by
  cases f with
  | zero => unfold treeF.argsF at e; cases e
  | succ f => rw [treeF.argsF, if_neg (by rw [h]; simp), if_neg (by rw [hw]; simp), if_pos hn] at e; exact (Option.some.inj e).symm
theorem args_more {L : List Wd} {f : Nat} {t : List UInt8} {ks : List Ex} {s : St} {R : Ex × St} (h : s.bd = false) (hw : isW L s.i [41] = false) (hn : ¬ (ks ≠ [] ∧ isW L s.i [44] = false)) (e : treeF.argsF EE L f t ks s = some R) : ∃ g r, f = g + 1 ∧ treeF EE L g 1 (if ks = [] then s else s.on) = some r ∧ treeF.argsF EE L g t (ks ++ [r.1]) (argS ks r.2) = some R := by
  cases f with
  | zero => unfold treeF.argsF at e; cases e
  | succ f =>
    rw [treeF.argsF, if_neg (by rw [h]; simp), if_neg (by rw [hw]; simp), if_neg hn] at e
    obtain ⟨r, h1, h2⟩ := Option.bind_eq_some_iff.1 e
    exact ⟨f, r, rfl, h1, h2⟩
end Go.Proofs.YtgheopdadfnilaaDoor
namespace Go.Proofs.YtgheopdadfnilaaDoor
open Go.RowKit
set_option linter.unusedVariables false
set_option linter.unusedSimpArgs false


theorem one7 (k m : Int) (t : ByteArray) (bb : Bool) (er : Int) (a1 : Option Addr) (l1 c1 : Nat) (a2 : Option Addr) (l2 c2 : Nat) : ∀ u ∈ ([.int .i64 k, .int .i64 m, .string t, .bool bb, .int .i64 er, .slice a1 l1 c1, .slice a2 l2 c2] : List Value), u.oneCell' = true := by
  intro u hu
  simp at hu
  rcases hu with rfl | rfl | rfl | rfl | rfl | rfl | rfl <;> rfl

theorem Qx.via {p r : Nat} {a b c : World} (h : Qx p a b) (k : Qx r b c) (hr : a.heap.size ≤ r) : Qx p a c :=
  ⟨k.os.trans h.os, k.tape.trans h.tape, k.output.trans h.output, Nat.le_trans h.size k.size, fun i hi hp => (k.block i (Nat.lt_of_lt_of_le hi h.size) (fun e => by have := Option.some.inj e; omega)).trans (h.block i hi hp)⟩
/-- one argument more -/
theorem AI.next {L : List Wd} {p b off cap : Nat} {W : World} {T : ByteArray} {t : List UInt8} {R : Ex × St} {wr w8 w9 : World} {f' g : Nat} {ks : List Ex} {s1 : St} {Ls : List V7} {ao : Option Addr} {cp : Nat} (h : AI L p b off cap W T t R wr f' ks s1 Ls ao cp) (hp : p < W.heap.size) (hb : b < W.heap.size)
    (r : Ex × St) (x : V7) (Q8 : Qx p wr w8) (P8 : PS w8 p L b off cap r.2.i r.2.bd r.2.n) (R8 : Rdg (fun b => wr.heap.size ≤ b) w8 r.1 (agg7 x)) (o1 o2 : Obj) (ao' : Option Addr) (cp' : Nat)
    (ow9 : Own enc7 30 7 W.heap.size w9 (.slice ao' (Ls.length + 1) cp') (Ls ++ [x])) (hgrow : ((w8.alloc o1).alloc o2).grownBy w9 (Value.slice ao Ls.length cp).ownBlock) (hat : (Value.slice ao' (Ls.length + 1) cp').ownBlock = (Value.slice ao Ls.length cp).ownBlock ∨ (Value.slice ao' (Ls.length + 1) cp').ownBlock = some ((w8.alloc o1).alloc o2).heap.size)
    (bv : Bool) (hbv : (argS ks r.2).bd = bv) (hlt : r.2.i < L.length) (hnb : r.2.n + 1 ≤ r.2.i) (hfe : treeF.argsF EE L g t (ks ++ [r.1]) (argS ks r.2) = some R) (hk : ks.length ≤ 30) :
    AI L p b off cap W T t R ((w9.setCell ⟨W.heap.size + 2, 6, none⟩ (.slice ao' (Ls.length + 1) cp')).setCell ⟨p, 2, none⟩ (.bool bv)) g (ks ++ [r.1]) (argS ks r.2) (Ls ++ [x]) ao' cp' := by
  have hlen : (Ls ++ [x]).length = Ls.length + 1 := by simp
  have hs8 : wr.heap.size ≤ w8.heap.size := Q8.size
  have hsA : ((w8.alloc o1).alloc o2).heap.size = w8.heap.size + 2 := by simp
  obtain ⟨r9, Qr, hr9, hro⟩ := grown_qx (n := W.heap.size + 3) hgrow (by have := h.sz; omega) h.ob
  have hs9 : w8.heap.size + 2 ≤ w9.heap.size := by have := Qr.size; omega
  have QA : Qx p wr ((w8.alloc o1).alloc o2) := (Q8.alloc _).alloc _
  have QS : Qx (W.heap.size + 2) w9 (w9.setCell ⟨W.heap.size + 2, 6, none⟩ (.slice ao' (Ls.length + 1) cp')) := (Qx.refl _ _).own _ _
  have QP : Qx p (w9.setCell ⟨W.heap.size + 2, 6, none⟩ (.slice ao' (Ls.length + 1) cp')) ((w9.setCell ⟨W.heap.size + 2, 6, none⟩ (.slice ao' (Ls.length + 1) cp')).setCell ⟨p, 2, none⟩ (.bool bv)) := (Qx.refl _ _).own _ _
  have hob : ∀ j, (Value.slice ao' (Ls.length + 1) cp').ownBlock = some j → W.heap.size + 3 ≤ j := by
    intro j hj
    rcases hat with e | e
    · exact h.ob j (e ▸ hj)
    · rw [e] at hj
      have := Option.some.inj hj
      have := h.sz
      omega
  have hlt' := h.ow.lt
  refine ⟨?_, hlt, hnb, hfe, ?_, ?_, ?_, by rw [hlen, List.length_append, h.ln]; rfl, ?_, ?_, ?_, by simp; omega, fun e => ?_, ?_⟩
  · have P9 := ((((P8.on ((Q.refl _).alloc o1)).on ((Q.refl _).alloc o2)).onx Qr (by omega) (by omega)).onx QS (by omega) (by omega)).set2 bv
    rw [hbv]
    exact P9
  · rw [hlen]
    exact (((h.xb.on QA (by omega)).on Qr (by omega)).put6 _).on QP (by omega)
  · exact (((h.zb.on QA (by omega)).on Qr (by omega)).on QS (by omega)).on QP (by omega)
  · rw [hlen]
    refine (ow9.grown QS (.inr fun e => ?_)).grown QP (.inr fun e => ?_)
    · have := hob _ e; omega
    · have := hob _ e; omega
  · rw [hlen]
    exact hob
  · have hob2 : (Value.slice ao' (Ls ++ [x]).length cp').ownBlock = (Value.slice ao' (Ls.length + 1) cp').ownBlock := by rw [hlen]
    have fin : ∀ {y : Ex} {v : Value} {gg : Nat → Prop}, (∀ b, gg b → W.heap.size + 3 ≤ b ∧ (Value.slice ao Ls.length cp).ownBlock ≠ some b ∧ b < w8.heap.size) → Rdg gg ((w8.alloc o1).alloc o2) y v → Rdg (fun b => W.heap.size + 3 ≤ b ∧ (Value.slice ao' (Ls.length + 1) cp').ownBlock ≠ some b) ((w9.setCell ⟨W.heap.size + 2, 6, none⟩ (.slice ao' (Ls.length + 1) cp')).setCell ⟨p, 2, none⟩ (.bool bv)) y v := by
      intro y v gg hg hy
      refine Rdg.mono (fun b hb => ⟨(hg b hb).1, fun e => ?_⟩) _ _ (Rdg.on QP (fun b hb => by have := hg b hb; omega) _ _ (Rdg.on QS (fun b hb => by have := hg b hb; omega) _ _ (Rdg.on Qr (fun b hb e => ?_) _ _ hy)))
      · subst e
        rcases hro with e' | e'
        · exact (hg _ hb).2.1 e'
        · have := (hg _ hb).2.2; omega
      · rcases hat with e' | e'
        · rw [e'] at e; exact (hg b hb).2.1 e
        · rw [e'] at e
          have := Option.some.inj e
          have := (hg b hb).2.2
          omega
    intro i h1 h2
    refine Rdg.mono (g := fun b => W.heap.size + 3 ≤ b ∧ (Value.slice ao' (Ls.length + 1) cp').ownBlock ≠ some b) (fun b hb => ⟨hb.1, by rw [hob2]; exact hb.2⟩) _ _ ?_
    by_cases hi : i < ks.length
    · have hi' : i < Ls.length := by rw [← h.ln]; exact hi
      rw [List.getElem_append_left hi, List.getElem_append_left hi']
      refine fin (gg := fun b => (W.heap.size + 3 ≤ b ∧ (Value.slice ao Ls.length cp).ownBlock ≠ some b) ∧ b < wr.heap.size) (fun b hb => ⟨hb.1.1, hb.1.2, by have := hb.2; omega⟩) ?_
      exact Rdg.on QA (fun b hb => by omega) _ _ (Rdg.in _ _ (h.rd i hi hi'))
    · have e : i = ks.length := by simp at h1; omega
      subst e
      rw [List.getElem_append_right (by omega), List.getElem_append_right (by rw [h.ln]; omega)]
      simp only [h.ln, Nat.sub_self, List.getElem_cons_zero]
      refine fin (gg := fun b => wr.heap.size ≤ b ∧ b < w8.heap.size) (fun b hb => ⟨by have := h.sz; omega, fun e => ?_, hb.2⟩) ?_
      · have := hlt' _ e; omega
      · exact Rdg.on ((Qx.refl p _).alloc _) (fun b hb => by have := h.sz; omega) _ _ (Rdg.on ((Qx.refl p _).alloc _) (fun b hb => by have := h.sz; omega) _ _ (Rdg.in _ _ R8))
  · exact ((((h.qx.trans QA).via Qr (by omega)).new (by omega) _ _).own _ _)
  · rw [argS_bd] at e
    simp at e
    simp
    omega
  · have := h.sz
    simp [World.setCell]
    omega

theorem AI.call {L : List Wd} {p b off cap : Nat} {W : World} {T : ByteArray} {t : List UInt8} {R : Ex × St} {W' W2 : World} {f' : Nat} {ks : List Ex} {s1 : St} {Ls : List V7} {ao : Option Addr} {cp : Nat} (h : AI L p b off cap W T t R W' f' ks s1 Ls ao cp) (hT : T.data.toList = t) (hp : p < W.heap.size) (q : Qx p W' W2) :
    Rdg (fun b => W.heap.size ≤ b ∧ b ≠ W.heap.size + 1) W2 (callE t ks) (.agg #[.int .i64 9, .int .i64 0, .string T, .bool false, .int .i64 0, .slice none 0 0, .slice ao Ls.length cp]) := by
  refine rdg_call hT (h.ow.grown q ?_) h.ln (fun j hj => ?_) (fun i h1 h2 => Rdg.mono (fun b hb => ⟨by omega, by omega⟩) _ _ (Rdg.on q (fun b hb => by omega) _ _ (h.rd i h1 h2)))
  · refine .inr (fun e => ?_)
    have := h.ob _ e
    omega
  · have := h.ob j hj
    exact ⟨by omega, by omega⟩


end Go.Proofs.YtgheopdadfnilaaDoor
namespace Go.Proofs.YtgheopdadfnilaaDoor
open Go.RowKit
set_option linter.unusedVariables false
set_option linter.unusedSimpArgs false


/-- what the program's reader of arguments answers -/
def RepG (p : Nat) (L : List Wd) (b off cap : Nat) (t : List UInt8) (W : World) (o : Option (Ex × Nat)) (e : Ending) (W' : World) : Prop :=
  ∃ (ao : Option Addr) (l cp : Nat), e = .returned (.tuple #[.slice ao l cp, .bool o.isSome]) ∧ Qx p W W' ∧ (∀ x j, o = some (x, j) → (∀ T : ByteArray, T.data.toList = t → Rdg (fun b => W.heap.size ≤ b) W' x (.agg #[.int .i64 9, .int .i64 0, .string T, .bool false, .int .i64 0, .slice none 0 0, .slice ao l cp])) ∧ PT W' p L b off cap j)
/-- where the loop over arguments stands -/
structure AP (L : List Wd) (p b off cap : Nat) (W : World) (W' : World) (ks : List Ex) (i1 : Nat) (Ls : List V7) (ao : Option Addr) (cp : Nat) : Prop where
  pt : PT W' p L b off cap i1
  lt : i1 < L.length
  ow : Own enc7 30 7 W.heap.size W' (.slice ao Ls.length cp) Ls
  ln : ks.length = Ls.length
  ob : ∀ j, (Value.slice ao Ls.length cp).ownBlock = some j → W.heap.size ≤ j
  rd : ∀ i (h : i < ks.length) (h' : i < Ls.length), Rdg (fun b => W.heap.size ≤ b ∧ (Value.slice ao Ls.length cp).ownBlock ≠ some b) W' ks[i] (agg7 Ls[i])
  qx : Qx p W W'
theorem AP.on {L : List Wd} {p b off cap : Nat} {W W' W2 : World} {ks : List Ex} {i1 i2 : Nat} {Ls : List V7} {ao : Option Addr} {cp : Nat} (h : AP L p b off cap W W' ks i1 Ls ao cp) (hp : p < W.heap.size) (q : Qx p W' W2) (pt : PT W2 p L b off cap i2) (lt : i2 < L.length) : AP L p b off cap W W2 ks i2 Ls ao cp :=
  ⟨pt, lt, h.ow.grown q (.inr fun e => by have := h.ob _ e; omega), h.ln, h.ob, fun i h1 h2 => Rdg.on q (fun b hb => by omega) _ _ (h.rd i h1 h2), h.qx.trans q⟩
theorem AP.call {L : List Wd} {p b off cap : Nat} {W W' : World} {ks : List Ex} {i1 : Nat} {Ls : List V7} {ao : Option Addr} {cp : Nat} (h : AP L p b off cap W W' ks i1 Ls ao cp) {t : List UInt8} (T : ByteArray) (hT : T.data.toList = t) : Rdg (fun b => W.heap.size ≤ b) W' (callE t ks) (.agg #[.int .i64 9, .int .i64 0, .string T, .bool false, .int .i64 0, .slice none 0 0, .slice ao Ls.length cp]) :=
  rdg_call hT h.ow h.ln h.ob (fun i h1 h2 => Rdg.mono (fun b hb => hb.1) _ _ (h.rd i h1 h2))
/-- one argument more -/
theorem AP.next {L : List Wd} {p b off cap : Nat} {W : World} {wr w8 w9 : World} {ks : List Ex} {i1 : Nat} {Ls : List V7} {ao : Option Addr} {cp : Nat} (h : AP L p b off cap W wr ks i1 Ls ao cp) (hp : p < W.heap.size) (hb : b < W.heap.size)
    (y : Ex) (j : Nat) (x : V7) (Q8 : Qx p wr w8) (P8 : PT w8 p L b off cap j) (hj : j < L.length) (R8 : Rdg (fun b => wr.heap.size ≤ b) w8 y (agg7 x)) (o1 o2 : Obj) (ao' : Option Addr) (cp' : Nat)
    (ow9 : Own enc7 30 7 W.heap.size w9 (.slice ao' (Ls.length + 1) cp') (Ls ++ [x])) (hgrow : ((w8.alloc o1).alloc o2).grownBy w9 (Value.slice ao Ls.length cp).ownBlock) (hat : (Value.slice ao' (Ls.length + 1) cp').ownBlock = (Value.slice ao Ls.length cp).ownBlock ∨ (Value.slice ao' (Ls.length + 1) cp').ownBlock = some ((w8.alloc o1).alloc o2).heap.size) :
    AP L p b off cap W w9 (ks ++ [y]) j (Ls ++ [x]) ao' cp' := by
  have hlen : (Ls ++ [x]).length = Ls.length + 1 := by simp
  have hs8 : wr.heap.size ≤ w8.heap.size := Q8.size
  have hsW : W.heap.size ≤ wr.heap.size := h.qx.size
  have hsA : ((w8.alloc o1).alloc o2).heap.size = w8.heap.size + 2 := by simp
  obtain ⟨r9, Qr, hr9, hro⟩ := grown_qx (n := W.heap.size) hgrow (by omega) h.ob
  have QA : Qx p wr ((w8.alloc o1).alloc o2) := (Q8.alloc _).alloc _
  have hob : ∀ j, (Value.slice ao' (Ls.length + 1) cp').ownBlock = some j → W.heap.size ≤ j := by
    intro j hj
    rcases hat with e | e
    · exact h.ob j (e ▸ hj)
    · rw [e] at hj
      have := Option.some.inj hj
      omega
  have hlt' := h.ow.lt
  refine ⟨((P8.on ((Q.refl _).alloc o1)).on ((Q.refl _).alloc o2)).onx Qr (by omega) (by omega) (by have := P8.p5; omega), hj, by rw [hlen]; exact ow9, by rw [hlen, List.length_append, h.ln]; rfl, by rw [hlen]; exact hob, ?_, (h.qx.trans QA).via Qr (by omega)⟩
  have hob2 : (Value.slice ao' (Ls ++ [x]).length cp').ownBlock = (Value.slice ao' (Ls.length + 1) cp').ownBlock := by rw [hlen]
  have fin : ∀ {z : Ex} {v : Value} {gg : Nat → Prop}, (∀ b, gg b → W.heap.size ≤ b ∧ (Value.slice ao Ls.length cp).ownBlock ≠ some b ∧ b < w8.heap.size) → Rdg gg ((w8.alloc o1).alloc o2) z v → Rdg (fun b => W.heap.size ≤ b ∧ (Value.slice ao' (Ls.length + 1) cp').ownBlock ≠ some b) w9 z v := by
    intro z v gg hg hz
    refine Rdg.mono (fun b hb => ⟨(hg b hb).1, fun e => ?_⟩) _ _ (Rdg.on Qr (fun b hb e => ?_) _ _ hz)
    · subst e
      rcases hro with e' | e'
      · exact (hg _ hb).2.1 e'
      · have := (hg _ hb).2.2; omega
    · rcases hat with e' | e'
      · rw [e'] at e; exact (hg b hb).2.1 e
      · rw [e'] at e
        have := Option.some.inj e
        have := (hg b hb).2.2
        omega
  intro i h1 h2
  refine Rdg.mono (g := fun b => W.heap.size ≤ b ∧ (Value.slice ao' (Ls.length + 1) cp').ownBlock ≠ some b) (fun b hb => ⟨hb.1, by rw [hob2]; exact hb.2⟩) _ _ ?_
  by_cases hi : i < ks.length
  · have hi' : i < Ls.length := by rw [← h.ln]; exact hi
    rw [List.getElem_append_left hi, List.getElem_append_left hi']
    refine fin (gg := fun b => (W.heap.size ≤ b ∧ (Value.slice ao Ls.length cp).ownBlock ≠ some b) ∧ b < wr.heap.size) (fun b hb => ⟨hb.1.1, hb.1.2, by have := hb.2; omega⟩) ?_
    exact Rdg.on QA (fun b hb => by omega) _ _ (Rdg.in _ _ (h.rd i hi hi'))
  · have e : i = ks.length := by simp at h1; omega
    subst e
    rw [List.getElem_append_right (by omega), List.getElem_append_right (by rw [h.ln]; omega)]
    simp only [h.ln, Nat.sub_self, List.getElem_cons_zero]
    refine fin (gg := fun b => wr.heap.size ≤ b ∧ b < w8.heap.size) (fun b hb => ⟨by omega, fun e => ?_, hb.2⟩) ?_
    · have := hlt' _ e; omega
    · exact Rdg.on ((Qx.refl p _).alloc _) (fun b hb => by omega) _ _ (Rdg.on ((Qx.refl p _).alloc _) (fun b hb => by omega) _ _ (Rdg.in _ _ R8))
theorem pg_go {L : List Wd} {f i : Nat} {t : List UInt8} {ks : List Ex} {R : Option (Ex × Nat)} (h : ks.length < 30) (e : ptF.pgF EE L f t ks i = some R) : ∃ g o, f = g + 1 ∧ ptF EE L g 1 i = some o ∧ (o = none → R = none) ∧ (∀ r, o = some r → isW L r.2 [44] = true → ptF.pgF EE L g t (ks ++ [r.1]) (r.2 + 1) = some R) ∧ (∀ r, o = some r → isW L r.2 [44] = false → R = if isW L r.2 [41] then some (callE t (ks ++ [r.1]), r.2 + 1) else none) := by
  cases f with
  | zero => unfold ptF.pgF at e; cases e
  | succ f =>
    rw [ptF.pgF, if_pos h] at e
    obtain ⟨o, h1, h2⟩ := Option.bind_eq_some_iff.1 e
    refine ⟨f, o, rfl, h1, fun ho => ?_, fun r ho hw => ?_, fun r ho hw => ?_⟩
    · subst ho; exact (Option.some.inj h2).symm
    · subst ho; simp only at h2; rw [if_pos hw] at h2; exact h2
    · subst ho; simp only at h2; rw [if_neg (by rw [hw]; simp)] at h2; exact (Option.some.inj h2).symm
theorem pg_stop {L : List Wd} {f i : Nat} {t : List UInt8} {ks : List Ex} {R : Option (Ex × Nat)} (h : ¬ ks.length < 30) (e : ptF.pgF EE L f t ks i = some R) : R = none := by
  cases f with
  | zero => unfold ptF.pgF at e; cases e
  | succ f => rw [ptF.pgF, if_neg h] at e; exact (Option.some.inj e).symm
end Go.Proofs.YtgheopdadfnilaaDoor
namespace Go.Proofs.YtgheopdadfnilaaDoor
open Go.RowKit
set_option linter.unusedVariables false
set_option linter.unusedSimpArgs false


set_option maxRecDepth 100000 in
set_option maxHeartbeats 8000000 in
theorem pargs_nil (L : List Wd) (p b off cap i : Nat) (W : World) (t : List UInt8) (h : PT W p L b off cap i) (hi : i < L.length) (hr : L.length ≤ 50000) (hw : isW L i [41] = true) :
    Calls Tryd.prog 64 #[.pointer (some ⟨p, 0, none⟩)] W fun e W' => RepG p L b off cap t W (some (callE t [], i + 1)) e W' := by
  have HP := hid h
  have hc := hid (ptake_any W p L b off cap i ⟨#[41]⟩ h hi hr (by simp))
  rw [show (⟨#[41]⟩ : ByteArray).data.toList = [41] from rfl, hw] at hc
  clear h
  go_enter Tryd.func64, Tryd.ntmps64
  go_wp2_with (go_at_call 31; refine hc.out.mono ?_; rintro e w1 ⟨rfl, q1, p1⟩; have Q1 := hid q1; have P1 := hid p1; clear q1 p1)
  go_ret2
  refine ⟨none, 0, 0, rfl, Q1.out, fun x j e => ?_⟩
  cases e
  exact ⟨fun T hT => rdg_leaf 9 0 t T hT false 0, P1.out⟩

set_option maxRecDepth 100000 in
set_option maxHeartbeats 16000000 in
theorem pargs_more (L : List Wd) (hE : Ends L) (p b off cap i : Nat) (W : World) (t : List UInt8) (h : PT W p L b off cap i) (hi : i < L.length) (hr : L.length ≤ 50000) (hw : isW L i [41] = false) (R : Option (Ex × Nat)) (f0 : Nat) (HR : Hid (ptF.pgF EE L f0 t [] i = some R))
    (HT2 : Hid (∀ f' j o W1, f' < f0 → ptF EE L f' 1 j = some o → PT W1 p L b off cap j → j < L.length → Calls Tryd.prog 11 #[.pointer (some ⟨p, 0, none⟩), .int .i64 1] W1 fun e W' => RepP p L b off cap W1 o e W')) :
    Calls Tryd.prog 64 #[.pointer (some ⟨p, 0, none⟩)] W fun e W' => RepG p L b off cap t W R e W' := by
  have hlt := h.lt
  have hbW := h.blk i hi
  have hc := hid (ptake_any W p L b off cap i ⟨#[41]⟩ h hi hr (by simp))
  rw [show (⟨#[41]⟩ : ByteArray).data.toList = [41] from rfl, hw] at hc
  clear h
  go_enter Tryd.func64, Tryd.ntmps64
  go_wp2_with (go_at_call 31; refine hc.out.mono ?_; rintro e w1 ⟨rfl, q1, p1⟩; have Q1 := hid q1; have P1 := hid p1; clear q1 p1)
  have HI : Hid (AP L p b off cap W w1 [] i [] none 0) := hid ⟨P1.out, hi, own_nil _, rfl, (fun j hj => by cases hj), (fun i h => absurd h (by simp)), Q1.out⟩
  go_loopw [4, 5, 6] (fun u _ _ W' => ∃ (f' : Nat) (ks : List Ex) (i1 : Nat) (Ls : List V7) (ao : Option Addr) (cp : Nat), f' ≤ f0 ∧ u = .slice ao Ls.length cp ∧ AP L p b off cap W W' ks i1 Ls ao cp ∧ ks.length ≤ 30 ∧ ptF.pgF EE L f' t ks i1 = some R) (fun _ _ _ W' => L.length - far p W')
  case atStart => exact ⟨f0, [], i, [], none, 0, Nat.le_refl _, rfl, HI.out, by simp, HR.out⟩
  case round =>
    obtain ⟨f', ks, i1, Ls, ao, cp, hf', rfl, hI, hkl, hfe⟩ := hrel
    clear HI P1 Q1 HR hc
    have HI2 := hid hI
    have hln := hI.ln
    have hlt1 := hI.lt
    by_cases h30 : ks.length < 30
    · have c30 : (Ls.length : Int) < 30 := by omega
      obtain ⟨g, o, rfl, hpt, hon, hoc, hob⟩ := pg_go h30 hfe
      have HTR := hid (fun W1 (g1 : PT W1 p L b off cap i1) => HT2.out g i1 o W1 (by omega) hpt g1 hlt1)
      obtain ⟨i0, hi0, hz0, hz1, hz2⟩ := inf_of info28
      have hop : (Value.slice ao Ls.length cp).ownBlock = none ∨ (Value.slice ao Ls.length cp).ownBlock ≠ some p := .inr (fun e => by have := HI2.out.ob _ e; omega)
      have hsW : W.heap.size ≤ wr.heap.size := hI.qx.size
      have HPT := hid hpt
      cases o with
      | none =>
        have eR := hon rfl
        subst eR
        clear hI hfe hon hoc hob hpt
        go_wp2_with (go_at_call 11; refine (HTR.out _ HI2.out.pt).mono ?_; rintro e w8 h8; obtain ⟨k8, m8, t8, bb8, er8, a18, l18, c18, a28, l28, c28, rfl, q8, _⟩ := h8.inN; have Q8 := hid q8; clear h8 q8)
        go_ret2
        exact ⟨none, 0, 0, rfl, (HI2.out.qx.trans Q8.out).alloc _, fun x j e => by cases e⟩
      | some r =>
        obtain ⟨y, j⟩ := r
        have hpos := (pfwd_all EE L hE g).1 _ _ _ _ (by omega) hlt1 hpt
        have hj := hpos.2
        have hc4 := hid (fun W1 (g1 : PT W1 p L b off cap j) => ptake_any W1 p L b off cap j ⟨#[44]⟩ g1 hj hr (by simp))
        have hc1 := hid (fun W1 (g1 : PT W1 p L b off cap j) => ptake_any W1 p L b off cap j ⟨#[41]⟩ g1 hj hr (by simp))
        rw [show (⟨#[44]⟩ : ByteArray).data.toList = [44] from rfl] at hc4
        rw [show (⟨#[41]⟩ : ByteArray).data.toList = [41] from rfl] at hc1
        have HOC := hid (hoc _ rfl)
        have HOB := hid (hob _ rfl)
        simp only at HOC HOB
        clear hI hfe hon hoc hob hpt
        cases h44 : isW L j [44]
        · rw [h44] at hc4
          cases h41 : isW L j [41]
          · rw [h41] at hc1
            have eR := HOB.out h44
            rw [h41] at eR
            simp at eR
            subst eR
            go_wp2_with (first | (go_at_call 31; refine (hc1.out _ PA.out).mono ?_; rintro e wB ⟨rfl, qB, pB⟩; have QB := hid qB; have PB := hid pB; clear qB pB) | (go_at_call 31; refine (hc4.out _ AN.out.pt).mono ?_; rintro e wA ⟨rfl, qA, pA⟩; have QA := hid qA; have PA := hid pA; clear qA pA) | (at_builtin; refine wpList_append_own_at _ rfl _ _ 28 rfl W.heap.size 30 i0 (.agg #[.int .i64 0, .int .i64 0, .string ⟨#[]⟩, .bool false, .int .i64 0, .slice none 0 0, .slice none 0 0]) 7 96 Tryd.underlying28 hi0 hz0 hz1 hz2 rfl (by decide) _ _ _ rfl (((HI2.out.ow.grown Q8.out hop).alloc _).alloc _) ⟨w8.heap.size + 1, 0, none⟩ 1 1 [.int .i64 k8, .int .i64 m8, .string t8, .bool bb8, .int .i64 er8, .slice a18 l18 c18, .slice a28 l28 c28] rfl rfl (news_at _ [.int .i64 k8, .int .i64 m8, .string t8, .bool bb8, .int .i64 er8, .slice a18 l18 c18, .slice a28 l28 c28] 30 _ (by simp)) (one7 _ _ _ _ _ _ _ _ _ _ _) (by unfold maxLen; omega) (by omega) (by simp; omega) ?_; intro v9 w9 hown9 hgrow9 _ hat9; have ow9 := own_snoc' (x := (⟨.int .i64 k8, .int .i64 m8, .string t8, .bool bb8, .int .i64 er8, .slice a18 l18 c18, .slice a28 l28 c28⟩ : V7)) hown9 rfl; obtain ⟨ao9, cp9, hv9, _, _⟩ := (ow9.sl enc7_len (by omega)).len; rw [show (Ls ++ [(⟨.int .i64 k8, .int .i64 m8, .string t8, .bool bb8, .int .i64 er8, .slice a18 l18 c18, .slice a28 l28 c28⟩ : V7)]).length = Ls.length + 1 by simp] at hv9; subst hv9; have AN := hid (HI2.out.next hlt hbW y j ⟨.int .i64 k8, .int .i64 m8, .string t8, .bool bb8, .int .i64 er8, .slice a18 l18 c18, .slice a28 l28 c28⟩ Q8.out P8.out hj R8.out (.cells #[.int .i64 k8, .int .i64 m8, .string t8, .bool bb8, .int .i64 er8, .slice a18 l18 c18, .slice a28 l28 c28] 30) (.cells #[.int .i64 k8, .int .i64 m8, .string t8, .bool bb8, .int .i64 er8, .slice a18 l18 c18, .slice a28 l28 c28] 30) ao9 cp9 ow9 hgrow9 hat9); clear hown9 hgrow9 hat9 ow9) | (go_at_call 11; refine (HTR.out _ HI2.out.pt).mono ?_; rintro e w8 h8; obtain ⟨k8, m8, t8, bb8, er8, a18, l18, c18, a28, l28, c28, rfl, q8, r8, p8⟩ := h8.inY; have R8 : Hid (Rdg (fun b => wr.heap.size ≤ b) w8 y (agg7 ⟨.int .i64 k8, .int .i64 m8, .string t8, .bool bb8, .int .i64 er8, .slice a18 l18 c18, .slice a28 l28 c28⟩)) := hid r8; have Q8 := hid q8; have P8 := hid p8; have hz8 : wr.heap.size ≤ w8.heap.size := q8.size; clear h8 q8 r8 p8))
            go_ret2
            exact ⟨ao9, Ls.length + 1, cp9, rfl, (AN.out.qx.trans QA.out).trans QB.out, fun x j e => by cases e⟩
          · rw [h41] at hc1
            have eR := HOB.out h44
            rw [h41] at eR
            simp at eR
            subst eR
            go_wp2_with (first | (go_at_call 31; refine (hc1.out _ PA.out).mono ?_; rintro e wB ⟨rfl, qB, pB⟩; have QB := hid qB; have PB := hid pB; clear qB pB) | (go_at_call 31; refine (hc4.out _ AN.out.pt).mono ?_; rintro e wA ⟨rfl, qA, pA⟩; have QA := hid qA; have PA := hid pA; clear qA pA) | (at_builtin; refine wpList_append_own_at _ rfl _ _ 28 rfl W.heap.size 30 i0 (.agg #[.int .i64 0, .int .i64 0, .string ⟨#[]⟩, .bool false, .int .i64 0, .slice none 0 0, .slice none 0 0]) 7 96 Tryd.underlying28 hi0 hz0 hz1 hz2 rfl (by decide) _ _ _ rfl (((HI2.out.ow.grown Q8.out hop).alloc _).alloc _) ⟨w8.heap.size + 1, 0, none⟩ 1 1 [.int .i64 k8, .int .i64 m8, .string t8, .bool bb8, .int .i64 er8, .slice a18 l18 c18, .slice a28 l28 c28] rfl rfl (news_at _ [.int .i64 k8, .int .i64 m8, .string t8, .bool bb8, .int .i64 er8, .slice a18 l18 c18, .slice a28 l28 c28] 30 _ (by simp)) (one7 _ _ _ _ _ _ _ _ _ _ _) (by unfold maxLen; omega) (by omega) (by simp; omega) ?_; intro v9 w9 hown9 hgrow9 _ hat9; have ow9 := own_snoc' (x := (⟨.int .i64 k8, .int .i64 m8, .string t8, .bool bb8, .int .i64 er8, .slice a18 l18 c18, .slice a28 l28 c28⟩ : V7)) hown9 rfl; obtain ⟨ao9, cp9, hv9, _, _⟩ := (ow9.sl enc7_len (by omega)).len; rw [show (Ls ++ [(⟨.int .i64 k8, .int .i64 m8, .string t8, .bool bb8, .int .i64 er8, .slice a18 l18 c18, .slice a28 l28 c28⟩ : V7)]).length = Ls.length + 1 by simp] at hv9; subst hv9; have AN := hid (HI2.out.next hlt hbW y j ⟨.int .i64 k8, .int .i64 m8, .string t8, .bool bb8, .int .i64 er8, .slice a18 l18 c18, .slice a28 l28 c28⟩ Q8.out P8.out hj R8.out (.cells #[.int .i64 k8, .int .i64 m8, .string t8, .bool bb8, .int .i64 er8, .slice a18 l18 c18, .slice a28 l28 c28] 30) (.cells #[.int .i64 k8, .int .i64 m8, .string t8, .bool bb8, .int .i64 er8, .slice a18 l18 c18, .slice a28 l28 c28] 30) ao9 cp9 ow9 hgrow9 hat9); clear hown9 hgrow9 hat9 ow9) | (go_at_call 11; refine (HTR.out _ HI2.out.pt).mono ?_; rintro e w8 h8; obtain ⟨k8, m8, t8, bb8, er8, a18, l18, c18, a28, l28, c28, rfl, q8, r8, p8⟩ := h8.inY; have R8 : Hid (Rdg (fun b => wr.heap.size ≤ b) w8 y (agg7 ⟨.int .i64 k8, .int .i64 m8, .string t8, .bool bb8, .int .i64 er8, .slice a18 l18 c18, .slice a28 l28 c28⟩)) := hid r8; have Q8 := hid q8; have P8 := hid p8; have hz8 : wr.heap.size ≤ w8.heap.size := q8.size; clear h8 q8 r8 p8))
            go_ret2
            have AF := (AN.out.on hlt QA.out PA.out hj).on hlt QB.out PB.out (hE.sign h41)
            have hc9 := fun T hT => AF.call (t := t) T hT
            rw [show (Ls ++ [(⟨.int .i64 k8, .int .i64 m8, .string t8, .bool bb8, .int .i64 er8, .slice a18 l18 c18, .slice a28 l28 c28⟩ : V7)]).length = Ls.length + 1 by simp] at hc9
            refine ⟨ao9, Ls.length + 1, cp9, rfl, AF.qx, fun x j' e => ?_⟩
            cases e
            exact ⟨hc9, PB.out⟩
        · rw [h44] at hc4
          go_wp2_with (first | (go_at_call 31; refine (hc1.out _ PA.out).mono ?_; rintro e wB ⟨rfl, qB, pB⟩; have QB := hid qB; have PB := hid pB; clear qB pB) | (go_at_call 31; refine (hc4.out _ AN.out.pt).mono ?_; rintro e wA ⟨rfl, qA, pA⟩; have QA := hid qA; have PA := hid pA; clear qA pA) | (at_builtin; refine wpList_append_own_at _ rfl _ _ 28 rfl W.heap.size 30 i0 (.agg #[.int .i64 0, .int .i64 0, .string ⟨#[]⟩, .bool false, .int .i64 0, .slice none 0 0, .slice none 0 0]) 7 96 Tryd.underlying28 hi0 hz0 hz1 hz2 rfl (by decide) _ _ _ rfl (((HI2.out.ow.grown Q8.out hop).alloc _).alloc _) ⟨w8.heap.size + 1, 0, none⟩ 1 1 [.int .i64 k8, .int .i64 m8, .string t8, .bool bb8, .int .i64 er8, .slice a18 l18 c18, .slice a28 l28 c28] rfl rfl (news_at _ [.int .i64 k8, .int .i64 m8, .string t8, .bool bb8, .int .i64 er8, .slice a18 l18 c18, .slice a28 l28 c28] 30 _ (by simp)) (one7 _ _ _ _ _ _ _ _ _ _ _) (by unfold maxLen; omega) (by omega) (by simp; omega) ?_; intro v9 w9 hown9 hgrow9 _ hat9; have ow9 := own_snoc' (x := (⟨.int .i64 k8, .int .i64 m8, .string t8, .bool bb8, .int .i64 er8, .slice a18 l18 c18, .slice a28 l28 c28⟩ : V7)) hown9 rfl; obtain ⟨ao9, cp9, hv9, _, _⟩ := (ow9.sl enc7_len (by omega)).len; rw [show (Ls ++ [(⟨.int .i64 k8, .int .i64 m8, .string t8, .bool bb8, .int .i64 er8, .slice a18 l18 c18, .slice a28 l28 c28⟩ : V7)]).length = Ls.length + 1 by simp] at hv9; subst hv9; have AN := hid (HI2.out.next hlt hbW y j ⟨.int .i64 k8, .int .i64 m8, .string t8, .bool bb8, .int .i64 er8, .slice a18 l18 c18, .slice a28 l28 c28⟩ Q8.out P8.out hj R8.out (.cells #[.int .i64 k8, .int .i64 m8, .string t8, .bool bb8, .int .i64 er8, .slice a18 l18 c18, .slice a28 l28 c28] 30) (.cells #[.int .i64 k8, .int .i64 m8, .string t8, .bool bb8, .int .i64 er8, .slice a18 l18 c18, .slice a28 l28 c28] 30) ao9 cp9 ow9 hgrow9 hat9); clear hown9 hgrow9 hat9 ow9) | (go_at_call 11; refine (HTR.out _ HI2.out.pt).mono ?_; rintro e w8 h8; obtain ⟨k8, m8, t8, bb8, er8, a18, l18, c18, a28, l28, c28, rfl, q8, r8, p8⟩ := h8.inY; have R8 : Hid (Rdg (fun b => wr.heap.size ≤ b) w8 y (agg7 ⟨.int .i64 k8, .int .i64 m8, .string t8, .bool bb8, .int .i64 er8, .slice a18 l18 c18, .slice a28 l28 c28⟩)) := hid r8; have Q8 := hid q8; have P8 := hid p8; have hz8 : wr.heap.size ≤ w8.heap.size := q8.size; clear h8 q8 r8 p8))
          have hj1 := hE.sign h44
          have AF := AN.out.on hlt QA.out PA.out hj1
          go_roundw
          case rel => exact ⟨g, _, _, _, ao9, cp9, by omega, by simp, AF, by simp; omega, HOC.out h44⟩
          case measure =>
            rw [pfar_of PA.out, pfar_of HI2.out.pt]
            have := hpos.1
            show L.length - (j + 1) < L.length - i1
            omega
    · have eR := pg_stop h30 hfe
      subst eR
      have c30 : ¬ (Ls.length : Int) < 30 := by omega
      clear hI hfe
      go_wp2_with fail
      go_ret2
      exact ⟨none, 0, 0, rfl, HI2.out.qx, fun x j e => by cases e⟩
end Go.Proofs.YtgheopdadfnilaaDoor
