/- P.first of the reference, walked: references; The program's reader: references. -/
import Derived.Test.YtgheopdadfnilaaGreatDoorKr17
import Derived.Test.YtgheopdadfnilaaGreatDoorKr20
set_option linter.unusedVariables false
set_option linter.unusedSimpArgs false
set_option maxRecDepth 100000
namespace Go.Proofs.YtgheopdadfnilaaGreatDoor
open Go.RowKit
structure R5 (W : World) (q o : Nat) (S : ByteArray) (row col : Int) (ra ca : Bool) : Prop where
  g0 : W.cell? ⟨q, o, none⟩ = some (.string S)
  g1 : W.cell? ⟨q, o + 1, none⟩ = some (.int .i64 row)
  g2 : W.cell? ⟨q, o + 2, none⟩ = some (.int .i64 col)
  g3 : W.cell? ⟨q, o + 3, none⟩ = some (.bool ra)
  g4 : W.cell? ⟨q, o + 4, none⟩ = some (.bool ca)
theorem R5.on {p : Nat} {W W' : World} {q o : Nat} {S : ByteArray} {row col : Int} {ra ca : Bool} (h : R5 W q o S row col ra ca) (x : Qx p W W') (hq : q ≠ p) : R5 W' q o S row col ra ca := by
  have hl : q < W.heap.size := World.block_lt_of_cell? W ⟨q, o, none⟩ h.g0
  exact ⟨(x.cell hl hq).trans h.g0, (x.cell hl hq).trans h.g1, (x.cell hl hq).trans h.g2, (x.cell hl hq).trans h.g3, (x.cell hl hq).trans h.g4⟩
theorem r5_new (W : World) (S : ByteArray) (row col : Int) (ra ca : Bool) (t : TypeId) : R5 (W.alloc (.cells #[.string S, .int .i64 row, .int .i64 col, .bool ra, .bool ca] t)) W.heap.size 0 S row col ra ca := by
  refine ⟨?_, ?_, ?_, ?_, ?_⟩
  all_goals simp [World.cell?_alloc_new]
theorem r5_two (W : World) (S : ByteArray) (row col : Int) (ra ca : Bool) (S' : ByteArray) (row' col' : Int) (ra' ca' : Bool) (t : TypeId) : R5 (W.alloc (.cells #[.string S, .int .i64 row, .int .i64 col, .bool ra, .bool ca, .string S', .int .i64 row', .int .i64 col', .bool ra', .bool ca'] t)) W.heap.size 0 S row col ra ca ∧ R5 (W.alloc (.cells #[.string S, .int .i64 row, .int .i64 col, .bool ra, .bool ca, .string S', .int .i64 row', .int .i64 col', .bool ra', .bool ca'] t)) W.heap.size 5 S' row' col' ra' ca' := by
  refine ⟨⟨?_, ?_, ?_, ?_, ?_⟩, ?_, ?_, ?_, ?_, ?_⟩
  all_goals simp [World.cell?_alloc_new]
theorem R5.ats {W : World} {q o : Nat} {S : ByteArray} {row col : Int} {ra ca : Bool} (h : R5 W q o S row col ra ca) : Ats rf W q o (S.data.toList, row, col, ra, ca) := by
  intro j u hu
  unfold rf at hu
  rcases j with _ | _ | _ | _ | _ | j
  · simp at hu; subst hu; exact h.g0
  · simp at hu; subst hu; exact h.g1
  · simp at hu; subst hu; exact h.g2
  · simp at hu; subst hu; exact h.g3
  · simp at hu; subst hu; exact h.g4
  · simp at hu
theorem rdg_ref {g : Nat → Prop} {W : World} {q : Nat} {S : ByteArray} {row col : Int} {ra ca : Bool} (hq : g q) (h : R5 W q 0 S row col ra ca) : Rdg g W (refE (S.data.toList, row, col, ra, ca)) (.agg #[.int .i64 5, .int .i64 0, .string ⟨#[]⟩, .bool false, .int .i64 0, .slice (some ⟨q, 0, none⟩) 1 1, .slice none 0 0]) := by
  unfold refE Rdg
  refine ⟨_, _, rfl, ⟨some ⟨q, 0, none⟩, 1, rfl, by simp, by unfold maxLen; omega, fun _ => ⟨q, 0, rfl, hq, fun i hi => ?_⟩⟩, none, 0, rfl, Nat.le_refl _, Nat.zero_le _, fun h => absurd rfl h⟩
  have : i = 0 := by simpa using hi
  subst this
  exact h.ats
theorem rdg_range {g : Nat → Prop} {W : World} {q : Nat} {S : ByteArray} {row col : Int} {ra ca : Bool} {S' : ByteArray} {row' col' : Int} {ra' ca' : Bool} (hq : g q) (h : R5 W q 0 S row col ra ca) (h' : R5 W q 5 S' row' col' ra' ca') : Rdg g W (rangeE (S.data.toList, row, col, ra, ca) (S'.data.toList, row', col', ra', ca')) (.agg #[.int .i64 6, .int .i64 0, .string ⟨#[]⟩, .bool false, .int .i64 0, .slice (some ⟨q, 0, none⟩) 2 2, .slice none 0 0]) := by
  unfold rangeE Rdg
  refine ⟨_, _, rfl, ⟨some ⟨q, 0, none⟩, 2, rfl, by simp, by unfold maxLen; omega, fun _ => ⟨q, 0, rfl, hq, fun i hi => ?_⟩⟩, none, 0, rfl, Nat.le_refl _, Nat.zero_le _, fun h => absurd rfl h⟩
  have : i = 0 ∨ i = 1 := by simp at hi; omega
  rcases this with rfl | rfl
  · exact h.ats
  · exact h'.ats
theorem ref_parts (l : List UInt8) : ∃ (S : ByteArray) (row col : Int) (ra ca : Bool), refT l = (S.data.toList, row, col, ra, ca) ∧ refA (refT l) = .agg #[.string S, .int .i64 row, .int .i64 col, .bool ra, .bool ca] := by
  obtain ⟨a, b, c, d, e⟩ := refT l
  exact ⟨⟨a.toArray⟩, b, c, d, e, rfl, rfl⟩
set_option maxHeartbeats 8000000 in
theorem first_ref (L : List Wd) (p b off cap : Nat) (s : St) (W : World) (h : PS W p L b off cap s.i s.bd s.n) (hi : s.i < L.length) (hr : L.length ≤ 50000) (hn : s.n ≤ s.i) (hE : Ends L) (hw : isW L s.i [40] = false) (hk : kAt L s.i = 3) (hz : ∀ i, (tAt L i).length ≤ 1000) (hw5 : isW L (s.i + 1) [58] = false) :
    Calls Tryz.prog 105 #[.pointer (some ⟨p, 0, none⟩)] W fun e W' => Rep p L b off cap W (refE (EE.ref (tAt L s.i)), s.on.node) e W' := by
  have hlt := h.lt
  have hbW := h.blk hi
  obtain ⟨T, q, hT, kw⟩ := h.kw hi
  have HTT := hid hT
  have HK := hid kw
  rw [hk] at HK
  obtain ⟨S, row, col, ra, ca, hS, hA⟩ := ref_parts T.data.toList
  have HRf := hid (fun W1 => rref_any T W1 (by have := hz s.i; rw [← hT] at this; simp at this; omega))
  rw [hA] at HRf
  generalize refF T.data.toList = rok at HRf
  have HS := hid hS
  clear hA hS
  have hi1 : s.i + 1 < L.length := hE _ hi (by omega)
  have hc5 := hid (fun W1 (g : PS W1 p L b off cap (s.i + 1) s.bd s.n) => take_any W1 p L b off cap (s.i + 1) s.bd s.n ⟨#[58]⟩ g hi1)
  rw [show (⟨#[58]⟩ : ByteArray).data.toList = [58] from rfl, hw5] at hc5
  have hpW : p ≠ W.heap.size := by omega
  have HP := hid h
  have hroom : (s.i : Int) + 1 ≤ 9223372036854775807 := by omega
  have HZ := hid ((tb_new W (.int .i64 0) (.int .i64 0) (.string ⟨#[]⟩) (.bool false) (.int .i64 0) (.slice none 0 0) (.slice none 0 0) 26).on (((Qx.refl p _).alloc (.cells #[.int .i64 3, .string T, .int .i64 q] 74)).drew) (by omega))
  have HB := hid ((wb_new (W.alloc (.cells #[.int .i64 0, .int .i64 0, .string ⟨#[]⟩, .bool false, .int .i64 0, .slice none 0 0, .slice none 0 0] 26)) (.int .i64 3) (.string T) (.int .i64 q) 74).on ((Qx.refl p _).drew) (by simp; omega))
  rw [show (W.alloc (.cells #[.int .i64 0, .int .i64 0, .string ⟨#[]⟩, .bool false, .int .i64 0, .slice none 0 0, .slice none 0 0] 26)).heap.size = W.heap.size + 1 by simp] at HB
  have hc := hid (fun W1 (g : PS W1 p L b off cap s.i s.bd s.n) => take_any W1 p L b off cap s.i s.bd s.n ⟨#[40]⟩ g hi)
  rw [show (⟨#[40]⟩ : ByteArray).data.toList = [40] from rfl, hw] at hc
  clear h kw hT
  go_enter Tryz.func105, Tryz.ntmps105
  go_wp2_with fail
  go_region_held3 (fun V => V.cell? ⟨p, 0, none⟩ = some (.slice (some ⟨b, off, none⟩) L.length cap) ∧ V.cell? ⟨p, 1, none⟩ = some (.int .i64 (s.i : Int)) ∧ V.cell? ⟨b, off + s.i * 3, none⟩ = some (.int .i64 3) ∧ V.cell? ⟨b, off + s.i * 3 + 1, none⟩ = some (.string T) ∧ V.cell? ⟨b, off + s.i * 3 + 2, none⟩ = some (.int .i64 q)) (exact HK.out.on (by repeat (first | exact Q.refl _ | refine Q.drewN ?_ _ | refine Q.drew ?_ | refine Q.alloc ?_ _ | refine Q.setCell ?_ (by simp) _))) (fail)
  go_wp2_with (first | (go_at_call 74; refine (node_any _ p L b off cap _ _ _ (P4.out.on (by repeat (first | exact Q.refl _ | refine Q.drewN ?_ _ | refine Q.drew ?_ | refine Q.alloc ?_ _ | refine Q.setCell ?_ (by simp) _))) (by omega) 5 0 ⟨#[]⟩ false 0 (some ⟨w4.heap.size, 0, none⟩) 1 1 none 0 0).mono ?_; rintro e w6 ⟨rfl, q6, p6⟩; have Q6 := hid q6; have P6 := hid p6; have Z6 := hid ((Z4.out.on (by repeat (first | with_reducible exact Qx.refl _ _ | with_reducible refine Qx.drewN ?_ _ | with_reducible refine Qx.drew ?_ | with_reducible refine Qx.alloc ?_ _ | with_reducible refine Qx.own ?_ _ _ | with_reducible refine Qx.new ?_ (by simp) _ _)) (show _ ≠ p by omega)).on q6 (by omega)); clear q6 p6; have d0 := Z6.out.g0; have d1 := Z6.out.g1; have d2 := Z6.out.g2; have d3 := Z6.out.g3; have d4 := Z6.out.g4; have d5 := Z6.out.g5; have d6 := Z6.out.g6; have y0 := Z6.out.f 0; have y1 := Z6.out.f 1; have y2 := Z6.out.f 2; have y3 := Z6.out.f 3; have y4 := Z6.out.f 4; have y5 := Z6.out.f 5; have y6 := Z6.out.f 6) | (go_at_call 104; refine (hc5.out _ P2.out).mono ?_; rintro e w4 ⟨rfl, q4, p4⟩; have Q4 := hid q4; have P4 := hid p4; have hs4 : w2.heap.size + 1 ≤ w4.heap.size := (by simpa using q4.size); have A4 := hid ((r5_new w2 S row col ra ca 63).on q4 (by omega)); have Z4 := hid (((Z1.out.on Q2.out (by omega)).on ((Qx.refl p _).alloc _) (by omega)).on q4 (by omega)); clear q4 p4; have m0 := A4.out.g0; have m1 := A4.out.g1; have m2 := A4.out.g2; have m3 := A4.out.g3; have m4 := A4.out.g4; simp only [Nat.zero_add] at m1 m2 m3 m4) | (go_at_call 103; refine (HRf.out _).mono ?_; rintro e w2 ⟨rfl, q2⟩; have hs2 : w1.heap.size ≤ w2.heap.size := (by simpa [World.setCell] using q2.size); have Q2 : Hid (Qx p w1 w2) := hid (Qx.trans (by repeat (first | with_reducible exact Qx.refl _ _ | with_reducible refine Qx.drewN ?_ _ | with_reducible refine Qx.drew ?_ | with_reducible refine Qx.alloc ?_ _ | with_reducible refine Qx.own ?_ _ _ | with_reducible refine Qx.new ?_ (by simp) _ _)) (Qx.of q2)); have P2 := hid (((P1.out.set1 (s.i + 1) _ (by go_num)).on q2).on ((Q.refl _).alloc (.cells #[.string S, .int .i64 row, .int .i64 col, .bool ra, .bool ca] 63))); clear q2) | (go_at_call 104; refine (hc.out _ (HP.out.on (by repeat (first | exact Q.refl _ | refine Q.drewN ?_ _ | refine Q.drew ?_ | refine Q.alloc ?_ _ | refine Q.setCell ?_ (by simp) _)))).mono ?_; rintro e w1 ⟨rfl, q1, p1⟩; have Q1 : Hid (Qx p W w1) := hid (Qx.trans (by repeat (first | with_reducible exact Qx.refl _ _ | with_reducible refine Qx.drewN ?_ _ | with_reducible refine Qx.drew ?_ | with_reducible refine Qx.alloc ?_ _ | with_reducible refine Qx.own ?_ _ _ | with_reducible refine Qx.new ?_ (by simp) _ _)) q1); have P1 := hid p1; have Z1 := hid (HZ.out.on q1 (by omega)); have B1 := hid (HB.out.on q1 (by omega)); have hsw : W.heap.size + 1 < w1.heap.size := World.block_lt_of_cell? w1 ⟨W.heap.size + 1, 0, none⟩ B1.out.g0; clear q1 p1; have x1 := P1.out.c1; have z1 := P1.out.f1; have b0 := B1.out.g0; have b1 := B1.out.g1; have b2 := B1.out.g2))
  refine bodyPost_ret (v := .agg #[.int .i64 5, .int .i64 0, .string ⟨#[]⟩, .bool false, .int .i64 0, .slice (some ⟨w4.heap.size, 0, none⟩) 1 1, .slice none 0 0]) (by simp [results, Tryz.results105, go_sem, d0, d1, d2, d3, d4, d5, d6]) rfl ?_
  rw [show refE (EE.ref (tAt L s.i)) = refE (S.data.toList, row, col, ra, ca) by show refE (refT (tAt L s.i)) = _; rw [← HTT.out, HS.out]]
  exact fin7 (s' := s.on.node) 5 0 ⟨#[]⟩ false 0 (some ⟨w4.heap.size, 0, none⟩) 1 1 none 0 0 hlt hbW ((((Q1.out.trans Q2.out).alloc _).trans Q4.out).trans ((Qx.alloc (Qx.refl p _) _).trans Q6.out)) (rdg_ref (show _ ≤ _ by omega) ((r5_new w4 S row col ra ca 63).on Q6.out (by omega))) P6.out
set_option maxHeartbeats 8000000 in
theorem pref_one (L : List Wd) (p b off cap i : Nat) (W : World) (T : ByteArray) (t : List UInt8) (hT : T.data.toList = t) (h : PT W p L b off cap i) (hi : i < L.length) (hr : L.length ≤ 50000) (hs : Std W) (h5 : 6 ≤ p) (hz : t.length ≤ 1000) (hok : refF t = true) (hw : isW L i [58] = false) :
    Calls Tryz.prog 186 #[.pointer (some ⟨p, 0, none⟩), .string T] W fun e W' => RepP p L b off cap W (some (refE (refT t), i)) e W' := by
  have hlt := h.lt
  have hbW := h.blk i hi
  have HP := hid h
  have HZ := hid (tb_new W (.int .i64 0) (.int .i64 0) (.string ⟨#[]⟩) (.bool false) (.int .i64 0) (.slice none 0 0) (.slice none 0 0) 26)
  obtain ⟨S, row, col, ra, ca, hS, hA⟩ := ref_parts T.data.toList
  have HRf := hid (fun W1 (g : Std W1) => parse_any T W1 g (by rw [← hT] at hz; simp at hz; omega))
  rw [hA, hT, hok] at HRf
  have HS := hid hS
  have HTT := hid hT
  have HSt := hid hs
  clear hA hS hs hok
  have hc := hid (fun W1 (g : PT W1 p L b off cap i) => ptake_any W1 p L b off cap i ⟨#[58]⟩ g hi hr (by simp))
  rw [show (⟨#[58]⟩ : ByteArray).data.toList = [58] from rfl, hw] at hc
  clear h hT hz
  go_enter Tryz.func186, Tryz.ntmps186
  go_wp2_with (first | (go_at_call 196; refine (HRf.out _ (HSt.out.on (by repeat (first | with_reducible exact Q.refl _ | with_reducible refine Q.drewN ?_ _ | with_reducible refine Q.drew ?_ | with_reducible refine Q.alloc ?_ _ | with_reducible refine Q.setCell ?_ (by simp) _)))).mono ?_; rintro e w1 ⟨rfl, q1⟩; have Q1 : Hid (Q W w1) := hid (Q.trans (by repeat (first | with_reducible exact Q.refl _ | with_reducible refine Q.drewN ?_ _ | with_reducible refine Q.drew ?_ | with_reducible refine Q.alloc ?_ _ | with_reducible refine Q.setCell ?_ (by simp) _)) q1); have hs1 : W.heap.size < w1.heap.size := (by have := q1.size; simp at this; omega); have P1 := hid ((HP.out.on Q1.out).on ((Q.refl _).alloc (.cells #[.string S, .int .i64 row, .int .i64 col, .bool ra, .bool ca] 63))); have Z1 := hid (HZ.out.on (Qx.of (p := p) q1) (by omega)); clear q1) | (go_at_call 166; refine (hc.out _ P1.out).mono ?_; rintro e w2 ⟨rfl, q2, p2⟩; have Q2 := hid q2; have P2 := hid p2; have A2 := hid ((r5_new w1 S row col ra ca 63).on q2 (by omega)); have hs2 : w1.heap.size + 1 ≤ w2.heap.size := (by simpa using q2.size); have Z2 := hid ((Z1.out.on ((Qx.refl p _).alloc _) (by omega)).on q2 (by omega)); clear q2 p2; have Z3 := hid (Z2.out.on ((Qx.refl p _).alloc (.cells #[.string S, .int .i64 row, .int .i64 col, .bool ra, .bool ca] 63)) (by omega)); have d0 := Z3.out.g0; have d1 := Z3.out.g1; have d2 := Z3.out.g2; have d3 := Z3.out.g3; have d4 := Z3.out.g4; have d5 := Z3.out.g5; have d6 := Z3.out.g6; have y0 := Z3.out.f 0; have y1 := Z3.out.f 1; have y2 := Z3.out.f 2; have y3 := Z3.out.f 3; have y4 := Z3.out.f 4; have y5 := Z3.out.f 5; have y6 := Z3.out.f 6; have m0 := A2.out.g0; have m1 := A2.out.g1; have m2 := A2.out.g2; have m3 := A2.out.g3; have m4 := A2.out.g4; simp only [Nat.zero_add] at m1 m2 m3 m4))
  refine bodyPost_ret (v := .tuple #[.agg #[.int .i64 5, .int .i64 0, .string ⟨#[]⟩, .bool false, .int .i64 0, .slice (some ⟨w2.heap.size, 0, none⟩) 1 1, .slice none 0 0], .bool true]) (by simp [results, Tryz.results186, go_sem, d0, d1, d2, d3, d4, d5, d6]) rfl ?_
  have eT : refT t = (S.data.toList, row, col, ra, ca) := by rw [← HTT.out]; exact HS.out
  rw [eT]
  refine finP (some (refE (S.data.toList, row, col, ra, ca), i)) 5 0 ⟨#[]⟩ false 0 (some ⟨w2.heap.size, 0, none⟩) 1 1 none 0 0 hlt hbW ((((Qx.of Q1.out).alloc _).trans Q2.out).alloc _) (fun x j e => ?_)
  cases e
  exact ⟨rdg_ref (show _ ≤ _ by omega) (r5_new w2 S row col ra ca 63), P2.out.on ((Q.refl _).alloc _)⟩
set_option maxHeartbeats 8000000 in
theorem pref_kind (L : List Wd) (p b off cap i : Nat) (W : World) (T : ByteArray) (t : List UInt8) (hT : T.data.toList = t) (h : PT W p L b off cap i) (hi : i < L.length) (hr : L.length ≤ 50000) (hs : Std W) (h5 : 6 ≤ p) (hz : t.length ≤ 1000) (hok : refF t = true) (hE : Ends L) (hw : isW L i [58] = true) (h3 : kAt L (i + 1) ≠ 3) :
    Calls Tryz.prog 186 #[.pointer (some ⟨p, 0, none⟩), .string T] W fun e W' => RepP p L b off cap W none e W' := by
  have hlt := h.lt
  have hbW := h.blk i hi
  have HP := hid h
  have HZ := hid (tb_new W (.int .i64 0) (.int .i64 0) (.string ⟨#[]⟩) (.bool false) (.int .i64 0) (.slice none 0 0) (.slice none 0 0) 26)
  obtain ⟨S, row, col, ra, ca, hS, hA⟩ := ref_parts T.data.toList
  have HRf := hid (fun W1 (g : Std W1) => parse_any T W1 g (by rw [← hT] at hz; simp at hz; omega))
  rw [hA, hT, hok] at HRf
  have HS := hid hS
  have HTT := hid hT
  have HSt := hid hs
  clear hA hS hs hok
  have hc := hid (fun W1 (g : PT W1 p L b off cap i) => ptake_any W1 p L b off cap i ⟨#[58]⟩ g hi hr (by simp))
  rw [show (⟨#[58]⟩ : ByteArray).data.toList = [58] from rfl, hw] at hc
  obtain ⟨j, hj⟩ : ∃ j, j = i + 1 := ⟨_, rfl⟩
  have hij : j < L.length := by rw [hj]; exact hE.sign hw
  obtain ⟨T2, hT2, lT2⟩ : ∃ T2 : ByteArray, T2 = ⟨(tAt L j).toArray⟩ ∧ T2.data.toList = tAt L j := ⟨_, rfl, rfl⟩
  have HWd := hid (fun W1 (g : PT W1 p L b off cap j) => word_any W1 p L.length b off cap j _ _ _ (g.kw hij) hij hr)
  rw [← hT2] at HWd
  generalize ((L.getD j ⟨7, [], 0⟩).p : Int) = q at HWd
  have F0 : ∀ (k : Int) (w : World), (Instr.field 141 (.agg #[.int .i64 k, .string T2, .int .i64 q]) 0).run Tryz.prog w = .ok (.int .i64 k) w := fun k w => fd0 _ _ _ w
  have F1 : ∀ (k : Int) (w : World), (Instr.field 141 (.agg #[.int .i64 k, .string T2, .int .i64 q]) 1).run Tryz.prog w = .ok (.string T2) w := fun k w => fd1 _ _ _ w
  have HJ := hid hj
  have HT2 := hid lT2
  rw [← hj] at h3
  have k3 : ((kAt L j : Int) == 3) = false := by rw [beq_eq_false_iff_ne]; omega
  have k3b : ¬ (kAt L j : Int) = 3 := by omega
  generalize (kAt L j : Int) = kk at HWd k3 k3b
  clear hj hT2 lT2 h3
  clear h hT hz
  go_enter Tryz.func186, Tryz.ntmps186
  go_wp2_with (first | (go_at_call 109; refine (HWd.out _ P2.out).mono ?_; rintro e w3 ⟨rfl, q3⟩; have Q3 := hid q3; have P3 := hid (P2.out.on q3); have Z3 := hid (Z2.out.on (Qx.of (p := p) q3) (by omega)); have hs3 : w2.heap.size ≤ w3.heap.size := q3.size; clear q3; have d0 := Z3.out.g0; have d1 := Z3.out.g1; have d2 := Z3.out.g2; have d3 := Z3.out.g3; have d4 := Z3.out.g4; have d5 := Z3.out.g5; have d6 := Z3.out.g6; have y0 := Z3.out.f 0; have y1 := Z3.out.f 1; have y2 := Z3.out.f 2; have y3 := Z3.out.f 3; have y4 := Z3.out.f 4; have y5 := Z3.out.f 5; have y6 := Z3.out.f 6) | (go_at_call 196; refine (HRf.out _ (HSt.out.on (by repeat (first | with_reducible exact Q.refl _ | with_reducible refine Q.drewN ?_ _ | with_reducible refine Q.drew ?_ | with_reducible refine Q.alloc ?_ _ | with_reducible refine Q.setCell ?_ (by simp) _)))).mono ?_; rintro e w1 ⟨rfl, q1⟩; have Q1 : Hid (Q W w1) := hid (Q.trans (by repeat (first | with_reducible exact Q.refl _ | with_reducible refine Q.drewN ?_ _ | with_reducible refine Q.drew ?_ | with_reducible refine Q.alloc ?_ _ | with_reducible refine Q.setCell ?_ (by simp) _)) q1); have hs1 : W.heap.size < w1.heap.size := (by have := q1.size; simp at this; omega); have P1 := hid ((HP.out.on Q1.out).on ((Q.refl _).alloc (.cells #[.string S, .int .i64 row, .int .i64 col, .bool ra, .bool ca] 63))); have Z1 := hid (HZ.out.on (Qx.of (p := p) q1) (by omega)); clear q1) | (go_at_call 166; refine (hc.out _ P1.out).mono ?_; rintro e w2 ⟨rfl, q2, p2⟩; have Q2 := hid q2; have P2 : Hid (PT w2 p L b off cap j) := hid (by rw [HJ.out]; exact p2); have A2 := hid ((r5_new w1 S row col ra ca 63).on q2 (by omega)); have hs2 : w1.heap.size + 1 ≤ w2.heap.size := (by simpa using q2.size); have Z2 := hid ((Z1.out.on ((Qx.refl p _).alloc _) (by omega)).on q2 (by omega)); clear q2 p2; have m0 := A2.out.g0; have m1 := A2.out.g1; have m2 := A2.out.g2; have m3 := A2.out.g3; have m4 := A2.out.g4; simp only [Nat.zero_add] at m1 m2 m3 m4))
  refine bodyPost_ret (v := .tuple #[.agg #[.int .i64 0, .int .i64 0, .string ⟨#[]⟩, .bool false, .int .i64 0, .slice none 0 0, .slice none 0 0], .bool false]) (by simp [results, Tryz.results186, go_sem, d0, d1, d2, d3, d4, d5, d6]) rfl ?_
  exact finP none 0 0 ⟨#[]⟩ false 0 none 0 0 none 0 0 hlt hbW ((((Qx.of Q1.out).alloc _).trans Q2.out).trans (Qx.of Q3.out)) (fun x j e => by cases e)
end Go.Proofs.YtgheopdadfnilaaGreatDoor
