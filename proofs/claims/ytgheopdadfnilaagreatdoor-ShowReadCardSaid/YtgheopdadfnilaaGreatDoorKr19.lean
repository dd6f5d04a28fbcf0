/- The program's reader: first things; The program's reader: brackets. -/
import Derived.Test.YtgheopdadfnilaaGreatDoorKr18
set_option linter.unusedVariables false
set_option linter.unusedSimpArgs false
set_option maxRecDepth 100000
namespace Go.Proofs.YtgheopdadfnilaaGreatDoor
open Go.RowKit
set_option maxHeartbeats 8000000 in
theorem pfirst_text (L : List Wd) (p b off cap i : Nat) (W : World) (h : PT W p L b off cap i) (hi : i < L.length) (hr : L.length ≤ 50000) (hw : isW L i [40] = false) (hk : kAt L i = 2) :
    Calls Tryz.prog 167 #[.pointer (some ⟨p, 0, none⟩)] W fun e W' => RepP p L b off cap W (some (textE (tAt L i), i + 1)) e W' := by
  have hlt := h.lt
  have hbW := h.blk i hi
  have HP := hid h
  have HZ := hid (tb_new W (.int .i64 0) (.int .i64 0) (.string ⟨#[]⟩) (.bool false) (.int .i64 0) (.slice none 0 0) (.slice none 0 0) 26)
  have hc := hid (fun W1 (g : PT W1 p L b off cap i) => ptake_any W1 p L b off cap i ⟨#[40]⟩ g hi hr (by simp))
  rw [show (⟨#[40]⟩ : ByteArray).data.toList = [40] from rfl, hw] at hc
  obtain ⟨T, hT, lT⟩ : ∃ T : ByteArray, T = ⟨(tAt L i).toArray⟩ ∧ T.data.toList = tAt L i := ⟨_, rfl, rfl⟩
  have HWd := hid (fun W1 (g : PT W1 p L b off cap i) => word_any W1 p L.length b off cap i _ _ _ (g.kw hi) hi hr)
  rw [← hT] at HWd
  generalize ((L.getD i ⟨7, [], 0⟩).p : Int) = q at HWd
  have HTT := hid lT
  clear hT lT
  rw [hk] at HWd
  clear h
  go_enter Tryz.func167, Tryz.ntmps167
  go_upto_region 6 with (first | (go_at_call 166; refine (hc.out _ (HP.out.on (by repeat (first | with_reducible exact Q.refl _ | with_reducible refine Q.drewN ?_ _ | with_reducible refine Q.drew ?_ | with_reducible refine Q.alloc ?_ _ | with_reducible refine Q.setCell ?_ (by simp) _)))).mono ?_; rintro e w1 ⟨rfl, q1, p1⟩; have Q1 : Hid (Qx p W w1) := hid (Qx.trans (by repeat (first | with_reducible exact Qx.refl _ _ | with_reducible refine Qx.drewN ?_ _ | with_reducible refine Qx.drew ?_ | with_reducible refine Qx.alloc ?_ _ | with_reducible refine Qx.own ?_ _ _ | with_reducible refine Qx.new ?_ (by simp) _ _)) q1); have P1 := hid p1; have Z1 := hid (HZ.out.on q1 (by omega)); have hsw : W.heap.size < w1.heap.size := World.block_lt_of_cell? w1 ⟨W.heap.size, 0, none⟩ Z1.out.g0; clear q1 p1) | (go_at_call 109; refine (HWd.out _ P1.out).mono ?_; rintro e w2 ⟨rfl, q2⟩; have Q2 := hid q2; have hs2 : w1.heap.size ≤ w2.heap.size := q2.size; have hp2 : p ≠ w2.heap.size := (by omega); have P2 := hid ((P1.out.on q2).on ((Q.refl _).alloc (.cells #[.int .i64 2, .string T, .int .i64 q] 141))); clear q2; have c12 := P2.out.c1; have f12 := P2.out.f1))
  obtain ⟨Vq, hV, PV, ZV, BV, QV⟩ : ∃ Vq, Vq = (w2.alloc (.cells #[.int .i64 2, .string T, .int .i64 q] 141)).setCell ⟨p, 1, none⟩ (.int .i64 ((i : Int) + 1)) ∧ PT Vq p L b off cap (i + 1) ∧ Tb Vq W.heap.size (.int .i64 0) (.int .i64 0) (.string ⟨#[]⟩) (.bool false) (.int .i64 0) (.slice none 0 0) (.slice none 0 0) ∧ Wb Vq w2.heap.size (.int .i64 2) (.string T) (.int .i64 q) ∧ Qx p W Vq :=
    ⟨_, rfl, P2.out.set1 (i + 1) _ (by omega), ((Z1.out.on (Qx.of (p := p) Q2.out) (by omega)).on ((Qx.refl p _).alloc _) (by omega)).on ((Qx.refl p _).own _ _) (by omega), (wb_new _ _ _ _ _).on ((Qx.refl p _).own _ _) (by omega), ((Q1.out.trans (Qx.of Q2.out)).alloc _).own _ _⟩
  rw [← hV]
  have PVh := hid PV
  have ZVh := hid ZV
  have BVh := hid BV
  have QVh := hid QV
  have b0 := BV.g0
  have b1 := BV.g1
  have b2 := BV.g2
  clear hV PV ZV BV QV c12 f12
  have d0 := ZVh.out.g0
  have d1 := ZVh.out.g1
  have d2 := ZVh.out.g2
  have d3 := ZVh.out.g3
  have d4 := ZVh.out.g4
  have d5 := ZVh.out.g5
  have d6 := ZVh.out.g6
  have y0 := ZVh.out.f 0
  have y1 := ZVh.out.f 1
  have y2 := ZVh.out.f 2
  have y3 := ZVh.out.f 3
  have y4 := ZVh.out.f 4
  have y5 := ZVh.out.f 5
  have y6 := ZVh.out.f 6
  go_wp2_with fail
  refine bodyPost_ret (v := .tuple #[.agg #[.int .i64 2, .int .i64 0, .string T, .bool false, .int .i64 0, .slice none 0 0, .slice none 0 0], .bool true]) (by simp [results, Tryz.results167, go_sem, d0, d1, d2, d3, d4, d5, d6]) rfl ?_
  refine finP (some (textE (tAt L i), i + 1)) 2 0 T false 0 none 0 0 none 0 0 hlt hbW QVh.out (fun x j e => ?_)
  cases e
  exact ⟨rdg_leaf 2 0 (tAt L i) T HTT.out false 0, PVh.out⟩
set_option maxHeartbeats 8000000 in
theorem pfirst_num (L : List Wd) (p b off cap i : Nat) (W : World) (h : PT W p L b off cap i) (hi : i < L.length) (hr : L.length ≤ 50000) (hw : isW L i [40] = false) (hk : kAt L i = 1) (hz : ∀ i, (tAt L i).length ≤ 1000) (hok : EE.nok (tAt L i) = true) (hs : Std W) (h5 : 6 ≤ p) :
    Calls Tryz.prog 167 #[.pointer (some ⟨p, 0, none⟩)] W fun e W' => RepP p L b off cap W (some (numE (EE.num (tAt L i)), i + 1)) e W' := by
  have hlt := h.lt
  have hbW := h.blk i hi
  have HP := hid h
  have HZ := hid (tb_new W (.int .i64 0) (.int .i64 0) (.string ⟨#[]⟩) (.bool false) (.int .i64 0) (.slice none 0 0) (.slice none 0 0) 26)
  have hc := hid (fun W1 (g : PT W1 p L b off cap i) => ptake_any W1 p L b off cap i ⟨#[40]⟩ g hi hr (by simp))
  rw [show (⟨#[40]⟩ : ByteArray).data.toList = [40] from rfl, hw] at hc
  obtain ⟨T, hT, lT⟩ : ∃ T : ByteArray, T = ⟨(tAt L i).toArray⟩ ∧ T.data.toList = tAt L i := ⟨_, rfl, rfl⟩
  have HWd := hid (fun W1 (g : PT W1 p L b off cap i) => word_any W1 p L.length b off cap i _ _ _ (g.kw hi) hi hr)
  rw [← hT] at HWd
  generalize ((L.getD i ⟨7, [], 0⟩).p : Int) = q at HWd
  have HTT := hid lT
  clear hT lT
  rw [hk] at HWd
  have hsz : T.size ≤ 1000 := by have := hz i; rw [← HTT.out] at this; simpa using this
  have HN := hid (fun W1 (g : Std W1) => V.parse_any T W1 g (by omega))
  rw [show V.pf (V.parseO T.data.toList) = true by rw [HTT.out]; exact hok] at HN
  have HS := hid hs
  clear hs hok hz
  clear h
  go_enter Tryz.func167, Tryz.ntmps167
  go_upto_region 6 with (first | (go_at_call 166; refine (hc.out _ (HP.out.on (by repeat (first | with_reducible exact Q.refl _ | with_reducible refine Q.drewN ?_ _ | with_reducible refine Q.drew ?_ | with_reducible refine Q.alloc ?_ _ | with_reducible refine Q.setCell ?_ (by simp) _)))).mono ?_; rintro e w1 ⟨rfl, q1, p1⟩; have Q1 : Hid (Qx p W w1) := hid (Qx.trans (by repeat (first | with_reducible exact Qx.refl _ _ | with_reducible refine Qx.drewN ?_ _ | with_reducible refine Qx.drew ?_ | with_reducible refine Qx.alloc ?_ _ | with_reducible refine Qx.own ?_ _ _ | with_reducible refine Qx.new ?_ (by simp) _ _)) q1); have P1 := hid p1; have Z1 := hid (HZ.out.on q1 (by omega)); have hsw : W.heap.size < w1.heap.size := World.block_lt_of_cell? w1 ⟨W.heap.size, 0, none⟩ Z1.out.g0; clear q1 p1) | (go_at_call 109; refine (HWd.out _ P1.out).mono ?_; rintro e w2 ⟨rfl, q2⟩; have Q2 := hid q2; have hs2 : w1.heap.size ≤ w2.heap.size := q2.size; have hp2 : p ≠ w2.heap.size := (by omega); have P2 := hid ((P1.out.on q2).on ((Q.refl _).alloc (.cells #[.int .i64 1, .string T, .int .i64 q] 141))); clear q2; have c12 := P2.out.c1; have f12 := P2.out.f1))
  obtain ⟨Vq, hV, PV, ZV, BV, QV⟩ : ∃ Vq, Vq = (w2.alloc (.cells #[.int .i64 1, .string T, .int .i64 q] 141)).setCell ⟨p, 1, none⟩ (.int .i64 ((i : Int) + 1)) ∧ PT Vq p L b off cap (i + 1) ∧ Tb Vq W.heap.size (.int .i64 0) (.int .i64 0) (.string ⟨#[]⟩) (.bool false) (.int .i64 0) (.slice none 0 0) (.slice none 0 0) ∧ Wb Vq w2.heap.size (.int .i64 1) (.string T) (.int .i64 q) ∧ Qx p W Vq :=
    ⟨_, rfl, P2.out.set1 (i + 1) _ (by omega), ((Z1.out.on (Qx.of (p := p) Q2.out) (by omega)).on ((Qx.refl p _).alloc _) (by omega)).on ((Qx.refl p _).own _ _) (by omega), (wb_new _ _ _ _ _).on ((Qx.refl p _).own _ _) (by omega), ((Q1.out.trans (Qx.of Q2.out)).alloc _).own _ _⟩
  rw [← hV]
  have PVh := hid PV
  have ZVh := hid ZV
  have BVh := hid BV
  have QVh := hid QV
  have b0 := BV.g0
  have b1 := BV.g1
  have b2 := BV.g2
  clear hV PV ZV BV QV c12 f12
  have SV := hid (HS.out.onx QVh.out h5)
  go_wp2_with (go_at_call 78; refine (HN.out _ SV.out).mono ?_; rintro e w4 ⟨rfl, q4⟩; have Q4 := hid q4; have Z4 := hid (ZVh.out.on (Qx.of (p := p) q4) (by omega)); clear q4; have d0 := Z4.out.g0; have d1 := Z4.out.g1; have d2 := Z4.out.g2; have d3 := Z4.out.g3; have d4 := Z4.out.g4; have d5 := Z4.out.g5; have d6 := Z4.out.g6; have y0 := Z4.out.f 0; have y1 := Z4.out.f 1; have y2 := Z4.out.f 2; have y3 := Z4.out.f 3; have y4 := Z4.out.f 4; have y5 := Z4.out.f 5; have y6 := Z4.out.f 6)
  refine bodyPost_ret (v := .tuple #[.agg #[.int .i64 1, .int .i64 (V.pk (V.parseO T.data.toList)), .string ⟨#[]⟩, .bool false, .int .i64 0, .slice none 0 0, .slice none 0 0], .bool true]) (by simp [results, Tryz.results167, go_sem, d0, d1, d2, d3, d4, d5, d6]) rfl ?_
  rw [show numE (EE.num (tAt L i)) = .mk 1 (V.pk (V.parseO T.data.toList)) [] false 0 [] [] by rw [HTT.out]; rfl]
  refine finP (some (.mk 1 (V.pk (V.parseO T.data.toList)) [] false 0 [] [], i + 1)) 1 (V.pk (V.parseO T.data.toList)) ⟨#[]⟩ false 0 none 0 0 none 0 0 hlt hbW (QVh.out.trans (Qx.of Q4.out)) (fun x j e => ?_)
  cases e
  exact ⟨rdg_leaf 1 (V.pk (V.parseO T.data.toList)) [] ⟨#[]⟩ rfl false 0, PVh.out.on Q4.out⟩
set_option maxHeartbeats 8000000 in
theorem pfirst_err (L : List Wd) (p b off cap i : Nat) (W : World) (h : PT W p L b off cap i) (hi : i < L.length) (hr : L.length ≤ 50000) (hw : isW L i [40] = false) (hk : kAt L i = 5) (hs : Std W) (h5 : 6 ≤ p) (HE : Hid (∀ W1 (T : ByteArray), T.data.toList = tAt L i → Std W1 → Calls Tryz.prog 185 #[.string T] W1 fun e W' => e = .returned (.int .i64 (errN (tAt L i) : Int)) ∧ Q W1 W')) :
    Calls Tryz.prog 167 #[.pointer (some ⟨p, 0, none⟩)] W fun e W' => RepP p L b off cap W (some (errE (errN (tAt L i)), i + 1)) e W' := by
  have hlt := h.lt
  have hbW := h.blk i hi
  have HP := hid h
  have HZ := hid (tb_new W (.int .i64 0) (.int .i64 0) (.string ⟨#[]⟩) (.bool false) (.int .i64 0) (.slice none 0 0) (.slice none 0 0) 26)
  have hc := hid (fun W1 (g : PT W1 p L b off cap i) => ptake_any W1 p L b off cap i ⟨#[40]⟩ g hi hr (by simp))
  rw [show (⟨#[40]⟩ : ByteArray).data.toList = [40] from rfl, hw] at hc
  obtain ⟨T, hT, lT⟩ : ∃ T : ByteArray, T = ⟨(tAt L i).toArray⟩ ∧ T.data.toList = tAt L i := ⟨_, rfl, rfl⟩
  have HWd := hid (fun W1 (g : PT W1 p L b off cap i) => word_any W1 p L.length b off cap i _ _ _ (g.kw hi) hi hr)
  rw [← hT] at HWd
  generalize ((L.getD i ⟨7, [], 0⟩).p : Int) = q at HWd
  have HTT := hid lT
  clear hT lT
  rw [hk] at HWd
  have HS := hid hs
  clear hs
  generalize errN (tAt L i) = M at HE ⊢
  clear h
  go_enter Tryz.func167, Tryz.ntmps167
  go_upto_region 6 with (first | (go_at_call 166; refine (hc.out _ (HP.out.on (by repeat (first | with_reducible exact Q.refl _ | with_reducible refine Q.drewN ?_ _ | with_reducible refine Q.drew ?_ | with_reducible refine Q.alloc ?_ _ | with_reducible refine Q.setCell ?_ (by simp) _)))).mono ?_; rintro e w1 ⟨rfl, q1, p1⟩; have Q1 : Hid (Qx p W w1) := hid (Qx.trans (by repeat (first | with_reducible exact Qx.refl _ _ | with_reducible refine Qx.drewN ?_ _ | with_reducible refine Qx.drew ?_ | with_reducible refine Qx.alloc ?_ _ | with_reducible refine Qx.own ?_ _ _ | with_reducible refine Qx.new ?_ (by simp) _ _)) q1); have P1 := hid p1; have Z1 := hid (HZ.out.on q1 (by omega)); have hsw : W.heap.size < w1.heap.size := World.block_lt_of_cell? w1 ⟨W.heap.size, 0, none⟩ Z1.out.g0; clear q1 p1) | (go_at_call 109; refine (HWd.out _ P1.out).mono ?_; rintro e w2 ⟨rfl, q2⟩; have Q2 := hid q2; have hs2 : w1.heap.size ≤ w2.heap.size := q2.size; have hp2 : p ≠ w2.heap.size := (by omega); have P2 := hid ((P1.out.on q2).on ((Q.refl _).alloc (.cells #[.int .i64 5, .string T, .int .i64 q] 141))); clear q2; have c12 := P2.out.c1; have f12 := P2.out.f1))
  obtain ⟨Vq, hV, PV, ZV, BV, QV⟩ : ∃ Vq, Vq = (w2.alloc (.cells #[.int .i64 5, .string T, .int .i64 q] 141)).setCell ⟨p, 1, none⟩ (.int .i64 ((i : Int) + 1)) ∧ PT Vq p L b off cap (i + 1) ∧ Tb Vq W.heap.size (.int .i64 0) (.int .i64 0) (.string ⟨#[]⟩) (.bool false) (.int .i64 0) (.slice none 0 0) (.slice none 0 0) ∧ Wb Vq w2.heap.size (.int .i64 5) (.string T) (.int .i64 q) ∧ Qx p W Vq :=
    ⟨_, rfl, P2.out.set1 (i + 1) _ (by omega), ((Z1.out.on (Qx.of (p := p) Q2.out) (by omega)).on ((Qx.refl p _).alloc _) (by omega)).on ((Qx.refl p _).own _ _) (by omega), (wb_new _ _ _ _ _).on ((Qx.refl p _).own _ _) (by omega), ((Q1.out.trans (Qx.of Q2.out)).alloc _).own _ _⟩
  rw [← hV]
  have PVh := hid PV
  have ZVh := hid ZV
  have BVh := hid BV
  have QVh := hid QV
  have b0 := BV.g0
  have b1 := BV.g1
  have b2 := BV.g2
  clear hV PV ZV BV QV c12 f12
  have SV := hid (HS.out.onx QVh.out h5)
  go_wp2_with (go_at_call 185; refine (HE.out _ T HTT.out SV.out).mono ?_; rintro e w4 ⟨rfl, q4⟩; have Q4 := hid q4; have Z4 := hid (ZVh.out.on (Qx.of (p := p) q4) (by omega)); clear q4; have d0 := Z4.out.g0; have d1 := Z4.out.g1; have d2 := Z4.out.g2; have d3 := Z4.out.g3; have d4 := Z4.out.g4; have d5 := Z4.out.g5; have d6 := Z4.out.g6; have y0 := Z4.out.f 0; have y1 := Z4.out.f 1; have y2 := Z4.out.f 2; have y3 := Z4.out.f 3; have y4 := Z4.out.f 4; have y5 := Z4.out.f 5; have y6 := Z4.out.f 6)
  refine bodyPost_ret (v := .tuple #[.agg #[.int .i64 4, .int .i64 0, .string ⟨#[]⟩, .bool false, .int .i64 (M : Int), .slice none 0 0, .slice none 0 0], .bool true]) (by simp [results, Tryz.results167, go_sem, d0, d1, d2, d3, d4, d5, d6]) rfl ?_
  refine finP (some (errE M, i + 1)) 4 0 ⟨#[]⟩ false (M : Int) none 0 0 none 0 0 hlt hbW (QVh.out.trans (Qx.of Q4.out)) (fun x j e => ?_)
  cases e
  exact ⟨rdg_leaf 4 0 [] ⟨#[]⟩ rfl false (M : Int), PVh.out.on Q4.out⟩
set_option maxHeartbeats 8000000 in
theorem pfirst_ref (L : List Wd) (p b off cap i : Nat) (W : World) (h : PT W p L b off cap i) (hi : i < L.length) (hr : L.length ≤ 50000) (hw : isW L i [40] = false) (hk : kAt L i = 3) (o : Option (Ex × Nat)) (HH : Hid (∀ W1 (T : ByteArray), T.data.toList = tAt L i → Qx p W W1 → PT W1 p L b off cap (i + 1) → Calls Tryz.prog 186 #[.pointer (some ⟨p, 0, none⟩), .string T] W1 fun e W' => RepP p L b off cap W1 o e W')) :
    Calls Tryz.prog 167 #[.pointer (some ⟨p, 0, none⟩)] W fun e W' => RepP p L b off cap W o e W' := by
  have hlt := h.lt
  have hbW := h.blk i hi
  have HP := hid h
  have HZ := hid (tb_new W (.int .i64 0) (.int .i64 0) (.string ⟨#[]⟩) (.bool false) (.int .i64 0) (.slice none 0 0) (.slice none 0 0) 26)
  have hc := hid (fun W1 (g : PT W1 p L b off cap i) => ptake_any W1 p L b off cap i ⟨#[40]⟩ g hi hr (by simp))
  rw [show (⟨#[40]⟩ : ByteArray).data.toList = [40] from rfl, hw] at hc
  obtain ⟨T, hT, lT⟩ : ∃ T : ByteArray, T = ⟨(tAt L i).toArray⟩ ∧ T.data.toList = tAt L i := ⟨_, rfl, rfl⟩
  have HWd := hid (fun W1 (g : PT W1 p L b off cap i) => word_any W1 p L.length b off cap i _ _ _ (g.kw hi) hi hr)
  rw [← hT] at HWd
  generalize ((L.getD i ⟨7, [], 0⟩).p : Int) = q at HWd
  have HTT := hid lT
  clear hT lT
  rw [hk] at HWd
  clear h
  go_enter Tryz.func167, Tryz.ntmps167
  go_upto_region 6 with (first | (go_at_call 166; refine (hc.out _ (HP.out.on (by repeat (first | with_reducible exact Q.refl _ | with_reducible refine Q.drewN ?_ _ | with_reducible refine Q.drew ?_ | with_reducible refine Q.alloc ?_ _ | with_reducible refine Q.setCell ?_ (by simp) _)))).mono ?_; rintro e w1 ⟨rfl, q1, p1⟩; have Q1 : Hid (Qx p W w1) := hid (Qx.trans (by repeat (first | with_reducible exact Qx.refl _ _ | with_reducible refine Qx.drewN ?_ _ | with_reducible refine Qx.drew ?_ | with_reducible refine Qx.alloc ?_ _ | with_reducible refine Qx.own ?_ _ _ | with_reducible refine Qx.new ?_ (by simp) _ _)) q1); have P1 := hid p1; have Z1 := hid (HZ.out.on q1 (by omega)); have hsw : W.heap.size < w1.heap.size := World.block_lt_of_cell? w1 ⟨W.heap.size, 0, none⟩ Z1.out.g0; clear q1 p1) | (go_at_call 109; refine (HWd.out _ P1.out).mono ?_; rintro e w2 ⟨rfl, q2⟩; have Q2 := hid q2; have hs2 : w1.heap.size ≤ w2.heap.size := q2.size; have hp2 : p ≠ w2.heap.size := (by omega); have P2 := hid ((P1.out.on q2).on ((Q.refl _).alloc (.cells #[.int .i64 3, .string T, .int .i64 q] 141))); clear q2; have c12 := P2.out.c1; have f12 := P2.out.f1))
  obtain ⟨Vq, hV, PV, ZV, BV, QV⟩ : ∃ Vq, Vq = (w2.alloc (.cells #[.int .i64 3, .string T, .int .i64 q] 141)).setCell ⟨p, 1, none⟩ (.int .i64 ((i : Int) + 1)) ∧ PT Vq p L b off cap (i + 1) ∧ Tb Vq W.heap.size (.int .i64 0) (.int .i64 0) (.string ⟨#[]⟩) (.bool false) (.int .i64 0) (.slice none 0 0) (.slice none 0 0) ∧ Wb Vq w2.heap.size (.int .i64 3) (.string T) (.int .i64 q) ∧ Qx p W Vq :=
    ⟨_, rfl, P2.out.set1 (i + 1) _ (by omega), ((Z1.out.on (Qx.of (p := p) Q2.out) (by omega)).on ((Qx.refl p _).alloc _) (by omega)).on ((Qx.refl p _).own _ _) (by omega), (wb_new _ _ _ _ _).on ((Qx.refl p _).own _ _) (by omega), ((Q1.out.trans (Qx.of Q2.out)).alloc _).own _ _⟩
  rw [← hV]
  have PVh := hid PV
  have ZVh := hid ZV
  have BVh := hid BV
  have QVh := hid QV
  have b0 := BV.g0
  have b1 := BV.g1
  have b2 := BV.g2
  clear hV PV ZV BV QV c12 f12
  have hsV : W.heap.size < Vq.heap.size := World.block_lt_of_cell? Vq ⟨W.heap.size, 0, none⟩ ZVh.out.g0
  go_wp2_with (go_at_call 186; refine (HH.out _ T HTT.out QVh.out PVh.out).mono ?_; rintro e w4 h2; obtain ⟨k, m, t, bb, er, a1, l1, c1, a2, l2, c2, rfl, q2, r2⟩ := h2.in; have Q4 := hid q2; have R4 := hid r2; clear h2 q2 r2; have Z4 := hid (ZVh.out.on Q4.out (by omega)); have d0 := Z4.out.g0; have d1 := Z4.out.g1; have d2 := Z4.out.g2; have d3 := Z4.out.g3; have d4 := Z4.out.g4; have d5 := Z4.out.g5; have d6 := Z4.out.g6; have y0 := Z4.out.f 0; have y1 := Z4.out.f 1; have y2 := Z4.out.f 2; have y3 := Z4.out.f 3; have y4 := Z4.out.f 4; have y5 := Z4.out.f 5; have y6 := Z4.out.f 6)
  refine bodyPost_ret (v := .tuple #[.agg #[.int .i64 k, .int .i64 m, .string t, .bool bb, .int .i64 er, .slice a1 l1 c1, .slice a2 l2 c2], .bool o.isSome]) (by simp [results, Tryz.results167, go_sem, d0, d1, d2, d3, d4, d5, d6]) rfl ?_
  exact finP o k m t bb er a1 l1 c1 a2 l2 c2 hlt hbW (QVh.out.trans Q4.out) (fun x j e => ⟨Rdg.mono (fun b hb => by omega) _ _ (R4.out x j e).1, (R4.out x j e).2⟩)
set_option maxHeartbeats 8000000 in
theorem pfirst_named (L : List Wd) (p b off cap i : Nat) (W : World) (h : PT W p L b off cap i) (hi : i < L.length) (hr : L.length ≤ 50000) (hw : isW L i [40] = false) (hk : kAt L i = 4) (o : Option (Ex × Nat)) (HH : Hid (∀ W1 (T : ByteArray), T.data.toList = tAt L i → Qx p W W1 → PT W1 p L b off cap (i + 1) → Calls Tryz.prog 187 #[.pointer (some ⟨p, 0, none⟩), .string T] W1 fun e W' => RepP p L b off cap W1 o e W')) :
    Calls Tryz.prog 167 #[.pointer (some ⟨p, 0, none⟩)] W fun e W' => RepP p L b off cap W o e W' := by
  have hlt := h.lt
  have hbW := h.blk i hi
  have HP := hid h
  have HZ := hid (tb_new W (.int .i64 0) (.int .i64 0) (.string ⟨#[]⟩) (.bool false) (.int .i64 0) (.slice none 0 0) (.slice none 0 0) 26)
  have hc := hid (fun W1 (g : PT W1 p L b off cap i) => ptake_any W1 p L b off cap i ⟨#[40]⟩ g hi hr (by simp))
  rw [show (⟨#[40]⟩ : ByteArray).data.toList = [40] from rfl, hw] at hc
  obtain ⟨T, hT, lT⟩ : ∃ T : ByteArray, T = ⟨(tAt L i).toArray⟩ ∧ T.data.toList = tAt L i := ⟨_, rfl, rfl⟩
  have HWd := hid (fun W1 (g : PT W1 p L b off cap i) => word_any W1 p L.length b off cap i _ _ _ (g.kw hi) hi hr)
  rw [← hT] at HWd
  generalize ((L.getD i ⟨7, [], 0⟩).p : Int) = q at HWd
  have HTT := hid lT
  clear hT lT
  rw [hk] at HWd
  clear h
  go_enter Tryz.func167, Tryz.ntmps167
  go_upto_region 6 with (first | (go_at_call 166; refine (hc.out _ (HP.out.on (by repeat (first | with_reducible exact Q.refl _ | with_reducible refine Q.drewN ?_ _ | with_reducible refine Q.drew ?_ | with_reducible refine Q.alloc ?_ _ | with_reducible refine Q.setCell ?_ (by simp) _)))).mono ?_; rintro e w1 ⟨rfl, q1, p1⟩; have Q1 : Hid (Qx p W w1) := hid (Qx.trans (by repeat (first | with_reducible exact Qx.refl _ _ | with_reducible refine Qx.drewN ?_ _ | with_reducible refine Qx.drew ?_ | with_reducible refine Qx.alloc ?_ _ | with_reducible refine Qx.own ?_ _ _ | with_reducible refine Qx.new ?_ (by simp) _ _)) q1); have P1 := hid p1; have Z1 := hid (HZ.out.on q1 (by omega)); have hsw : W.heap.size < w1.heap.size := World.block_lt_of_cell? w1 ⟨W.heap.size, 0, none⟩ Z1.out.g0; clear q1 p1) | (go_at_call 109; refine (HWd.out _ P1.out).mono ?_; rintro e w2 ⟨rfl, q2⟩; have Q2 := hid q2; have hs2 : w1.heap.size ≤ w2.heap.size := q2.size; have hp2 : p ≠ w2.heap.size := (by omega); have P2 := hid ((P1.out.on q2).on ((Q.refl _).alloc (.cells #[.int .i64 4, .string T, .int .i64 q] 141))); clear q2; have c12 := P2.out.c1; have f12 := P2.out.f1))
  obtain ⟨Vq, hV, PV, ZV, BV, QV⟩ : ∃ Vq, Vq = (w2.alloc (.cells #[.int .i64 4, .string T, .int .i64 q] 141)).setCell ⟨p, 1, none⟩ (.int .i64 ((i : Int) + 1)) ∧ PT Vq p L b off cap (i + 1) ∧ Tb Vq W.heap.size (.int .i64 0) (.int .i64 0) (.string ⟨#[]⟩) (.bool false) (.int .i64 0) (.slice none 0 0) (.slice none 0 0) ∧ Wb Vq w2.heap.size (.int .i64 4) (.string T) (.int .i64 q) ∧ Qx p W Vq :=
    ⟨_, rfl, P2.out.set1 (i + 1) _ (by omega), ((Z1.out.on (Qx.of (p := p) Q2.out) (by omega)).on ((Qx.refl p _).alloc _) (by omega)).on ((Qx.refl p _).own _ _) (by omega), (wb_new _ _ _ _ _).on ((Qx.refl p _).own _ _) (by omega), ((Q1.out.trans (Qx.of Q2.out)).alloc _).own _ _⟩
  rw [← hV]
  have PVh := hid PV
  have ZVh := hid ZV
  have BVh := hid BV
  have QVh := hid QV
  have b0 := BV.g0
  have b1 := BV.g1
  have b2 := BV.g2
  clear hV PV ZV BV QV c12 f12
  have hsV : W.heap.size < Vq.heap.size := World.block_lt_of_cell? Vq ⟨W.heap.size, 0, none⟩ ZVh.out.g0
  go_wp2_with (go_at_call 187; refine (HH.out _ T HTT.out QVh.out PVh.out).mono ?_; rintro e w4 h2; obtain ⟨k, m, t, bb, er, a1, l1, c1, a2, l2, c2, rfl, q2, r2⟩ := h2.in; have Q4 := hid q2; have R4 := hid r2; clear h2 q2 r2; have Z4 := hid (ZVh.out.on Q4.out (by omega)); have d0 := Z4.out.g0; have d1 := Z4.out.g1; have d2 := Z4.out.g2; have d3 := Z4.out.g3; have d4 := Z4.out.g4; have d5 := Z4.out.g5; have d6 := Z4.out.g6; have y0 := Z4.out.f 0; have y1 := Z4.out.f 1; have y2 := Z4.out.f 2; have y3 := Z4.out.f 3; have y4 := Z4.out.f 4; have y5 := Z4.out.f 5; have y6 := Z4.out.f 6)
  refine bodyPost_ret (v := .tuple #[.agg #[.int .i64 k, .int .i64 m, .string t, .bool bb, .int .i64 er, .slice a1 l1 c1, .slice a2 l2 c2], .bool o.isSome]) (by simp [results, Tryz.results167, go_sem, d0, d1, d2, d3, d4, d5, d6]) rfl ?_
  exact finP o k m t bb er a1 l1 c1 a2 l2 c2 hlt hbW (QVh.out.trans Q4.out) (fun x j e => ⟨Rdg.mono (fun b hb => by omega) _ _ (R4.out x j e).1, (R4.out x j e).2⟩)
set_option maxHeartbeats 8000000 in
theorem pfirst_other (L : List Wd) (p b off cap i : Nat) (W : World) (h : PT W p L b off cap i) (hi : i < L.length) (hr : L.length ≤ 50000) (hw : isW L i [40] = false) (hk : kAt L i = 6 ∨ kAt L i = 7) :
    Calls Tryz.prog 167 #[.pointer (some ⟨p, 0, none⟩)] W fun e W' => RepP p L b off cap W none e W' := by
  have hlt := h.lt
  have hbW := h.blk i hi
  have HP := hid h
  have HZ := hid (tb_new W (.int .i64 0) (.int .i64 0) (.string ⟨#[]⟩) (.bool false) (.int .i64 0) (.slice none 0 0) (.slice none 0 0) 26)
  have hc := hid (fun W1 (g : PT W1 p L b off cap i) => ptake_any W1 p L b off cap i ⟨#[40]⟩ g hi hr (by simp))
  rw [show (⟨#[40]⟩ : ByteArray).data.toList = [40] from rfl, hw] at hc
  obtain ⟨T, hT, lT⟩ : ∃ T : ByteArray, T = ⟨(tAt L i).toArray⟩ ∧ T.data.toList = tAt L i := ⟨_, rfl, rfl⟩
  have HWd := hid (fun W1 (g : PT W1 p L b off cap i) => word_any W1 p L.length b off cap i _ _ _ (g.kw hi) hi hr)
  rw [← hT] at HWd
  generalize ((L.getD i ⟨7, [], 0⟩).p : Int) = q at HWd
  have HTT := hid lT
  clear hT lT
  have k1 : ((kAt L i : Int) == 1) = false := by rw [beq_eq_false_iff_ne]; omega
  have k2 : ((kAt L i : Int) == 2) = false := by rw [beq_eq_false_iff_ne]; omega
  have k5 : ((kAt L i : Int) == 5) = false := by rw [beq_eq_false_iff_ne]; omega
  have k3 : ((kAt L i : Int) == 3) = false := by rw [beq_eq_false_iff_ne]; omega
  have k4 : ((kAt L i : Int) == 4) = false := by rw [beq_eq_false_iff_ne]; omega
  generalize (kAt L i : Int) = kk at HWd k1 k2 k3 k4 k5
  clear h
  go_enter Tryz.func167, Tryz.ntmps167
  go_upto_region 6 with (first | (go_at_call 166; refine (hc.out _ (HP.out.on (by repeat (first | with_reducible exact Q.refl _ | with_reducible refine Q.drewN ?_ _ | with_reducible refine Q.drew ?_ | with_reducible refine Q.alloc ?_ _ | with_reducible refine Q.setCell ?_ (by simp) _)))).mono ?_; rintro e w1 ⟨rfl, q1, p1⟩; have Q1 : Hid (Qx p W w1) := hid (Qx.trans (by repeat (first | with_reducible exact Qx.refl _ _ | with_reducible refine Qx.drewN ?_ _ | with_reducible refine Qx.drew ?_ | with_reducible refine Qx.alloc ?_ _ | with_reducible refine Qx.own ?_ _ _ | with_reducible refine Qx.new ?_ (by simp) _ _)) q1); have P1 := hid p1; have Z1 := hid (HZ.out.on q1 (by omega)); have hsw : W.heap.size < w1.heap.size := World.block_lt_of_cell? w1 ⟨W.heap.size, 0, none⟩ Z1.out.g0; clear q1 p1) | (go_at_call 109; refine (HWd.out _ P1.out).mono ?_; rintro e w2 ⟨rfl, q2⟩; have Q2 := hid q2; have hs2 : w1.heap.size ≤ w2.heap.size := q2.size; have hp2 : p ≠ w2.heap.size := (by omega); have P2 := hid ((P1.out.on q2).on ((Q.refl _).alloc (.cells #[.int .i64 kk, .string T, .int .i64 q] 141))); clear q2; have c12 := P2.out.c1; have f12 := P2.out.f1))
  obtain ⟨Vq, hV, PV, ZV, BV, QV⟩ : ∃ Vq, Vq = (w2.alloc (.cells #[.int .i64 kk, .string T, .int .i64 q] 141)).setCell ⟨p, 1, none⟩ (.int .i64 ((i : Int) + 1)) ∧ PT Vq p L b off cap (i + 1) ∧ Tb Vq W.heap.size (.int .i64 0) (.int .i64 0) (.string ⟨#[]⟩) (.bool false) (.int .i64 0) (.slice none 0 0) (.slice none 0 0) ∧ Wb Vq w2.heap.size (.int .i64 kk) (.string T) (.int .i64 q) ∧ Qx p W Vq :=
    ⟨_, rfl, P2.out.set1 (i + 1) _ (by omega), ((Z1.out.on (Qx.of (p := p) Q2.out) (by omega)).on ((Qx.refl p _).alloc _) (by omega)).on ((Qx.refl p _).own _ _) (by omega), (wb_new _ _ _ _ _).on ((Qx.refl p _).own _ _) (by omega), ((Q1.out.trans (Qx.of Q2.out)).alloc _).own _ _⟩
  rw [← hV]
  have PVh := hid PV
  have ZVh := hid ZV
  have BVh := hid BV
  have QVh := hid QV
  have b0 := BV.g0
  have b1 := BV.g1
  have b2 := BV.g2
  clear hV PV ZV BV QV c12 f12
  have d0 := ZVh.out.g0
  have d1 := ZVh.out.g1
  have d2 := ZVh.out.g2
  have d3 := ZVh.out.g3
  have d4 := ZVh.out.g4
  have d5 := ZVh.out.g5
  have d6 := ZVh.out.g6
  have y0 := ZVh.out.f 0
  have y1 := ZVh.out.f 1
  have y2 := ZVh.out.f 2
  have y3 := ZVh.out.f 3
  have y4 := ZVh.out.f 4
  have y5 := ZVh.out.f 5
  have y6 := ZVh.out.f 6
  go_wp2_with fail
  refine bodyPost_ret (v := .tuple #[.agg #[.int .i64 0, .int .i64 0, .string ⟨#[]⟩, .bool false, .int .i64 0, .slice none 0 0, .slice none 0 0], .bool false]) (by simp [results, Tryz.results167, go_sem, d0, d1, d2, d3, d4, d5, d6]) rfl ?_
  exact finP none 0 0 ⟨#[]⟩ false 0 none 0 0 none 0 0 hlt hbW QVh.out (fun x j e => by cases e)
theorem RepP.inN {p : Nat} {L : List Wd} {b off cap : Nat} {W W' : World} {e : Ending} (h : RepP p L b off cap W none e W') : ∃ (k m : Int) (t : ByteArray) (bb : Bool) (er : Int) (a1 : Option Addr) (l1 c1 : Nat) (a2 : Option Addr) (l2 c2 : Nat), e = .returned (.tuple #[.agg #[.int .i64 k, .int .i64 m, .string t, .bool bb, .int .i64 er, .slice a1 l1 c1, .slice a2 l2 c2], .bool false]) ∧ Qx p W W' ∧ True := by
  obtain ⟨k, m, t, bb, er, a1, l1, c1, a2, l2, c2, he, hq, _⟩ := h
  exact ⟨k, m, t, bb, er, a1, l1, c1, a2, l2, c2, he, hq, trivial⟩
theorem RepP.inY {p : Nat} {L : List Wd} {b off cap : Nat} {W W' : World} {x : Ex} {j : Nat} {e : Ending} (h : RepP p L b off cap W (some (x, j)) e W') : ∃ (k m : Int) (t : ByteArray) (bb : Bool) (er : Int) (a1 : Option Addr) (l1 c1 : Nat) (a2 : Option Addr) (l2 c2 : Nat), e = .returned (.tuple #[.agg #[.int .i64 k, .int .i64 m, .string t, .bool bb, .int .i64 er, .slice a1 l1 c1, .slice a2 l2 c2], .bool true]) ∧ Qx p W W' ∧ Rdg (fun b => W.heap.size ≤ b) W' x (.agg #[.int .i64 k, .int .i64 m, .string t, .bool bb, .int .i64 er, .slice a1 l1 c1, .slice a2 l2 c2]) ∧ PT W' p L b off cap j := by
  obtain ⟨k, m, t, bb, er, a1, l1, c1, a2, l2, c2, he, hq, hr⟩ := h
  exact ⟨k, m, t, bb, er, a1, l1, c1, a2, l2, c2, he, hq, (hr x j rfl).1, (hr x j rfl).2⟩
set_option maxHeartbeats 8000000 in
theorem pbrack_none (L : List Wd) (p b off cap i : Nat) (W : World) (h : PT W p L b off cap i) (hi : i < L.length) (hr : L.length ≤ 50000)  (HT : Hid (∀ W1, PT W1 p L b off cap i → Calls Tryz.prog 108 #[.pointer (some ⟨p, 0, none⟩), .int .i64 1] W1 fun e W' => RepP p L b off cap W1 none e W')) :
    Calls Tryz.prog 184 #[.pointer (some ⟨p, 0, none⟩)] W fun e W' => RepP p L b off cap W none e W' := by
  have hlt := h.lt
  have hbW := h.blk i hi
  have HP := hid h
  have HZ := hid (tb_new W (.int .i64 0) (.int .i64 0) (.string ⟨#[]⟩) (.bool false) (.int .i64 0) (.slice none 0 0) (.slice none 0 0) 26)
  clear h
  go_enter Tryz.func184, Tryz.ntmps184
  go_wp2_with (go_at_call 108; refine (HT.out _ (HP.out.on (by repeat (first | with_reducible exact Q.refl _ | with_reducible refine Q.drewN ?_ _ | with_reducible refine Q.drew ?_ | with_reducible refine Q.alloc ?_ _ | with_reducible refine Q.setCell ?_ (by simp) _)))).mono ?_; rintro e w2 h2; obtain ⟨k, m, t, bb, er, a1, l1, c1, a2, l2, c2, rfl, q2, r2⟩ := h2.inN; have Q2 := hid q2; have R2 := hid r2; clear h2 q2 r2; have Z2w := hid (HZ.out.on Q2.out (by omega)); have Z2 := hid ((HZ.out.on Q2.out (by omega)).on ((Qx.refl p _).alloc (.cells #[.int .i64 k, .int .i64 m, .string t, .bool bb, .int .i64 er, .slice a1 l1 c1, .slice a2 l2 c2] 26)) (by omega)); have hs2 : W.heap.size < w2.heap.size := (by have := Q2.out.size; simp at this; omega); have E2 := hid (tb_new w2 (.int .i64 k) (.int .i64 m) (.string t) (.bool bb) (.int .i64 er) (.slice a1 l1 c1) (.slice a2 l2 c2) 26))
  have g0 := Z2w.out.g0
  have g1 := Z2w.out.g1
  have g2 := Z2w.out.g2
  have g3 := Z2w.out.g3
  have g4 := Z2w.out.g4
  have g5 := Z2w.out.g5
  have g6 := Z2w.out.g6
  have x0 := Z2w.out.f 0
  have x1 := Z2w.out.f 1
  have x2 := Z2w.out.f 2
  have x3 := Z2w.out.f 3
  have x4 := Z2w.out.f 4
  have x5 := Z2w.out.f 5
  have x6 := Z2w.out.f 6
  have hWw : W.heap.size ≠ w2.heap.size := by omega
  go_region
  obtain ⟨Vn, hVn, TVn, QVn⟩ : ∃ Vn, Vn = ((((((((w2.setCell ⟨W.heap.size, 0, none⟩ (.int .i64 k)).setCell ⟨W.heap.size, 1, none⟩ (.int .i64 m)).setCell ⟨W.heap.size, 2, none⟩ (.string t)).setCell ⟨W.heap.size, 3, none⟩ (.bool bb)).setCell ⟨W.heap.size, 4, none⟩ (.int .i64 er)).setCell ⟨W.heap.size, 5, none⟩ (.slice a1 l1 c1)).setCell ⟨W.heap.size, 6, none⟩ (.slice a2 l2 c2)).alloc (.cells #[.int .i64 k, .int .i64 m, .string t, .bool bb, .int .i64 er, .slice a1 l1 c1, .slice a2 l2 c2] 26)).drew ∧ Tb Vn W.heap.size (.int .i64 k) (.int .i64 m) (.string t) (.bool bb) (.int .i64 er) (.slice a1 l1 c1) (.slice a2 l2 c2) ∧ Qx p W Vn := by
    have hq : Qx p W w2 := ((Qx.refl p W).alloc _).trans Q2.out
    have hle : W.heap.size ≤ W.heap.size := Nat.le_refl _
    exact ⟨_, rfl, ((Z2w.out.put _ _ _ _ _ _ _).on ((Qx.refl p _).alloc _) (by omega)).on ((Qx.refl p _).drew) (by omega), ((((((((hq.new hle _ _).new hle _ _).new hle _ _).new hle _ _).new hle _ _).new hle _ _).new hle _ _).alloc _).drew⟩
  rw [← hVn]
  have TVh := hid TVn
  clear hVn g0 x0 g1 x1 g2 x2 g3 x3 g4 x4 g5 x5 g6 x6 TVn
  have g0 := TVh.out.g0
  have g1 := TVh.out.g1
  have g2 := TVh.out.g2
  have g3 := TVh.out.g3
  have g4 := TVh.out.g4
  have g5 := TVh.out.g5
  have g6 := TVh.out.g6
  all_goals go_wp2_with fail
  all_goals refine bodyPost_ret (v := .tuple #[.agg #[.int .i64 k, .int .i64 m, .string t, .bool bb, .int .i64 er, .slice a1 l1 c1, .slice a2 l2 c2], .bool false]) (by simp [results, Tryz.results184, go_sem, g0, g1, g2, g3, g4, g5, g6]) rfl ?_
  exact ⟨k, m, t, bb, er, a1, l1, c1, a2, l2, c2, rfl, QVn, fun x j e => by cases e⟩
set_option maxHeartbeats 8000000 in
theorem pbrack_yes (L : List Wd) (p b off cap i : Nat) (W : World) (h : PT W p L b off cap i) (hi : i < L.length) (hr : L.length ≤ 50000) (x : Ex) (j : Nat) (hj : j < L.length) (hw : isW L j [41] = true) (HT : Hid (∀ W1, PT W1 p L b off cap i → Calls Tryz.prog 108 #[.pointer (some ⟨p, 0, none⟩), .int .i64 1] W1 fun e W' => RepP p L b off cap W1 (some (x, j)) e W')) :
    Calls Tryz.prog 184 #[.pointer (some ⟨p, 0, none⟩)] W fun e W' => RepP p L b off cap W (some (x, j + 1)) e W' := by
  have hlt := h.lt
  have hbW := h.blk i hi
  have HP := hid h
  have HZ := hid (tb_new W (.int .i64 0) (.int .i64 0) (.string ⟨#[]⟩) (.bool false) (.int .i64 0) (.slice none 0 0) (.slice none 0 0) 26)
  have hc := hid (fun W1 (g : PT W1 p L b off cap j) => ptake_any W1 p L b off cap j ⟨#[41]⟩ g hj hr (by simp))
  rw [show (⟨#[41]⟩ : ByteArray).data.toList = [41] from rfl, hw] at hc
  clear h
  go_enter Tryz.func184, Tryz.ntmps184
  go_wp2_with (go_at_call 108; refine (HT.out _ (HP.out.on (by repeat (first | with_reducible exact Q.refl _ | with_reducible refine Q.drewN ?_ _ | with_reducible refine Q.drew ?_ | with_reducible refine Q.alloc ?_ _ | with_reducible refine Q.setCell ?_ (by simp) _)))).mono ?_; rintro e w2 h2; obtain ⟨k, m, t, bb, er, a1, l1, c1, a2, l2, c2, rfl, q2, r2⟩ := h2.inY; have Q2 := hid q2; have R2 := hid r2; clear h2 q2 r2; have Z2w := hid (HZ.out.on Q2.out (by omega)); have Z2 := hid ((HZ.out.on Q2.out (by omega)).on ((Qx.refl p _).alloc (.cells #[.int .i64 k, .int .i64 m, .string t, .bool bb, .int .i64 er, .slice a1 l1 c1, .slice a2 l2 c2] 26)) (by omega)); have hs2 : W.heap.size < w2.heap.size := (by have := Q2.out.size; simp at this; omega); have E2 := hid (tb_new w2 (.int .i64 k) (.int .i64 m) (.string t) (.bool bb) (.int .i64 er) (.slice a1 l1 c1) (.slice a2 l2 c2) 26); have P2 := hid (R2.out.2.on ((Q.refl _).alloc (.cells #[.int .i64 k, .int .i64 m, .string t, .bool bb, .int .i64 er, .slice a1 l1 c1, .slice a2 l2 c2] 26))))
  have d0 := Z2.out.g0
  have d1 := Z2.out.g1
  have d2 := Z2.out.g2
  have d3 := Z2.out.g3
  have d4 := Z2.out.g4
  have d5 := Z2.out.g5
  have d6 := Z2.out.g6
  have y0 := Z2.out.f 0
  have y1 := Z2.out.f 1
  have y2 := Z2.out.f 2
  have y3 := Z2.out.f 3
  have y4 := Z2.out.f 4
  have y5 := Z2.out.f 5
  have y6 := Z2.out.f 6
  have g0 := Z2w.out.g0
  have g1 := Z2w.out.g1
  have g2 := Z2w.out.g2
  have g3 := Z2w.out.g3
  have g4 := Z2w.out.g4
  have g5 := Z2w.out.g5
  have g6 := Z2w.out.g6
  have x0 := Z2w.out.f 0
  have x1 := Z2w.out.f 1
  have x2 := Z2w.out.f 2
  have x3 := Z2w.out.f 3
  have x4 := Z2w.out.f 4
  have x5 := Z2w.out.f 5
  have x6 := Z2w.out.f 6
  have hWw : W.heap.size ≠ w2.heap.size := by omega
  go_region_with (first | (go_at_call 166; refine (hc.out _ (P2.out.on (by repeat (first | with_reducible exact Q.refl _ | with_reducible refine Q.drewN ?_ _ | with_reducible refine Q.drew ?_ | with_reducible refine Q.alloc ?_ _ | with_reducible refine Q.setCell ?_ (by simp) _)))).mono ?_; rintro e9 w5 ⟨rfl, q5, p5⟩; have Q5 : Hid (Qx p (w2.alloc (.cells #[.int .i64 k, .int .i64 m, .string t, .bool bb, .int .i64 er, .slice a1 l1 c1, .slice a2 l2 c2] 26)) w5) := hid (Qx.trans (by repeat (first | with_reducible exact Qx.refl _ _ | with_reducible refine Qx.drewN ?_ _ | with_reducible refine Qx.drew ?_ | with_reducible refine Qx.alloc ?_ _ | with_reducible refine Qx.own ?_ _ _ | with_reducible refine Qx.new ?_ (by simp) _ _)) q5); have P5 := hid p5; have E5 := hid (E2.out.on Q5.out (by omega)); have Z5 := hid (Z2.out.on Q5.out (by omega)); clear q5 p5; have e0 := Z5.out.g0; have e1 := Z5.out.g1; have e2 := Z5.out.g2; have e3 := Z5.out.g3; have e4 := Z5.out.g4; have e5 := Z5.out.g5; have e6 := Z5.out.g6; have r0 := Z5.out.f 0; have r1 := Z5.out.f 1; have r2 := Z5.out.f 2; have r3 := Z5.out.f 3; have r4 := Z5.out.f 4; have r5 := Z5.out.f 5; have r6 := Z5.out.f 6; have n0 := E5.out.g0; have n1 := E5.out.g1; have n2 := E5.out.g2; have n3 := E5.out.g3; have n4 := E5.out.g4; have n5 := E5.out.g5; have n6 := E5.out.g6))
  all_goals go_wp2_with fail
  all_goals refine bodyPost_ret (v := .tuple #[.agg #[.int .i64 k, .int .i64 m, .string t, .bool bb, .int .i64 er, .slice a1 l1 c1, .slice a2 l2 c2], .bool true]) (by simp [results, Tryz.results184, go_sem, e0, e1, e2, e3, e4, e5, e6]) rfl ?_
  all_goals exact finP (some (x, j + 1)) k m t bb er a1 l1 c1 a2 l2 c2 hlt hbW ((((Qx.refl p W).alloc _).trans Q2.out).alloc _ |>.trans Q5.out) (fun x' j' e => by cases e; exact ⟨Rdg.on Q5.out (fun b hb => by omega) _ _ (Rdg.on ((Qx.refl p _).alloc _) (fun b hb => by omega) _ _ (Rdg.mono (fun b hb => by simp at hb; omega) _ _ R2.out.1)), P5.out⟩)
set_option maxHeartbeats 8000000 in
theorem pbrack_no (L : List Wd) (p b off cap i : Nat) (W : World) (h : PT W p L b off cap i) (hi : i < L.length) (hr : L.length ≤ 50000) (x : Ex) (j : Nat) (hj : j < L.length) (hw : isW L j [41] = false) (HT : Hid (∀ W1, PT W1 p L b off cap i → Calls Tryz.prog 108 #[.pointer (some ⟨p, 0, none⟩), .int .i64 1] W1 fun e W' => RepP p L b off cap W1 (some (x, j)) e W')) :
    Calls Tryz.prog 184 #[.pointer (some ⟨p, 0, none⟩)] W fun e W' => RepP p L b off cap W none e W' := by
  have hlt := h.lt
  have hbW := h.blk i hi
  have HP := hid h
  have HZ := hid (tb_new W (.int .i64 0) (.int .i64 0) (.string ⟨#[]⟩) (.bool false) (.int .i64 0) (.slice none 0 0) (.slice none 0 0) 26)
  have hc := hid (fun W1 (g : PT W1 p L b off cap j) => ptake_any W1 p L b off cap j ⟨#[41]⟩ g hj hr (by simp))
  rw [show (⟨#[41]⟩ : ByteArray).data.toList = [41] from rfl, hw] at hc
  clear h
  go_enter Tryz.func184, Tryz.ntmps184
  go_wp2_with (go_at_call 108; refine (HT.out _ (HP.out.on (by repeat (first | with_reducible exact Q.refl _ | with_reducible refine Q.drewN ?_ _ | with_reducible refine Q.drew ?_ | with_reducible refine Q.alloc ?_ _ | with_reducible refine Q.setCell ?_ (by simp) _)))).mono ?_; rintro e w2 h2; obtain ⟨k, m, t, bb, er, a1, l1, c1, a2, l2, c2, rfl, q2, r2⟩ := h2.inY; have Q2 := hid q2; have R2 := hid r2; clear h2 q2 r2; have Z2w := hid (HZ.out.on Q2.out (by omega)); have Z2 := hid ((HZ.out.on Q2.out (by omega)).on ((Qx.refl p _).alloc (.cells #[.int .i64 k, .int .i64 m, .string t, .bool bb, .int .i64 er, .slice a1 l1 c1, .slice a2 l2 c2] 26)) (by omega)); have hs2 : W.heap.size < w2.heap.size := (by have := Q2.out.size; simp at this; omega); have E2 := hid (tb_new w2 (.int .i64 k) (.int .i64 m) (.string t) (.bool bb) (.int .i64 er) (.slice a1 l1 c1) (.slice a2 l2 c2) 26); have P2 := hid (R2.out.2.on ((Q.refl _).alloc (.cells #[.int .i64 k, .int .i64 m, .string t, .bool bb, .int .i64 er, .slice a1 l1 c1, .slice a2 l2 c2] 26))))
  have d0 := Z2.out.g0
  have d1 := Z2.out.g1
  have d2 := Z2.out.g2
  have d3 := Z2.out.g3
  have d4 := Z2.out.g4
  have d5 := Z2.out.g5
  have d6 := Z2.out.g6
  have y0 := Z2.out.f 0
  have y1 := Z2.out.f 1
  have y2 := Z2.out.f 2
  have y3 := Z2.out.f 3
  have y4 := Z2.out.f 4
  have y5 := Z2.out.f 5
  have y6 := Z2.out.f 6
  have g0 := Z2w.out.g0
  have g1 := Z2w.out.g1
  have g2 := Z2w.out.g2
  have g3 := Z2w.out.g3
  have g4 := Z2w.out.g4
  have g5 := Z2w.out.g5
  have g6 := Z2w.out.g6
  have x0 := Z2w.out.f 0
  have x1 := Z2w.out.f 1
  have x2 := Z2w.out.f 2
  have x3 := Z2w.out.f 3
  have x4 := Z2w.out.f 4
  have x5 := Z2w.out.f 5
  have x6 := Z2w.out.f 6
  have hWw : W.heap.size ≠ w2.heap.size := by omega
  go_region_with (first | (go_at_call 166; refine (hc.out _ (P2.out.on (by repeat (first | with_reducible exact Q.refl _ | with_reducible refine Q.drewN ?_ _ | with_reducible refine Q.drew ?_ | with_reducible refine Q.alloc ?_ _ | with_reducible refine Q.setCell ?_ (by simp) _)))).mono ?_; rintro e9 w5 ⟨rfl, q5, p5⟩; have Q5 : Hid (Qx p (w2.alloc (.cells #[.int .i64 k, .int .i64 m, .string t, .bool bb, .int .i64 er, .slice a1 l1 c1, .slice a2 l2 c2] 26)) w5) := hid (Qx.trans (by repeat (first | with_reducible exact Qx.refl _ _ | with_reducible refine Qx.drewN ?_ _ | with_reducible refine Qx.drew ?_ | with_reducible refine Qx.alloc ?_ _ | with_reducible refine Qx.own ?_ _ _ | with_reducible refine Qx.new ?_ (by simp) _ _)) q5); have P5 := hid p5; have E5 := hid (E2.out.on Q5.out (by omega)); have Z5 := hid (Z2.out.on Q5.out (by omega)); clear q5 p5; have e0 := Z5.out.g0; have e1 := Z5.out.g1; have e2 := Z5.out.g2; have e3 := Z5.out.g3; have e4 := Z5.out.g4; have e5 := Z5.out.g5; have e6 := Z5.out.g6; have r0 := Z5.out.f 0; have r1 := Z5.out.f 1; have r2 := Z5.out.f 2; have r3 := Z5.out.f 3; have r4 := Z5.out.f 4; have r5 := Z5.out.f 5; have r6 := Z5.out.f 6; have n0 := E5.out.g0; have n1 := E5.out.g1; have n2 := E5.out.g2; have n3 := E5.out.g3; have n4 := E5.out.g4; have n5 := E5.out.g5; have n6 := E5.out.g6))
  all_goals go_wp2_with fail
  all_goals refine bodyPost_ret (v := .tuple #[.agg #[.int .i64 k, .int .i64 m, .string t, .bool bb, .int .i64 er, .slice a1 l1 c1, .slice a2 l2 c2], .bool false]) (by simp [results, Tryz.results184, go_sem, e0, e1, e2, e3, e4, e5, e6]) rfl ?_
  all_goals exact finP none k m t bb er a1 l1 c1 a2 l2 c2 hlt hbW ((((Qx.refl p W).alloc _).trans Q2.out).alloc _ |>.trans Q5.out) (fun x' j' e => by cases e)
end Go.Proofs.YtgheopdadfnilaaGreatDoor
