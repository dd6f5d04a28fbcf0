/- parse.Parse, walked. The formula that the statements begin with. slices.Equal of references. Two trees held against each other by a list of pairs still open and pairs begun, plainly. -/
import Derived.Test.YtdpppkkdilcbeaaGreatDoorMa24
import Derived.Test.YtdpppkkdilcbeaaGreatDoorMa19
import Derived.Test.YtdpppkkdilcbeaaGreatDoorMa02
import Derived.Laws.StructEq
namespace Go.Proofs.YtdpppkkdilcbeaaGreatDoor
open Go.RowKit
set_option linter.unusedVariables false
set_option linter.unusedSimpArgs false


theorem Q.viax {p : Nat} {a b c : World} (h : Q a b) (k : Qx p b c) (hp : a.heap.size ≤ p) : Q a c :=
  ⟨k.os.trans h.os, k.tape.trans h.tape, k.output.trans h.output, Nat.le_trans h.size k.size, fun i hi => (k.block i (Nat.lt_of_lt_of_le hi h.size) (fun e => by have := Option.some.inj e; omega)).trans (Q.block h hi)⟩
/-- the program's answer, of what was read -/
def finR (L : List Wd) : Option (Ex × Nat) → Ex × Nat
  | none => (zeroE, 2)
  | some (x, j) => if kAt L j = 7 then (if fitB x then (x, 0) else (zeroE, 3)) else (zeroE, 2)
/-- what Parse answers -/
def RepR (W : World) (r : Ex × Nat) (e : Ending) (W' : World) : Prop := ∃ v, e = .returned (.tuple #[v, .int .i64 (r.2 : Int)]) ∧ Rd W' r.1 v ∧ Q W W'
theorem rd_zero (W : World) : Rd W zeroE (.agg #[.int .i64 0, .int .i64 0, .string ⟨#[]⟩, .bool false, .int .i64 0, .slice none 0 0, .slice none 0 0]) := Rdg.rd _ _ (rdg_zero (fun _ => True) W)

set_option maxRecDepth 100000 in
set_option maxHeartbeats 8000000 in
theorem pparse_scan (s : ByteArray) (W : World) (hw : Std W) (hs : s.size ≤ 100000) (n : Nat) (hn : scanL s.data.toList = (none, n)) :
    Calls Tryz.prog 8 #[.string s] W fun e W' => RepR W (zeroE, 2) e W' := by
  have HZ := hid (tb_new W (.int .i64 0) (.int .i64 0) (.string ⟨#[]⟩) (.bool false) (.int .i64 0) (.slice none 0 0) (.slice none 0 0) 28)
  have HSt := hid hw
  have h4 := hw.big
  have HSc := hid (fun W1 (g : Std W1) => scan_any s W1 g hs)
  have HN := hid hn
  clear hn
  clear hw
  go_enter Tryz.func8, Tryz.ntmps8
  go_wp2_with (go_at_call 17; refine (HSc.out _ (HSt.out.on (by repeat (first | with_reducible exact Q.refl _ | with_reducible refine Q.drewN ?_ _ | with_reducible refine Q.drew ?_ | with_reducible refine Q.alloc ?_ _ | with_reducible refine Q.setCell ?_ (by simp) _)))).mono ?_; rintro e w1 ⟨h1, q1⟩; rw [HN.out] at h1; have h1' := ScanRet.none h1; subst h1'; have Q1 : Hid (Q W w1) := hid (Q.trans (by repeat (first | with_reducible exact Q.refl _ | with_reducible refine Q.drewN ?_ _ | with_reducible refine Q.drew ?_ | with_reducible refine Q.alloc ?_ _ | with_reducible refine Q.setCell ?_ (by simp) _)) q1); have Z1 := hid (HZ.out.on (p := W.heap.size + 1) (Qx.of q1) (by omega)); clear q1 h1; have d0 := Z1.out.g0; have d1 := Z1.out.g1; have d2 := Z1.out.g2; have d3 := Z1.out.g3; have d4 := Z1.out.g4; have d5 := Z1.out.g5; have d6 := Z1.out.g6; have y0 := Z1.out.f 0; have y1 := Z1.out.f 1; have y2 := Z1.out.f 2; have y3 := Z1.out.f 3; have y4 := Z1.out.f 4; have y5 := Z1.out.f 5; have y6 := Z1.out.f 6)
  refine bodyPost_ret (v := .tuple #[.agg #[.int .i64 0, .int .i64 0, .string ⟨#[]⟩, .bool false, .int .i64 0, .slice none 0 0, .slice none 0 0], .int .i64 2]) (by simp [results, Tryz.results8, go_sem, d0, d1, d2, d3, d4, d5, d6]) rfl ?_
  exact ⟨_, rfl, rd_zero _, Q.setCell (Q.setCell (Q.setCell (Q.setCell (Q.setCell (Q.setCell (Q.setCell Q1.out (Nat.le_refl _) _) (Nat.le_refl _) _) (Nat.le_refl _) _) (Nat.le_refl _) _) (Nat.le_refl _) _) (Nat.le_refl _) _) (Nat.le_refl _) _⟩

theorem pt_new (w : World) (L : List Wd) (b off cap : Nat) (h : Sw w L (.slice (some ⟨b, off, none⟩) L.length cap) b off cap) (hpos : 0 < L.length) (hs : Std w) : PT (w.alloc (.cells #[.slice (some ⟨b, off, none⟩) L.length cap, .int .i64 0] 43)) w.heap.size L b off cap 0 := by
  have hb : b < w.heap.size := World.block_lt_of_cell? w ⟨b, off + 0 * 3, none⟩ (h.k 0 hpos)
  have h4 := hs.big
  have sv : Sv w L (.slice (some ⟨b, off, none⟩) L.length cap) b off cap := ⟨rfl, h.le, h.mx, h.k, h.t, h.p⟩
  refine ⟨?_, ?_, ?_, sv.on (p := w.heap.size) ((Qx.refl _ _).alloc _) (by omega), by omega, hs.on ((Q.refl _).alloc _), by omega⟩
  all_goals simp [World.cell?_alloc_new, World.frozen?_alloc_new]

set_option maxRecDepth 100000 in
set_option maxHeartbeats 8000000 in
theorem pparse_none (s : ByteArray) (W : World) (hw : Std W) (hs : s.size ≤ 100000) (L : List Wd) (n f : Nat) (hn : scanL s.data.toList = (some L, n)) (hpt : ptF EE L f 1 0 = some none) :
    Calls Tryz.prog 8 #[.string s] W fun e W' => RepR W (zeroE, 2) e W' := by
  have HZ := hid (tb_new W (.int .i64 0) (.int .i64 0) (.string ⟨#[]⟩) (.bool false) (.int .i64 0) (.slice none 0 0) (.slice none 0 0) 28)
  have HSt := hid hw
  have h4 := hw.big
  have HSc := hid (fun W1 (g : Std W1) => scan_any s W1 g hs)
  have HN := hid hn
  obtain ⟨hpos, hr, hE, hG, hK, hz⟩ := scan_good hn
  have HPr := hid (fun W1 p b off cap (g : PT W1 p L b off cap 0) => (pro_all L hE hG hK hr hz p b off cap f).1 1 0 _ W1 (by omega) (by omega) hpt g hpos)
  clear hn
  clear hw
  go_enter Tryz.func8, Tryz.ntmps8
  go_wp2_with (first | (go_at_call 17; refine (HSc.out _ (HSt.out.on (by repeat (first | with_reducible exact Q.refl _ | with_reducible refine Q.drewN ?_ _ | with_reducible refine Q.drew ?_ | with_reducible refine Q.alloc ?_ _ | with_reducible refine Q.setCell ?_ (by simp) _)))).mono ?_; rintro e w1 ⟨h1, q1⟩; rw [HN.out] at h1; obtain ⟨sv, h1', hsl⟩ := ScanRet.some h1; subst h1'; obtain ⟨b, off, cap, hsw⟩ := sw_of hsl hpos; obtain rfl := hsw.ev; have Q1 : Hid (Q W w1) := hid (Q.trans (by repeat (first | with_reducible exact Q.refl _ | with_reducible refine Q.drewN ?_ _ | with_reducible refine Q.drew ?_ | with_reducible refine Q.alloc ?_ _ | with_reducible refine Q.setCell ?_ (by simp) _)) q1); have hs1 : W.heap.size < w1.heap.size := (by have := q1.size; simp at this; omega); have Z1 := hid (HZ.out.on (p := W.heap.size + 1) (Qx.of q1) (by omega)); have P1 : Hid (PT (w1.alloc (.cells #[.slice (some ⟨b, off, none⟩) L.length cap, .int .i64 0] 43)) w1.heap.size L b off cap 0) := hid (pt_new w1 L b off cap hsw hpos (HSt.out.on Q1.out)); clear q1 h1 hsl hsw) | (go_at_call 18; refine (HPr.out _ _ _ _ _ P1.out).mono ?_; rintro e w2 h2; obtain ⟨k, m, t, bb, er, a1, l1, c1, a2, l2, c2, rfl, q2, r2⟩ := h2.inN; have Q2 := hid q2; have R2 := hid r2; clear h2 q2 r2; have Z2 := hid ((Z1.out.on (p := w1.heap.size) ((Qx.refl _ _).alloc _) (by omega)).on Q2.out (by omega)); have hs2 : w1.heap.size < w2.heap.size := (by have := Q2.out.size; simp at this; omega); have QW : Hid (Q W w2) := hid ((Q1.out.alloc _).viax Q2.out (by omega)); have Z3 := hid (Z2.out.on (p := w1.heap.size) ((Qx.refl _ _).alloc (.cells #[.int .i64 k, .int .i64 m, .string t, .bool bb, .int .i64 er, .slice a1 l1 c1, .slice a2 l2 c2] 28)) (by omega)); have d0 := Z3.out.g0; have d1 := Z3.out.g1; have d2 := Z3.out.g2; have d3 := Z3.out.g3; have d4 := Z3.out.g4; have d5 := Z3.out.g5; have d6 := Z3.out.g6; have y0 := Z3.out.f 0; have y1 := Z3.out.f 1; have y2 := Z3.out.f 2; have y3 := Z3.out.f 3; have y4 := Z3.out.f 4; have y5 := Z3.out.f 5; have y6 := Z3.out.f 6))
  refine bodyPost_ret (v := .tuple #[.agg #[.int .i64 0, .int .i64 0, .string ⟨#[]⟩, .bool false, .int .i64 0, .slice none 0 0, .slice none 0 0], .int .i64 2]) (by simp [results, Tryz.results8, go_sem, d0, d1, d2, d3, d4, d5, d6]) rfl ?_
  exact ⟨_, rfl, rd_zero _, Q.setCell (Q.setCell (Q.setCell (Q.setCell (Q.setCell (Q.setCell (Q.setCell (QW.out.alloc _) (Nat.le_refl _) _) (Nat.le_refl _) _) (Nat.le_refl _) _) (Nat.le_refl _) _) (Nat.le_refl _) _) (Nat.le_refl _) _) (Nat.le_refl _) _⟩

set_option maxRecDepth 100000 in
set_option maxHeartbeats 8000000 in
theorem pparse_end (s : ByteArray) (W : World) (hw : Std W) (hs : s.size ≤ 100000) (L : List Wd) (n f : Nat) (hn : scanL s.data.toList = (some L, n)) (x : Ex) (j : Nat) (hpt : ptF EE L f 1 0 = some (some (x, j))) (hk : kAt L j ≠ 7) :
    Calls Tryz.prog 8 #[.string s] W fun e W' => RepR W (zeroE, 2) e W' := by
  have HZ := hid (tb_new W (.int .i64 0) (.int .i64 0) (.string ⟨#[]⟩) (.bool false) (.int .i64 0) (.slice none 0 0) (.slice none 0 0) 28)
  have HSt := hid hw
  have h4 := hw.big
  have HSc := hid (fun W1 (g : Std W1) => scan_any s W1 g hs)
  have HN := hid hn
  obtain ⟨hpos, hr, hE, hG, hK, hz⟩ := scan_good hn
  have HPr := hid (fun W1 p b off cap (g : PT W1 p L b off cap 0) => (pro_all L hE hG hK hr hz p b off cap f).1 1 0 _ W1 (by omega) (by omega) hpt g hpos)
  have hjl := ((pfwd_all EE L hE f).1 _ _ _ _ (by omega) hpos hpt).2
  have HWd := hid (fun W1 p b off cap (g : PT W1 p L b off cap j) => word_any W1 p L.length b off cap j _ _ _ (g.kw hjl) hjl hr)
  obtain ⟨T2, hT2⟩ : ∃ T2 : ByteArray, T2 = ⟨(tAt L j).toArray⟩ := ⟨_, rfl⟩
  rw [← hT2] at HWd
  generalize ((L.getD j ⟨7, [], 0⟩).p : Int) = q at HWd
  have F0 : ∀ (k : Int) (w : World), (Instr.field 47 (.agg #[.int .i64 k, .string T2, .int .i64 q]) 0).run Tryz.prog w = .ok (.int .i64 k) w := fun k w => fd0 _ _ _ w
  have HF := hid (fun W1 v (h : Rd W1 x v) => fits_any x v W1 h)
  clear hn hT2
  have k7 : ((kAt L j : Int) == 7) = false := by rw [beq_eq_false_iff_ne]; omega
  have k7b : ¬ (kAt L j : Int) = 7 := by omega
  generalize (kAt L j : Int) = kk at HWd k7 k7b
  clear hk
  clear hw
  go_enter Tryz.func8, Tryz.ntmps8
  go_wp2_with (first | (go_at_call 19; refine (HWd.out _ _ _ _ _ P2.out).mono ?_; rintro e w3 ⟨rfl, q3⟩; have Q3 : Hid (Q w2 w3) := hid (((Q.refl _).alloc _).trans q3); have hs3 : w2.heap.size < w3.heap.size := (by have := q3.size; simp at this; omega); have X3 := hid (X2.out.on (p := w1.heap.size) (Qx.of q3) (by omega)); have Z3 := hid (Z2.out.on (p := w1.heap.size) (Qx.of Q3.out) (by omega)); clear q3; have d0 := Z3.out.g0; have d1 := Z3.out.g1; have d2 := Z3.out.g2; have d3 := Z3.out.g3; have d4 := Z3.out.g4; have d5 := Z3.out.g5; have d6 := Z3.out.g6; have y0 := Z3.out.f 0; have y1 := Z3.out.f 1; have y2 := Z3.out.f 2; have y3 := Z3.out.f 3; have y4 := Z3.out.f 4; have y5 := Z3.out.f 5; have y6 := Z3.out.f 6) | (go_at_call 17; refine (HSc.out _ (HSt.out.on (by repeat (first | with_reducible exact Q.refl _ | with_reducible refine Q.drewN ?_ _ | with_reducible refine Q.drew ?_ | with_reducible refine Q.alloc ?_ _ | with_reducible refine Q.setCell ?_ (by simp) _)))).mono ?_; rintro e w1 ⟨h1, q1⟩; rw [HN.out] at h1; obtain ⟨sv, h1', hsl⟩ := ScanRet.some h1; subst h1'; obtain ⟨b, off, cap, hsw⟩ := sw_of hsl hpos; obtain rfl := hsw.ev; have Q1 : Hid (Q W w1) := hid (Q.trans (by repeat (first | with_reducible exact Q.refl _ | with_reducible refine Q.drewN ?_ _ | with_reducible refine Q.drew ?_ | with_reducible refine Q.alloc ?_ _ | with_reducible refine Q.setCell ?_ (by simp) _)) q1); have hs1 : W.heap.size < w1.heap.size := (by have := q1.size; simp at this; omega); have Z1 := hid (HZ.out.on (p := W.heap.size + 1) (Qx.of q1) (by omega)); have P1 : Hid (PT (w1.alloc (.cells #[.slice (some ⟨b, off, none⟩) L.length cap, .int .i64 0] 43)) w1.heap.size L b off cap 0) := hid (pt_new w1 L b off cap hsw hpos (HSt.out.on Q1.out)); clear q1 h1 hsl hsw) | (go_at_call 18; refine (HPr.out _ _ _ _ _ P1.out).mono ?_; rintro e w2 h2; obtain ⟨k, m, t, bb, er, a1, l1, c1, a2, l2, c2, rfl, q2, r2⟩ := h2.inY; have Q2 := hid q2; have R2 := hid r2; clear h2 q2 r2; have Z2 := hid ((Z1.out.on (p := w1.heap.size) ((Qx.refl _ _).alloc _) (by omega)).on Q2.out (by omega)); have hs2 : w1.heap.size < w2.heap.size := (by have := Q2.out.size; simp at this; omega); have QW : Hid (Q W w2) := hid ((Q1.out.alloc _).viax Q2.out (by omega)); have P2 := hid (R2.out.2.on ((Q.refl _).alloc (.cells #[.int .i64 k, .int .i64 m, .string t, .bool bb, .int .i64 er, .slice a1 l1 c1, .slice a2 l2 c2] 28))); have X2 := hid (tb_new w2 (.int .i64 k) (.int .i64 m) (.string t) (.bool bb) (.int .i64 er) (.slice a1 l1 c1) (.slice a2 l2 c2) 28)))
  refine bodyPost_ret (v := .tuple #[.agg #[.int .i64 0, .int .i64 0, .string ⟨#[]⟩, .bool false, .int .i64 0, .slice none 0 0, .slice none 0 0], .int .i64 2]) (by simp [results, Tryz.results8, go_sem, d0, d1, d2, d3, d4, d5, d6]) rfl ?_
  exact ⟨_, rfl, rd_zero _, Q.setCell (Q.setCell (Q.setCell (Q.setCell (Q.setCell (Q.setCell (Q.setCell (QW.out.trans Q3.out) (Nat.le_refl _) _) (Nat.le_refl _) _) (Nat.le_refl _) _) (Nat.le_refl _) _) (Nat.le_refl _) _) (Nat.le_refl _) _) (Nat.le_refl _) _⟩

set_option maxRecDepth 100000 in
set_option maxHeartbeats 8000000 in
theorem pparse_deep (s : ByteArray) (W : World) (hw : Std W) (hs : s.size ≤ 100000) (L : List Wd) (n f : Nat) (hn : scanL s.data.toList = (some L, n)) (x : Ex) (j : Nat) (hpt : ptF EE L f 1 0 = some (some (x, j))) (hk : kAt L j = 7) (hf : fitB x = false) :
    Calls Tryz.prog 8 #[.string s] W fun e W' => RepR W (zeroE, 3) e W' := by
  have HZ := hid (tb_new W (.int .i64 0) (.int .i64 0) (.string ⟨#[]⟩) (.bool false) (.int .i64 0) (.slice none 0 0) (.slice none 0 0) 28)
  have HSt := hid hw
  have h4 := hw.big
  have HSc := hid (fun W1 (g : Std W1) => scan_any s W1 g hs)
  have HN := hid hn
  obtain ⟨hpos, hr, hE, hG, hK, hz⟩ := scan_good hn
  have HPr := hid (fun W1 p b off cap (g : PT W1 p L b off cap 0) => (pro_all L hE hG hK hr hz p b off cap f).1 1 0 _ W1 (by omega) (by omega) hpt g hpos)
  have hjl := ((pfwd_all EE L hE f).1 _ _ _ _ (by omega) hpos hpt).2
  have HWd := hid (fun W1 p b off cap (g : PT W1 p L b off cap j) => word_any W1 p L.length b off cap j _ _ _ (g.kw hjl) hjl hr)
  obtain ⟨T2, hT2⟩ : ∃ T2 : ByteArray, T2 = ⟨(tAt L j).toArray⟩ := ⟨_, rfl⟩
  rw [← hT2] at HWd
  generalize ((L.getD j ⟨7, [], 0⟩).p : Int) = q at HWd
  have F0 : ∀ (k : Int) (w : World), (Instr.field 47 (.agg #[.int .i64 k, .string T2, .int .i64 q]) 0).run Tryz.prog w = .ok (.int .i64 k) w := fun k w => fd0 _ _ _ w
  have HF := hid (fun W1 v (h : Rd W1 x v) => fits_any x v W1 h)
  clear hn hT2
  rw [hk] at HWd
  clear hk
  rw [hf] at HF
  clear hw
  go_enter Tryz.func8, Tryz.ntmps8
  go_wp2_with (first | (go_at_call 20; refine (HF.out _ _ (Rd.on Q3.out _ _ (Rdg.rd _ _ R2.out.1))).mono ?_; rintro e w4 ⟨rfl, q4⟩; have Q4 := hid q4; have X4 := hid (X3.out.on (p := w1.heap.size) (Qx.of q4) (by omega)); have Z4 := hid (Z3.out.on (p := w1.heap.size) (Qx.of q4) (by omega)); have hs4 : w3.heap.size ≤ w4.heap.size := q4.size; clear q4; have d0 := Z4.out.g0; have d1 := Z4.out.g1; have d2 := Z4.out.g2; have d3 := Z4.out.g3; have d4 := Z4.out.g4; have d5 := Z4.out.g5; have d6 := Z4.out.g6; have y0 := Z4.out.f 0; have y1 := Z4.out.f 1; have y2 := Z4.out.f 2; have y3 := Z4.out.f 3; have y4 := Z4.out.f 4; have y5 := Z4.out.f 5; have y6 := Z4.out.f 6) | (go_at_call 19; refine (HWd.out _ _ _ _ _ P2.out).mono ?_; rintro e w3 ⟨rfl, q3⟩; have Q3 : Hid (Q w2 w3) := hid (((Q.refl _).alloc _).trans q3); have hs3 : w2.heap.size < w3.heap.size := (by have := q3.size; simp at this; omega); have X3 := hid (X2.out.on (p := w1.heap.size) (Qx.of q3) (by omega)); have Z3 := hid (Z2.out.on (p := w1.heap.size) (Qx.of Q3.out) (by omega)); clear q3; have n0 := X3.out.g0; have n1 := X3.out.g1; have n2 := X3.out.g2; have n3 := X3.out.g3; have n4 := X3.out.g4; have n5 := X3.out.g5; have n6 := X3.out.g6) | (go_at_call 17; refine (HSc.out _ (HSt.out.on (by repeat (first | with_reducible exact Q.refl _ | with_reducible refine Q.drewN ?_ _ | with_reducible refine Q.drew ?_ | with_reducible refine Q.alloc ?_ _ | with_reducible refine Q.setCell ?_ (by simp) _)))).mono ?_; rintro e w1 ⟨h1, q1⟩; rw [HN.out] at h1; obtain ⟨sv, h1', hsl⟩ := ScanRet.some h1; subst h1'; obtain ⟨b, off, cap, hsw⟩ := sw_of hsl hpos; obtain rfl := hsw.ev; have Q1 : Hid (Q W w1) := hid (Q.trans (by repeat (first | with_reducible exact Q.refl _ | with_reducible refine Q.drewN ?_ _ | with_reducible refine Q.drew ?_ | with_reducible refine Q.alloc ?_ _ | with_reducible refine Q.setCell ?_ (by simp) _)) q1); have hs1 : W.heap.size < w1.heap.size := (by have := q1.size; simp at this; omega); have Z1 := hid (HZ.out.on (p := W.heap.size + 1) (Qx.of q1) (by omega)); have P1 : Hid (PT (w1.alloc (.cells #[.slice (some ⟨b, off, none⟩) L.length cap, .int .i64 0] 43)) w1.heap.size L b off cap 0) := hid (pt_new w1 L b off cap hsw hpos (HSt.out.on Q1.out)); clear q1 h1 hsl hsw) | (go_at_call 18; refine (HPr.out _ _ _ _ _ P1.out).mono ?_; rintro e w2 h2; obtain ⟨k, m, t, bb, er, a1, l1, c1, a2, l2, c2, rfl, q2, r2⟩ := h2.inY; have Q2 := hid q2; have R2 := hid r2; clear h2 q2 r2; have Z2 := hid ((Z1.out.on (p := w1.heap.size) ((Qx.refl _ _).alloc _) (by omega)).on Q2.out (by omega)); have hs2 : w1.heap.size < w2.heap.size := (by have := Q2.out.size; simp at this; omega); have QW : Hid (Q W w2) := hid ((Q1.out.alloc _).viax Q2.out (by omega)); have P2 := hid (R2.out.2.on ((Q.refl _).alloc (.cells #[.int .i64 k, .int .i64 m, .string t, .bool bb, .int .i64 er, .slice a1 l1 c1, .slice a2 l2 c2] 28))); have X2 := hid (tb_new w2 (.int .i64 k) (.int .i64 m) (.string t) (.bool bb) (.int .i64 er) (.slice a1 l1 c1) (.slice a2 l2 c2) 28)))
  refine bodyPost_ret (v := .tuple #[.agg #[.int .i64 0, .int .i64 0, .string ⟨#[]⟩, .bool false, .int .i64 0, .slice none 0 0, .slice none 0 0], .int .i64 3]) (by simp [results, Tryz.results8, go_sem, d0, d1, d2, d3, d4, d5, d6]) rfl ?_
  exact ⟨_, rfl, rd_zero _, Q.setCell (Q.setCell (Q.setCell (Q.setCell (Q.setCell (Q.setCell (Q.setCell ((QW.out.trans Q3.out).trans Q4.out) (Nat.le_refl _) _) (Nat.le_refl _) _) (Nat.le_refl _) _) (Nat.le_refl _) _) (Nat.le_refl _) _) (Nat.le_refl _) _) (Nat.le_refl _) _⟩

set_option maxRecDepth 100000 in
set_option maxHeartbeats 8000000 in
theorem pparse_ok (s : ByteArray) (W : World) (hw : Std W) (hs : s.size ≤ 100000) (L : List Wd) (n f : Nat) (hn : scanL s.data.toList = (some L, n)) (x : Ex) (j : Nat) (hpt : ptF EE L f 1 0 = some (some (x, j))) (hk : kAt L j = 7) (hf : fitB x = true) :
    Calls Tryz.prog 8 #[.string s] W fun e W' => RepR W (x, 0) e W' := by
  have HZ := hid (tb_new W (.int .i64 0) (.int .i64 0) (.string ⟨#[]⟩) (.bool false) (.int .i64 0) (.slice none 0 0) (.slice none 0 0) 28)
  have HSt := hid hw
  have h4 := hw.big
  have HSc := hid (fun W1 (g : Std W1) => scan_any s W1 g hs)
  have HN := hid hn
  obtain ⟨hpos, hr, hE, hG, hK, hz⟩ := scan_good hn
  have HPr := hid (fun W1 p b off cap (g : PT W1 p L b off cap 0) => (pro_all L hE hG hK hr hz p b off cap f).1 1 0 _ W1 (by omega) (by omega) hpt g hpos)
  have hjl := ((pfwd_all EE L hE f).1 _ _ _ _ (by omega) hpos hpt).2
  have HWd := hid (fun W1 p b off cap (g : PT W1 p L b off cap j) => word_any W1 p L.length b off cap j _ _ _ (g.kw hjl) hjl hr)
  obtain ⟨T2, hT2⟩ : ∃ T2 : ByteArray, T2 = ⟨(tAt L j).toArray⟩ := ⟨_, rfl⟩
  rw [← hT2] at HWd
  generalize ((L.getD j ⟨7, [], 0⟩).p : Int) = q at HWd
  have F0 : ∀ (k : Int) (w : World), (Instr.field 47 (.agg #[.int .i64 k, .string T2, .int .i64 q]) 0).run Tryz.prog w = .ok (.int .i64 k) w := fun k w => fd0 _ _ _ w
  have HF := hid (fun W1 v (h : Rd W1 x v) => fits_any x v W1 h)
  clear hn hT2
  rw [hk] at HWd
  clear hk
  rw [hf] at HF
  clear hw
  go_enter Tryz.func8, Tryz.ntmps8
  go_wp2_with (first | (go_at_call 20; refine (HF.out _ _ (Rd.on Q3.out _ _ (Rdg.rd _ _ R2.out.1))).mono ?_; rintro e w4 ⟨rfl, q4⟩; have Q4 := hid q4; have X4 := hid (X3.out.on (p := w1.heap.size) (Qx.of q4) (by omega)); have Z4 := hid (Z3.out.on (p := w1.heap.size) (Qx.of q4) (by omega)); have hs4 : w3.heap.size ≤ w4.heap.size := q4.size; clear q4; have d0 := Z4.out.g0; have d1 := Z4.out.g1; have d2 := Z4.out.g2; have d3 := Z4.out.g3; have d4 := Z4.out.g4; have d5 := Z4.out.g5; have d6 := Z4.out.g6; have y0 := Z4.out.f 0; have y1 := Z4.out.f 1; have y2 := Z4.out.f 2; have y3 := Z4.out.f 3; have y4 := Z4.out.f 4; have y5 := Z4.out.f 5; have y6 := Z4.out.f 6; have r0 := X4.out.g0; have r1 := X4.out.g1; have r2 := X4.out.g2; have r3 := X4.out.g3; have r4 := X4.out.g4; have r5 := X4.out.g5; have r6 := X4.out.g6) | (go_at_call 19; refine (HWd.out _ _ _ _ _ P2.out).mono ?_; rintro e w3 ⟨rfl, q3⟩; have Q3 : Hid (Q w2 w3) := hid (((Q.refl _).alloc _).trans q3); have hs3 : w2.heap.size < w3.heap.size := (by have := q3.size; simp at this; omega); have X3 := hid (X2.out.on (p := w1.heap.size) (Qx.of q3) (by omega)); have Z3 := hid (Z2.out.on (p := w1.heap.size) (Qx.of Q3.out) (by omega)); clear q3; have n0 := X3.out.g0; have n1 := X3.out.g1; have n2 := X3.out.g2; have n3 := X3.out.g3; have n4 := X3.out.g4; have n5 := X3.out.g5; have n6 := X3.out.g6) | (go_at_call 17; refine (HSc.out _ (HSt.out.on (by repeat (first | with_reducible exact Q.refl _ | with_reducible refine Q.drewN ?_ _ | with_reducible refine Q.drew ?_ | with_reducible refine Q.alloc ?_ _ | with_reducible refine Q.setCell ?_ (by simp) _)))).mono ?_; rintro e w1 ⟨h1, q1⟩; rw [HN.out] at h1; obtain ⟨sv, h1', hsl⟩ := ScanRet.some h1; subst h1'; obtain ⟨b, off, cap, hsw⟩ := sw_of hsl hpos; obtain rfl := hsw.ev; have Q1 : Hid (Q W w1) := hid (Q.trans (by repeat (first | with_reducible exact Q.refl _ | with_reducible refine Q.drewN ?_ _ | with_reducible refine Q.drew ?_ | with_reducible refine Q.alloc ?_ _ | with_reducible refine Q.setCell ?_ (by simp) _)) q1); have hs1 : W.heap.size < w1.heap.size := (by have := q1.size; simp at this; omega); have Z1 := hid (HZ.out.on (p := W.heap.size + 1) (Qx.of q1) (by omega)); have P1 : Hid (PT (w1.alloc (.cells #[.slice (some ⟨b, off, none⟩) L.length cap, .int .i64 0] 43)) w1.heap.size L b off cap 0) := hid (pt_new w1 L b off cap hsw hpos (HSt.out.on Q1.out)); clear q1 h1 hsl hsw) | (go_at_call 18; refine (HPr.out _ _ _ _ _ P1.out).mono ?_; rintro e w2 h2; obtain ⟨k, m, t, bb, er, a1, l1, c1, a2, l2, c2, rfl, q2, r2⟩ := h2.inY; have Q2 := hid q2; have R2 := hid r2; clear h2 q2 r2; have Z2 := hid ((Z1.out.on (p := w1.heap.size) ((Qx.refl _ _).alloc _) (by omega)).on Q2.out (by omega)); have hs2 : w1.heap.size < w2.heap.size := (by have := Q2.out.size; simp at this; omega); have QW : Hid (Q W w2) := hid ((Q1.out.alloc _).viax Q2.out (by omega)); have P2 := hid (R2.out.2.on ((Q.refl _).alloc (.cells #[.int .i64 k, .int .i64 m, .string t, .bool bb, .int .i64 er, .slice a1 l1 c1, .slice a2 l2 c2] 28))); have X2 := hid (tb_new w2 (.int .i64 k) (.int .i64 m) (.string t) (.bool bb) (.int .i64 er) (.slice a1 l1 c1) (.slice a2 l2 c2) 28)))
  refine bodyPost_ret (v := .tuple #[.agg #[.int .i64 k, .int .i64 m, .string t, .bool bb, .int .i64 er, .slice a1 l1 c1, .slice a2 l2 c2], .int .i64 0]) (by simp [results, Tryz.results8, go_sem, d0, d1, d2, d3, d4, d5, d6]) rfl ?_
  have QF : ∀ V : World, Qx W.heap.size w4 V → Rd V x (.agg #[.int .i64 k, .int .i64 m, .string t, .bool bb, .int .i64 er, .slice a1 l1 c1, .slice a2 l2 c2]) := fun V q => Rdg.rd _ _ (Rdg.on q (fun b hb => by simp at hb; omega) _ _ (Rdg.on (Qx.of (p := W.heap.size) (Q3.out.trans Q4.out)) (fun b hb => by simp at hb; omega) _ _ R2.out.1))
  exact ⟨_, rfl, QF _ ((((((((Qx.refl _ _).own _ _).own _ _).own _ _).own _ _).own _ _).own _ _).own _ _), Q.setCell (Q.setCell (Q.setCell (Q.setCell (Q.setCell (Q.setCell (Q.setCell ((QW.out.trans Q3.out).trans Q4.out) (Nat.le_refl _) _) (Nat.le_refl _) _) (Nat.le_refl _) _) (Nat.le_refl _) _) (Nat.le_refl _) _) (Nat.le_refl _) _) (Nat.le_refl _) _⟩

/-- the program's Parse, of any text -/
theorem pparse_any (s : ByteArray) (W : World) (hw : Std W) (hs : s.size ≤ 100000) (L : List Wd) (n f : Nat) (o : Option (Ex × Nat)) (hn : scanL s.data.toList = (some L, n)) (hpt : ptF EE L f 1 0 = some o) :
    Calls Tryz.prog 8 #[.string s] W fun e W' => RepR W (finR L o) e W' := by
  cases o with
  | none => exact pparse_none s W hw hs L n f hn hpt
  | some r =>
    obtain ⟨x, j⟩ := r
    unfold finR
    simp only
    by_cases hk : kAt L j = 7
    · rw [if_pos hk]
      cases hf : fitB x
      · exact pparse_deep s W hw hs L n f hn x j hpt hk hf
      · exact pparse_ok s W hw hs L n f hn x j hpt hk hf
    · rw [if_neg hk]
      exact pparse_end s W hw hs L n f hn x j hpt hk
end Go.Proofs.YtdpppkkdilcbeaaGreatDoor
namespace Go.Proofs.YtdpppkkdilcbeaaGreatDoor
open Go.RowKit
set_option linter.unusedVariables false
set_option linter.unusedSimpArgs false


/-- the formula that the statements begin with -/
def lit7 : List UInt8 := [45, 65, 49, 43, 83, 85, 77, 40, 50, 44, 66, 49, 58, 66, 51, 41, 42, 51]
def words7 : List Wd := [⟨6, [45], 0⟩, ⟨3, [65, 49], 1⟩, ⟨6, [43], 3⟩, ⟨4, [83, 85, 77], 4⟩, ⟨6, [40], 7⟩, ⟨1, [50], 8⟩, ⟨6, [44], 9⟩, ⟨3, [66, 49], 10⟩, ⟨6, [58], 12⟩, ⟨3, [66, 51], 13⟩, ⟨6, [41], 15⟩, ⟨6, [42], 16⟩, ⟨1, [51], 17⟩, ⟨7, [], 18⟩]
theorem lit7_words : scanL lit7 = (some words7, 0) := by kernel_rfl
def tree7 : Ex := binE [43] (negE (refE ([], 0, 0, false, false))) (binE [42] (callE [83, 85, 77] [numE 20000, rangeE ([], 0, 1, false, false) ([], 2, 1, false, false)]) (numE 30000))
theorem lit7_tree : ptF EE words7 40 1 0 = some (some (tree7, 13)) := by kernel_rfl
theorem tree7_nodes : nodes tree7 = 8 := by decide
theorem tree7_fits : fitB tree7 = true := by decide
theorem lit7_fin : finR words7 (some (tree7, 13)) = (tree7, 0) := by
  unfold finR
  simp only
  rw [if_pos (by decide), tree7_fits]
  rfl
theorem parse7_any (W : World) (hw : Std W) : Calls Tryz.prog 8 #[.string ⟨lit7.toArray⟩] W fun e W' => RepR W (tree7, 0) e W' := by
  have h := pparse_any ⟨lit7.toArray⟩ W hw (by decide) words7 0 40 _ lit7_words lit7_tree
  rw [lit7_fin] at h
  exact h
end Go.Proofs.YtdpppkkdilcbeaaGreatDoor
namespace Go.Proofs.YtdpppkkdilcbeaaGreatDoor
open Go.RowKit
set_option linter.unusedVariables false
set_option linter.unusedSimpArgs false

theorem toL' (s : ByteArray) : s.toList = s.data.toList := Lib.toList_data s
def eqRf : List Rf → List Rf → Bool
  | [], [] => true
  | x :: l, y :: l' => decide (x = y) && eqRf l l'
  | [], _ :: _ => false
  | _ :: _, [] => false
theorem eqRf_iff : ∀ {l l' : List Rf}, eqRf l l' = true ↔ l = l'
  | [], [] => by simp [eqRf]
  | [], _ :: _ => by simp [eqRf]
  | _ :: _, [] => by simp [eqRf]
  | x :: l, y :: l' => by
    simp only [eqRf, Bool.and_eq_true, decide_eq_true_eq, eqRf_iff, List.cons.injEq]
theorem eqRf_len {l l' : List Rf} (h : l.length ≠ l'.length) : eqRf l l' = false := by
  cases e : eqRf l l' with
  | false => rfl
  | true => exact absurd (congrArg List.length (eqRf_iff.1 e)) h
theorem eqRf_dec (l l' : List Rf) : eqRf l l' = decide (l = l') := by
  cases e : eqRf l l' with
  | false => exact (decide_eq_false (fun h => by rw [eqRf_iff.2 h] at e; cases e)).symm
  | true => exact (decide_eq_true (eqRf_iff.1 e)).symm

theorem neq59 (xs : List UInt8) (xr xc : Int) (xa xb : Bool) (ys : List UInt8) (yr yc : Int) (ya yb : Bool) (w : World) : Sem.run Tryz.prog (binOp .neq 59 (.agg #[.string ⟨xs.toArray⟩, .int .i64 xr, .int .i64 xc, .bool xa, .bool xb]) (.agg #[.string ⟨ys.toArray⟩, .int .i64 yr, .int .i64 yc, .bool ya, .bool yb])) w = .ok (.bool (!(decide (((xs, xr, xc, xa, xb) : Rf) = (ys, yr, yc, ya, yb))))) w := by
  have u2 := Tryz.underlying2
  have u4 := Tryz.underlying4
  have u9 := Tryz.underlying9
  have hS : Tryz.prog.underlying 59 = some (.struct (Tryz.prog.fieldsOf 59)) := by kernel_rfl
  have hp : Tryz.prog.stoodInHeld 59 = false := by kernel_rfl
  have hf : (Tryz.prog.fieldsOf 59).toList.map (fun f => (f.name == "_", f.type, f.offset)) = [(false, 9, 0), (false, 2, 1), (false, 2, 2), (false, 4, 3), (false, 4, 4)] := by kernel_rfl
  have q1 : ∀ a b c d e : Value, (part 9 #[a, b, c, d, e] 0).run Tryz.prog w = .ok a w := fun _ _ _ _ _ => by kernel_rfl
  have q2 : ∀ a b c d e : Value, (part 2 #[a, b, c, d, e] 1).run Tryz.prog w = .ok b w := fun _ _ _ _ _ => by kernel_rfl
  have q3 : ∀ a b c d e : Value, (part 2 #[a, b, c, d, e] 2).run Tryz.prog w = .ok c w := fun _ _ _ _ _ => by kernel_rfl
  have q4 : ∀ a b c d e : Value, (part 4 #[a, b, c, d, e] 3).run Tryz.prog w = .ok d w := fun _ _ _ _ _ => by kernel_rfl
  have q5 : ∀ a b c d e : Value, (part 4 #[a, b, c, d, e] 4).run Tryz.prog w = .ok e w := fun _ _ _ _ _ => by kernel_rfl
  have e1 : (Op.equalIn 9999 9 (.string ⟨xs.toArray⟩) (.string ⟨ys.toArray⟩)).run Tryz.prog w = .ok (xs == ys) w := by
    have := run_equalIn_string (P := Tryz.prog) w 9998 9 ⟨xs.toArray⟩ ⟨ys.toArray⟩ u9
    rw [toL', toL'] at this
    exact this
  have e2 : (Op.equalIn 9999 2 (.int .i64 xr) (.int .i64 yr)).run Tryz.prog w = .ok (xr == yr) w := run_equalIn_int (P := Tryz.prog) w 9998 2 .i64 .i64 xr yr u2
  have e3 : (Op.equalIn 9999 2 (.int .i64 xc) (.int .i64 yc)).run Tryz.prog w = .ok (xc == yc) w := run_equalIn_int (P := Tryz.prog) w 9998 2 .i64 .i64 xc yc u2
  have e4 : (Op.equalIn 9999 4 (.bool xa) (.bool ya)).run Tryz.prog w = .ok (xa == ya) w := run_equalIn_bool' (P := Tryz.prog) w 9998 4 xa ya u4
  have e5 : (Op.equalIn 9999 4 (.bool xb) (.bool yb)).run Tryz.prog w = .ok (xb == yb) w := run_equalIn_bool' (P := Tryz.prog) w 9998 4 xb yb u4
  rw [run_neq_struct, show (10000 : Nat) = 9999 + 1 from rfl, run_equalIn_struct w 9999 59 _ _ hS hp]
  generalize (Tryz.prog.fieldsOf 59).toList = fs at hf ⊢
  obtain ⟨f1, r1, rfl, h1, hf⟩ := List.map_eq_cons_iff.1 hf
  obtain ⟨f2, r2, rfl, h2, hf⟩ := List.map_eq_cons_iff.1 hf
  obtain ⟨f3, r3, rfl, h3, hf⟩ := List.map_eq_cons_iff.1 hf
  obtain ⟨f4, r4, rfl, h4, hf⟩ := List.map_eq_cons_iff.1 hf
  obtain ⟨f5, r5, rfl, h5, hf⟩ := List.map_eq_cons_iff.1 hf
  obtain rfl := List.map_eq_nil_iff.1 hf
  simp only [Prod.mk.injEq, beq_eq_false_iff_ne, ne_eq] at h1 h2 h3 h4 h5
  obtain ⟨n1, t1, p1⟩ := h1
  obtain ⟨n2, t2, p2⟩ := h2
  obtain ⟨n3, t3, p3⟩ := h3
  obtain ⟨n4, t4, p4⟩ := h4
  obtain ⟨n5, t5, p5⟩ := h5
  simp only [Op.eqFields, ne_eq, n1, n2, n3, n4, n5, not_false_eq_true, if_true, t1, t2, t3, t4, t5, p1, p2, p3, p4, p5, Sem.run_bind, Sem.run_ite, Sem.run_pure, q1, q2, q3, q4, q5, e1, e2, e3, e4, e5, Result.andThen_ok]
  by_cases h1 : xs = ys
  · by_cases h2 : xr = yr
    · by_cases h3 : xc = yc
      · by_cases h4 : xa = ya
        · by_cases h5 : xb = yb <;> simp [h1, h2, h3, h4, h5]
        · simp [h1, h2, h3, h4]
      · simp [h1, h2, h3]
    · simp [h1, h2]
  · simp [h1]
theorem guard59 (op : BinOp) (a b : Operand) (X Y : Array Value) (w : World) : Sem.run Tryz.prog (eqGuard op 59 a b (.agg X) (.agg Y)) w = .ok () w := run_eqGuard_agg w op 59 a b X Y (by kernel_rfl)

set_option maxRecDepth 100000 in
set_option maxHeartbeats 4000000 in
theorem eqrf_any_q (va vb : Value) (A B : List Rf) (w : World) (ha : Sl rf 5 w va A) (hb : Sl rf 5 w vb B) : Calls Tryz.prog 45 #[va, vb] w fun e w' => e = .returned (.bool (eqRf A B)) ∧ ∃ m, w' = w.drewN m := by
  have HA := hid ha
  have HB := hid hb
  obtain ⟨ao, cap, rfl, la, ma⟩ := ha.len
  obtain ⟨ao2, cap2, rfl, lb, mb⟩ := hb.len
  have hA : A.length ≤ 9223372036854775807 := by unfold maxLen at ma; omega
  clear ha hb la ma lb mb
  generalize hT : eqRf A B = T
  have HT := hid hT
  clear hT
  by_cases hl : A.length = B.length
  · have hl' : ((A.length : Int) != (B.length : Int)) = false := by simp [hl]
    go_enter Tryz.func45, Tryz.ntmps45
    go_wp2
    go_loopw [4, 13] (fun _ s W => ∃ (n : Nat), n ≤ A.length ∧ s = .int .i64 n ∧ Hid (∃ q, W = w.drewN q) ∧ Hid (eqRf (A.drop n) (B.drop n) = T)) (fun _ s _ => A.length - (intOf s).toNat)
    case atStart => exact ⟨0, Nat.zero_le _, rfl, ⟨0, rfl⟩, by rw [List.drop_zero, List.drop_zero]; exact HT.out⟩
    case round =>
      obtain ⟨n, hn, rfl, hq, HZ⟩ := hrel
      obtain ⟨q, hwq⟩ := hq.out
      have HW := hid hwq
      have HQ : Hid (Q w wr) := by rw [hwq]; exact (Q.refl _).drewN _
      clear hq hwq
      by_cases hlt : n < A.length
      · have hlt' : (n : Int) < (A.length : Int) := by omega
        have hlt2 : (n : Int) < (B.length : Int) := by omega
        obtain ⟨g, off, cap', e, _, _, hc⟩ := (HA.out.on HQ.out).at hlt
        cases e
        obtain ⟨g2, off2, cap3, e, _, _, hc2⟩ := (HB.out.on HQ.out).at (i := n) (by omega)
        cases e
        rw [List.drop_eq_getElem_cons hlt, List.drop_eq_getElem_cons (show n < B.length by omega), eqRf] at HZ
        generalize A[n] = x at *
        generalize B[n]'(by omega) = y at *
        obtain ⟨xs, xr, xc, xa, xb⟩ := x
        obtain ⟨ys, yr, yc, ya, yb⟩ := y
        have c0 : wr.cell? ⟨g, off + n * 5, none⟩ = some (.string ⟨xs.toArray⟩) := hc 0 _ rfl
        have c1 : wr.cell? ⟨g, off + n * 5 + 1, none⟩ = some (.int .i64 xr) := hc 1 _ rfl
        have c2 : wr.cell? ⟨g, off + n * 5 + 2, none⟩ = some (.int .i64 xc) := hc 2 _ rfl
        have c3 : wr.cell? ⟨g, off + n * 5 + 3, none⟩ = some (.bool xa) := hc 3 _ rfl
        have c4 : wr.cell? ⟨g, off + n * 5 + 4, none⟩ = some (.bool xb) := hc 4 _ rfl
        have d0 : wr.cell? ⟨g2, off2 + n * 5, none⟩ = some (.string ⟨ys.toArray⟩) := hc2 0 _ rfl
        have d1 : wr.cell? ⟨g2, off2 + n * 5 + 1, none⟩ = some (.int .i64 yr) := hc2 1 _ rfl
        have d2 : wr.cell? ⟨g2, off2 + n * 5 + 2, none⟩ = some (.int .i64 yc) := hc2 2 _ rfl
        have d3 : wr.cell? ⟨g2, off2 + n * 5 + 3, none⟩ = some (.bool ya) := hc2 3 _ rfl
        have d4 : wr.cell? ⟨g2, off2 + n * 5 + 4, none⟩ = some (.bool yb) := hc2 4 _ rfl
        clear hc hc2
        have hgd' : ∀ (op : BinOp) (a b : Operand) (w : World), Sem.run Tryz.prog (eqGuard op 59 a b (.agg #[.string ⟨xs.toArray⟩, .int .i64 xr, .int .i64 xc, .bool xa, .bool xb]) (.agg #[.string ⟨ys.toArray⟩, .int .i64 yr, .int .i64 yc, .bool ya, .bool yb])) w = .ok () w := fun op a b w => guard59 op a b _ _ w
        cases hd : decide (((xs, xr, xc, xa, xb) : Rf) = (ys, yr, yc, ya, yb))
        · have HR : Hid (false = T) := by
            have := HZ.out
            simp only [hd, Bool.false_and] at this
            exact this
          clear HZ
          have hne' : ∀ w, Sem.run Tryz.prog (binOp .neq 59 (.agg #[.string ⟨xs.toArray⟩, .int .i64 xr, .int .i64 xc, .bool xa, .bool xb]) (.agg #[.string ⟨ys.toArray⟩, .int .i64 yr, .int .i64 yc, .bool ya, .bool yb])) w = .ok (.bool true) w := fun w => by
            have := neq59 xs xr xc xa xb ys yr yc ya yb w
            rw [hd] at this
            exact this
          clear hd
          go_wp2_with fail
          go_quiet (fail)
          go_wp2_with fail
          go_ret
          exact ⟨ret_bool HR.out, _, by rw [HW.out, World.drewN_drewN]⟩
        · have HZ2 : Hid (eqRf (A.drop (n + 1)) (B.drop (n + 1)) = T) := by
            have := HZ.out
            simp only [hd, Bool.true_and] at this
            exact this
          clear HZ
          have hne' : ∀ w, Sem.run Tryz.prog (binOp .neq 59 (.agg #[.string ⟨xs.toArray⟩, .int .i64 xr, .int .i64 xc, .bool xa, .bool xb]) (.agg #[.string ⟨ys.toArray⟩, .int .i64 yr, .int .i64 yc, .bool ya, .bool yb])) w = .ok (.bool false) w := fun w => by
            have := neq59 xs xr xc xa xb ys yr yc ya yb w
            rw [hd] at this
            exact this
          clear hd
          go_wp2_with fail
          go_quiet (fail)
          go_wp2_with fail
          go_roundw
          case rel => exact ⟨n + 1, by omega, by go_num, ⟨_, by rw [HW.out, World.drewN_drewN]⟩, HZ2⟩
          case measure => simp [intOf]; omega
      · have hlt' : ¬ (n : Int) < (A.length : Int) := by omega
        have HR : Hid (true = T) := by
          have := HZ.out
          rw [List.drop_eq_nil_of_le (by omega), List.drop_eq_nil_of_le (by omega)] at this
          exact this
        clear HZ
        go_wp2_with fail
        go_ret
        exact ⟨ret_bool HR.out, q, HW.out⟩
  · have hl' : ((A.length : Int) != (B.length : Int)) = true := by simp; omega
    have HR : Hid (false = T) := by show _ = _; rw [← HT.out, eqRf_len hl]
    go_enter Tryz.func45, Tryz.ntmps45
    go_wp2
    go_ret
    exact ⟨ret_bool HR.out, 0, rfl⟩
theorem eqrf_any (va vb : Value) (A B : List Rf) (w : World) (ha : Sl rf 5 w va A) (hb : Sl rf 5 w vb B) : Calls Tryz.prog 45 #[va, vb] w fun e w' => e = .returned (.bool (decide (A = B))) ∧ Q w w' :=
  (eqrf_any_q va vb A B w ha hb).mono fun _ _ ⟨he, m, hm⟩ => ⟨by rw [he, eqRf_dec], by rw [hm]; exact (Q.refl _).drewN _⟩
end Go.Proofs.YtdpppkkdilcbeaaGreatDoor
namespace Go.Proofs.YtdpppkkdilcbeaaGreatDoor
set_option linter.unusedVariables false
set_option linter.unusedSimpArgs false

/-- all but the kids -/
def hd : Ex → Int × Int × List UInt8 × Bool × Int × List Rf
  | .mk k n t b e rs _ => (k, n, t, b, e, rs)
def kd : Ex → List Ex
  | .mk _ _ _ _ _ _ ks => ks
theorem ex_eq {x y : Ex} : x = y ↔ hd x = hd y ∧ kd x = kd y := by
  cases x with
  | mk k n t b e rs ks =>
    cases y with
    | mk k' n' t' b' e' rs' ks' =>
      simp only [hd, kd, Ex.mk.injEq, Prod.mk.injEq]
      constructor
      · rintro ⟨h1, h2, h3, h4, h5, h6, h7⟩
        exact ⟨⟨h1, h2, h3, h4, h5, h6⟩, h7⟩
      · rintro ⟨⟨h1, h2, h3, h4, h5, h6⟩, h7⟩
        exact ⟨h1, h2, h3, h4, h5, h6, h7⟩
theorem nodes_kd (x : Ex) : nodes x = 1 + nodes.nodesL (kd x) := by
  cases x with
  | mk k n t b e rs ks => rw [nodes]; rfl
abbrev Pr := List Ex × List Ex
/-- what the lists still open say of the whole, and of those begun -/
structure Eqv (R : Prop) (L K : List Pr) : Prop where
  all : R ↔ ∀ p ∈ L, p.1 = p.2
  bgn : ∀ k ∈ K, (∀ p ∈ L, nodes.nodesL p.1 ≤ nodes.nodesL k.1 → p.1 = p.2) → k.1 = k.2
theorem eqv_start (x y : Ex) : Eqv (x = y) [([x], [y])] [] := by
  refine ⟨?_, fun k hk => absurd hk (by simp)⟩
  constructor
  · intro h p hp
    simp at hp
    subst hp h
    rfl
  · intro h
    have := h ([x], [y]) (by simp)
    simpa using this
/-- all that was open is through -/
theorem Eqv.done {R : Prop} {K : List Pr} (h : Eqv R [] K) : R := h.all.2 (fun p hp => absurd hp (by simp))
/-- a pair that is through -/
theorem Eqv.pop {R : Prop} {L K : List Pr} (h : Eqv R (([], []) :: L) K) : Eqv R L K := by
  refine ⟨?_, fun k hk hl => h.bgn k hk (fun p hp hs => ?_)⟩
  · rw [h.all]
    constructor
    · intro g p hp
      exact g p (by simp [hp])
    · intro g p hp
      simp at hp
      rcases hp with rfl | hp
      · rfl
      · exact g p hp
  · simp at hp
    rcases hp with rfl | hp
    · rfl
    · exact hl p hp hs
/-- two nodes that differ -/
theorem Eqv.no {R : Prop} {L K : List Pr} {x y : Ex} {xs ys : List Ex} (h : Eqv R ((x :: xs, y :: ys) :: L) K) (hn : ¬ (hd x = hd y ∧ (kd x).length = (kd y).length)) : ¬ R := by
  intro r
  have := h.all.1 r (x :: xs, y :: ys) (by simp)
  simp at this
  rw [this.1] at hn
  exact hn ⟨rfl, rfl⟩
/-- two nodes alike, whose kids' lists are equal where the lists still open, as small as these, are -/
theorem Eqv.step {R : Prop} {L K : List Pr} {x y : Ex} {xs ys : List Ex} {L' K' : List Pr} (h : Eqv R ((x :: xs, y :: ys) :: L) K) (hh : hd x = hd y)
    (hk : (∀ p ∈ (xs, ys) :: L, nodes.nodesL p.1 ≤ nodes.nodesL (kd x) → p.1 = p.2) → (∀ p ∈ L', nodes.nodesL p.1 ≤ nodes.nodesL (kd x) → p.1 = p.2) → kd x = kd y)
    (hL : ∀ p, p ∈ L' → p ∈ (xs, ys) :: L ∨ p = (kd x, kd y)) (hL' : ∀ p ∈ (xs, ys) :: L, p ∈ L') (hK : ∀ k ∈ K', k ∈ K ∨ (k = (kd x, kd y) ∧ (kd x, kd y) ∈ L')) : Eqv R L' K' := by
  have hs : nodes.nodesL (x :: xs) = 1 + nodes.nodesL (kd x) + nodes.nodesL xs := by rw [nodes.nodesL, nodes_kd]
  have cur : ∀ m, nodes.nodesL (x :: xs) ≤ m → (∀ p ∈ L', nodes.nodesL p.1 ≤ m → p.1 = p.2) → x :: xs = y :: ys := by
    intro m hm hl
    have h1 : xs = ys := hl (xs, ys) (hL' _ (by simp)) (by simp; omega)
    have h2 : kd x = kd y := hk (fun p hp hs' => hl p (hL' _ hp) (by omega)) (fun p hp hs' => hl p hp (by omega))
    rw [h1, ex_eq.2 ⟨hh, h2⟩]
  refine ⟨?_, fun k hk' hl => ?_⟩
  · rw [h.all]
    constructor
    · intro g p hp
      have g0 := g (x :: xs, y :: ys) (by simp)
      simp at g0
      rcases hL p hp with hp | rfl
      · simp at hp
        rcases hp with rfl | hp
        · exact g0.2
        · exact g p (by simp [hp])
      · rw [g0.1]
    · intro g p hp
      simp at hp
      rcases hp with rfl | hp
      · exact cur _ (Nat.le_refl _) (fun p hp _ => g p hp)
      · exact g p (hL' _ (by simp [hp]))
  · rcases hK k hk' with hk' | ⟨rfl, hm⟩
    · refine h.bgn k hk' (fun p hp hs' => ?_)
      simp at hp
      rcases hp with rfl | hp
      · exact cur _ hs' (fun p hp hs' => hl p hp hs')
      · exact hl p (hL' _ (by simp [hp])) hs'
    · exact hl _ hm (Nat.le_refl _)
/-- .. without kids -/
theorem Eqv.leaf {R : Prop} {L K : List Pr} {x y : Ex} {xs ys : List Ex} (h : Eqv R ((x :: xs, y :: ys) :: L) K) (hh : hd x = hd y) (hx : kd x = []) (hy : (kd x).length = (kd y).length) : Eqv R ((xs, ys) :: L) K :=
  h.step hh (fun _ _ => by
    rw [hx] at hy ⊢
    exact (List.eq_nil_of_length_eq_zero hy.symm).symm) (fun p hp => .inl hp) (fun p hp => hp) (fun k hk => .inl hk)
/-- .. whose kids were begun -/
theorem Eqv.old {R : Prop} {L K : List Pr} {x y : Ex} {xs ys : List Ex} (h : Eqv R ((x :: xs, y :: ys) :: L) K) (hh : hd x = hd y) (hb : (kd x, kd y) ∈ K) : Eqv R ((xs, ys) :: L) K :=
  h.step hh (fun g _ => h.bgn _ hb (fun p hp hs => by
    simp at hp
    rcases hp with rfl | hp
    · rw [nodes.nodesL, nodes_kd] at hs
      simp at hs
      omega
    · exact g p (by simp [hp]) hs)) (fun p hp => .inl hp) (fun p hp => hp) (fun k hk => .inl hk)
/-- .. whose kids are begun now -/
theorem Eqv.new {R : Prop} {L K : List Pr} {x y : Ex} {xs ys : List Ex} (h : Eqv R ((x :: xs, y :: ys) :: L) K) (hh : hd x = hd y) : Eqv R ((xs, ys) :: (kd x, kd y) :: L) ((kd x, kd y) :: K) :=
  h.step hh (fun _ g => g (kd x, kd y) (by simp) (Nat.le_refl _)) (fun p hp => by
    simp at hp ⊢
    rcases hp with h | h | h
    · exact .inl (.inl h)
    · exact .inr h
    · exact .inl (.inr h)) (fun p hp => by
    simp at hp ⊢
    rcases hp with h | h
    · exact .inl h
    · exact .inr (.inr h)) (fun k hk => by
    simp at hk
    rcases hk with h | h
    · exact .inr ⟨h, by simp⟩
    · exact .inl h)
/-- how much is still open -/
def wgt (L : List Pr) : Nat := (L.map fun p => nodes.nodesL p.1).sum
theorem wgt_cons (p : Pr) (L : List Pr) : wgt (p :: L) = nodes.nodesL p.1 + wgt L := by simp [wgt]
theorem nodesL_cons' (x : Ex) (xs : List Ex) : nodes.nodesL (x :: xs) = 1 + nodes.nodesL (kd x) + nodes.nodesL xs := by rw [nodes.nodesL, nodes_kd]
end Go.Proofs.YtdpppkkdilcbeaaGreatDoor
