/- parse.Parse, walked; show.readFormula, Read, walked. -/
import Derived.Test.YtgheopdadfnilaaGreatDoorKr29
import Derived.Test.YtgheopdadfnilaaGreatDoorKr22
import Derived.Test.YtgheopdadfnilaaGreatDoorKr24
set_option linter.unusedVariables false
set_option linter.unusedSimpArgs false
set_option maxRecDepth 100000
namespace Go.Proofs.YtgheopdadfnilaaGreatDoor
open Go.RowKit
theorem Q.viax {p : Nat} {a b c : World} (h : Q a b) (k : Qx p b c) (hp : a.heap.size ≤ p) : Q a c :=
  ⟨k.os.trans h.os, k.tape.trans h.tape, k.output.trans h.output, Nat.le_trans h.size k.size, fun i hi => (k.block i (Nat.lt_of_lt_of_le hi h.size) (fun e => by have := Option.some.inj e; omega)).trans (Q.block h hi)⟩
def finR (L : List Wd) : Option (Ex × Nat) → Ex × Nat
  | none => (zeroE, 2)
  | some (x, j) => if kAt L j = 7 then (if fitB x then (x, 0) else (zeroE, 3)) else (zeroE, 2)
def RepR (W : World) (r : Ex × Nat) (e : Ending) (W' : World) : Prop := ∃ v, e = .returned (.tuple #[v, .int .i64 (r.2 : Int)]) ∧ Rdg (fun b => W.heap.size ≤ b) W' r.1 v ∧ Q W W'
theorem rdz (g : Nat → Prop) (W : World) : Rdg g W zeroE (.agg #[.int .i64 0, .int .i64 0, .string ⟨#[]⟩, .bool false, .int .i64 0, .slice none 0 0, .slice none 0 0]) := rdg_zero g W
theorem rd_zero (W : World) : Rd W zeroE (.agg #[.int .i64 0, .int .i64 0, .string ⟨#[]⟩, .bool false, .int .i64 0, .slice none 0 0, .slice none 0 0]) := Rdg.rd _ _ (rdg_zero (fun _ => True) W)
set_option maxHeartbeats 8000000 in
theorem pparse_scan (s : ByteArray) (W : World) (hw : Std W) (hs : s.size ≤ 100000) (n : Nat) (hn : scanL s.data.toList = (none, n)) :
    Calls Tryz.prog 76 #[.string s] W fun e W' => RepR W (zeroE, 2) e W' := by
  have HZ := hid (tb_new W (.int .i64 0) (.int .i64 0) (.string ⟨#[]⟩) (.bool false) (.int .i64 0) (.slice none 0 0) (.slice none 0 0) 26)
  have HSt := hid hw
  have h4 := hw.big
  have HSc := hid (fun W1 (g : Std W1) => scan_any s W1 g hs)
  have HN := hid hn
  clear hn
  clear hw
  go_enter Tryz.func76, Tryz.ntmps76
  go_wp2_with (go_at_call 107; refine (HSc.out _ (HSt.out.on (by repeat (first | with_reducible exact Q.refl _ | with_reducible refine Q.drewN ?_ _ | with_reducible refine Q.drew ?_ | with_reducible refine Q.alloc ?_ _ | with_reducible refine Q.setCell ?_ (by simp) _)))).mono ?_; rintro e w1 ⟨h1, q1⟩; rw [HN.out] at h1; have h1' := ScanRet.none h1; subst h1'; have Q1 : Hid (Q W w1) := hid (Q.trans (by repeat (first | with_reducible exact Q.refl _ | with_reducible refine Q.drewN ?_ _ | with_reducible refine Q.drew ?_ | with_reducible refine Q.alloc ?_ _ | with_reducible refine Q.setCell ?_ (by simp) _)) q1); have Z1 := hid (HZ.out.on (p := W.heap.size + 1) (Qx.of q1) (by omega)); clear q1 h1; have d0 := Z1.out.g0; have d1 := Z1.out.g1; have d2 := Z1.out.g2; have d3 := Z1.out.g3; have d4 := Z1.out.g4; have d5 := Z1.out.g5; have d6 := Z1.out.g6; have y0 := Z1.out.f 0; have y1 := Z1.out.f 1; have y2 := Z1.out.f 2; have y3 := Z1.out.f 3; have y4 := Z1.out.f 4; have y5 := Z1.out.f 5; have y6 := Z1.out.f 6)
  refine bodyPost_ret (v := .tuple #[.agg #[.int .i64 0, .int .i64 0, .string ⟨#[]⟩, .bool false, .int .i64 0, .slice none 0 0, .slice none 0 0], .int .i64 2]) (by simp [results, Tryz.results76, go_sem, d0, d1, d2, d3, d4, d5, d6]) rfl ?_
  exact ⟨_, rfl, rdz _ _, Q.setCell (Q.setCell (Q.setCell (Q.setCell (Q.setCell (Q.setCell (Q.setCell Q1.out (Nat.le_refl _) _) (Nat.le_refl _) _) (Nat.le_refl _) _) (Nat.le_refl _) _) (Nat.le_refl _) _) (Nat.le_refl _) _) (Nat.le_refl _) _⟩
theorem pt_new (w : World) (L : List Wd) (b off cap : Nat) (h : Sw w L (.slice (some ⟨b, off, none⟩) L.length cap) b off cap) (hpos : 0 < L.length) (hs : Std w) : PT (w.alloc (.cells #[.slice (some ⟨b, off, none⟩) L.length cap, .int .i64 0] 138)) w.heap.size L b off cap 0 := by
  have hb : b < w.heap.size := World.block_lt_of_cell? w ⟨b, off + 0 * 3, none⟩ (h.k 0 hpos)
  have h4 := hs.big
  have sv : Sv w L (.slice (some ⟨b, off, none⟩) L.length cap) b off cap := ⟨rfl, h.le, h.mx, h.k, h.t, h.p⟩
  refine ⟨?_, ?_, ?_, sv.on (p := w.heap.size) ((Qx.refl _ _).alloc _) (by omega), by omega, hs.on ((Q.refl _).alloc _), by omega⟩
  all_goals simp [World.cell?_alloc_new, World.frozen?_alloc_new]
set_option maxHeartbeats 8000000 in
theorem pparse_none (s : ByteArray) (W : World) (hw : Std W) (hs : s.size ≤ 100000) (L : List Wd) (n f : Nat) (hn : scanL s.data.toList = (some L, n)) (hpt : ptF EE L f 1 0 = some none) :
    Calls Tryz.prog 76 #[.string s] W fun e W' => RepR W (zeroE, 2) e W' := by
  have HZ := hid (tb_new W (.int .i64 0) (.int .i64 0) (.string ⟨#[]⟩) (.bool false) (.int .i64 0) (.slice none 0 0) (.slice none 0 0) 26)
  have HSt := hid hw
  have h4 := hw.big
  have HSc := hid (fun W1 (g : Std W1) => scan_any s W1 g hs)
  have HN := hid hn
  obtain ⟨hpos, hr, hE, hG, hK, hz⟩ := scan_good hn
  have HPr := hid (fun W1 p b off cap (g : PT W1 p L b off cap 0) => (pro_all L hE hG hK hr hz p b off cap f).1 1 0 _ W1 (by omega) (by omega) hpt g hpos)
  clear hn
  clear hw
  go_enter Tryz.func76, Tryz.ntmps76
  go_wp2_with (first | (go_at_call 107; refine (HSc.out _ (HSt.out.on (by repeat (first | with_reducible exact Q.refl _ | with_reducible refine Q.drewN ?_ _ | with_reducible refine Q.drew ?_ | with_reducible refine Q.alloc ?_ _ | with_reducible refine Q.setCell ?_ (by simp) _)))).mono ?_; rintro e w1 ⟨h1, q1⟩; rw [HN.out] at h1; obtain ⟨sv, h1', hsl⟩ := ScanRet.some h1; subst h1'; obtain ⟨b, off, cap, hsw⟩ := sw_of hsl hpos; obtain rfl := hsw.ev; have Q1 : Hid (Q W w1) := hid (Q.trans (by repeat (first | with_reducible exact Q.refl _ | with_reducible refine Q.drewN ?_ _ | with_reducible refine Q.drew ?_ | with_reducible refine Q.alloc ?_ _ | with_reducible refine Q.setCell ?_ (by simp) _)) q1); have hs1 : W.heap.size < w1.heap.size := (by have := q1.size; simp at this; omega); have Z1 := hid (HZ.out.on (p := W.heap.size + 1) (Qx.of q1) (by omega)); have P1 : Hid (PT (w1.alloc (.cells #[.slice (some ⟨b, off, none⟩) L.length cap, .int .i64 0] 138)) w1.heap.size L b off cap 0) := hid (pt_new w1 L b off cap hsw hpos (HSt.out.on Q1.out)); clear q1 h1 hsl hsw) | (go_at_call 108; refine (HPr.out _ _ _ _ _ P1.out).mono ?_; rintro e w2 h2; obtain ⟨k, m, t, bb, er, a1, l1, c1, a2, l2, c2, rfl, q2, r2⟩ := h2.inN; have Q2 := hid q2; have R2 := hid r2; clear h2 q2 r2; have Z2 := hid ((Z1.out.on (p := w1.heap.size) ((Qx.refl _ _).alloc _) (by omega)).on Q2.out (by omega)); have hs2 : w1.heap.size < w2.heap.size := (by have := Q2.out.size; simp at this; omega); have QW : Hid (Q W w2) := hid ((Q1.out.alloc _).viax Q2.out (by omega)); have Z3 := hid (Z2.out.on (p := w1.heap.size) ((Qx.refl _ _).alloc (.cells #[.int .i64 k, .int .i64 m, .string t, .bool bb, .int .i64 er, .slice a1 l1 c1, .slice a2 l2 c2] 26)) (by omega)); have d0 := Z3.out.g0; have d1 := Z3.out.g1; have d2 := Z3.out.g2; have d3 := Z3.out.g3; have d4 := Z3.out.g4; have d5 := Z3.out.g5; have d6 := Z3.out.g6; have y0 := Z3.out.f 0; have y1 := Z3.out.f 1; have y2 := Z3.out.f 2; have y3 := Z3.out.f 3; have y4 := Z3.out.f 4; have y5 := Z3.out.f 5; have y6 := Z3.out.f 6))
  refine bodyPost_ret (v := .tuple #[.agg #[.int .i64 0, .int .i64 0, .string ⟨#[]⟩, .bool false, .int .i64 0, .slice none 0 0, .slice none 0 0], .int .i64 2]) (by simp [results, Tryz.results76, go_sem, d0, d1, d2, d3, d4, d5, d6]) rfl ?_
  exact ⟨_, rfl, rdz _ _, Q.setCell (Q.setCell (Q.setCell (Q.setCell (Q.setCell (Q.setCell (Q.setCell (QW.out.alloc _) (Nat.le_refl _) _) (Nat.le_refl _) _) (Nat.le_refl _) _) (Nat.le_refl _) _) (Nat.le_refl _) _) (Nat.le_refl _) _) (Nat.le_refl _) _⟩
set_option maxHeartbeats 8000000 in
theorem pparse_end (s : ByteArray) (W : World) (hw : Std W) (hs : s.size ≤ 100000) (L : List Wd) (n f : Nat) (hn : scanL s.data.toList = (some L, n)) (x : Ex) (j : Nat) (hpt : ptF EE L f 1 0 = some (some (x, j))) (hk : kAt L j ≠ 7) :
    Calls Tryz.prog 76 #[.string s] W fun e W' => RepR W (zeroE, 2) e W' := by
  have HZ := hid (tb_new W (.int .i64 0) (.int .i64 0) (.string ⟨#[]⟩) (.bool false) (.int .i64 0) (.slice none 0 0) (.slice none 0 0) 26)
  have HSt := hid hw
  have h4 := hw.big
  have HSc := hid (fun W1 (g : Std W1) => scan_any s W1 g hs)
  have HN := hid hn
  obtain ⟨hpos, hr, hE, hG, hK, hz⟩ := scan_good hn
  have HPr := hid (fun W1 p b off cap (g : PT W1 p L b off cap 0) => (pro_all L hE hG hK hr hz p b off cap f).1 1 0 _ W1 (by omega) (by omega) hpt g hpos)
  have hjl := ((pfwd_all EE L hE f).1 _ _ _ _ (by omega) hpos hpt).2
  have HWd := hid (fun W1 p b off cap (g : PT W1 p L b off cap j) => word_any W1 p L.length b off cap j _ _ _ (g.kw hjl) hjl hr)
  obtain ⟨T2, hT2⟩ : ∃ T2 : ByteArray, T2 = ⟨(tAt L j).toArray⟩ := ⟨_, rfl⟩
  rw [← hT2] at HWd
  generalize ((L.getD j ⟨7, [], 0⟩).p : Int) = q at HWd
  have F0 : ∀ (k : Int) (w : World), (Instr.field 141 (.agg #[.int .i64 k, .string T2, .int .i64 q]) 0).run Tryz.prog w = .ok (.int .i64 k) w := fun k w => fd0 _ _ _ w
  have HF := hid (fun W1 v (h : Rd W1 x v) => fits_any x v W1 h)
  clear hn hT2
  have k7 : ((kAt L j : Int) == 7) = false := by rw [beq_eq_false_iff_ne]; omega
  have k7b : ¬ (kAt L j : Int) = 7 := by omega
  generalize (kAt L j : Int) = kk at HWd k7 k7b
  clear hk
  clear hw
  go_enter Tryz.func76, Tryz.ntmps76
  go_wp2_with (first | (go_at_call 109; refine (HWd.out _ _ _ _ _ P2.out).mono ?_; rintro e w3 ⟨rfl, q3⟩; have Q3 : Hid (Q w2 w3) := hid (((Q.refl _).alloc _).trans q3); have hs3 : w2.heap.size < w3.heap.size := (by have := q3.size; simp at this; omega); have X3 := hid (X2.out.on (p := w1.heap.size) (Qx.of q3) (by omega)); have Z3 := hid (Z2.out.on (p := w1.heap.size) (Qx.of Q3.out) (by omega)); clear q3; have d0 := Z3.out.g0; have d1 := Z3.out.g1; have d2 := Z3.out.g2; have d3 := Z3.out.g3; have d4 := Z3.out.g4; have d5 := Z3.out.g5; have d6 := Z3.out.g6; have y0 := Z3.out.f 0; have y1 := Z3.out.f 1; have y2 := Z3.out.f 2; have y3 := Z3.out.f 3; have y4 := Z3.out.f 4; have y5 := Z3.out.f 5; have y6 := Z3.out.f 6) | (go_at_call 107; refine (HSc.out _ (HSt.out.on (by repeat (first | with_reducible exact Q.refl _ | with_reducible refine Q.drewN ?_ _ | with_reducible refine Q.drew ?_ | with_reducible refine Q.alloc ?_ _ | with_reducible refine Q.setCell ?_ (by simp) _)))).mono ?_; rintro e w1 ⟨h1, q1⟩; rw [HN.out] at h1; obtain ⟨sv, h1', hsl⟩ := ScanRet.some h1; subst h1'; obtain ⟨b, off, cap, hsw⟩ := sw_of hsl hpos; obtain rfl := hsw.ev; have Q1 : Hid (Q W w1) := hid (Q.trans (by repeat (first | with_reducible exact Q.refl _ | with_reducible refine Q.drewN ?_ _ | with_reducible refine Q.drew ?_ | with_reducible refine Q.alloc ?_ _ | with_reducible refine Q.setCell ?_ (by simp) _)) q1); have hs1 : W.heap.size < w1.heap.size := (by have := q1.size; simp at this; omega); have Z1 := hid (HZ.out.on (p := W.heap.size + 1) (Qx.of q1) (by omega)); have P1 : Hid (PT (w1.alloc (.cells #[.slice (some ⟨b, off, none⟩) L.length cap, .int .i64 0] 138)) w1.heap.size L b off cap 0) := hid (pt_new w1 L b off cap hsw hpos (HSt.out.on Q1.out)); clear q1 h1 hsl hsw) | (go_at_call 108; refine (HPr.out _ _ _ _ _ P1.out).mono ?_; rintro e w2 h2; obtain ⟨k, m, t, bb, er, a1, l1, c1, a2, l2, c2, rfl, q2, r2⟩ := h2.inY; have Q2 := hid q2; have R2 := hid r2; clear h2 q2 r2; have Z2 := hid ((Z1.out.on (p := w1.heap.size) ((Qx.refl _ _).alloc _) (by omega)).on Q2.out (by omega)); have hs2 : w1.heap.size < w2.heap.size := (by have := Q2.out.size; simp at this; omega); have QW : Hid (Q W w2) := hid ((Q1.out.alloc _).viax Q2.out (by omega)); have P2 := hid (R2.out.2.on ((Q.refl _).alloc (.cells #[.int .i64 k, .int .i64 m, .string t, .bool bb, .int .i64 er, .slice a1 l1 c1, .slice a2 l2 c2] 26))); have X2 := hid (tb_new w2 (.int .i64 k) (.int .i64 m) (.string t) (.bool bb) (.int .i64 er) (.slice a1 l1 c1) (.slice a2 l2 c2) 26)))
  refine bodyPost_ret (v := .tuple #[.agg #[.int .i64 0, .int .i64 0, .string ⟨#[]⟩, .bool false, .int .i64 0, .slice none 0 0, .slice none 0 0], .int .i64 2]) (by simp [results, Tryz.results76, go_sem, d0, d1, d2, d3, d4, d5, d6]) rfl ?_
  exact ⟨_, rfl, rdz _ _, Q.setCell (Q.setCell (Q.setCell (Q.setCell (Q.setCell (Q.setCell (Q.setCell (QW.out.trans Q3.out) (Nat.le_refl _) _) (Nat.le_refl _) _) (Nat.le_refl _) _) (Nat.le_refl _) _) (Nat.le_refl _) _) (Nat.le_refl _) _) (Nat.le_refl _) _⟩
set_option maxHeartbeats 8000000 in
theorem pparse_deep (s : ByteArray) (W : World) (hw : Std W) (hs : s.size ≤ 100000) (L : List Wd) (n f : Nat) (hn : scanL s.data.toList = (some L, n)) (x : Ex) (j : Nat) (hpt : ptF EE L f 1 0 = some (some (x, j))) (hk : kAt L j = 7) (hf : fitB x = false) :
    Calls Tryz.prog 76 #[.string s] W fun e W' => RepR W (zeroE, 3) e W' := by
  have HZ := hid (tb_new W (.int .i64 0) (.int .i64 0) (.string ⟨#[]⟩) (.bool false) (.int .i64 0) (.slice none 0 0) (.slice none 0 0) 26)
  have HSt := hid hw
  have h4 := hw.big
  have HSc := hid (fun W1 (g : Std W1) => scan_any s W1 g hs)
  have HN := hid hn
  obtain ⟨hpos, hr, hE, hG, hK, hz⟩ := scan_good hn
  have HPr := hid (fun W1 p b off cap (g : PT W1 p L b off cap 0) => (pro_all L hE hG hK hr hz p b off cap f).1 1 0 _ W1 (by omega) (by omega) hpt g hpos)
  have hjl := ((pfwd_all EE L hE f).1 _ _ _ _ (by omega) hpos hpt).2
  have HWd := hid (fun W1 p b off cap (g : PT W1 p L b off cap j) => word_any W1 p L.length b off cap j _ _ _ (g.kw hjl) hjl hr)
  obtain ⟨T2, hT2⟩ : ∃ T2 : ByteArray, T2 = ⟨(tAt L j).toArray⟩ := ⟨_, rfl⟩
  rw [← hT2] at HWd
  generalize ((L.getD j ⟨7, [], 0⟩).p : Int) = q at HWd
  have F0 : ∀ (k : Int) (w : World), (Instr.field 141 (.agg #[.int .i64 k, .string T2, .int .i64 q]) 0).run Tryz.prog w = .ok (.int .i64 k) w := fun k w => fd0 _ _ _ w
  have HF := hid (fun W1 v (h : Rd W1 x v) => fits_any x v W1 h)
  clear hn hT2
  rw [hk] at HWd
  clear hk
  rw [hf] at HF
  clear hw
  go_enter Tryz.func76, Tryz.ntmps76
  go_wp2_with (first | (go_at_call 56; refine (HF.out _ _ (Rd.on Q3.out _ _ (Rdg.rd _ _ R2.out.1))).mono ?_; rintro e w4 ⟨rfl, q4⟩; have Q4 := hid q4; have X4 := hid (X3.out.on (p := w1.heap.size) (Qx.of q4) (by omega)); have Z4 := hid (Z3.out.on (p := w1.heap.size) (Qx.of q4) (by omega)); have hs4 : w3.heap.size ≤ w4.heap.size := q4.size; clear q4; have d0 := Z4.out.g0; have d1 := Z4.out.g1; have d2 := Z4.out.g2; have d3 := Z4.out.g3; have d4 := Z4.out.g4; have d5 := Z4.out.g5; have d6 := Z4.out.g6; have y0 := Z4.out.f 0; have y1 := Z4.out.f 1; have y2 := Z4.out.f 2; have y3 := Z4.out.f 3; have y4 := Z4.out.f 4; have y5 := Z4.out.f 5; have y6 := Z4.out.f 6) | (go_at_call 109; refine (HWd.out _ _ _ _ _ P2.out).mono ?_; rintro e w3 ⟨rfl, q3⟩; have Q3 : Hid (Q w2 w3) := hid (((Q.refl _).alloc _).trans q3); have hs3 : w2.heap.size < w3.heap.size := (by have := q3.size; simp at this; omega); have X3 := hid (X2.out.on (p := w1.heap.size) (Qx.of q3) (by omega)); have Z3 := hid (Z2.out.on (p := w1.heap.size) (Qx.of Q3.out) (by omega)); clear q3; have n0 := X3.out.g0; have n1 := X3.out.g1; have n2 := X3.out.g2; have n3 := X3.out.g3; have n4 := X3.out.g4; have n5 := X3.out.g5; have n6 := X3.out.g6) | (go_at_call 107; refine (HSc.out _ (HSt.out.on (by repeat (first | with_reducible exact Q.refl _ | with_reducible refine Q.drewN ?_ _ | with_reducible refine Q.drew ?_ | with_reducible refine Q.alloc ?_ _ | with_reducible refine Q.setCell ?_ (by simp) _)))).mono ?_; rintro e w1 ⟨h1, q1⟩; rw [HN.out] at h1; obtain ⟨sv, h1', hsl⟩ := ScanRet.some h1; subst h1'; obtain ⟨b, off, cap, hsw⟩ := sw_of hsl hpos; obtain rfl := hsw.ev; have Q1 : Hid (Q W w1) := hid (Q.trans (by repeat (first | with_reducible exact Q.refl _ | with_reducible refine Q.drewN ?_ _ | with_reducible refine Q.drew ?_ | with_reducible refine Q.alloc ?_ _ | with_reducible refine Q.setCell ?_ (by simp) _)) q1); have hs1 : W.heap.size < w1.heap.size := (by have := q1.size; simp at this; omega); have Z1 := hid (HZ.out.on (p := W.heap.size + 1) (Qx.of q1) (by omega)); have P1 : Hid (PT (w1.alloc (.cells #[.slice (some ⟨b, off, none⟩) L.length cap, .int .i64 0] 138)) w1.heap.size L b off cap 0) := hid (pt_new w1 L b off cap hsw hpos (HSt.out.on Q1.out)); clear q1 h1 hsl hsw) | (go_at_call 108; refine (HPr.out _ _ _ _ _ P1.out).mono ?_; rintro e w2 h2; obtain ⟨k, m, t, bb, er, a1, l1, c1, a2, l2, c2, rfl, q2, r2⟩ := h2.inY; have Q2 := hid q2; have R2 := hid r2; clear h2 q2 r2; have Z2 := hid ((Z1.out.on (p := w1.heap.size) ((Qx.refl _ _).alloc _) (by omega)).on Q2.out (by omega)); have hs2 : w1.heap.size < w2.heap.size := (by have := Q2.out.size; simp at this; omega); have QW : Hid (Q W w2) := hid ((Q1.out.alloc _).viax Q2.out (by omega)); have P2 := hid (R2.out.2.on ((Q.refl _).alloc (.cells #[.int .i64 k, .int .i64 m, .string t, .bool bb, .int .i64 er, .slice a1 l1 c1, .slice a2 l2 c2] 26))); have X2 := hid (tb_new w2 (.int .i64 k) (.int .i64 m) (.string t) (.bool bb) (.int .i64 er) (.slice a1 l1 c1) (.slice a2 l2 c2) 26)))
  refine bodyPost_ret (v := .tuple #[.agg #[.int .i64 0, .int .i64 0, .string ⟨#[]⟩, .bool false, .int .i64 0, .slice none 0 0, .slice none 0 0], .int .i64 3]) (by simp [results, Tryz.results76, go_sem, d0, d1, d2, d3, d4, d5, d6]) rfl ?_
  exact ⟨_, rfl, rdz _ _, Q.setCell (Q.setCell (Q.setCell (Q.setCell (Q.setCell (Q.setCell (Q.setCell ((QW.out.trans Q3.out).trans Q4.out) (Nat.le_refl _) _) (Nat.le_refl _) _) (Nat.le_refl _) _) (Nat.le_refl _) _) (Nat.le_refl _) _) (Nat.le_refl _) _) (Nat.le_refl _) _⟩
set_option maxHeartbeats 8000000 in
theorem pparse_ok (s : ByteArray) (W : World) (hw : Std W) (hs : s.size ≤ 100000) (L : List Wd) (n f : Nat) (hn : scanL s.data.toList = (some L, n)) (x : Ex) (j : Nat) (hpt : ptF EE L f 1 0 = some (some (x, j))) (hk : kAt L j = 7) (hf : fitB x = true) :
    Calls Tryz.prog 76 #[.string s] W fun e W' => RepR W (x, 0) e W' := by
  have HZ := hid (tb_new W (.int .i64 0) (.int .i64 0) (.string ⟨#[]⟩) (.bool false) (.int .i64 0) (.slice none 0 0) (.slice none 0 0) 26)
  have HSt := hid hw
  have h4 := hw.big
  have HSc := hid (fun W1 (g : Std W1) => scan_any s W1 g hs)
  have HN := hid hn
  obtain ⟨hpos, hr, hE, hG, hK, hz⟩ := scan_good hn
  have HPr := hid (fun W1 p b off cap (g : PT W1 p L b off cap 0) => (pro_all L hE hG hK hr hz p b off cap f).1 1 0 _ W1 (by omega) (by omega) hpt g hpos)
  have hjl := ((pfwd_all EE L hE f).1 _ _ _ _ (by omega) hpos hpt).2
  have HWd := hid (fun W1 p b off cap (g : PT W1 p L b off cap j) => word_any W1 p L.length b off cap j _ _ _ (g.kw hjl) hjl hr)
  obtain ⟨T2, hT2⟩ : ∃ T2 : ByteArray, T2 = ⟨(tAt L j).toArray⟩ := ⟨_, rfl⟩
  rw [← hT2] at HWd
  generalize ((L.getD j ⟨7, [], 0⟩).p : Int) = q at HWd
  have F0 : ∀ (k : Int) (w : World), (Instr.field 141 (.agg #[.int .i64 k, .string T2, .int .i64 q]) 0).run Tryz.prog w = .ok (.int .i64 k) w := fun k w => fd0 _ _ _ w
  have HF := hid (fun W1 v (h : Rd W1 x v) => fits_any x v W1 h)
  clear hn hT2
  rw [hk] at HWd
  clear hk
  rw [hf] at HF
  clear hw
  go_enter Tryz.func76, Tryz.ntmps76
  go_wp2_with (first | (go_at_call 56; refine (HF.out _ _ (Rd.on Q3.out _ _ (Rdg.rd _ _ R2.out.1))).mono ?_; rintro e w4 ⟨rfl, q4⟩; have Q4 := hid q4; have X4 := hid (X3.out.on (p := w1.heap.size) (Qx.of q4) (by omega)); have Z4 := hid (Z3.out.on (p := w1.heap.size) (Qx.of q4) (by omega)); have hs4 : w3.heap.size ≤ w4.heap.size := q4.size; clear q4; have d0 := Z4.out.g0; have d1 := Z4.out.g1; have d2 := Z4.out.g2; have d3 := Z4.out.g3; have d4 := Z4.out.g4; have d5 := Z4.out.g5; have d6 := Z4.out.g6; have y0 := Z4.out.f 0; have y1 := Z4.out.f 1; have y2 := Z4.out.f 2; have y3 := Z4.out.f 3; have y4 := Z4.out.f 4; have y5 := Z4.out.f 5; have y6 := Z4.out.f 6; have r0 := X4.out.g0; have r1 := X4.out.g1; have r2 := X4.out.g2; have r3 := X4.out.g3; have r4 := X4.out.g4; have r5 := X4.out.g5; have r6 := X4.out.g6) | (go_at_call 109; refine (HWd.out _ _ _ _ _ P2.out).mono ?_; rintro e w3 ⟨rfl, q3⟩; have Q3 : Hid (Q w2 w3) := hid (((Q.refl _).alloc _).trans q3); have hs3 : w2.heap.size < w3.heap.size := (by have := q3.size; simp at this; omega); have X3 := hid (X2.out.on (p := w1.heap.size) (Qx.of q3) (by omega)); have Z3 := hid (Z2.out.on (p := w1.heap.size) (Qx.of Q3.out) (by omega)); clear q3; have n0 := X3.out.g0; have n1 := X3.out.g1; have n2 := X3.out.g2; have n3 := X3.out.g3; have n4 := X3.out.g4; have n5 := X3.out.g5; have n6 := X3.out.g6) | (go_at_call 107; refine (HSc.out _ (HSt.out.on (by repeat (first | with_reducible exact Q.refl _ | with_reducible refine Q.drewN ?_ _ | with_reducible refine Q.drew ?_ | with_reducible refine Q.alloc ?_ _ | with_reducible refine Q.setCell ?_ (by simp) _)))).mono ?_; rintro e w1 ⟨h1, q1⟩; rw [HN.out] at h1; obtain ⟨sv, h1', hsl⟩ := ScanRet.some h1; subst h1'; obtain ⟨b, off, cap, hsw⟩ := sw_of hsl hpos; obtain rfl := hsw.ev; have Q1 : Hid (Q W w1) := hid (Q.trans (by repeat (first | with_reducible exact Q.refl _ | with_reducible refine Q.drewN ?_ _ | with_reducible refine Q.drew ?_ | with_reducible refine Q.alloc ?_ _ | with_reducible refine Q.setCell ?_ (by simp) _)) q1); have hs1 : W.heap.size < w1.heap.size := (by have := q1.size; simp at this; omega); have Z1 := hid (HZ.out.on (p := W.heap.size + 1) (Qx.of q1) (by omega)); have P1 : Hid (PT (w1.alloc (.cells #[.slice (some ⟨b, off, none⟩) L.length cap, .int .i64 0] 138)) w1.heap.size L b off cap 0) := hid (pt_new w1 L b off cap hsw hpos (HSt.out.on Q1.out)); clear q1 h1 hsl hsw) | (go_at_call 108; refine (HPr.out _ _ _ _ _ P1.out).mono ?_; rintro e w2 h2; obtain ⟨k, m, t, bb, er, a1, l1, c1, a2, l2, c2, rfl, q2, r2⟩ := h2.inY; have Q2 := hid q2; have R2 := hid r2; clear h2 q2 r2; have Z2 := hid ((Z1.out.on (p := w1.heap.size) ((Qx.refl _ _).alloc _) (by omega)).on Q2.out (by omega)); have hs2 : w1.heap.size < w2.heap.size := (by have := Q2.out.size; simp at this; omega); have QW : Hid (Q W w2) := hid ((Q1.out.alloc _).viax Q2.out (by omega)); have P2 := hid (R2.out.2.on ((Q.refl _).alloc (.cells #[.int .i64 k, .int .i64 m, .string t, .bool bb, .int .i64 er, .slice a1 l1 c1, .slice a2 l2 c2] 26))); have X2 := hid (tb_new w2 (.int .i64 k) (.int .i64 m) (.string t) (.bool bb) (.int .i64 er) (.slice a1 l1 c1) (.slice a2 l2 c2) 26)))
  refine bodyPost_ret (v := .tuple #[.agg #[.int .i64 k, .int .i64 m, .string t, .bool bb, .int .i64 er, .slice a1 l1 c1, .slice a2 l2 c2], .int .i64 0]) (by simp [results, Tryz.results76, go_sem, d0, d1, d2, d3, d4, d5, d6]) rfl ?_
  have QF : ∀ V : World, Qx W.heap.size w4 V → Rdg (fun b => W.heap.size ≤ b) V x (.agg #[.int .i64 k, .int .i64 m, .string t, .bool bb, .int .i64 er, .slice a1 l1 c1, .slice a2 l2 c2]) := fun V q => Rdg.mono (fun b hb => by simp at hb; omega) _ _ (Rdg.on q (fun b hb => by simp at hb; omega) _ _ (Rdg.on (Qx.of (p := W.heap.size) (Q3.out.trans Q4.out)) (fun b hb => by simp at hb; omega) _ _ R2.out.1))
  exact ⟨_, rfl, QF _ ((((((((Qx.refl _ _).own _ _).own _ _).own _ _).own _ _).own _ _).own _ _).own _ _), Q.setCell (Q.setCell (Q.setCell (Q.setCell (Q.setCell (Q.setCell (Q.setCell ((QW.out.trans Q3.out).trans Q4.out) (Nat.le_refl _) _) (Nat.le_refl _) _) (Nat.le_refl _) _) (Nat.le_refl _) _) (Nat.le_refl _) _) (Nat.le_refl _) _) (Nat.le_refl _) _⟩
theorem pparse_any (s : ByteArray) (W : World) (hw : Std W) (hs : s.size ≤ 100000) (L : List Wd) (n f : Nat) (o : Option (Ex × Nat)) (hn : scanL s.data.toList = (some L, n)) (hpt : ptF EE L f 1 0 = some o) :
    Calls Tryz.prog 76 #[.string s] W fun e W' => RepR W (finR L o) e W' := by
  cases o with
  | none => exact pparse_none s W hw hs L n f hn hpt
  | some r =>
    obtain ⟨x, j⟩ := r
    unfold finR
    simp only
    by_cases hk : kAt L j = 7
    · rw [if_pos hk]
      cases hf : fitB x
      · exact pparse_deep s W hw hs L n f hn x j hpt hk hf
      · exact pparse_ok s W hw hs L n f hn x j hpt hk hf
    · rw [if_neg hk]
      exact pparse_end s W hw hs L n f hn x j hpt hk
abbrev Cl := Bool × (Int × Int × List UInt8 × Bool × Int) × Ex
def zV : Int × Int × List UInt8 × Bool × Int := (0, 0, [], false, 0)
def zC : Cl := (false, zV, zeroE)
def RdC (B : Nat) (W : World) (c : Cl) (v : Value) : Prop := ∃ k m t bb er a1 l1 c1 a2 l2 c2, v = .agg #[.bool c.1, .int .i64 c.2.1.1, .int .i64 c.2.1.2.1, .string ⟨c.2.1.2.2.1.toArray⟩, .bool c.2.1.2.2.2.1, .int .i64 c.2.1.2.2.2.2, .int .i64 k, .int .i64 m, .string t, .bool bb, .int .i64 er, .slice a1 l1 c1, .slice a2 l2 c2] ∧ Rdg (fun b => B ≤ b) W c.2.2 (.agg #[.int .i64 k, .int .i64 m, .string t, .bool bb, .int .i64 er, .slice a1 l1 c1, .slice a2 l2 c2])
theorem RdC.on {B p : Nat} {W W' : World} {c : Cl} {v : Value} (h : RdC B W c v) (q : Qx p W W') (hp : p < B) : RdC B W' c v := by
  obtain ⟨k, m, t, bb, er, a1, l1, c1, a2, l2, c2, hv, hr⟩ := h
  exact ⟨k, m, t, bb, er, a1, l1, c1, a2, l2, c2, hv, Rdg.on q (fun b hb => by omega) _ _ hr⟩
theorem rdc_val (B : Nat) (W : World) (v : Int × Int × List UInt8 × Bool × Int) (b : Bool) : RdC B W (b, v, zeroE) (.agg #[.bool b, .int .i64 v.1, .int .i64 v.2.1, .string ⟨v.2.2.1.toArray⟩, .bool v.2.2.2.1, .int .i64 v.2.2.2.2, .int .i64 0, .int .i64 0, .string ⟨#[]⟩, .bool false, .int .i64 0, .slice none 0 0, .slice none 0 0]) :=
  ⟨0, 0, ⟨#[]⟩, false, 0, none, 0, 0, none, 0, 0, rfl, rdz _ W⟩
def RepC (W : World) (r : Cl × Nat) (e : Ending) (W' : World) : Prop := ∃ v, e = .returned (.tuple #[v, .int .i64 (r.2 : Int)]) ∧ RdC W.heap.size W' r.1 v ∧ Q W W'
def frm (x : Ex × Nat) : Cl × Nat := if x.2 = 0 then ((true, zV, x.1), 0) else (zC, x.2)
set_option maxHeartbeats 4000000 in
theorem readFormula_any (s : ByteArray) (x : Ex × Nat) (w : World) (HP : Hid (∀ W, Q w W → Calls Tryz.prog 76 #[.string s] W fun e W' => RepR W x e W')) : Calls Tryz.prog 41 #[.string s] w fun e W' => RepC w (frm x) e W' := by
  obtain ⟨X, en⟩ := x
  have HZ := hid (cb_new w [.bool false, .int .i64 0, .int .i64 0, .string ⟨#[]⟩, .bool false, .int .i64 0, .int .i64 0, .int .i64 0, .string ⟨#[]⟩, .bool false, .int .i64 0, .slice none 0 0, .slice none 0 0] 39)
  by_cases h0 : en = 0
  · subst h0
    rw [show frm (X, 0) = ((true, zV, X), 0) from rfl]
    go_enter Tryz.func41, Tryz.ntmps41
    go_upto_region 4 with (go_at_call 76; refine (HP.out _ ((Q.refl _).alloc _)).mono ?_; rintro e9 w1 ⟨v9, rfl, hr, q1⟩; obtain ⟨k, m, t, bb, er, a1, l1, c1, a2, l2, c2, rfl⟩ := hr.shape; have R1 := hid hr; have hs1 : w.heap.size < w1.heap.size := (by have := q1.size; simp at this; omega); have Z1 := hid (HZ.out.on q1); have Q1 : Hid (Q w w1) := hid (((Q.refl _).alloc _).trans q1); clear hr q1)
    have Z2 := hid (Z1.out.on ((Q.refl _).alloc (.cells #[.int .i64 k, .int .i64 m, .string t, .bool bb, .int .i64 er, .slice a1 l1 c1, .slice a2 l2 c2] 26)))
    have X2 := hid (cb_new w1 [.int .i64 k, .int .i64 m, .string t, .bool bb, .int .i64 er, .slice a1 l1 c1, .slice a2 l2 c2] 26)
    have Q2 := hid (Q1.out.alloc (.cells #[.int .i64 k, .int .i64 m, .string t, .bool bb, .int .i64 er, .slice a1 l1 c1, .slice a2 l2 c2] 26))
    have R2 := hid (Rdg.on (p := w.heap.size) ((Qx.refl w.heap.size w1).alloc (.cells #[.int .i64 k, .int .i64 m, .string t, .bool bb, .int .i64 er, .slice a1 l1 c1, .slice a2 l2 c2] 26)) (fun b hb => by simp at hb; omega) _ _ R1.out)
    rw [show ([.int .i64 k, .int .i64 m, .string t, .bool bb, .int .i64 er, .slice a1 l1 c1, .slice a2 l2 c2] : List Value).toArray = #[.int .i64 k, .int .i64 m, .string t, .bool bb, .int .i64 er, .slice a1 l1 c1, .slice a2 l2 c2] from rfl] at X2
    generalize w1.alloc (.cells #[.int .i64 k, .int .i64 m, .string t, .bool bb, .int .i64 er, .slice a1 l1 c1, .slice a2 l2 c2] 26) = w2 at Z2 X2 Q2 R2 ⊢
    generalize w1.heap.size = b2 at X2 ⊢
    obtain ⟨b0, hb0', hb0⟩ : ∃ b0, w.heap.size = b0 ∧ w.heap.size ≤ b0 := ⟨_, rfl, Nat.le_refl _⟩
    have R3 := hid (Rdg.mono (g' := fun b => w.heap.size ≤ b ∧ b ≠ b0) (fun b hb => by simp at hb; omega) _ _ R2.out)
    rw [hb0'] at Z2 ⊢
    have d0 := Z2.out.c 0 _ rfl
    have d1 := Z2.out.c 1 _ rfl
    have d2 := Z2.out.c 2 _ rfl
    have d3 := Z2.out.c 3 _ rfl
    have d4 := Z2.out.c 4 _ rfl
    have d5 := Z2.out.c 5 _ rfl
    have d6 := Z2.out.c 6 _ rfl
    have d7 := Z2.out.c 7 _ rfl
    have d8 := Z2.out.c 8 _ rfl
    have d9 := Z2.out.c 9 _ rfl
    have d10 := Z2.out.c 10 _ rfl
    have d11 := Z2.out.c 11 _ rfl
    have d12 := Z2.out.c 12 _ rfl
    have y0 := Z2.out.f 0
    have y1 := Z2.out.f 1
    have y2 := Z2.out.f 2
    have y3 := Z2.out.f 3
    have y4 := Z2.out.f 4
    have y5 := Z2.out.f 5
    have y6 := Z2.out.f 6
    have y7 := Z2.out.f 7
    have y8 := Z2.out.f 8
    have y9 := Z2.out.f 9
    have y10 := Z2.out.f 10
    have y11 := Z2.out.f 11
    have y12 := Z2.out.f 12
    have n0 := X2.out.c 0 _ rfl
    have n1 := X2.out.c 1 _ rfl
    have n2 := X2.out.c 2 _ rfl
    have n3 := X2.out.c 3 _ rfl
    have n4 := X2.out.c 4 _ rfl
    have n5 := X2.out.c 5 _ rfl
    have n6 := X2.out.c 6 _ rfl
    go_wp2_with fail
    refine bodyPost_ret (v := .tuple #[.agg #[.bool true, .int .i64 0, .int .i64 0, .string ⟨#[]⟩, .bool false, .int .i64 0, .int .i64 k, .int .i64 m, .string t, .bool bb, .int .i64 er, .slice a1 l1 c1, .slice a2 l2 c2], .int .i64 0]) (by simp [results, Tryz.results41, go_sem, d0, d1, d2, d3, d4, d5, d6, d7, d8, d9, d10, d11, d12]) rfl ?_
    refine ⟨_, rfl, ⟨k, m, t, bb, er, a1, l1, c1, a2, l2, c2, rfl, ?_⟩, by repeat (first | with_reducible exact Q2.out | with_reducible refine Q.setCell ?_ hb0 _)⟩
    exact Rdg.mono (fun b hb => hb.1) _ _ (Rdg.on (p := b0) (show Qx b0 w2 _ from by repeat (first | with_reducible exact Qx.refl _ _ | with_reducible refine Qx.own ?_ _ _)) (fun b hb => hb.2) _ _ R3.out)
  · have hn : frm (X, en) = (zC, en) := by unfold frm; rw [if_neg h0]
    rw [hn]
    have e1 : ((en : Int) == 0) = false := by rw [beq_eq_false_iff_ne]; omega
    have e2 : ¬ (en : Int) = 0 := by omega
    clear hn h0
    go_enter Tryz.func41, Tryz.ntmps41
    go_upto_region 3 with (go_at_call 76; refine (HP.out _ ((Q.refl _).alloc _)).mono ?_; rintro e9 w1 ⟨v9, rfl, hr, q1⟩; obtain ⟨k, m, t, bb, er, a1, l1, c1, a2, l2, c2, rfl⟩ := hr.shape; have hs1 : w.heap.size < w1.heap.size := (by have := q1.size; simp at this; omega); have Z1 := hid (HZ.out.on q1); have Q1 : Hid (Q w w1) := hid (((Q.refl _).alloc _).trans q1); clear hr q1)
    have Z2 := hid (Z1.out.on ((Q.refl _).alloc (.cells #[.int .i64 k, .int .i64 m, .string t, .bool bb, .int .i64 er, .slice a1 l1 c1, .slice a2 l2 c2] 26)))
    have Q2 := hid (Q1.out.alloc (.cells #[.int .i64 k, .int .i64 m, .string t, .bool bb, .int .i64 er, .slice a1 l1 c1, .slice a2 l2 c2] 26))
    generalize w1.alloc (.cells #[.int .i64 k, .int .i64 m, .string t, .bool bb, .int .i64 er, .slice a1 l1 c1, .slice a2 l2 c2] 26) = w2 at Z2 Q2 ⊢
    generalize w1.heap.size = b2
    obtain ⟨b0, hb0', hb0⟩ : ∃ b0, w.heap.size = b0 ∧ w.heap.size ≤ b0 := ⟨_, rfl, Nat.le_refl _⟩
    rw [hb0'] at Z2 ⊢
    have d0 := Z2.out.c 0 _ rfl
    have d1 := Z2.out.c 1 _ rfl
    have d2 := Z2.out.c 2 _ rfl
    have d3 := Z2.out.c 3 _ rfl
    have d4 := Z2.out.c 4 _ rfl
    have d5 := Z2.out.c 5 _ rfl
    have d6 := Z2.out.c 6 _ rfl
    have d7 := Z2.out.c 7 _ rfl
    have d8 := Z2.out.c 8 _ rfl
    have d9 := Z2.out.c 9 _ rfl
    have d10 := Z2.out.c 10 _ rfl
    have d11 := Z2.out.c 11 _ rfl
    have d12 := Z2.out.c 12 _ rfl
    have y0 := Z2.out.f 0
    have y1 := Z2.out.f 1
    have y2 := Z2.out.f 2
    have y3 := Z2.out.f 3
    have y4 := Z2.out.f 4
    have y5 := Z2.out.f 5
    have y6 := Z2.out.f 6
    have y7 := Z2.out.f 7
    have y8 := Z2.out.f 8
    have y9 := Z2.out.f 9
    have y10 := Z2.out.f 10
    have y11 := Z2.out.f 11
    have y12 := Z2.out.f 12
    go_wp2_with fail
    refine bodyPost_ret (v := .tuple #[.agg #[.bool false, .int .i64 0, .int .i64 0, .string ⟨#[]⟩, .bool false, .int .i64 0, .int .i64 0, .int .i64 0, .string ⟨#[]⟩, .bool false, .int .i64 0, .slice none 0 0, .slice none 0 0], .int .i64 (en : Int)]) (by simp [results, Tryz.results41, go_sem, d0, d1, d2, d3, d4, d5, d6, d7, d8, d9, d10, d11, d12]) rfl ?_
    exact ⟨_, rfl, rdc_val _ _ zV false, by repeat (first | with_reducible exact Q2.out | with_reducible refine Q.setCell ?_ hb0 _)⟩
end Go.Proofs.YtgheopdadfnilaaGreatDoor
