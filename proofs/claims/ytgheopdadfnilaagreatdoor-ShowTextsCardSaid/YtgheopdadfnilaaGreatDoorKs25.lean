/- parse.Parse, walked; UTF-8, plainly: what stands behind a lead byte. No program in this text. -/
import Derived.Test.YtgheopdadfnilaaGreatDoorKs24
import Derived.Test.YtgheopdadfnilaaGreatDoorKs17
import Derived.Lib.ValidLaws
namespace Go.Proofs.YtgheopdadfnilaaGreatDoor
open Go.RowKit
set_option linter.unusedVariables false
set_option linter.unusedSimpArgs false
theorem Q.viax {p : Nat} {a b c : World} (h : Q a b) (k : Qx p b c) (hp : a.heap.size ≤ p) : Q a c :=
  ⟨k.os.trans h.os, k.tape.trans h.tape, k.output.trans h.output, Nat.le_trans h.size k.size, fun i hi => (k.block i (Nat.lt_of_lt_of_le hi h.size) (fun e => by have := Option.some.inj e; omega)).trans (Q.block h hi)⟩
/-- the program's answer, of what was read -/
def finR (L : List Wd) : Option (Ex × Nat) → Ex × Nat
  | none => (zeroE, 2)
  | some (x, j) => if kAt L j = 7 then (if fitB x then (x, 0) else (zeroE, 3)) else (zeroE, 2)
/-- what Parse answers -/
def RepR (W : World) (r : Ex × Nat) (e : Ending) (W' : World) : Prop := ∃ v, e = .returned (.tuple #[v, .int .i64 (r.2 : Int)]) ∧ Rdg (fun b => W.heap.size ≤ b) W' r.1 v ∧ Q W W'
theorem rdz (g : Nat → Prop) (W : World) : Rdg g W zeroE (.agg #[.int .i64 0, .int .i64 0, .string ⟨#[]⟩, .bool false, .int .i64 0, .slice none 0 0, .slice none 0 0]) := rdg_zero g W
theorem rd_zero (W : World) : Rd W zeroE (.agg #[.int .i64 0, .int .i64 0, .string ⟨#[]⟩, .bool false, .int .i64 0, .slice none 0 0, .slice none 0 0]) := Rdg.rd _ _ (rdg_zero (fun _ => True) W)
set_option maxRecDepth 100000 in
set_option maxHeartbeats 8000000 in
theorem pparse_scan (s : ByteArray) (W : World) (hw : Std W) (hs : s.size ≤ 100000) (n : Nat) (hn : scanL s.data.toList = (none, n)) :
    Calls Tryz.prog 76 #[.string s] W fun e W' => RepR W (zeroE, 2) e W' := by
  have HZ := hid (tb_new W (.int .i64 0) (.int .i64 0) (.string ⟨#[]⟩) (.bool false) (.int .i64 0) (.slice none 0 0) (.slice none 0 0) 26)
  have HSt := hid hw
  have h4 := hw.big
  have HSc := hid (fun W1 (g : Std W1) => scan_any s W1 g hs)
  have HN := hid hn
  clear hn
  clear hw
  go_enter Tryz.func76, Tryz.ntmps76
  go_wp2_with (go_at_call 107; refine (HSc.out _ (HSt.out.on (by repeat (first | with_reducible exact Q.refl _ | with_reducible refine Q.drewN ?_ _ | with_reducible refine Q.drew ?_ | with_reducible refine Q.alloc ?_ _ | with_reducible refine Q.setCell ?_ (by simp) _)))).mono ?_; rintro e w1 ⟨h1, q1⟩; rw [HN.out] at h1; have h1' := ScanRet.none h1; subst h1'; have Q1 : Hid (Q W w1) := hid (Q.trans (by repeat (first | with_reducible exact Q.refl _ | with_reducible refine Q.drewN ?_ _ | with_reducible refine Q.drew ?_ | with_reducible refine Q.alloc ?_ _ | with_reducible refine Q.setCell ?_ (by simp) _)) q1); have Z1 := hid (HZ.out.on (p := W.heap.size + 1) (Qx.of q1) (by omega)); clear q1 h1; have d0 := Z1.out.g0; have d1 := Z1.out.g1; have d2 := Z1.out.g2; have d3 := Z1.out.g3; have d4 := Z1.out.g4; have d5 := Z1.out.g5; have d6 := Z1.out.g6; have y0 := Z1.out.f 0; have y1 := Z1.out.f 1; have y2 := Z1.out.f 2; have y3 := Z1.out.f 3; have y4 := Z1.out.f 4; have y5 := Z1.out.f 5; have y6 := Z1.out.f 6)
  refine bodyPost_ret (v := .tuple #[.agg #[.int .i64 0, .int .i64 0, .string ⟨#[]⟩, .bool false, .int .i64 0, .slice none 0 0, .slice none 0 0], .int .i64 2]) (by simp [results, Tryz.results76, go_sem, d0, d1, d2, d3, d4, d5, d6]) rfl ?_
  exact ⟨_, rfl, rdz _ _, Q.setCell (Q.setCell (Q.setCell (Q.setCell (Q.setCell (Q.setCell (Q.setCell Q1.out (Nat.le_refl _) _) (Nat.le_refl _) _) (Nat.le_refl _) _) (Nat.le_refl _) _) (Nat.le_refl _) _) (Nat.le_refl _) _) (Nat.le_refl _) _⟩
theorem pt_new (w : World) (L : List Wd) (b off cap : Nat) (h : Sw w L (.slice (some ⟨b, off, none⟩) L.length cap) b off cap) (hpos : 0 < L.length) (hs : Std w) : PT (w.alloc (.cells #[.slice (some ⟨b, off, none⟩) L.length cap, .int .i64 0] 138)) w.heap.size L b off cap 0 := by
  have hb : b < w.heap.size := World.block_lt_of_cell? w ⟨b, off + 0 * 3, none⟩ (h.k 0 hpos)
  have h4 := hs.big
  have sv : Sv w L (.slice (some ⟨b, off, none⟩) L.length cap) b off cap := ⟨rfl, h.le, h.mx, h.k, h.t, h.p⟩
  refine ⟨?_, ?_, ?_, sv.on (p := w.heap.size) ((Qx.refl _ _).alloc _) (by omega), by omega, hs.on ((Q.refl _).alloc _), by omega⟩
  all_goals simp [World.cell?_alloc_new, World.frozen?_alloc_new]
set_option maxRecDepth 100000 in
set_option maxHeartbeats 8000000 in
theorem pparse_none (s : ByteArray) (W : World) (hw : Std W) (hs : s.size ≤ 100000) (L : List Wd) (n f : Nat) (hn : scanL s.data.toList = (some L, n)) (hpt : ptF EE L f 1 0 = some none) :
    Calls Tryz.prog 76 #[.string s] W fun e W' => RepR W (zeroE, 2) e W' := by
  have HZ := hid (tb_new W (.int .i64 0) (.int .i64 0) (.string ⟨#[]⟩) (.bool false) (.int .i64 0) (.slice none 0 0) (.slice none 0 0) 26)
  have HSt := hid hw
  have h4 := hw.big
  have HSc := hid (fun W1 (g : Std W1) => scan_any s W1 g hs)
  have HN := hid hn
  obtain ⟨hpos, hr, hE, hG, hK, hz⟩ := scan_good hn
  have HPr := hid (fun W1 p b off cap (g : PT W1 p L b off cap 0) => (pro_all L hE hG hK hr hz p b off cap f).1 1 0 _ W1 (by omega) (by omega) hpt g hpos)
  clear hn
  clear hw
  go_enter Tryz.func76, Tryz.ntmps76
  go_wp2_with (first | (go_at_call 107; refine (HSc.out _ (HSt.out.on (by repeat (first | with_reducible exact Q.refl _ | with_reducible refine Q.drewN ?_ _ | with_reducible refine Q.drew ?_ | with_reducible refine Q.alloc ?_ _ | with_reducible refine Q.setCell ?_ (by simp) _)))).mono ?_; rintro e w1 ⟨h1, q1⟩; rw [HN.out] at h1; obtain ⟨sv, h1', hsl⟩ := ScanRet.some h1; subst h1'; obtain ⟨b, off, cap, hsw⟩ := sw_of hsl hpos; obtain rfl := hsw.ev; have Q1 : Hid (Q W w1) := hid (Q.trans (by repeat (first | with_reducible exact Q.refl _ | with_reducible refine Q.drewN ?_ _ | with_reducible refine Q.drew ?_ | with_reducible refine Q.alloc ?_ _ | with_reducible refine Q.setCell ?_ (by simp) _)) q1); have hs1 : W.heap.size < w1.heap.size := (by have := q1.size; simp at this; omega); have Z1 := hid (HZ.out.on (p := W.heap.size + 1) (Qx.of q1) (by omega)); have P1 : Hid (PT (w1.alloc (.cells #[.slice (some ⟨b, off, none⟩) L.length cap, .int .i64 0] 138)) w1.heap.size L b off cap 0) := hid (pt_new w1 L b off cap hsw hpos (HSt.out.on Q1.out)); clear q1 h1 hsl hsw) | (go_at_call 108; refine (HPr.out _ _ _ _ _ P1.out).mono ?_; rintro e w2 h2; obtain ⟨k, m, t, bb, er, a1, l1, c1, a2, l2, c2, rfl, q2, r2⟩ := h2.inN; have Q2 := hid q2; have R2 := hid r2; clear h2 q2 r2; have Z2 := hid ((Z1.out.on (p := w1.heap.size) ((Qx.refl _ _).alloc _) (by omega)).on Q2.out (by omega)); have hs2 : w1.heap.size < w2.heap.size := (by have := Q2.out.size; simp at this; omega); have QW : Hid (Q W w2) := hid ((Q1.out.alloc _).viax Q2.out (by omega)); have Z3 := hid (Z2.out.on (p := w1.heap.size) ((Qx.refl _ _).alloc (.cells #[.int .i64 k, .int .i64 m, .string t, .bool bb, .int .i64 er, .slice a1 l1 c1, .slice a2 l2 c2] 26)) (by omega)); have d0 := Z3.out.g0; have d1 := Z3.out.g1; have d2 := Z3.out.g2; have d3 := Z3.out.g3; have d4 := Z3.out.g4; have d5 := Z3.out.g5; have d6 := Z3.out.g6; have y0 := Z3.out.f 0; have y1 := Z3.out.f 1; have y2 := Z3.out.f 2; have y3 := Z3.out.f 3; have y4 := Z3.out.f 4; have y5 := Z3.out.f 5; have y6 := Z3.out.f 6))
  refine bodyPost_ret (v := .tuple #[.agg #[.int .i64 0, .int .i64 0, .string ⟨#[]⟩, .bool false, .int .i64 0, .slice none 0 0, .slice none 0 0], .int .i64 2]) (by simp [results, Tryz.results76, go_sem, d0, d1, d2, d3, d4, d5, d6]) rfl ?_
  exact ⟨_, rfl, rdz _ _, Q.setCell (Q.setCell (Q.setCell (Q.setCell (Q.setCell (Q.setCell (Q.setCell (QW.out.alloc _) (Nat.le_refl _) _) (Nat.le_refl _) _) (Nat.le_refl _) _) (Nat.le_refl _) _) (Nat.le_refl _) _) (Nat.le_refl _) _) (Nat.le_refl _) _⟩
set_option maxRecDepth 100000 in
set_option maxHeartbeats 8000000 in
theorem pparse_end (s : ByteArray) (W : World) (hw : Std W) (hs : s.size ≤ 100000) (L : List Wd) (n f : Nat) (hn : scanL s.data.toList = (some L, n)) (x : Ex) (j : Nat) (hpt : ptF EE L f 1 0 = some (some (x, j))) (hk : kAt L j ≠ 7) :
    Calls Tryz.prog 76 #[.string s] W fun e W' => RepR W (zeroE, 2) e W' := by
  have HZ := hid (tb_new W (.int .i64 0) (.int .i64 0) (.string ⟨#[]⟩) (.bool false) (.int .i64 0) (.slice none 0 0) (.slice none 0 0) 26)
  have HSt := hid hw
  have h4 := hw.big
  have HSc := hid (fun W1 (g : Std W1) => scan_any s W1 g hs)
  have HN := hid hn
  obtain ⟨hpos, hr, hE, hG, hK, hz⟩ := scan_good hn
  have HPr := hid (fun W1 p b off cap (g : PT W1 p L b off cap 0) => (pro_all L hE hG hK hr hz p b off cap f).1 1 0 _ W1 (by omega) (by omega) hpt g hpos)
  have hjl := ((pfwd_all EE L hE f).1 _ _ _ _ (by omega) hpos hpt).2
  have HWd := hid (fun W1 p b off cap (g : PT W1 p L b off cap j) => word_any W1 p L.length b off cap j _ _ _ (g.kw hjl) hjl hr)
  obtain ⟨T2, hT2⟩ : ∃ T2 : ByteArray, T2 = ⟨(tAt L j).toArray⟩ := ⟨_, rfl⟩
  rw [← hT2] at HWd
  generalize ((L.getD j ⟨7, [], 0⟩).p : Int) = q at HWd
  have F0 : ∀ (k : Int) (w : World), (Instr.field 141 (.agg #[.int .i64 k, .string T2, .int .i64 q]) 0).run Tryz.prog w = .ok (.int .i64 k) w := fun k w => fd0 _ _ _ w
  have HF := hid (fun W1 v (h : Rd W1 x v) => fits_any x v W1 h)
  clear hn hT2
  have k7 : ((kAt L j : Int) == 7) = false := by rw [beq_eq_false_iff_ne]; omega
  have k7b : ¬ (kAt L j : Int) = 7 := by omega
  generalize (kAt L j : Int) = kk at HWd k7 k7b
  clear hk
  clear hw
  go_enter Tryz.func76, Tryz.ntmps76
  go_wp2_with (first | (go_at_call 109; refine (HWd.out _ _ _ _ _ P2.out).mono ?_; rintro e w3 ⟨rfl, q3⟩; have Q3 : Hid (Q w2 w3) := hid (((Q.refl _).alloc _).trans q3); have hs3 : w2.heap.size < w3.heap.size := (by have := q3.size; simp at this; omega); have X3 := hid (X2.out.on (p := w1.heap.size) (Qx.of q3) (by omega)); have Z3 := hid (Z2.out.on (p := w1.heap.size) (Qx.of Q3.out) (by omega)); clear q3; have d0 := Z3.out.g0; have d1 := Z3.out.g1; have d2 := Z3.out.g2; have d3 := Z3.out.g3; have d4 := Z3.out.g4; have d5 := Z3.out.g5; have d6 := Z3.out.g6; have y0 := Z3.out.f 0; have y1 := Z3.out.f 1; have y2 := Z3.out.f 2; have y3 := Z3.out.f 3; have y4 := Z3.out.f 4; have y5 := Z3.out.f 5; have y6 := Z3.out.f 6) | (go_at_call 107; refine (HSc.out _ (HSt.out.on (by repeat (first | with_reducible exact Q.refl _ | with_reducible refine Q.drewN ?_ _ | with_reducible refine Q.drew ?_ | with_reducible refine Q.alloc ?_ _ | with_reducible refine Q.setCell ?_ (by simp) _)))).mono ?_; rintro e w1 ⟨h1, q1⟩; rw [HN.out] at h1; obtain ⟨sv, h1', hsl⟩ := ScanRet.some h1; subst h1'; obtain ⟨b, off, cap, hsw⟩ := sw_of hsl hpos; obtain rfl := hsw.ev; have Q1 : Hid (Q W w1) := hid (Q.trans (by repeat (first | with_reducible exact Q.refl _ | with_reducible refine Q.drewN ?_ _ | with_reducible refine Q.drew ?_ | with_reducible refine Q.alloc ?_ _ | with_reducible refine Q.setCell ?_ (by simp) _)) q1); have hs1 : W.heap.size < w1.heap.size := (by have := q1.size; simp at this; omega); have Z1 := hid (HZ.out.on (p := W.heap.size + 1) (Qx.of q1) (by omega)); have P1 : Hid (PT (w1.alloc (.cells #[.slice (some ⟨b, off, none⟩) L.length cap, .int .i64 0] 138)) w1.heap.size L b off cap 0) := hid (pt_new w1 L b off cap hsw hpos (HSt.out.on Q1.out)); clear q1 h1 hsl hsw) | (go_at_call 108; refine (HPr.out _ _ _ _ _ P1.out).mono ?_; rintro e w2 h2; obtain ⟨k, m, t, bb, er, a1, l1, c1, a2, l2, c2, rfl, q2, r2⟩ := h2.inY; have Q2 := hid q2; have R2 := hid r2; clear h2 q2 r2; have Z2 := hid ((Z1.out.on (p := w1.heap.size) ((Qx.refl _ _).alloc _) (by omega)).on Q2.out (by omega)); have hs2 : w1.heap.size < w2.heap.size := (by have := Q2.out.size; simp at this; omega); have QW : Hid (Q W w2) := hid ((Q1.out.alloc _).viax Q2.out (by omega)); have P2 := hid (R2.out.2.on ((Q.refl _).alloc (.cells #[.int .i64 k, .int .i64 m, .string t, .bool bb, .int .i64 er, .slice a1 l1 c1, .slice a2 l2 c2] 26))); have X2 := hid (tb_new w2 (.int .i64 k) (.int .i64 m) (.string t) (.bool bb) (.int .i64 er) (.slice a1 l1 c1) (.slice a2 l2 c2) 26)))
  refine bodyPost_ret (v := .tuple #[.agg #[.int .i64 0, .int .i64 0, .string ⟨#[]⟩, .bool false, .int .i64 0, .slice none 0 0, .slice none 0 0], .int .i64 2]) (by simp [results, Tryz.results76, go_sem, d0, d1, d2, d3, d4, d5, d6]) rfl ?_
  exact ⟨_, rfl, rdz _ _, Q.setCell (Q.setCell (Q.setCell (Q.setCell (Q.setCell (Q.setCell (Q.setCell (QW.out.trans Q3.out) (Nat.le_refl _) _) (Nat.le_refl _) _) (Nat.le_refl _) _) (Nat.le_refl _) _) (Nat.le_refl _) _) (Nat.le_refl _) _) (Nat.le_refl _) _⟩
set_option maxRecDepth 100000 in
set_option maxHeartbeats 8000000 in
theorem pparse_deep (s : ByteArray) (W : World) (hw : Std W) (hs : s.size ≤ 100000) (L : List Wd) (n f : Nat) (hn : scanL s.data.toList = (some L, n)) (x : Ex) (j : Nat) (hpt : ptF EE L f 1 0 = some (some (x, j))) (hk : kAt L j = 7) (hf : fitB x = false) :
    Calls Tryz.prog 76 #[.string s] W fun e W' => RepR W (zeroE, 3) e W' := by
  have HZ := hid (tb_new W (.int .i64 0) (.int .i64 0) (.string ⟨#[]⟩) (.bool false) (.int .i64 0) (.slice none 0 0) (.slice none 0 0) 26)
  have HSt := hid hw
  have h4 := hw.big
  have HSc := hid (fun W1 (g : Std W1) => scan_any s W1 g hs)
  have HN := hid hn
  obtain ⟨hpos, hr, hE, hG, hK, hz⟩ := scan_good hn
  have HPr := hid (fun W1 p b off cap (g : PT W1 p L b off cap 0) => (pro_all L hE hG hK hr hz p b off cap f).1 1 0 _ W1 (by omega) (by omega) hpt g hpos)
  have hjl := ((pfwd_all EE L hE f).1 _ _ _ _ (by omega) hpos hpt).2
  have HWd := hid (fun W1 p b off cap (g : PT W1 p L b off cap j) => word_any W1 p L.length b off cap j _ _ _ (g.kw hjl) hjl hr)
  obtain ⟨T2, hT2⟩ : ∃ T2 : ByteArray, T2 = ⟨(tAt L j).toArray⟩ := ⟨_, rfl⟩
  rw [← hT2] at HWd
  generalize ((L.getD j ⟨7, [], 0⟩).p : Int) = q at HWd
  have F0 : ∀ (k : Int) (w : World), (Instr.field 141 (.agg #[.int .i64 k, .string T2, .int .i64 q]) 0).run Tryz.prog w = .ok (.int .i64 k) w := fun k w => fd0 _ _ _ w
  have HF := hid (fun W1 v (h : Rd W1 x v) => fits_any x v W1 h)
  clear hn hT2
  rw [hk] at HWd
  clear hk
  rw [hf] at HF
  clear hw
  go_enter Tryz.func76, Tryz.ntmps76
  go_wp2_with (first | (go_at_call 56; refine (HF.out _ _ (Rd.on Q3.out _ _ (Rdg.rd _ _ R2.out.1))).mono ?_; rintro e w4 ⟨rfl, q4⟩; have Q4 := hid q4; have X4 := hid (X3.out.on (p := w1.heap.size) (Qx.of q4) (by omega)); have Z4 := hid (Z3.out.on (p := w1.heap.size) (Qx.of q4) (by omega)); have hs4 : w3.heap.size ≤ w4.heap.size := q4.size; clear q4; have d0 := Z4.out.g0; have d1 := Z4.out.g1; have d2 := Z4.out.g2; have d3 := Z4.out.g3; have d4 := Z4.out.g4; have d5 := Z4.out.g5; have d6 := Z4.out.g6; have y0 := Z4.out.f 0; have y1 := Z4.out.f 1; have y2 := Z4.out.f 2; have y3 := Z4.out.f 3; have y4 := Z4.out.f 4; have y5 := Z4.out.f 5; have y6 := Z4.out.f 6) | (go_at_call 109; refine (HWd.out _ _ _ _ _ P2.out).mono ?_; rintro e w3 ⟨rfl, q3⟩; have Q3 : Hid (Q w2 w3) := hid (((Q.refl _).alloc _).trans q3); have hs3 : w2.heap.size < w3.heap.size := (by have := q3.size; simp at this; omega); have X3 := hid (X2.out.on (p := w1.heap.size) (Qx.of q3) (by omega)); have Z3 := hid (Z2.out.on (p := w1.heap.size) (Qx.of Q3.out) (by omega)); clear q3; have n0 := X3.out.g0; have n1 := X3.out.g1; have n2 := X3.out.g2; have n3 := X3.out.g3; have n4 := X3.out.g4; have n5 := X3.out.g5; have n6 := X3.out.g6) | (go_at_call 107; refine (HSc.out _ (HSt.out.on (by repeat (first | with_reducible exact Q.refl _ | with_reducible refine Q.drewN ?_ _ | with_reducible refine Q.drew ?_ | with_reducible refine Q.alloc ?_ _ | with_reducible refine Q.setCell ?_ (by simp) _)))).mono ?_; rintro e w1 ⟨h1, q1⟩; rw [HN.out] at h1; obtain ⟨sv, h1', hsl⟩ := ScanRet.some h1; subst h1'; obtain ⟨b, off, cap, hsw⟩ := sw_of hsl hpos; obtain rfl := hsw.ev; have Q1 : Hid (Q W w1) := hid (Q.trans (by repeat (first | with_reducible exact Q.refl _ | with_reducible refine Q.drewN ?_ _ | with_reducible refine Q.drew ?_ | with_reducible refine Q.alloc ?_ _ | with_reducible refine Q.setCell ?_ (by simp) _)) q1); have hs1 : W.heap.size < w1.heap.size := (by have := q1.size; simp at this; omega); have Z1 := hid (HZ.out.on (p := W.heap.size + 1) (Qx.of q1) (by omega)); have P1 : Hid (PT (w1.alloc (.cells #[.slice (some ⟨b, off, none⟩) L.length cap, .int .i64 0] 138)) w1.heap.size L b off cap 0) := hid (pt_new w1 L b off cap hsw hpos (HSt.out.on Q1.out)); clear q1 h1 hsl hsw) | (go_at_call 108; refine (HPr.out _ _ _ _ _ P1.out).mono ?_; rintro e w2 h2; obtain ⟨k, m, t, bb, er, a1, l1, c1, a2, l2, c2, rfl, q2, r2⟩ := h2.inY; have Q2 := hid q2; have R2 := hid r2; clear h2 q2 r2; have Z2 := hid ((Z1.out.on (p := w1.heap.size) ((Qx.refl _ _).alloc _) (by omega)).on Q2.out (by omega)); have hs2 : w1.heap.size < w2.heap.size := (by have := Q2.out.size; simp at this; omega); have QW : Hid (Q W w2) := hid ((Q1.out.alloc _).viax Q2.out (by omega)); have P2 := hid (R2.out.2.on ((Q.refl _).alloc (.cells #[.int .i64 k, .int .i64 m, .string t, .bool bb, .int .i64 er, .slice a1 l1 c1, .slice a2 l2 c2] 26))); have X2 := hid (tb_new w2 (.int .i64 k) (.int .i64 m) (.string t) (.bool bb) (.int .i64 er) (.slice a1 l1 c1) (.slice a2 l2 c2) 26)))
  refine bodyPost_ret (v := .tuple #[.agg #[.int .i64 0, .int .i64 0, .string ⟨#[]⟩, .bool false, .int .i64 0, .slice none 0 0, .slice none 0 0], .int .i64 3]) (by simp [results, Tryz.results76, go_sem, d0, d1, d2, d3, d4, d5, d6]) rfl ?_
  exact ⟨_, rfl, rdz _ _, Q.setCell (Q.setCell (Q.setCell (Q.setCell (Q.setCell (Q.setCell (Q.setCell ((QW.out.trans Q3.out).trans Q4.out) (Nat.le_refl _) _) (Nat.le_refl _) _) (Nat.le_refl _) _) (Nat.le_refl _) _) (Nat.le_refl _) _) (Nat.le_refl _) _) (Nat.le_refl _) _⟩
set_option maxRecDepth 100000 in
set_option maxHeartbeats 8000000 in
theorem pparse_ok (s : ByteArray) (W : World) (hw : Std W) (hs : s.size ≤ 100000) (L : List Wd) (n f : Nat) (hn : scanL s.data.toList = (some L, n)) (x : Ex) (j : Nat) (hpt : ptF EE L f 1 0 = some (some (x, j))) (hk : kAt L j = 7) (hf : fitB x = true) :
    Calls Tryz.prog 76 #[.string s] W fun e W' => RepR W (x, 0) e W' := by
  have HZ := hid (tb_new W (.int .i64 0) (.int .i64 0) (.string ⟨#[]⟩) (.bool false) (.int .i64 0) (.slice none 0 0) (.slice none 0 0) 26)
  have HSt := hid hw
  have h4 := hw.big
  have HSc := hid (fun W1 (g : Std W1) => scan_any s W1 g hs)
  have HN := hid hn
  obtain ⟨hpos, hr, hE, hG, hK, hz⟩ := scan_good hn
  have HPr := hid (fun W1 p b off cap (g : PT W1 p L b off cap 0) => (pro_all L hE hG hK hr hz p b off cap f).1 1 0 _ W1 (by omega) (by omega) hpt g hpos)
  have hjl := ((pfwd_all EE L hE f).1 _ _ _ _ (by omega) hpos hpt).2
  have HWd := hid (fun W1 p b off cap (g : PT W1 p L b off cap j) => word_any W1 p L.length b off cap j _ _ _ (g.kw hjl) hjl hr)
  obtain ⟨T2, hT2⟩ : ∃ T2 : ByteArray, T2 = ⟨(tAt L j).toArray⟩ := ⟨_, rfl⟩
  rw [← hT2] at HWd
  generalize ((L.getD j ⟨7, [], 0⟩).p : Int) = q at HWd
  have F0 : ∀ (k : Int) (w : World), (Instr.field 141 (.agg #[.int .i64 k, .string T2, .int .i64 q]) 0).run Tryz.prog w = .ok (.int .i64 k) w := fun k w => fd0 _ _ _ w
  have HF := hid (fun W1 v (h : Rd W1 x v) => fits_any x v W1 h)
  clear hn hT2
  rw [hk] at HWd
  clear hk
  rw [hf] at HF
  clear hw
  go_enter Tryz.func76, Tryz.ntmps76
  go_wp2_with (first | (go_at_call 56; refine (HF.out _ _ (Rd.on Q3.out _ _ (Rdg.rd _ _ R2.out.1))).mono ?_; rintro e w4 ⟨rfl, q4⟩; have Q4 := hid q4; have X4 := hid (X3.out.on (p := w1.heap.size) (Qx.of q4) (by omega)); have Z4 := hid (Z3.out.on (p := w1.heap.size) (Qx.of q4) (by omega)); have hs4 : w3.heap.size ≤ w4.heap.size := q4.size; clear q4; have d0 := Z4.out.g0; have d1 := Z4.out.g1; have d2 := Z4.out.g2; have d3 := Z4.out.g3; have d4 := Z4.out.g4; have d5 := Z4.out.g5; have d6 := Z4.out.g6; have y0 := Z4.out.f 0; have y1 := Z4.out.f 1; have y2 := Z4.out.f 2; have y3 := Z4.out.f 3; have y4 := Z4.out.f 4; have y5 := Z4.out.f 5; have y6 := Z4.out.f 6; have r0 := X4.out.g0; have r1 := X4.out.g1; have r2 := X4.out.g2; have r3 := X4.out.g3; have r4 := X4.out.g4; have r5 := X4.out.g5; have r6 := X4.out.g6) | (go_at_call 109; refine (HWd.out _ _ _ _ _ P2.out).mono ?_; rintro e w3 ⟨rfl, q3⟩; have Q3 : Hid (Q w2 w3) := hid (((Q.refl _).alloc _).trans q3); have hs3 : w2.heap.size < w3.heap.size := (by have := q3.size; simp at this; omega); have X3 := hid (X2.out.on (p := w1.heap.size) (Qx.of q3) (by omega)); have Z3 := hid (Z2.out.on (p := w1.heap.size) (Qx.of Q3.out) (by omega)); clear q3; have n0 := X3.out.g0; have n1 := X3.out.g1; have n2 := X3.out.g2; have n3 := X3.out.g3; have n4 := X3.out.g4; have n5 := X3.out.g5; have n6 := X3.out.g6) | (go_at_call 107; refine (HSc.out _ (HSt.out.on (by repeat (first | with_reducible exact Q.refl _ | with_reducible refine Q.drewN ?_ _ | with_reducible refine Q.drew ?_ | with_reducible refine Q.alloc ?_ _ | with_reducible refine Q.setCell ?_ (by simp) _)))).mono ?_; rintro e w1 ⟨h1, q1⟩; rw [HN.out] at h1; obtain ⟨sv, h1', hsl⟩ := ScanRet.some h1; subst h1'; obtain ⟨b, off, cap, hsw⟩ := sw_of hsl hpos; obtain rfl := hsw.ev; have Q1 : Hid (Q W w1) := hid (Q.trans (by repeat (first | with_reducible exact Q.refl _ | with_reducible refine Q.drewN ?_ _ | with_reducible refine Q.drew ?_ | with_reducible refine Q.alloc ?_ _ | with_reducible refine Q.setCell ?_ (by simp) _)) q1); have hs1 : W.heap.size < w1.heap.size := (by have := q1.size; simp at this; omega); have Z1 := hid (HZ.out.on (p := W.heap.size + 1) (Qx.of q1) (by omega)); have P1 : Hid (PT (w1.alloc (.cells #[.slice (some ⟨b, off, none⟩) L.length cap, .int .i64 0] 138)) w1.heap.size L b off cap 0) := hid (pt_new w1 L b off cap hsw hpos (HSt.out.on Q1.out)); clear q1 h1 hsl hsw) | (go_at_call 108; refine (HPr.out _ _ _ _ _ P1.out).mono ?_; rintro e w2 h2; obtain ⟨k, m, t, bb, er, a1, l1, c1, a2, l2, c2, rfl, q2, r2⟩ := h2.inY; have Q2 := hid q2; have R2 := hid r2; clear h2 q2 r2; have Z2 := hid ((Z1.out.on (p := w1.heap.size) ((Qx.refl _ _).alloc _) (by omega)).on Q2.out (by omega)); have hs2 : w1.heap.size < w2.heap.size := (by have := Q2.out.size; simp at this; omega); have QW : Hid (Q W w2) := hid ((Q1.out.alloc _).viax Q2.out (by omega)); have P2 := hid (R2.out.2.on ((Q.refl _).alloc (.cells #[.int .i64 k, .int .i64 m, .string t, .bool bb, .int .i64 er, .slice a1 l1 c1, .slice a2 l2 c2] 26))); have X2 := hid (tb_new w2 (.int .i64 k) (.int .i64 m) (.string t) (.bool bb) (.int .i64 er) (.slice a1 l1 c1) (.slice a2 l2 c2) 26)))
  refine bodyPost_ret (v := .tuple #[.agg #[.int .i64 k, .int .i64 m, .string t, .bool bb, .int .i64 er, .slice a1 l1 c1, .slice a2 l2 c2], .int .i64 0]) (by simp [results, Tryz.results76, go_sem, d0, d1, d2, d3, d4, d5, d6]) rfl ?_
  have QF : ∀ V : World, Qx W.heap.size w4 V → Rdg (fun b => W.heap.size ≤ b) V x (.agg #[.int .i64 k, .int .i64 m, .string t, .bool bb, .int .i64 er, .slice a1 l1 c1, .slice a2 l2 c2]) := fun V q => Rdg.mono (fun b hb => by simp at hb; omega) _ _ (Rdg.on q (fun b hb => by simp at hb; omega) _ _ (Rdg.on (Qx.of (p := W.heap.size) (Q3.out.trans Q4.out)) (fun b hb => by simp at hb; omega) _ _ R2.out.1))
  exact ⟨_, rfl, QF _ ((((((((Qx.refl _ _).own _ _).own _ _).own _ _).own _ _).own _ _).own _ _).own _ _), Q.setCell (Q.setCell (Q.setCell (Q.setCell (Q.setCell (Q.setCell (Q.setCell ((QW.out.trans Q3.out).trans Q4.out) (Nat.le_refl _) _) (Nat.le_refl _) _) (Nat.le_refl _) _) (Nat.le_refl _) _) (Nat.le_refl _) _) (Nat.le_refl _) _) (Nat.le_refl _) _⟩
/-- the program's Parse, of any text -/
theorem pparse_any (s : ByteArray) (W : World) (hw : Std W) (hs : s.size ≤ 100000) (L : List Wd) (n f : Nat) (o : Option (Ex × Nat)) (hn : scanL s.data.toList = (some L, n)) (hpt : ptF EE L f 1 0 = some o) :
    Calls Tryz.prog 76 #[.string s] W fun e W' => RepR W (finR L o) e W' := by
  cases o with
  | none => exact pparse_none s W hw hs L n f hn hpt
  | some r =>
    obtain ⟨x, j⟩ := r
    unfold finR
    simp only
    by_cases hk : kAt L j = 7
    · rw [if_pos hk]
      cases hf : fitB x
      · exact pparse_deep s W hw hs L n f hn x j hpt hk hf
      · exact pparse_ok s W hw hs L n f hn x j hpt hk hf
    · rw [if_neg hk]
      exact pparse_end s W hw hs L n f hn x j hpt hk
end Go.Proofs.YtgheopdadfnilaaGreatDoor
namespace Go.Proofs.YtgheopdadfnilaaGreatDoor.V
open Go Go.Lib
set_option linter.unusedSimpArgs false
set_option linter.unusedVariables false
theorem lead_bad (m : List UInt8) (hne : m ≠ []) (c : Nat) (ec : (m.getD 0 0).toNat = c) (h : (128 ≤ c ∧ c < 194) ∨ 245 ≤ c) : validD m = false := by
  have hc : c < 256 := by rw [← ec]; exact (m.getD 0 0).toNat_lt
  rw [validD_lead m hne (by rw [ec]; omega), ec]
  have hf : firstT c % 8 = 1 := by
    unfold firstT
    repeat' split
    all_goals first | omega | rfl
  rw [hf]
  simp [checkN]
theorem lead2 (m : List UInt8) (hne : m ≠ []) (c : Nat) (ec : (m.getD 0 0).toNat = c) (h : 194 ≤ c ∧ c ≤ 223) :
    validD m = if m.length < 2 ∨ (m.getD 1 0).toNat < 128 ∨ 191 < (m.getD 1 0).toNat then false else validD (m.drop 2) := by
  rw [validD_lead m hne (by rw [ec]; omega), ec]
  have hf : firstT c = 2 := by
    unfold firstT
    repeat' split
    all_goals first | omega | rfl
  rw [hf]
  unfold checkN
  simp only [show 2 % 8 = 2 from rfl, if_true]
  have e1 : accLo (2 / 16) = 128 := by decide
  have e2 : accHi (2 / 16) = 191 := by decide
  rw [e1, e2]
  by_cases hh : m.length < 2 ∨ (m.getD 1 0).toNat < 128 ∨ 191 < (m.getD 1 0).toNat
  · rw [if_pos hh, if_pos hh]
  · rw [if_neg hh, if_neg hh]
theorem lead3 (m : List UInt8) (hne : m ≠ []) (c : Nat) (ec : (m.getD 0 0).toNat = c) (h : 224 ≤ c ∧ c ≤ 239) :
    validD m = if m.length < 3 ∨ (m.getD 1 0).toNat < (if c = 224 then 160 else 128) ∨ (if c = 237 then 159 else 191) < (m.getD 1 0).toNat ∨ (m.getD 2 0).toNat < 128 ∨ 191 < (m.getD 2 0).toNat then false else validD (m.drop 3) := by
  rw [validD_lead m hne (by rw [ec]; omega), ec]
  have hf : firstT c % 8 = 3 ∧ accLo (firstT c / 16) = (if c = 224 then 160 else 128) ∧ accHi (firstT c / 16) = (if c = 237 then 159 else 191) := by
    by_cases h1 : c = 224
    · subst h1; decide
    · by_cases h2 : c = 237
      · subst h2; decide
      · rw [if_neg h1, if_neg h2]
        unfold firstT
        repeat' split
        all_goals first | omega | decide
  rw [hf.1, hf.2.1, hf.2.2]
  unfold checkN
  simp only [show ¬ (3 = 2) by omega, if_false, if_true]
  by_cases hh : m.length < 3 ∨ (m.getD 1 0).toNat < (if c = 224 then 160 else 128) ∨ (if c = 237 then 159 else 191) < (m.getD 1 0).toNat ∨ (m.getD 2 0).toNat < 128 ∨ 191 < (m.getD 2 0).toNat
  · rw [if_pos hh, if_pos hh]
  · rw [if_neg hh, if_neg hh]
theorem lead4 (m : List UInt8) (hne : m ≠ []) (c : Nat) (ec : (m.getD 0 0).toNat = c) (h : 240 ≤ c ∧ c ≤ 244) :
    validD m = if m.length < 4 ∨ (m.getD 1 0).toNat < (if c = 240 then 144 else 128) ∨ (if c = 244 then 143 else 191) < (m.getD 1 0).toNat ∨ (m.getD 2 0).toNat < 128 ∨ 191 < (m.getD 2 0).toNat ∨ (m.getD 3 0).toNat < 128 ∨ 191 < (m.getD 3 0).toNat then false else validD (m.drop 4) := by
  rw [validD_lead m hne (by rw [ec]; omega), ec]
  have hf : firstT c % 8 = 4 ∧ accLo (firstT c / 16) = (if c = 240 then 144 else 128) ∧ accHi (firstT c / 16) = (if c = 244 then 143 else 191) := by
    rcases (by omega : c = 240 ∨ c = 241 ∨ c = 242 ∨ c = 243 ∨ c = 244) with rfl | rfl | rfl | rfl | rfl <;> decide
  rw [hf.1, hf.2.1, hf.2.2]
  unfold checkN
  simp only [show ¬ (4 = 2) by omega, show ¬ (4 = 3) by omega, if_false, if_true]
  by_cases hh : m.length < 4 ∨ (m.getD 1 0).toNat < (if c = 240 then 144 else 128) ∨ (if c = 244 then 143 else 191) < (m.getD 1 0).toNat ∨ (m.getD 2 0).toNat < 128 ∨ 191 < (m.getD 2 0).toNat ∨ (m.getD 3 0).toNat < 128 ∨ 191 < (m.getD 3 0).toNat
  · rw [if_pos hh, if_pos hh]
  · rw [if_neg hh, if_neg hh]
/-- a byte of what stands behind place k -/
theorem drop_get (s : ByteArray) (k j : Nat) (h : k + j < s.size) : ((s.data.toList.drop k).getD j 0) = s[k + j] := by
  have h' : k + j < s.data.toList.length := by simpa using h
  rw [List.getD_eq_getElem?_getD, List.getElem?_drop, List.getElem?_eq_getElem h']
  rfl
/-- what the reference's Utf8 sees at place k, told by the bytes' numbers -/
structure At (s : ByteArray) (k : Nat) (A : Bool) : Prop where
  asc : ∀ (h : k < s.size), s[k].toNat < 128 → validD (s.data.toList.drop (k + 1)) = A
  bad : ∀ (h : k < s.size), ((128 ≤ s[k].toNat ∧ s[k].toNat < 194) ∨ 245 ≤ s[k].toNat) → A = false
  two0 : ∀ (h : k < s.size), 194 ≤ s[k].toNat → s[k].toNat ≤ 223 → s.size ≤ k + 1 → A = false
  two1 : ∀ (h : k < s.size) (h1 : k + 1 < s.size), 194 ≤ s[k].toNat → s[k].toNat ≤ 223 → (s[k + 1].toNat < 128 ∨ 191 < s[k + 1].toNat) → A = false
  two : ∀ (h : k < s.size) (h1 : k + 1 < s.size), 194 ≤ s[k].toNat → s[k].toNat ≤ 223 → (128 ≤ s[k + 1].toNat ∧ s[k + 1].toNat ≤ 191) → validD (s.data.toList.drop (k + 2)) = A
  three0 : ∀ (h : k < s.size), 224 ≤ s[k].toNat → s[k].toNat ≤ 239 → s.size ≤ k + 2 → A = false
  three1 : ∀ (h : k < s.size) (h1 : k + 1 < s.size) (h2 : k + 2 < s.size), 224 ≤ s[k].toNat → s[k].toNat ≤ 239 →
    ((s[k].toNat = 224 ∧ s[k + 1].toNat < 160) ∨ (s[k].toNat = 237 ∧ 159 < s[k + 1].toNat) ∨ s[k + 1].toNat < 128 ∨ 191 < s[k + 1].toNat ∨ s[k + 2].toNat < 128 ∨ 191 < s[k + 2].toNat) → A = false
  three : ∀ (h : k < s.size) (h1 : k + 1 < s.size) (h2 : k + 2 < s.size), 224 ≤ s[k].toNat → s[k].toNat ≤ 239 →
    ((s[k].toNat = 224 → 160 ≤ s[k + 1].toNat) ∧ (s[k].toNat = 237 → s[k + 1].toNat ≤ 159) ∧ 128 ≤ s[k + 1].toNat ∧ s[k + 1].toNat ≤ 191 ∧ 128 ≤ s[k + 2].toNat ∧ s[k + 2].toNat ≤ 191) → validD (s.data.toList.drop (k + 3)) = A
  four0 : ∀ (h : k < s.size), 240 ≤ s[k].toNat → s[k].toNat ≤ 244 → s.size ≤ k + 3 → A = false
  four1 : ∀ (h : k < s.size) (h1 : k + 1 < s.size) (h2 : k + 2 < s.size) (h3 : k + 3 < s.size), 240 ≤ s[k].toNat → s[k].toNat ≤ 244 →
    ((s[k].toNat = 240 ∧ s[k + 1].toNat < 144) ∨ (s[k].toNat = 244 ∧ 143 < s[k + 1].toNat) ∨ s[k + 1].toNat < 128 ∨ 191 < s[k + 1].toNat ∨ s[k + 2].toNat < 128 ∨ 191 < s[k + 2].toNat ∨ s[k + 3].toNat < 128 ∨ 191 < s[k + 3].toNat) → A = false
  four : ∀ (h : k < s.size) (h1 : k + 1 < s.size) (h2 : k + 2 < s.size) (h3 : k + 3 < s.size), 240 ≤ s[k].toNat → s[k].toNat ≤ 244 →
    ((s[k].toNat = 240 → 144 ≤ s[k + 1].toNat) ∧ (s[k].toNat = 244 → s[k + 1].toNat ≤ 143) ∧ 128 ≤ s[k + 1].toNat ∧ s[k + 1].toNat ≤ 191 ∧ 128 ≤ s[k + 2].toNat ∧ s[k + 2].toNat ≤ 191 ∧ 128 ≤ s[k + 3].toNat ∧ s[k + 3].toNat ≤ 191) → validD (s.data.toList.drop (k + 4)) = A
theorem at_of (s : ByteArray) (k : Nat) (A : Bool) (hA : validD (s.data.toList.drop k) = A) : At s k A := by
  have hlen : (s.data.toList.drop k).length = s.size - k := by rw [List.length_drop]; simp
  have hne : k < s.size → s.data.toList.drop k ≠ [] := fun h e => by rw [e] at hlen; simp at hlen; omega
  have e0 : ∀ (h : k < s.size), ((s.data.toList.drop k).getD 0 0) = s[k] := fun h => drop_get s k 0 h
  have ed : ∀ j, (s.data.toList.drop k).drop j = s.data.toList.drop (k + j) := fun j => by rw [List.drop_drop]
  constructor
  · intro h hc
    have hl := hne h
    cases e : s.data.toList.drop k with
    | nil => exact absurd e hl
    | cons b t =>
      have hb : b = s[k] := by rw [← e0 h, e]; rfl
      rw [e, validD_cons b t (by rw [hb]; exact hc)] at hA
      rw [← ed 1, e]
      exact hA
  · intro h hc
    rw [← hA]
    exact lead_bad _ (hne h) _ (by rw [e0 h]) hc
  · intro h h1 h2 hs
    rw [← hA, lead2 _ (hne h) _ (by rw [e0 h]) ⟨h1, h2⟩, if_pos (.inl (by rw [hlen]; omega))]
  · intro h hk h1 h2 hb
    rw [← hA, lead2 _ (hne h) _ (by rw [e0 h]) ⟨h1, h2⟩, drop_get s k 1 hk, if_pos (.inr hb)]
  · intro h hk h1 h2 hb
    rw [lead2 _ (hne h) _ (by rw [e0 h]) ⟨h1, h2⟩, hlen, drop_get s k 1 hk, ed, if_neg (by omega)] at hA
    exact hA
  · intro h h1 h2 hs
    rw [← hA, lead3 _ (hne h) _ (by rw [e0 h]) ⟨h1, h2⟩, if_pos (.inl (by rw [hlen]; omega))]
  · intro h hk1 hk2 h1 h2 hb
    rw [← hA, lead3 _ (hne h) _ (by rw [e0 h]) ⟨h1, h2⟩, drop_get s k 1 hk1, drop_get s k 2 hk2, if_pos]
    right
    rcases Decidable.em (s[k].toNat = 224) with g1 | g1
    · rw [if_pos g1, if_neg (by omega)]; omega
    · rw [if_neg g1]
      rcases Decidable.em (s[k].toNat = 237) with g2 | g2
      · rw [if_pos g2]; omega
      · rw [if_neg g2]; omega
  · intro h hk1 hk2 h1 h2 hb
    rw [lead3 _ (hne h) _ (by rw [e0 h]) ⟨h1, h2⟩, hlen, drop_get s k 1 hk1, drop_get s k 2 hk2, ed, if_neg] at hA
    · exact hA
    · rcases Decidable.em (s[k].toNat = 224) with g1 | g1
      · rw [if_pos g1, if_neg (by omega)]; omega
      · rw [if_neg g1]
        rcases Decidable.em (s[k].toNat = 237) with g2 | g2
        · rw [if_pos g2]; omega
        · rw [if_neg g2]; omega
  · intro h h1 h2 hs
    rw [← hA, lead4 _ (hne h) _ (by rw [e0 h]) ⟨h1, h2⟩, if_pos (.inl (by rw [hlen]; omega))]
  · intro h hk1 hk2 hk3 h1 h2 hb
    rw [← hA, lead4 _ (hne h) _ (by rw [e0 h]) ⟨h1, h2⟩, drop_get s k 1 hk1, drop_get s k 2 hk2, drop_get s k 3 hk3, if_pos]
    right
    rcases Decidable.em (s[k].toNat = 240) with g1 | g1
    · rw [if_pos g1, if_neg (by omega)]; omega
    · rw [if_neg g1]
      rcases Decidable.em (s[k].toNat = 244) with g2 | g2
      · rw [if_pos g2]; omega
      · rw [if_neg g2]; omega
  · intro h hk1 hk2 hk3 h1 h2 hb
    rw [lead4 _ (hne h) _ (by rw [e0 h]) ⟨h1, h2⟩, hlen, drop_get s k 1 hk1, drop_get s k 2 hk2, drop_get s k 3 hk3, ed, if_neg] at hA
    · exact hA
    · rcases Decidable.em (s[k].toNat = 240) with g1 | g1
      · rw [if_pos g1, if_neg (by omega)]; omega
      · rw [if_neg g1]
        rcases Decidable.em (s[k].toNat = 244) with g2 | g2
        · rw [if_pos g2]; omega
        · rw [if_neg g2]; omega
end Go.Proofs.YtgheopdadfnilaaGreatDoor.V
