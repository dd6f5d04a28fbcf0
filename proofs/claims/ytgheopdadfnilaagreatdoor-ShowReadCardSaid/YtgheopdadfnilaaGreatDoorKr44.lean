/- Both read the same, of any text; Both Read, of any text; counterpaneref5.EqCell of what they answer; ShowRead, walked, over what the statements begin with; (*st. -/
import Derived.Test.YtgheopdadfnilaaGreatDoorKr43
import Derived.Test.YtgheopdadfnilaaGreatDoorKr34
import Derived.Test.YtgheopdadfnilaaGreatDoorKr29
import Derived.Test.YtgheopdadfnilaaGreatDoorKr12
import Derived.Lib.AppendStr
import Derived.Test.YtgheopdadfnilaaGreatDoorKr24
import Derived.Test.YtgheopdadfnilaaGreatDoorKr22
set_option linter.unusedVariables false
set_option linter.unusedSimpArgs false
set_option maxRecDepth 100000
namespace Go.Proofs.YtgheopdadfnilaaGreatDoor
open Go.RowKit
set_option maxHeartbeats 8000000 in
theorem rparse_many (s : ByteArray) (W : World) (hs : s.size ≤ 100000) (L : List Wd) (n f : Nat) (r : Ex × St) (hn : scanL s.data.toList = (some L, n)) (hpt : treeF EE L f 1 ⟨0, false, 0⟩ = some r) (hb : r.2.bd = false) (hk : kAt L r.2.i = 7) (hn2 : 200 < r.2.n) :
    Calls Tryz.prog 13 #[.string s] W fun e W' => RepR W (zeroE, 3) e W' := by
  have HZ := hid (tb_new W (.int .i64 0) (.int .i64 0) (.string ⟨#[]⟩) (.bool false) (.int .i64 0) (.slice none 0 0) (.slice none 0 0) 26)
  have HSc := hid (fun W1 => rscan_any s W1 hs)
  have HN := hid hn
  obtain ⟨hpos, hr, hE, hG, hK, hz⟩ := scan_good hn
  have HPr := hid (fun W1 p b off cap (g : PS W1 p L b off cap 0 false 0) => (ref_all L hE hG hK hr hz p b off cap f).1 1 ⟨0, false, 0⟩ r W1 (by omega) (by omega) hpt g hpos (Nat.le_refl _))
  have hF := ((fwd_all EE L hE f).1 _ _ _ (by omega) hpt hpos).1
  have hil : r.2.i < L.length := hF.lt
  have hnl : r.2.n ≤ 50000 := by have h1 := hF.nd; have h2 := hF.lt; simp at h1; omega
  have HDp := hid (fun W1 v (h : Rd W1 r.1 v) => depth_any 51 r.1 v W1 51 rfl (by omega) h)
  have hdl := dp_le 51 r.1
  have hkg := kAt_get hil
  clear hn hF
  go_enter Tryz.func13, Tryz.ntmps13
  go_upto_region 6 with (first | (go_at_call 37; refine (HSc.out _).mono ?_; rintro e w1 ⟨h1, q1⟩; rw [HN.out] at h1; obtain ⟨sv, h1', hsl⟩ := ScanRet.some h1; subst h1'; obtain ⟨b, off, cap, hsw⟩ := sw_of hsl hpos; obtain rfl := hsw.ev; have Q1 : Hid (Q W w1) := hid (Q.trans (by repeat (first | with_reducible exact Q.refl _ | with_reducible refine Q.drewN ?_ _ | with_reducible refine Q.drew ?_ | with_reducible refine Q.alloc ?_ _ | with_reducible refine Q.setCell ?_ (by simp) _)) q1); have hs1 : W.heap.size < w1.heap.size := (by have := q1.size; simp at this; omega); have Z1 := hid (HZ.out.on (p := W.heap.size + 1) (Qx.of q1) (by omega)); have P1 : Hid (PS (w1.alloc (.cells #[.slice (some ⟨b, off, none⟩) L.length cap, .int .i64 0, .bool false, .int .i64 0] 71)) w1.heap.size L b off cap 0 false 0) := hid (ps_new w1 L b off cap hsw hpos); clear q1 h1 hsl hsw) | (go_at_call 38; refine (HPr.out _ _ _ _ _ P1.out).mono ?_; rintro e w2 ⟨v, rfl, hr2, q2, p2⟩; obtain ⟨k, m, t, bb, er, a1, l1, c1, a2, l2, c2, rfl⟩ := hr2.shape; have R2 := hid hr2; have Q2 := hid q2; have P2 := hid (p2.on ((Q.refl _).alloc (.cells #[.int .i64 k, .int .i64 m, .string t, .bool bb, .int .i64 er, .slice a1 l1 c1, .slice a2 l2 c2] 26))); have Z2 := hid (((Z1.out.on (p := w1.heap.size) ((Qx.refl _ _).alloc _) (by omega)).on q2 (by omega)).on (p := w1.heap.size) ((Qx.refl _ _).alloc (.cells #[.int .i64 k, .int .i64 m, .string t, .bool bb, .int .i64 er, .slice a1 l1 c1, .slice a2 l2 c2] 26)) (by omega)); have X2 := hid (tb_new w2 (.int .i64 k) (.int .i64 m) (.string t) (.bool bb) (.int .i64 er) (.slice a1 l1 c1) (.slice a2 l2 c2) 26); have hs2 : w1.heap.size < w2.heap.size := (by have := q2.size; simp at this; omega); have QW : Hid (Q W (w2.alloc (.cells #[.int .i64 k, .int .i64 m, .string t, .bool bb, .int .i64 er, .slice a1 l1 c1, .slice a2 l2 c2] 26))) := hid (((Q1.out.alloc _).viax q2 (by omega)).alloc _); clear hr2 q2 p2))
  obtain ⟨V2, hV2, P2v, Z2v, X2v, QWv, RV, hsv⟩ : ∃ V2, V2 = w2.alloc (.cells #[.int .i64 k, .int .i64 m, .string t, .bool bb, .int .i64 er, .slice a1 l1 c1, .slice a2 l2 c2] 26) ∧ PS V2 w1.heap.size L b off cap r.2.i r.2.bd r.2.n ∧ Tb V2 W.heap.size (.int .i64 0) (.int .i64 0) (.string ⟨#[]⟩) (.bool false) (.int .i64 0) (.slice none 0 0) (.slice none 0 0) ∧ Tb V2 w2.heap.size (.int .i64 k) (.int .i64 m) (.string t) (.bool bb) (.int .i64 er) (.slice a1 l1 c1) (.slice a2 l2 c2) ∧ Q W V2 ∧ Rdg (fun b => W.heap.size + 1 ≤ b) V2 r.1 (.agg #[.int .i64 k, .int .i64 m, .string t, .bool bb, .int .i64 er, .slice a1 l1 c1, .slice a2 l2 c2]) ∧ w2.heap.size < V2.heap.size :=
    ⟨_, rfl, P2.out, Z2.out, X2.out, QW.out, Rdg.on (p := W.heap.size) ((Qx.refl _ _).alloc _) (fun b hb => by omega) _ _ (Rdg.mono (fun b hb => by simp at hb; omega) _ _ R2.out), by simp⟩
  rw [← hV2]
  have P2h := hid P2v
  have Z2h := hid Z2v
  have X2h := hid X2v
  have QWh := hid QWv
  have RVh := hid RV
  have c0 := P2v.c0
  have c1' := P2v.c1
  have c2' := P2v.c2
  have c3 := P2v.c3
  have v0 := P2v.sw.k r.2.i hil
  rw [← hkg.1] at v0
  have n0 := X2v.g0
  have n1 := X2v.g1
  have n2 := X2v.g2
  have n3 := X2v.g3
  have n4 := X2v.g4
  have n5 := X2v.g5
  have n6 := X2v.g6
  have d0 := Z2v.g0
  have d1 := Z2v.g1
  have d2 := Z2v.g2
  have d3 := Z2v.g3
  have d4 := Z2v.g4
  have d5 := Z2v.g5
  have d6 := Z2v.g6
  have y0 := Z2v.f 0
  have y1 := Z2v.f 1
  have y2 := Z2v.f 2
  have y3 := Z2v.f 3
  have y4 := Z2v.f 4
  have y5 := Z2v.f 5
  have y6 := Z2v.f 6
  clear hV2 P2v Z2v X2v QWv RV P2 Z2 X2 QW R2 hkg
  rw [hb] at c2'
  rw [hk] at v0
  have c200 : (200 : Int) < (r.2.n : Int) := by omega
  go_quiet (fail)
  go_wp2_with fail
  refine bodyPost_ret (v := .tuple #[.agg #[.int .i64 0, .int .i64 0, .string ⟨#[]⟩, .bool false, .int .i64 0, .slice none 0 0, .slice none 0 0], .int .i64 3]) (by simp [results, Tryz.results13, go_sem, d0, d1, d2, d3, d4, d5, d6]) rfl ?_
  exact ⟨_, rfl, rdz _ _, Q.setCell (Q.setCell (Q.setCell (Q.setCell (Q.setCell (Q.setCell (Q.setCell (QWh.out.drewN _) (Nat.le_refl _) _) (Nat.le_refl _) _) (Nat.le_refl _) _) (Nat.le_refl _) _) (Nat.le_refl _) _) (Nat.le_refl _) _) (Nat.le_refl _) _⟩
set_option maxHeartbeats 8000000 in
theorem rparse_deep (s : ByteArray) (W : World) (hs : s.size ≤ 100000) (L : List Wd) (n f : Nat) (r : Ex × St) (hn : scanL s.data.toList = (some L, n)) (hpt : treeF EE L f 1 ⟨0, false, 0⟩ = some r) (hb : r.2.bd = false) (hk : kAt L r.2.i = 7) (hn2 : ¬ 200 < r.2.n) (hd : 50 < dp 51 r.1) :
    Calls Tryz.prog 13 #[.string s] W fun e W' => RepR W (zeroE, 3) e W' := by
  have HZ := hid (tb_new W (.int .i64 0) (.int .i64 0) (.string ⟨#[]⟩) (.bool false) (.int .i64 0) (.slice none 0 0) (.slice none 0 0) 26)
  have HSc := hid (fun W1 => rscan_any s W1 hs)
  have HN := hid hn
  obtain ⟨hpos, hr, hE, hG, hK, hz⟩ := scan_good hn
  have HPr := hid (fun W1 p b off cap (g : PS W1 p L b off cap 0 false 0) => (ref_all L hE hG hK hr hz p b off cap f).1 1 ⟨0, false, 0⟩ r W1 (by omega) (by omega) hpt g hpos (Nat.le_refl _))
  have hF := ((fwd_all EE L hE f).1 _ _ _ (by omega) hpt hpos).1
  have hil : r.2.i < L.length := hF.lt
  have hnl : r.2.n ≤ 50000 := by have h1 := hF.nd; have h2 := hF.lt; simp at h1; omega
  have HDp := hid (fun W1 v (h : Rd W1 r.1 v) => depth_any 51 r.1 v W1 51 rfl (by omega) h)
  have hdl := dp_le 51 r.1
  have hkg := kAt_get hil
  clear hn hF
  go_enter Tryz.func13, Tryz.ntmps13
  go_upto_region 6 with (first | (go_at_call 37; refine (HSc.out _).mono ?_; rintro e w1 ⟨h1, q1⟩; rw [HN.out] at h1; obtain ⟨sv, h1', hsl⟩ := ScanRet.some h1; subst h1'; obtain ⟨b, off, cap, hsw⟩ := sw_of hsl hpos; obtain rfl := hsw.ev; have Q1 : Hid (Q W w1) := hid (Q.trans (by repeat (first | with_reducible exact Q.refl _ | with_reducible refine Q.drewN ?_ _ | with_reducible refine Q.drew ?_ | with_reducible refine Q.alloc ?_ _ | with_reducible refine Q.setCell ?_ (by simp) _)) q1); have hs1 : W.heap.size < w1.heap.size := (by have := q1.size; simp at this; omega); have Z1 := hid (HZ.out.on (p := W.heap.size + 1) (Qx.of q1) (by omega)); have P1 : Hid (PS (w1.alloc (.cells #[.slice (some ⟨b, off, none⟩) L.length cap, .int .i64 0, .bool false, .int .i64 0] 71)) w1.heap.size L b off cap 0 false 0) := hid (ps_new w1 L b off cap hsw hpos); clear q1 h1 hsl hsw) | (go_at_call 38; refine (HPr.out _ _ _ _ _ P1.out).mono ?_; rintro e w2 ⟨v, rfl, hr2, q2, p2⟩; obtain ⟨k, m, t, bb, er, a1, l1, c1, a2, l2, c2, rfl⟩ := hr2.shape; have R2 := hid hr2; have Q2 := hid q2; have P2 := hid (p2.on ((Q.refl _).alloc (.cells #[.int .i64 k, .int .i64 m, .string t, .bool bb, .int .i64 er, .slice a1 l1 c1, .slice a2 l2 c2] 26))); have Z2 := hid (((Z1.out.on (p := w1.heap.size) ((Qx.refl _ _).alloc _) (by omega)).on q2 (by omega)).on (p := w1.heap.size) ((Qx.refl _ _).alloc (.cells #[.int .i64 k, .int .i64 m, .string t, .bool bb, .int .i64 er, .slice a1 l1 c1, .slice a2 l2 c2] 26)) (by omega)); have X2 := hid (tb_new w2 (.int .i64 k) (.int .i64 m) (.string t) (.bool bb) (.int .i64 er) (.slice a1 l1 c1) (.slice a2 l2 c2) 26); have hs2 : w1.heap.size < w2.heap.size := (by have := q2.size; simp at this; omega); have QW : Hid (Q W (w2.alloc (.cells #[.int .i64 k, .int .i64 m, .string t, .bool bb, .int .i64 er, .slice a1 l1 c1, .slice a2 l2 c2] 26))) := hid (((Q1.out.alloc _).viax q2 (by omega)).alloc _); clear hr2 q2 p2))
  obtain ⟨V2, hV2, P2v, Z2v, X2v, QWv, RV, hsv⟩ : ∃ V2, V2 = w2.alloc (.cells #[.int .i64 k, .int .i64 m, .string t, .bool bb, .int .i64 er, .slice a1 l1 c1, .slice a2 l2 c2] 26) ∧ PS V2 w1.heap.size L b off cap r.2.i r.2.bd r.2.n ∧ Tb V2 W.heap.size (.int .i64 0) (.int .i64 0) (.string ⟨#[]⟩) (.bool false) (.int .i64 0) (.slice none 0 0) (.slice none 0 0) ∧ Tb V2 w2.heap.size (.int .i64 k) (.int .i64 m) (.string t) (.bool bb) (.int .i64 er) (.slice a1 l1 c1) (.slice a2 l2 c2) ∧ Q W V2 ∧ Rdg (fun b => W.heap.size + 1 ≤ b) V2 r.1 (.agg #[.int .i64 k, .int .i64 m, .string t, .bool bb, .int .i64 er, .slice a1 l1 c1, .slice a2 l2 c2]) ∧ w2.heap.size < V2.heap.size :=
    ⟨_, rfl, P2.out, Z2.out, X2.out, QW.out, Rdg.on (p := W.heap.size) ((Qx.refl _ _).alloc _) (fun b hb => by omega) _ _ (Rdg.mono (fun b hb => by simp at hb; omega) _ _ R2.out), by simp⟩
  rw [← hV2]
  have P2h := hid P2v
  have Z2h := hid Z2v
  have X2h := hid X2v
  have QWh := hid QWv
  have RVh := hid RV
  have c0 := P2v.c0
  have c1' := P2v.c1
  have c2' := P2v.c2
  have c3 := P2v.c3
  have v0 := P2v.sw.k r.2.i hil
  rw [← hkg.1] at v0
  have n0 := X2v.g0
  have n1 := X2v.g1
  have n2 := X2v.g2
  have n3 := X2v.g3
  have n4 := X2v.g4
  have n5 := X2v.g5
  have n6 := X2v.g6
  have d0 := Z2v.g0
  have d1 := Z2v.g1
  have d2 := Z2v.g2
  have d3 := Z2v.g3
  have d4 := Z2v.g4
  have d5 := Z2v.g5
  have d6 := Z2v.g6
  have y0 := Z2v.f 0
  have y1 := Z2v.f 1
  have y2 := Z2v.f 2
  have y3 := Z2v.f 3
  have y4 := Z2v.f 4
  have y5 := Z2v.f 5
  have y6 := Z2v.f 6
  clear hV2 P2v Z2v X2v QWv RV P2 Z2 X2 QW R2 hkg
  rw [hb] at c2'
  rw [hk] at v0
  have c200 : ¬ (200 : Int) < (r.2.n : Int) := by omega
  have cd : (50 : Int) < (dp 51 r.1 : Int) := by omega
  generalize dp 51 r.1 = dd at HDp cd hdl hd
  go_quiet (fail)
  go_wp2_with (go_at_call 39; refine (HDp.out _ _ (Rd.on ((Q.refl _).drewN _) _ _ (Rdg.rd _ _ RVh.out))).mono ?_; rintro e w4 ⟨rfl, q4⟩; have Q4 : Hid (Q V2 w4) := hid (((Q.refl _).drewN _).trans q4); have X4 := hid (X2h.out.on (p := w1.heap.size) (Qx.of Q4.out) (by omega)); have Z4 := hid (Z2h.out.on (p := w1.heap.size) (Qx.of Q4.out) (by omega)); clear q4; have e0 := Z4.out.g0; have e1 := Z4.out.g1; have e2 := Z4.out.g2; have e3 := Z4.out.g3; have e4 := Z4.out.g4; have e5 := Z4.out.g5; have e6 := Z4.out.g6; have f0 := Z4.out.f 0; have f1 := Z4.out.f 1; have f2 := Z4.out.f 2; have f3 := Z4.out.f 3; have f4 := Z4.out.f 4; have f5 := Z4.out.f 5; have f6 := Z4.out.f 6)
  refine bodyPost_ret (v := .tuple #[.agg #[.int .i64 0, .int .i64 0, .string ⟨#[]⟩, .bool false, .int .i64 0, .slice none 0 0, .slice none 0 0], .int .i64 3]) (by simp [results, Tryz.results13, go_sem, e0, e1, e2, e3, e4, e5, e6]) rfl ?_
  exact ⟨_, rfl, rdz _ _, Q.setCell (Q.setCell (Q.setCell (Q.setCell (Q.setCell (Q.setCell (Q.setCell (QWh.out.trans Q4.out) (Nat.le_refl _) _) (Nat.le_refl _) _) (Nat.le_refl _) _) (Nat.le_refl _) _) (Nat.le_refl _) _) (Nat.le_refl _) _) (Nat.le_refl _) _⟩
set_option maxHeartbeats 8000000 in
theorem rparse_ok (s : ByteArray) (W : World) (hs : s.size ≤ 100000) (L : List Wd) (n f : Nat) (r : Ex × St) (hn : scanL s.data.toList = (some L, n)) (hpt : treeF EE L f 1 ⟨0, false, 0⟩ = some r) (hb : r.2.bd = false) (hk : kAt L r.2.i = 7) (hn2 : ¬ 200 < r.2.n) (hd : ¬ 50 < dp 51 r.1) :
    Calls Tryz.prog 13 #[.string s] W fun e W' => RepR W (r.1, 0) e W' := by
  have HZ := hid (tb_new W (.int .i64 0) (.int .i64 0) (.string ⟨#[]⟩) (.bool false) (.int .i64 0) (.slice none 0 0) (.slice none 0 0) 26)
  have HSc := hid (fun W1 => rscan_any s W1 hs)
  have HN := hid hn
  obtain ⟨hpos, hr, hE, hG, hK, hz⟩ := scan_good hn
  have HPr := hid (fun W1 p b off cap (g : PS W1 p L b off cap 0 false 0) => (ref_all L hE hG hK hr hz p b off cap f).1 1 ⟨0, false, 0⟩ r W1 (by omega) (by omega) hpt g hpos (Nat.le_refl _))
  have hF := ((fwd_all EE L hE f).1 _ _ _ (by omega) hpt hpos).1
  have hil : r.2.i < L.length := hF.lt
  have hnl : r.2.n ≤ 50000 := by have h1 := hF.nd; have h2 := hF.lt; simp at h1; omega
  have HDp := hid (fun W1 v (h : Rd W1 r.1 v) => depth_any 51 r.1 v W1 51 rfl (by omega) h)
  have hdl := dp_le 51 r.1
  have hkg := kAt_get hil
  clear hn hF
  go_enter Tryz.func13, Tryz.ntmps13
  go_upto_region 6 with (first | (go_at_call 37; refine (HSc.out _).mono ?_; rintro e w1 ⟨h1, q1⟩; rw [HN.out] at h1; obtain ⟨sv, h1', hsl⟩ := ScanRet.some h1; subst h1'; obtain ⟨b, off, cap, hsw⟩ := sw_of hsl hpos; obtain rfl := hsw.ev; have Q1 : Hid (Q W w1) := hid (Q.trans (by repeat (first | with_reducible exact Q.refl _ | with_reducible refine Q.drewN ?_ _ | with_reducible refine Q.drew ?_ | with_reducible refine Q.alloc ?_ _ | with_reducible refine Q.setCell ?_ (by simp) _)) q1); have hs1 : W.heap.size < w1.heap.size := (by have := q1.size; simp at this; omega); have Z1 := hid (HZ.out.on (p := W.heap.size + 1) (Qx.of q1) (by omega)); have P1 : Hid (PS (w1.alloc (.cells #[.slice (some ⟨b, off, none⟩) L.length cap, .int .i64 0, .bool false, .int .i64 0] 71)) w1.heap.size L b off cap 0 false 0) := hid (ps_new w1 L b off cap hsw hpos); clear q1 h1 hsl hsw) | (go_at_call 38; refine (HPr.out _ _ _ _ _ P1.out).mono ?_; rintro e w2 ⟨v, rfl, hr2, q2, p2⟩; obtain ⟨k, m, t, bb, er, a1, l1, c1, a2, l2, c2, rfl⟩ := hr2.shape; have R2 := hid hr2; have Q2 := hid q2; have P2 := hid (p2.on ((Q.refl _).alloc (.cells #[.int .i64 k, .int .i64 m, .string t, .bool bb, .int .i64 er, .slice a1 l1 c1, .slice a2 l2 c2] 26))); have Z2 := hid (((Z1.out.on (p := w1.heap.size) ((Qx.refl _ _).alloc _) (by omega)).on q2 (by omega)).on (p := w1.heap.size) ((Qx.refl _ _).alloc (.cells #[.int .i64 k, .int .i64 m, .string t, .bool bb, .int .i64 er, .slice a1 l1 c1, .slice a2 l2 c2] 26)) (by omega)); have X2 := hid (tb_new w2 (.int .i64 k) (.int .i64 m) (.string t) (.bool bb) (.int .i64 er) (.slice a1 l1 c1) (.slice a2 l2 c2) 26); have hs2 : w1.heap.size < w2.heap.size := (by have := q2.size; simp at this; omega); have QW : Hid (Q W (w2.alloc (.cells #[.int .i64 k, .int .i64 m, .string t, .bool bb, .int .i64 er, .slice a1 l1 c1, .slice a2 l2 c2] 26))) := hid (((Q1.out.alloc _).viax q2 (by omega)).alloc _); clear hr2 q2 p2))
  obtain ⟨V2, hV2, P2v, Z2v, X2v, QWv, RV, hsv⟩ : ∃ V2, V2 = w2.alloc (.cells #[.int .i64 k, .int .i64 m, .string t, .bool bb, .int .i64 er, .slice a1 l1 c1, .slice a2 l2 c2] 26) ∧ PS V2 w1.heap.size L b off cap r.2.i r.2.bd r.2.n ∧ Tb V2 W.heap.size (.int .i64 0) (.int .i64 0) (.string ⟨#[]⟩) (.bool false) (.int .i64 0) (.slice none 0 0) (.slice none 0 0) ∧ Tb V2 w2.heap.size (.int .i64 k) (.int .i64 m) (.string t) (.bool bb) (.int .i64 er) (.slice a1 l1 c1) (.slice a2 l2 c2) ∧ Q W V2 ∧ Rdg (fun b => W.heap.size + 1 ≤ b) V2 r.1 (.agg #[.int .i64 k, .int .i64 m, .string t, .bool bb, .int .i64 er, .slice a1 l1 c1, .slice a2 l2 c2]) ∧ w2.heap.size < V2.heap.size :=
    ⟨_, rfl, P2.out, Z2.out, X2.out, QW.out, Rdg.on (p := W.heap.size) ((Qx.refl _ _).alloc _) (fun b hb => by omega) _ _ (Rdg.mono (fun b hb => by simp at hb; omega) _ _ R2.out), by simp⟩
  rw [← hV2]
  have P2h := hid P2v
  have Z2h := hid Z2v
  have X2h := hid X2v
  have QWh := hid QWv
  have RVh := hid RV
  have c0 := P2v.c0
  have c1' := P2v.c1
  have c2' := P2v.c2
  have c3 := P2v.c3
  have v0 := P2v.sw.k r.2.i hil
  rw [← hkg.1] at v0
  have n0 := X2v.g0
  have n1 := X2v.g1
  have n2 := X2v.g2
  have n3 := X2v.g3
  have n4 := X2v.g4
  have n5 := X2v.g5
  have n6 := X2v.g6
  have d0 := Z2v.g0
  have d1 := Z2v.g1
  have d2 := Z2v.g2
  have d3 := Z2v.g3
  have d4 := Z2v.g4
  have d5 := Z2v.g5
  have d6 := Z2v.g6
  have y0 := Z2v.f 0
  have y1 := Z2v.f 1
  have y2 := Z2v.f 2
  have y3 := Z2v.f 3
  have y4 := Z2v.f 4
  have y5 := Z2v.f 5
  have y6 := Z2v.f 6
  clear hV2 P2v Z2v X2v QWv RV P2 Z2 X2 QW R2 hkg
  rw [hb] at c2'
  rw [hk] at v0
  have c200 : ¬ (200 : Int) < (r.2.n : Int) := by omega
  have cd : ¬ (50 : Int) < (dp 51 r.1 : Int) := by omega
  generalize dp 51 r.1 = dd at HDp cd hdl hd
  go_quiet (fail)
  go_wp2_with (go_at_call 39; refine (HDp.out _ _ (Rd.on ((Q.refl _).drewN _) _ _ (Rdg.rd _ _ RVh.out))).mono ?_; rintro e w4 ⟨rfl, q4⟩; have Q4 : Hid (Q V2 w4) := hid (((Q.refl _).drewN _).trans q4); have X4 := hid (X2h.out.on (p := w1.heap.size) (Qx.of Q4.out) (by omega)); have Z4 := hid (Z2h.out.on (p := w1.heap.size) (Qx.of Q4.out) (by omega)); clear q4; have e0 := Z4.out.g0; have e1 := Z4.out.g1; have e2 := Z4.out.g2; have e3 := Z4.out.g3; have e4 := Z4.out.g4; have e5 := Z4.out.g5; have e6 := Z4.out.g6; have f0 := Z4.out.f 0; have f1 := Z4.out.f 1; have f2 := Z4.out.f 2; have f3 := Z4.out.f 3; have f4 := Z4.out.f 4; have f5 := Z4.out.f 5; have f6 := Z4.out.f 6; have r0 := X4.out.g0; have r1 := X4.out.g1; have r2 := X4.out.g2; have r3 := X4.out.g3; have r4 := X4.out.g4; have r5 := X4.out.g5; have r6 := X4.out.g6)
  refine bodyPost_ret (v := .tuple #[.agg #[.int .i64 k, .int .i64 m, .string t, .bool bb, .int .i64 er, .slice a1 l1 c1, .slice a2 l2 c2], .int .i64 0]) (by simp [results, Tryz.results13, go_sem, e0, e1, e2, e3, e4, e5, e6]) rfl ?_
  have QF : ∀ Vf : World, Qx W.heap.size w4 Vf → Rdg (fun b => W.heap.size ≤ b) Vf r.1 (.agg #[.int .i64 k, .int .i64 m, .string t, .bool bb, .int .i64 er, .slice a1 l1 c1, .slice a2 l2 c2]) := fun Vf q => Rdg.mono (fun b hb => by omega) _ _ (Rdg.on q (fun b hb => by omega) _ _ (Rdg.on (Qx.of (p := W.heap.size) Q4.out) (fun b hb => by omega) _ _ RVh.out))
  exact ⟨_, rfl, QF _ ((((((((Qx.refl _ _).own _ _).own _ _).own _ _).own _ _).own _ _).own _ _).own _ _), Q.setCell (Q.setCell (Q.setCell (Q.setCell (Q.setCell (Q.setCell (Q.setCell (QWh.out.trans Q4.out) (Nat.le_refl _) _) (Nat.le_refl _) _) (Nat.le_refl _) _) (Nat.le_refl _) _) (Nat.le_refl _) _) (Nat.le_refl _) _) (Nat.le_refl _) _⟩
theorem rparse_text (s : ByteArray) (W : World) (hs : s.size ≤ 100000) (L : List Wd) (n f : Nat) (r : Ex × St) (hn : scanL s.data.toList = (some L, n)) (hpt : treeF EE L f 1 ⟨0, false, 0⟩ = some r) :
    Calls Tryz.prog 13 #[.string s] W fun e W' => RepR W (finS L r) e W' := by
  unfold finS
  cases hb : r.2.bd
  · by_cases hk : kAt L r.2.i = 7
    · rw [if_neg (by rintro (e | e); · cases e
                     · exact e hk)]
      by_cases h2 : 200 < r.2.n
      · rw [if_pos (.inl h2)]
        exact rparse_many s W hs L n f r hn hpt hb hk h2
      · by_cases hd : 50 < dp 51 r.1
        · rw [if_pos (.inr hd)]
          exact rparse_deep s W hs L n f r hn hpt hb hk h2 hd
        · rw [if_neg (by rintro (e | e); · exact h2 e
                         · exact hd e)]
          exact rparse_ok s W hs L n f r hn hpt hb hk h2 hd
    · rw [if_pos (.inr hk)]
      exact rparse_end s W hs L n f r hn hpt hb hk
  · rw [if_pos (.inl rfl)]
    exact rparse_bad s W hs L n f r hn hpt hb
theorem parse_same (s : ByteArray) (hs : s.size ≤ 100000) : ∃ x : Ex × Nat, (∀ W, Std W → Calls Tryz.prog 76 #[.string s] W fun e W' => RepR W x e W') ∧ (∀ W, Calls Tryz.prog 13 #[.string s] W fun e W' => RepR W x e W') := by
  cases hsc : scanL s.data.toList with
  | mk ol n =>
    cases ol with
    | none => exact ⟨(zeroE, 2), fun W hw => pparse_scan s W hw hs n hsc, fun W => rparse_scan s W hs n hsc⟩
    | some L =>
      obtain ⟨hpos, hr, hE, hG, hK, hz⟩ := scan_good hsc
      obtain ⟨f, r, hf⟩ := total_ref EE L hE L.length ⟨0, false, 0⟩ (by simp) hpos 1 (by omega) (by omega)
      obtain ⟨g, o, hg, hag⟩ := (same_all EE L hE hG f).1 1 ⟨0, false, 0⟩ r (by omega) (by omega) hpos rfl hf
      refine ⟨finR L o, fun W hw => pparse_any s W hw hs L n g o hsc hg, fun W => ?_⟩
      have e : finS L r = finR L o := by
        cases o with
        | none =>
          have hb : r.2.bd = true := hag
          unfold finS finR
          rw [if_pos (.inl hb)]
        | some xj =>
          obtain ⟨x, j⟩ := xj
          obtain ⟨h1, h2, h3, h4⟩ := hag
          unfold finS finR
          simp only at h4 ⊢
          rw [h2, h1]
          by_cases hk : kAt L j = 7
          · rw [if_pos hk, if_neg (by rintro (e | e); · rw [h3] at e; cases e
                                      · exact e hk)]
            have hd := dp_shl 50 x
            unfold fitB
            rw [← hd]
            by_cases hn : nodes x ≤ 200
            · by_cases hdd : dp 51 x ≤ 50
              · rw [if_neg (by rintro (e | e) <;> omega), decide_eq_true hn, decide_eq_true hdd]; rfl
              · rw [if_pos (.inr (by omega)), decide_eq_true hn, decide_eq_false hdd]; rfl
            · rw [if_pos (.inl (by omega)), decide_eq_false hn]; rfl
          · rw [if_neg hk, if_pos (.inr hk)]
      rw [← e]
      exact rparse_text s W hs L n f r hsc hf
theorem rread_val (s : ByteArray) (w : World) (hs : s.size ≤ 100000) (hp : Lib.hasPrefix s.data.toList [61] = false) : Calls Tryz.prog 17 #[.string s] w fun e W' => RepC w (valT s.data.toList) e W' := by
  by_cases h0 : 0 < s.size
  · have h61 : s[0] ≠ 61 := fun e => by
      rw [pre_one 61 h0, decide_eq_true e] at hp
      cases hp
    by_cases h39 : s[0] = 39
    · exact rread_quote s w hs h0 h61 h39
    · by_cases hn : V.pf (V.parseO s.data.toList) = true
      · exact rread_num s w hs h0 h61 h39 hn
      · have hn' : V.pf (V.parseO s.data.toList) = false := by simpa using hn
        by_cases h1 : s.data.toList = truW
        · exact rread_true s w hs h0 h61 h39 hn' h1
        · by_cases h2 : s.data.toList = flsW
          · exact rread_false s w hs h0 h61 h39 hn' h2
          · by_cases he : errN s.data.toList = 0
            · by_cases hl : 200 < s.size
              · exact rread_long s w hs h0 h61 h39 hn' h1 h2 he hl
              · by_cases hu : Lib.validD s.data.toList = true
                · exact rread_text s w hs h0 h61 h39 hn' h1 h2 he hl hu
                · exact rread_bad s w hs h0 h61 h39 hn' h1 h2 he hl (by simpa using hu)
            · exact rread_name s w hs h0 h61 h39 hn' h1 h2 he
  · exact rread_empty s w hs (by omega)
theorem read_same (s : ByteArray) (hs : s.size ≤ 100000) : ∃ r : Cl × Nat, (∀ W, Std W → Calls Tryz.prog 16 #[.string s] W fun e W' => RepC W r e W') ∧ (∀ W, Calls Tryz.prog 17 #[.string s] W fun e W' => RepC W r e W') := by
  by_cases hp : Lib.hasPrefix s.data.toList [61] = true
  · have h0 : 0 < s.size := by
      rcases Nat.eq_zero_or_pos s.size with h | h
      · have : s.data.toList = [] := List.eq_nil_of_length_eq_zero (by rw [len_data]; exact h)
        rw [this] at hp
        cases hp
      · exact h
    have h61 : s[0] = 61 := by
      rw [pre_one 61 h0] at hp
      simpa using hp
    obtain ⟨T, hT⟩ : ∃ T, s.extract 1 s.size = T := ⟨_, rfl⟩
    have hTl : T.data.toList = s.data.toList.drop 1 := by rw [← hT]; exact cut_one s
    have hT2 : (⟨(s.data.toList.drop 1).toArray⟩ : ByteArray) = T := by rw [← hTl, bytes_of]
    obtain ⟨x, h1, h2⟩ := parse_same T (by rw [← len_data, hTl, List.length_drop, len_data]; omega)
    exact ⟨frm x, fun W hw => read_eq s T x W hw hp hT2 (hid h1), fun W => rread_eq s T x W hs h0 h61 hT (hid h2)⟩
  · have hp' : Lib.hasPrefix s.data.toList [61] = false := by simpa using hp
    exact ⟨valT s.data.toList, fun W hw => read_val s W hw hs hp', fun W => rread_val s W hs hp'⟩
theorem Ans.t {p : Prop} {e : Ending} (h : Ans p e) (hp : p) : e = .returned (.bool true) := by
  obtain ⟨r, he, hr⟩ := h
  rw [he, hr.2 hp]
set_option maxHeartbeats 4000000 in
theorem eqcell_same (c : Cl) (v v' : Value) (B B' : Nat) (w : World) (h : RdC B w c v) (h' : RdC B' w c v') : Calls Tryz.prog 18 #[v, v'] w fun e W' => e = .returned (.bool true) ∧ Q w W' := by
  obtain ⟨k, m, t, bb, er, a1, l1, c1, a2, l2, c2, rfl, hr⟩ := h
  obtain ⟨k', m', t', bb', er', a1', l1', c1', a2', l2', c2', rfl, hr'⟩ := h'
  obtain ⟨f, ⟨vk, vn, vt, vb, ve⟩, X⟩ := c
  simp only at hr hr' ⊢
  generalize (⟨vt.toArray⟩ : ByteArray) = tt
  have HV := hid (fun W' => req_same vk vn tt vb ve W')
  have HE := hid (fun W' (q : Q w W') => (eqexpr_any (SizeOf.sizeOf X) X X _ _ W' (Nat.le_refl _) (Rd.on q _ _ (Rdg.rd _ _ hr)) (Rd.on q _ _ (Rdg.rd _ _ hr'))).mono fun e w3 h => (⟨h.1.t rfl, h.2⟩ : e = .returned (.bool true) ∧ Q W' w3))
  have ef : (f == f) = true := by simp
  clear hr hr'
  go_enter Tryz.func18, Tryz.ntmps18
  go_upto_region 1 with fail
  have Z1 := hid ((cb_new w [.bool f, .int .i64 vk, .int .i64 vn, .string tt, .bool vb, .int .i64 ve, .int .i64 k, .int .i64 m, .string t, .bool bb, .int .i64 er, .slice a1 l1 c1, .slice a2 l2 c2] 39).on ((Q.refl _).alloc (.cells #[.bool f, .int .i64 vk, .int .i64 vn, .string tt, .bool vb, .int .i64 ve, .int .i64 k', .int .i64 m', .string t', .bool bb', .int .i64 er', .slice a1' l1' c1', .slice a2' l2' c2'] 39)))
  have Z2 := hid (cb_new (w.alloc (.cells #[.bool f, .int .i64 vk, .int .i64 vn, .string tt, .bool vb, .int .i64 ve, .int .i64 k, .int .i64 m, .string t, .bool bb, .int .i64 er, .slice a1 l1 c1, .slice a2 l2 c2] 39)) [.bool f, .int .i64 vk, .int .i64 vn, .string tt, .bool vb, .int .i64 ve, .int .i64 k', .int .i64 m', .string t', .bool bb', .int .i64 er', .slice a1' l1' c1', .slice a2' l2' c2'] 39)
  have QA : Hid (Q w ((w.alloc (.cells #[.bool f, .int .i64 vk, .int .i64 vn, .string tt, .bool vb, .int .i64 ve, .int .i64 k, .int .i64 m, .string t, .bool bb, .int .i64 er, .slice a1 l1 c1, .slice a2 l2 c2] 39)).alloc (.cells #[.bool f, .int .i64 vk, .int .i64 vn, .string tt, .bool vb, .int .i64 ve, .int .i64 k', .int .i64 m', .string t', .bool bb', .int .i64 er', .slice a1' l1' c1', .slice a2' l2' c2'] 39))) := hid (((Q.refl w).alloc _).alloc _)
  rw [show ([.bool f, .int .i64 vk, .int .i64 vn, .string tt, .bool vb, .int .i64 ve, .int .i64 k, .int .i64 m, .string t, .bool bb, .int .i64 er, .slice a1 l1 c1, .slice a2 l2 c2] : List Value).toArray = #[.bool f, .int .i64 vk, .int .i64 vn, .string tt, .bool vb, .int .i64 ve, .int .i64 k, .int .i64 m, .string t, .bool bb, .int .i64 er, .slice a1 l1 c1, .slice a2 l2 c2] from rfl] at Z1
  rw [show ([.bool f, .int .i64 vk, .int .i64 vn, .string tt, .bool vb, .int .i64 ve, .int .i64 k', .int .i64 m', .string t', .bool bb', .int .i64 er', .slice a1' l1' c1', .slice a2' l2' c2'] : List Value).toArray = #[.bool f, .int .i64 vk, .int .i64 vn, .string tt, .bool vb, .int .i64 ve, .int .i64 k', .int .i64 m', .string t', .bool bb', .int .i64 er', .slice a1' l1' c1', .slice a2' l2' c2'] from rfl, show (w.alloc (.cells #[.bool f, .int .i64 vk, .int .i64 vn, .string tt, .bool vb, .int .i64 ve, .int .i64 k, .int .i64 m, .string t, .bool bb, .int .i64 er, .slice a1 l1 c1, .slice a2 l2 c2] 39)).heap.size = w.heap.size + 1 by simp] at Z2
  generalize (w.alloc (.cells #[.bool f, .int .i64 vk, .int .i64 vn, .string tt, .bool vb, .int .i64 ve, .int .i64 k, .int .i64 m, .string t, .bool bb, .int .i64 er, .slice a1 l1 c1, .slice a2 l2 c2] 39)).alloc (.cells #[.bool f, .int .i64 vk, .int .i64 vn, .string tt, .bool vb, .int .i64 ve, .int .i64 k', .int .i64 m', .string t', .bool bb', .int .i64 er', .slice a1' l1' c1', .slice a2' l2' c2'] 39) = w2 at Z1 Z2 QA ⊢
  generalize w.heap.size + 1 = b1 at Z2 ⊢
  generalize w.heap.size = b0 at Z1 ⊢
  have d0 := Z1.out.c 0 _ rfl
  have d1 := Z1.out.c 1 _ rfl
  have d2 := Z1.out.c 2 _ rfl
  have d3 := Z1.out.c 3 _ rfl
  have d4 := Z1.out.c 4 _ rfl
  have d5 := Z1.out.c 5 _ rfl
  have d6 := Z1.out.c 6 _ rfl
  have d7 := Z1.out.c 7 _ rfl
  have d8 := Z1.out.c 8 _ rfl
  have d9 := Z1.out.c 9 _ rfl
  have d10 := Z1.out.c 10 _ rfl
  have d11 := Z1.out.c 11 _ rfl
  have d12 := Z1.out.c 12 _ rfl
  have n0 := Z2.out.c 0 _ rfl
  have n1 := Z2.out.c 1 _ rfl
  have n2 := Z2.out.c 2 _ rfl
  have n3 := Z2.out.c 3 _ rfl
  have n4 := Z2.out.c 4 _ rfl
  have n5 := Z2.out.c 5 _ rfl
  have n6 := Z2.out.c 6 _ rfl
  have n7 := Z2.out.c 7 _ rfl
  have n8 := Z2.out.c 8 _ rfl
  have n9 := Z2.out.c 9 _ rfl
  have n10 := Z2.out.c 10 _ rfl
  have n11 := Z2.out.c 11 _ rfl
  have n12 := Z2.out.c 12 _ rfl
  go_wp2_with (first | (go_at_call 49; refine (HV.out _).mono ?_; rintro e9 w3 ⟨rfl, q3⟩; have Z13 := hid (Z1.out.on q3); have Z23 := hid (Z2.out.on q3); have Q3 : Hid (Q w w3) := hid (QA.out.trans q3); clear q3; have x0 := Z13.out.c 0 _ rfl; have x1 := Z13.out.c 1 _ rfl; have x2 := Z13.out.c 2 _ rfl; have x3 := Z13.out.c 3 _ rfl; have x4 := Z13.out.c 4 _ rfl; have x5 := Z13.out.c 5 _ rfl; have x6 := Z13.out.c 6 _ rfl; have x7 := Z13.out.c 7 _ rfl; have x8 := Z13.out.c 8 _ rfl; have x9 := Z13.out.c 9 _ rfl; have x10 := Z13.out.c 10 _ rfl; have x11 := Z13.out.c 11 _ rfl; have x12 := Z13.out.c 12 _ rfl; have y0 := Z23.out.c 0 _ rfl; have y1 := Z23.out.c 1 _ rfl; have y2 := Z23.out.c 2 _ rfl; have y3 := Z23.out.c 3 _ rfl; have y4 := Z23.out.c 4 _ rfl; have y5 := Z23.out.c 5 _ rfl; have y6 := Z23.out.c 6 _ rfl; have y7 := Z23.out.c 7 _ rfl; have y8 := Z23.out.c 8 _ rfl; have y9 := Z23.out.c 9 _ rfl; have y10 := Z23.out.c 10 _ rfl; have y11 := Z23.out.c 11 _ rfl; have y12 := Z23.out.c 12 _ rfl) | (go_at_call 14; refine (HE.out _ Q3.out).mono ?_; rintro e9 w4 ⟨rfl, q4⟩; have Q4 : Hid (Q w w4) := hid (Q3.out.trans q4); clear q4))
  go_ret
  exact ⟨rfl, Q4.out⟩
theorem RdC.onq {B : Nat} {W W' : World} {c : Cl} {v : Value} (h : RdC B W c v) (q : Q W W') (hB : 0 < B) : RdC B W' c v := h.on (Qx.of (p := 0) q) hB
set_option maxHeartbeats 4000000 in
theorem showread_of (s : ByteArray) (W : World) (hg : Std W) (HB : Hid (Calls Tryz.prog 8 #[] W fun e W' => e = .returned (.bool true) ∧ Q W W')) : Calls Tryz.prog 4 #[.string s] W fun e W' => e = .returned (.bool true) ∧ Q W W' := by
  have HS := hid (fun W' => short_any s 1100 W' (by omega) (by omega))
  obtain ⟨S, hS⟩ : ∃ S, (if (1100 : Int) < (s.size : Int) then s.extract 0 (1100 : Int).toNat else s) = S := ⟨_, rfl⟩
  have hlen : S.size ≤ 100000 := by
    rw [← hS]
    split
    · rw [ByteArray.size_extract]; omega
    · omega
  rw [hS] at HS
  obtain ⟨⟨c, er0⟩, h16, h17⟩ := read_same S hlen
  have H16 := hid h16
  have H17 := hid h17
  have HG := hid hg
  obtain ⟨f, ⟨vk, vn, vt, vb, ve⟩, X⟩ := c
  clear hS hlen h16 h17 hg
  go_enter Tryz.func4, Tryz.ntmps4
  go_upto_region 6 with (first | (go_at_call 8; refine HB.out.mono ?_; rintro e9 w1 ⟨rfl, q1⟩; have Q1 := hid q1; clear q1) | (go_at_call 15; refine (HS.out _).mono ?_; rintro e9 w2 ⟨rfl, h2⟩; replace h2 := h2.symm; subst h2) | (go_at_call 16; refine (H16.out _ (HG.out.on Q1.out)).mono ?_; rintro e9 w3 ⟨v, rfl, hr, q3⟩; have hr0 := hid hr; obtain ⟨k, m, t, bb, er, a1, l1, c1, a2, l2, c2, rfl, _⟩ := hr; have R3 := hr0; have Q3 := hid q3; clear q3 hr0))
  have hB1 : 0 < w1.heap.size := Nat.lt_of_le_of_lt (Nat.zero_le _) (HG.out.on Q1.out).big
  have Z4 := hid (cb_new w3 [.bool f, .int .i64 vk, .int .i64 vn, .string ⟨vt.toArray⟩, .bool vb, .int .i64 ve, .int .i64 k, .int .i64 m, .string t, .bool bb, .int .i64 er, .slice a1 l1 c1, .slice a2 l2 c2] 39)
  have R4 := hid (R3.out.onq ((Q.refl w3).alloc (.cells #[.bool f, .int .i64 vk, .int .i64 vn, .string ⟨vt.toArray⟩, .bool vb, .int .i64 ve, .int .i64 k, .int .i64 m, .string t, .bool bb, .int .i64 er, .slice a1 l1 c1, .slice a2 l2 c2] 39)) hB1)
  have Q4 := hid ((Q1.out.trans Q3.out).alloc (.cells #[.bool f, .int .i64 vk, .int .i64 vn, .string ⟨vt.toArray⟩, .bool vb, .int .i64 ve, .int .i64 k, .int .i64 m, .string t, .bool bb, .int .i64 er, .slice a1 l1 c1, .slice a2 l2 c2] 39))
  rw [show ([.bool f, .int .i64 vk, .int .i64 vn, .string ⟨vt.toArray⟩, .bool vb, .int .i64 ve, .int .i64 k, .int .i64 m, .string t, .bool bb, .int .i64 er, .slice a1 l1 c1, .slice a2 l2 c2] : List Value).toArray = #[.bool f, .int .i64 vk, .int .i64 vn, .string ⟨vt.toArray⟩, .bool vb, .int .i64 ve, .int .i64 k, .int .i64 m, .string t, .bool bb, .int .i64 er, .slice a1 l1 c1, .slice a2 l2 c2] from rfl] at Z4
  generalize w3.alloc (.cells #[.bool f, .int .i64 vk, .int .i64 vn, .string ⟨vt.toArray⟩, .bool vb, .int .i64 ve, .int .i64 k, .int .i64 m, .string t, .bool bb, .int .i64 er, .slice a1 l1 c1, .slice a2 l2 c2] 39) = w4 at Z4 R4 Q4 ⊢
  generalize w3.heap.size = b4 at Z4 ⊢
  have he : ((er0 : Int) == (er0 : Int)) = true := by simp
  have hB4 : 0 < w4.heap.size := Nat.lt_of_le_of_lt (Nat.zero_le _) Z4.out.l
  clear R3 Q3
  go_upto_region 7 with (go_at_call 17; refine (H17.out _).mono ?_; rintro e9 w5 ⟨v, rfl, hr, q5⟩; have hr0 := hid hr; obtain ⟨k', m', t', bb', er', a1', l1', c1', a2', l2', c2', rfl, _⟩ := hr; have R5 := hr0; have Q5 := hid q5; clear q5 hr0)
  have Z6 := hid (cb_new w5 [.bool f, .int .i64 vk, .int .i64 vn, .string ⟨vt.toArray⟩, .bool vb, .int .i64 ve, .int .i64 k', .int .i64 m', .string t', .bool bb', .int .i64 er', .slice a1' l1' c1', .slice a2' l2' c2'] 39)
  have Z46 := hid (Z4.out.on (Q5.out.alloc (.cells #[.bool f, .int .i64 vk, .int .i64 vn, .string ⟨vt.toArray⟩, .bool vb, .int .i64 ve, .int .i64 k', .int .i64 m', .string t', .bool bb', .int .i64 er', .slice a1' l1' c1', .slice a2' l2' c2'] 39)))
  have R46 := hid (R4.out.onq (Q5.out.alloc (.cells #[.bool f, .int .i64 vk, .int .i64 vn, .string ⟨vt.toArray⟩, .bool vb, .int .i64 ve, .int .i64 k', .int .i64 m', .string t', .bool bb', .int .i64 er', .slice a1' l1' c1', .slice a2' l2' c2'] 39)) hB1)
  have R6 := hid (R5.out.onq ((Q.refl w5).alloc (.cells #[.bool f, .int .i64 vk, .int .i64 vn, .string ⟨vt.toArray⟩, .bool vb, .int .i64 ve, .int .i64 k', .int .i64 m', .string t', .bool bb', .int .i64 er', .slice a1' l1' c1', .slice a2' l2' c2'] 39)) hB4)
  have Q6 := hid ((Q4.out.trans Q5.out).alloc (.cells #[.bool f, .int .i64 vk, .int .i64 vn, .string ⟨vt.toArray⟩, .bool vb, .int .i64 ve, .int .i64 k', .int .i64 m', .string t', .bool bb', .int .i64 er', .slice a1' l1' c1', .slice a2' l2' c2'] 39))
  rw [show ([.bool f, .int .i64 vk, .int .i64 vn, .string ⟨vt.toArray⟩, .bool vb, .int .i64 ve, .int .i64 k', .int .i64 m', .string t', .bool bb', .int .i64 er', .slice a1' l1' c1', .slice a2' l2' c2'] : List Value).toArray = #[.bool f, .int .i64 vk, .int .i64 vn, .string ⟨vt.toArray⟩, .bool vb, .int .i64 ve, .int .i64 k', .int .i64 m', .string t', .bool bb', .int .i64 er', .slice a1' l1' c1', .slice a2' l2' c2'] from rfl] at Z6
  generalize w5.alloc (.cells #[.bool f, .int .i64 vk, .int .i64 vn, .string ⟨vt.toArray⟩, .bool vb, .int .i64 ve, .int .i64 k', .int .i64 m', .string t', .bool bb', .int .i64 er', .slice a1' l1' c1', .slice a2' l2' c2'] 39) = w6 at Z6 Z46 R46 R6 Q6 ⊢
  generalize w5.heap.size = b6 at Z6 ⊢
  have HE := hid (eqcell_same _ _ _ _ _ w6 R46.out R6.out)
  generalize (⟨vt.toArray⟩ : ByteArray) = tt at Z46 Z6 HE ⊢
  have d0 := Z46.out.c 0 _ rfl
  have d1 := Z46.out.c 1 _ rfl
  have d2 := Z46.out.c 2 _ rfl
  have d3 := Z46.out.c 3 _ rfl
  have d4 := Z46.out.c 4 _ rfl
  have d5 := Z46.out.c 5 _ rfl
  have d6 := Z46.out.c 6 _ rfl
  have d7 := Z46.out.c 7 _ rfl
  have d8 := Z46.out.c 8 _ rfl
  have d9 := Z46.out.c 9 _ rfl
  have d10 := Z46.out.c 10 _ rfl
  have d11 := Z46.out.c 11 _ rfl
  have d12 := Z46.out.c 12 _ rfl
  have n0 := Z6.out.c 0 _ rfl
  have n1 := Z6.out.c 1 _ rfl
  have n2 := Z6.out.c 2 _ rfl
  have n3 := Z6.out.c 3 _ rfl
  have n4 := Z6.out.c 4 _ rfl
  have n5 := Z6.out.c 5 _ rfl
  have n6 := Z6.out.c 6 _ rfl
  have n7 := Z6.out.c 7 _ rfl
  have n8 := Z6.out.c 8 _ rfl
  have n9 := Z6.out.c 9 _ rfl
  have n10 := Z6.out.c 10 _ rfl
  have n11 := Z6.out.c 11 _ rfl
  have n12 := Z6.out.c 12 _ rfl
  go_wp2_with (go_at_call 18; refine HE.out.mono ?_; rintro e9 w7 ⟨rfl, q7⟩; have Q7 := hid q7; clear q7)
  go_ret
  exact ⟨rfl, Q6.out.trans Q7.out⟩
def Kp (W W' : World) : Prop := ∀ (i : Nat) (c : Array Value) (f : Nat × Nat), W.heap[i]? = some (.cells c 26 f) → W'.heap[i]? = W.heap[i]?
theorem Kp.refl (W : World) : Kp W W := fun _ _ _ _ => rfl
theorem Kp.trans {a b c : World} (h : Kp a b) (k : Kp b c) : Kp a c := fun i x f hx => (k i x f ((h i x f hx).trans hx)).trans (h i x f hx)
theorem heap_lt {W : World} {i : Nat} {o : Obj} (h : W.heap[i]? = some o) : i < W.heap.size := by
  rcases Nat.lt_or_ge i W.heap.size with h' | h'
  · exact h'
  · rw [Array.getElem?_eq_none h'] at h
    cases h
theorem Kp.of {a b : World} (q : Q a b) : Kp a b := fun i _ _ hx => Q.block q (heap_lt hx)
theorem kp_set {W : World} {b : Nat} {c : Array Value} {f : Nat × Nat} (hb : W.heap[b]? = some (.cells c 54 f)) (j : Nat) (v : Value) : Kp W (W.setCell ⟨b, j, none⟩ v) := fun i c' f' hx => by
  refine Below.heap_setCell _ _ _ _ ?_
  rintro rfl
  rw [hb] at hx
  cases hx
theorem check_kp (B b : Nat) (bs : List Value) (w : World) (h : Lib.IsBuilder 54 5 B b bs w) :
    Calls Tryz.prog 94 #[.pointer (some ⟨b, 0, none⟩)] w fun e w' => e = .returned (.tuple #[]) ∧ Lib.BuilderAt 54 5 B b (.pointer (some ⟨b, 0, none⟩)) bs w' ∧ Below B w w' ∧ Kp w w' := by
  rcases h with h | h
  · refine (check_new b w h.cell0 h.shape h.frozen0).mono ?_
    rintro e w' ⟨rfl, rfl⟩
    obtain ⟨v, hb, _⟩ := h.2
    exact ⟨rfl, h.used _, (Below.refl B w).setCell (p := ⟨b, 0, none⟩) h.1 _, kp_set hb 0 _⟩
  · refine (check_used b w h.cell0).mono ?_
    rintro e w' ⟨rfl, rfl⟩
    exact ⟨rfl, h, Below.refl B _, Kp.refl _⟩
set_option maxHeartbeats 2000000 in
theorem writeString_any (B b : Nat) (bs : List Value) (s : ByteArray) (w : World) (h : Lib.IsBuilder 54 5 B b bs w) (hs : 0 < s.size) (hlen : bs.length + s.size ≤ 1000000) (hBw : B ≤ w.heap.size) :
    Calls Tryz.prog 58 #[.pointer (some ⟨b, 0, none⟩), .string s] w fun e w' => (∃ v, e = .returned v) ∧ Lib.BuilderAt 54 5 B b (.pointer (some ⟨b, 0, none⟩)) (bs ++ Lib.strCells s) w' ∧ Below B w w' ∧ Kp w w' := by
  obtain ⟨i0, hi, hz0, hz1, hz2⟩ := inf_of info5
  have HC := hid (check_kp B b bs w h)
  clear h
  go_enter Tryz.func58, Tryz.ntmps58
  go_wp2_with (go_at_call 94; refine HC.out.mono ?_)
  rintro e w1 ⟨rfl, h1, hb1, hk1⟩
  obtain ⟨hB, v, hbk, hown, hne⟩ := h1
  have c0 : w1.cell? ⟨b, 0, none⟩ = some (.pointer (some ⟨b, 0, none⟩)) := by rw [Lib.cell_of_heap hbk]; rfl
  have c1 : w1.cell? ⟨b, 1, none⟩ = some v := by rw [Lib.cell_of_heap hbk]; rfl
  go_wp2_with (at_builtin; (refine Lib.wpList_append_own_string _ rfl _ _ 52 9 rfl B 5 i0 Tryz.underlying52 Tryz.underlying9 hi hz0 hz1 hz2 _ _ _ rfl hown s rfl (by unfold maxLen; omega) (by omega) (by have := hb1.size; omega) ?_))
  intro v' w2 hown' hgrow _
  have hlt : b < w1.heap.size := by
    rcases Nat.lt_or_ge b w1.heap.size with h' | h'
    · exact h'
    · simp [Array.getElem?_eq_none h'] at hbk
  have hb2 : w2.heap[b]? = some (.cells #[.pointer (some ⟨b, 0, none⟩), v] 54 (0, 0)) := by
    rw [hgrow.block b (by omega) (fun e => hne e.symm)]
    exact hbk
  have d0 : w2.cell? ⟨b, 0, none⟩ = some (.pointer (some ⟨b, 0, none⟩)) := by rw [Lib.cell_of_heap hb2]; rfl
  have d1 : w2.cell? ⟨b, 1, none⟩ = some v := by rw [Lib.cell_of_heap hb2]; rfl
  have f1 : w2.frozen? ⟨b, 1, none⟩ = false := Lib.frozen_of_heap hb2 1
  obtain ⟨g, cap, rfl⟩ : ∃ g cap, v' = .slice (some ⟨g, 0, none⟩) (bs.length + s.size) cap := by
    rcases hown'.2 with ⟨_, h0⟩ | ⟨g, cap, cur, hv, _⟩
    · omega
    · exact ⟨g, cap, hv⟩
  go_wp2
  go_ret2
  refine ⟨⟨_, rfl⟩, ?_, ?_, ?_⟩
  · exact Lib.BuilderAt.put (T := 54) (e := 5) hB hb2 (bs' := bs ++ Lib.strCells s) (by rw [List.length_append, Lib.strCells_length]; exact hown') (by decide)
  · exact (hb1.grown hgrow (by have := hb1.size; omega) (fun k hk => (hown.lt k hk).1)).setCell (p := ⟨b, 1, none⟩) hB _
  · have hk2 : Kp w1 w2 := fun i c f hx => hgrow.block i (heap_lt hx) (fun e => by
      rcases hown.2 with ⟨hv, _⟩ | ⟨g9, cap9, cur9, hv, _, hg9, _⟩
      · rw [hv] at e
        cases e
      · rw [hv] at e
        have : i = g9 := Option.some.inj e
        subst this
        rw [hg9] at hx
        cases hx)
    exact (hk1.trans hk2).trans (kp_set hb2 1 _)
theorem ifmt_small (i : Nat) (h : i < 100) (w : World) : Calls Tryz.prog 168 #[.int .u64 (i : Int), .int .i64 10] w fun e w' => e = .returned (.string ⟨(Lib.decDigits i).toArray⟩) ∧ w' = w := by
  have HS := hid (Tryz.internal_strconv_small i h w)
  generalize (⟨(Lib.decDigits i).toArray⟩ : ByteArray) = T at HS ⊢
  have g1 : (i : Int) < 100 := by omega
  go_enter Tryz.func168, Tryz.ntmps168
  go_wp2_with (go_at_call 157; refine HS.out.mono ?_; rintro e9 w9 ⟨rfl, h9⟩; replace h9 := h9.symm; subst h9)
  go_ret
  exact ⟨rfl, rfl⟩
theorem fmt_small (i : Nat) (h : i < 100) (w : World) : Calls Tryz.prog 148 #[.int .u64 (i : Int), .int .i64 10] w fun e w' => e = .returned (.string ⟨(Lib.decDigits i).toArray⟩) ∧ w' = w := by
  have HS := hid (ifmt_small i h w)
  generalize (⟨(Lib.decDigits i).toArray⟩ : ByteArray) = T at HS ⊢
  go_enter Tryz.func148, Tryz.ntmps148
  go_wp2_with (go_at_call 168; refine HS.out.mono ?_; rintro e9 w9 ⟨rfl, h9⟩; replace h9 := h9.symm; subst h9)
  go_ret
  exact ⟨rfl, rfl⟩
theorem part_zero (w : World) : Calls Tryz.prog 149 #[.int .u64 0] w fun e w' => e = .returned (.string ⟨#[]⟩) ∧ w' = w := by
  go_enter Tryz.func149, Tryz.ntmps149
  go_wp2
  go_ret
  exact ⟨rfl, rfl⟩
theorem size_pos (n : Int) (w : World) (h : 0 ≤ n) (h' : n ≤ 9223372036854775807) : Calls Tryz.prog 147 #[.int .i64 n] w fun e w' => e = .returned (.int .u64 n) ∧ w' = w := by
  have g : ¬ n < 0 := by omega
  go_enter Tryz.func147, Tryz.ntmps147
  go_wp2
  go_ret
  exact ⟨rfl, rfl⟩
set_option maxHeartbeats 1000000 in
theorem print_small (i : Nat) (h : i < 100) (hd : (Lib.decDigits i).length ≤ 100) (w : World) : Calls Tryz.prog 120 #[.int .i64 ((i : Int) * 10000)] w fun e w' => e = .returned (.string ⟨(Lib.decDigits i).toArray⟩) ∧ w' = w := by
  have H1 := hid (size_pos ((i : Int) * 10000) w (by omega) (by omega))
  have H2 := hid (fmt_small i h w)
  have H3 := hid (part_zero w)
  obtain ⟨T, hT⟩ : ∃ T : ByteArray, (⟨(Lib.decDigits i).toArray⟩ : ByteArray) = T := ⟨_, rfl⟩
  rw [hT] at H2 ⊢
  have hX : T ++ (⟨#[]⟩ : ByteArray) = T := by apply ByteArray.ext; simp
  have hTs : T.size ≤ 1000 := by
    rw [← hT, size_mk]
    omega
  have f1 : ¬ 9223372036854775807 < T.size + 0 := by omega
  have f2 : ¬ 9223372036854775807 < T.size + (⟨#[]⟩ : ByteArray).size := f1
  have e1 : (i : Int) * 10000 / 10000 = (i : Int) := by omega
  have e2 : (i : Int) * 10000 % 10000 = 0 := by omega
  have e3 : ¬ (i : Int) * 10000 < 0 := by omega
  have e4 : ((i : Int) * 10000).tdiv 10000 = (i : Int) := by rw [Int.tdiv_eq_ediv_of_nonneg (by omega)]; omega
  have e5 : ((i : Int) * 10000).tmod 10000 = 0 := by rw [Int.tmod_eq_emod_of_nonneg (by omega)]; omega
  clear hT
  go_enter Tryz.func120, Tryz.ntmps120
  go_wp2_with (first | (go_at_call 147; refine H1.out.mono ?_; rintro e9 w9 ⟨rfl, h9⟩; replace h9 := h9.symm; subst h9) | (go_at_call 148; refine H2.out.mono ?_; rintro e9 w9 ⟨rfl, h9⟩; replace h9 := h9.symm; subst h9) | (go_at_call 149; refine H3.out.mono ?_; rintro e9 w9 ⟨rfl, h9⟩; replace h9 := h9.symm; subst h9))
  go_ret
  exact ⟨rfl, rfl⟩
set_option maxHeartbeats 2000000 in
theorem text_num (n : Int) (T : ByteArray) (w : World) (hw : Std w) (HP : Hid (∀ W, Calls Tryz.prog 120 #[.int .i64 n] W fun e w' => e = .returned (.string T) ∧ w' = W)) : Calls Tryz.prog 90 #[vx 1 n ⟨#[]⟩ false 0] w fun e w' => e = .returned (.tuple #[.string T, .int .i64 0]) ∧ Q w w' := by
  have HF := hid (fun W' (q : Q w W') => fault_any 1 n ⟨#[]⟩ false 0 W' (hw.on q) (by decide))
  have hm : V.mayB 1 n (⟨#[]⟩ : ByteArray).toList false 0 = true := by rw [Lib.toList_data]; simp [V.mayB]
  rw [hm, if_pos rfl] at HF
  clear hw hm
  unfold vx at HF ⊢
  go_enter Tryz.func90, Tryz.ntmps90
  go_wp2_with (first | (go_at_call 115; refine (HF.out _ ((Q.refl _).alloc _)).mono ?_; rintro e9 w1 ⟨rfl, q1⟩; have Q1 : Hid (Q w w1) := hid (((Q.refl _).alloc _).trans q1); have c0 : w1.cell? ⟨w.heap.size, 0, none⟩ = some (.int .i64 1) := (by rw [q1.cell (by simp)]; simp [World.cell?_alloc_new]); have c1 : w1.cell? ⟨w.heap.size, 1, none⟩ = some (.int .i64 n) := (by rw [q1.cell (by simp)]; simp [World.cell?_alloc_new]); clear q1) | (go_at_call 120; refine (HP.out _).mono ?_; rintro e9 w2 ⟨rfl, h9⟩; replace h9 := h9.symm; subst h9))
  go_ret2
  exact ⟨rfl, Q1.out⟩
set_option maxHeartbeats 2000000 in
theorem plain_num (n : Int) (T : ByteArray) (w : World) (hw : Std w) (HP : Hid (∀ W, Calls Tryz.prog 120 #[.int .i64 n] W fun e w' => e = .returned (.string T) ∧ w' = W)) : Calls Tryz.prog 54 #[vx 1 n ⟨#[]⟩ false 0] w fun e w' => e = .returned (.string T) ∧ Q w w' := by
  have HT := hid (fun W' (q : Q w W') => text_num n T W' (hw.on q) HP)
  clear hw
  unfold vx at HT ⊢
  go_enter Tryz.func54, Tryz.ntmps54
  go_wp2_with (go_at_call 90; refine (HT.out _ ((Q.refl _).alloc _)).mono ?_; rintro e9 w1 ⟨rfl, q1⟩; have Q1 : Hid (Q w w1) := hid (((Q.refl _).alloc _).trans q1); clear q1)
  go_ret
  exact ⟨rfl, Q1.out⟩
set_option maxHeartbeats 2000000 in
theorem const_num (n : Int) (t : ByteArray) (b : Bool) (er : Int) (a1 a2 : Option Addr) (l1 c1 l2 c2 : Nat) (w : World) : Calls Tryz.prog 64 #[.agg #[.int .i64 1, .int .i64 n, .string t, .bool b, .int .i64 er, .slice a1 l1 c1, .slice a2 l2 c2]] w fun e w' => e = .returned (vx 1 n ⟨#[]⟩ false 0) ∧ Q w w' := by
  unfold vx
  go_enter Tryz.func64, Tryz.ntmps64
  go_wp2
  refine bodyPost_ret (v := .agg #[.int .i64 1, .int .i64 n, .string ⟨#[]⟩, .bool false, .int .i64 0]) (by simp [results, Tryz.results64, go_sem]) rfl ?_
  exact ⟨rfl, by repeat (first | with_reducible exact Q.refl _ | with_reducible refine Q.alloc ?_ _ | with_reducible refine Q.setCell ?_ (by simp) _)⟩
theorem flat_id (L : List Value) : flat (fun x : Value => [x]) L = L := by unfold flat; simp
theorem BuilderAt_on {T e : TypeId} {B b : Nat} {p : Value} {bs : List Value} {w w' : World} (h : Lib.BuilderAt T e B b p bs w) (q : Q w w') : Lib.BuilderAt T e B b p bs w' := by
  have hl := h.lt
  obtain ⟨hB, v, hb, ho, hne⟩ := h
  refine ⟨hB, v, (Q.block q hl).trans hb, ?_, hne⟩
  have h1 : Own (fun x : Value => [x]) e 1 B w v bs := by unfold Own; rw [flat_id]; exact ho
  have h2 := h1.on q
  unfold Own at h2
  rw [flat_id] at h2
  exact h2
theorem isb_on {T e : TypeId} {B b : Nat} {bs : List Value} {w w' : World} (h : Lib.IsBuilder T e B b bs w) (q : Q w w') : Lib.IsBuilder T e B b bs w' := by
  rcases h with h | h
  · exact .inl (BuilderAt_on h q)
  · exact .inr (BuilderAt_on h q)
def Bd (W0 W : World) (b : Nat) (bs : List UInt8) : Prop := Lib.IsBuilder 54 5 W0.heap.size b (Lib.byteCells bs) W ∧ Q W0 W
theorem Bd.on {W0 W W' : World} {b : Nat} {bs : List UInt8} (h : Bd W0 W b bs) (q : Q W W') : Bd W0 W' b bs := ⟨isb_on h.1 q, h.2.trans q⟩
theorem bd_write {W0 W : World} {b : Nat} {bs : List UInt8} (h : Bd W0 W b bs) (s : ByteArray) (hs : 0 < s.size) (hl : bs.length + s.size ≤ 1000000) : Calls Tryz.prog 58 #[.pointer (some ⟨b, 0, none⟩), .string s] W fun e W' => (∃ u, e = .returned u) ∧ Bd W0 W' b (bs ++ s.data.toList) ∧ Kp W W' := by
  refine (writeString_any W0.heap.size b _ s W h.1 hs (by rw [Lib.byteCells_length]; exact hl) h.2.size).mono ?_
  rintro e w' ⟨hu, h1, h2, h3⟩
  refine ⟨hu, ⟨.inr ?_, Below.trans h.2 h2⟩, h3⟩
  rw [Lib.byteCells_append]
  exact h1
theorem cb_heap {W : World} {q : Nat} {cs : List Value} (h : W.heap[q]? = some (.cells cs.toArray 26 (0, 0))) : Cb W q cs :=
  ⟨fun j u hu => by rw [Lib.cell_of_heap h]; simpa using hu, fun j => Lib.frozen_of_heap h j, heap_lt h⟩
def Wri (x : Ex) (T : List UInt8) : Prop := ∀ (W0 W : World) (b : Nat) (bs : List UInt8) (v : Value), Gd W0 → Bd W0 W b bs → Rd W0 x v → bs.length + T.length ≤ 100000 → Calls Tryz.prog 28 #[.pointer (some ⟨b, 0, none⟩), v] W fun e W' => (∃ u, e = .returned u) ∧ Bd W0 W' b (bs ++ T) ∧ Kp W W'
set_option maxHeartbeats 4000000 in
theorem pr_num (n : Int) (T : ByteArray) (hT : 0 < T.size) (HP : Hid (∀ W, Calls Tryz.prog 120 #[.int .i64 n] W fun e w' => e = .returned (.string T) ∧ w' = W)) : Wri (numE n) T.data.toList := by
  intro W0 W b bs v hg hb hr hl
  obtain ⟨k, m, t, bb, er, a1, l1, c1, a2, l2, c2, rfl⟩ := hr.shape
  obtain ⟨rfl, rfl⟩ : k = 1 ∧ m = n := by
    obtain ⟨k9, n9, t9, b9, e9, rs, ks, rv', kv, ao, cap, hv, hp⟩ := hr.prt
    have hx := hp.ex
    unfold numE at hx
    simp only [Ex.mk.injEq] at hx
    simp at hv
    obtain ⟨rfl, rfl, _⟩ := hv
    exact ⟨hx.1.symm, hx.2.1.symm⟩
  have HG := hid hg
  have HB := hid hb
  have hl' : bs.length + T.size ≤ 1000000 := by rw [← len_data]; omega
  clear hr hg hb hl
  go_enter Tryz.func28, Tryz.ntmps28
  go_upto_region 1 with fail
  have Z1 := hid (cb_new W [.int .i64 1, .int .i64 m, .string t, .bool bb, .int .i64 er, .slice a1 l1 c1, .slice a2 l2 c2] 26)
  have B1 := hid (HB.out.on ((Q.refl W).alloc (.cells #[.int .i64 1, .int .i64 m, .string t, .bool bb, .int .i64 er, .slice a1 l1 c1, .slice a2 l2 c2] 26)))
  rw [show ([.int .i64 1, .int .i64 m, .string t, .bool bb, .int .i64 er, .slice a1 l1 c1, .slice a2 l2 c2] : List Value).toArray = #[.int .i64 1, .int .i64 m, .string t, .bool bb, .int .i64 er, .slice a1 l1 c1, .slice a2 l2 c2] from rfl] at Z1
  have K1 := hid (Kp.of ((Q.refl W).alloc (.cells #[.int .i64 1, .int .i64 m, .string t, .bool bb, .int .i64 er, .slice a1 l1 c1, .slice a2 l2 c2] 26)))
  generalize W.alloc (.cells #[.int .i64 1, .int .i64 m, .string t, .bool bb, .int .i64 er, .slice a1 l1 c1, .slice a2 l2 c2] 26) = W1 at Z1 B1 K1 ⊢
  generalize W.heap.size = b1 at Z1 ⊢
  have d0 := Z1.out.c 0 _ rfl
  have d1 := Z1.out.c 1 _ rfl
  have d2 := Z1.out.c 2 _ rfl
  have d3 := Z1.out.c 3 _ rfl
  have d4 := Z1.out.c 4 _ rfl
  have d5 := Z1.out.c 5 _ rfl
  have d6 := Z1.out.c 6 _ rfl
  have HC := hid (fun W' => const_num m t bb er a1 a2 l1 c1 l2 c2 W')
  have HT := hid (fun W' (g : Std W') => plain_num m T W' g HP)
  unfold vx at HC HT
  go_wp2_with (first | (go_at_call 64; refine (HC.out _).mono ?_; rintro e9 w2 ⟨rfl, q2⟩; have B2 := hid (B1.out.on q2); have K2 := hid (K1.out.trans (Kp.of q2)); clear q2) | (go_at_call 54; refine (HT.out _ (HG.out.on B2.out.2).1).mono ?_; rintro e9 w3 ⟨rfl, q3⟩; have B3 := hid (B2.out.on q3); have K3 := hid (K2.out.trans (Kp.of q3)); clear q3) | (go_at_call 58; refine (bd_write B3.out T hT hl').mono ?_; rintro e9 w4 ⟨⟨u, rfl⟩, b4, k4⟩; have B4 := hid b4; have K4 := hid (K3.out.trans k4); clear b4 k4))
  go_end0
  exact ⟨⟨_, rfl⟩, B4.out, K4.out⟩
def sgE (k : Int) (t : List UInt8) : Nat := if k ≠ 8 then 5 else if t = [42] ∨ t = [47] then 4 else if t = [43] ∨ t = [45] then 3 else if t = [38] then 2 else 1
theorem tl_eq {T : ByteArray} {l : List UInt8} (h : T.data.toList = l) : (T.toList == l) = true := by rw [Lib.toList_data, h]; simp
theorem tl_ne {T : ByteArray} {l : List UInt8} (h : T.data.toList ≠ l) : (T.toList == l) = false := by rw [Lib.toList_data, beq_eq_false_iff_ne]; exact h
set_option maxHeartbeats 2000000 in
theorem strength8 (k n : Int) (t : ByteArray) (b : Bool) (e : Int) (a1 a2 : Option Addr) (l1 c1 l2 c2 : Nat) (w : World) : Calls Tryz.prog 62 #[.agg #[.int .i64 k, .int .i64 n, .string t, .bool b, .int .i64 e, .slice a1 l1 c1, .slice a2 l2 c2]] w fun x w' => x = .returned (.int .i64 (sgE k t.data.toList : Int)) ∧ Q w w' := by
  unfold sgE
  by_cases hk : k ≠ 8
  · rw [if_pos hk]
    have f0 : (k == 8) = false := by simpa using hk
    clear hk
    go_enter Tryz.func62, Tryz.ntmps62
    go_wp2
    go_ret
    exact ⟨rfl, (Q.refl _).alloc _⟩
  · rw [if_neg hk]
    have hk' : k = 8 := by simpa using hk
    subst hk'
    clear hk
    by_cases h1 : t.data.toList = [42]
    · have f1 := tl_eq h1
      rw [if_pos (.inl h1)]
      clear h1
      go_enter Tryz.func62, Tryz.ntmps62
      go_wp2
      go_ret
      exact ⟨rfl, (Q.refl _).alloc _⟩
    · have f1 := tl_ne h1
      by_cases h2 : t.data.toList = [47]
      · have f2 := tl_eq h2
        rw [if_pos (.inr h2)]
        clear h1 h2
        go_enter Tryz.func62, Tryz.ntmps62
        go_wp2
        go_ret
        exact ⟨rfl, (Q.refl _).alloc _⟩
      · have f2 := tl_ne h2
        rw [if_neg (fun e => e.elim h1 h2)]
        by_cases h3 : t.data.toList = [43]
        · have f3 := tl_eq h3
          rw [if_pos (.inl h3)]
          clear h1 h2 h3
          go_enter Tryz.func62, Tryz.ntmps62
          go_wp2
          go_ret
          exact ⟨rfl, (Q.refl _).alloc _⟩
        · have f3 := tl_ne h3
          by_cases h4 : t.data.toList = [45]
          · have f4 := tl_eq h4
            rw [if_pos (.inr h4)]
            clear h1 h2 h3 h4
            go_enter Tryz.func62, Tryz.ntmps62
            go_wp2
            go_ret
            exact ⟨rfl, (Q.refl _).alloc _⟩
          · have f4 := tl_ne h4
            rw [if_neg (fun e => e.elim h3 h4)]
            by_cases h5 : t.data.toList = [38]
            · have f5 := tl_eq h5
              rw [if_pos h5]
              clear h1 h2 h3 h4 h5
              go_enter Tryz.func62, Tryz.ntmps62
              go_wp2
              go_ret
              exact ⟨rfl, (Q.refl _).alloc _⟩
            · have f5 := tl_ne h5
              rw [if_neg h5]
              clear h1 h2 h3 h4 h5
              go_enter Tryz.func62, Tryz.ntmps62
              go_wp2
              go_ret
              exact ⟨rfl, (Q.refl _).alloc _⟩
set_option maxHeartbeats 4000000 in
theorem pr_ref (r : Rf) (hs : r.1.length ≤ 1000) (hT : 0 < (prR r.1 r.2.1 r.2.2.1 r.2.2.2.1 r.2.2.2.2).length) : Wri (refE r) (prR r.1 r.2.1 r.2.2.1 r.2.2.2.1 r.2.2.2.2) := by
  intro W0 W b bs v hg hb hr hl
  obtain ⟨k, m, t, bb, er, rs, ks, rv', kv, ao, cap, rfl, hp⟩ := hr.prt
  have hx := hp.ex
  unfold refE at hx
  simp only [Ex.mk.injEq] at hx
  obtain ⟨rfl, rfl, ht, rfl, rfl, rfl, rfl⟩ := hx
  have hkl := hp.kl
  subst hkl
  obtain ⟨rb, ro, rc, hrv, _, hrc, hra⟩ := hp.rl.at (i := 0) (by simp)
  subst hrv
  obtain ⟨sh, row, col, ra, ca⟩ := r
  simp only at hs hT hl ⊢
  have r0 : W0.cell? ⟨rb, ro, none⟩ = some (.string ⟨sh.toArray⟩) := by have := hra 0 _ rfl; simpa using this
  have r1 : W0.cell? ⟨rb, ro + 1, none⟩ = some (.int .i64 row) := by have := hra 1 _ rfl; simpa using this
  have r2 : W0.cell? ⟨rb, ro + 2, none⟩ = some (.int .i64 col) := by have := hra 2 _ rfl; simpa using this
  have r3 : W0.cell? ⟨rb, ro + 3, none⟩ = some (.bool ra) := by have := hra 3 _ rfl; simpa using this
  have r4 : W0.cell? ⟨rb, ro + 4, none⟩ = some (.bool ca) := by have := hra 4 _ rfl; simpa using this
  have hlt : rb < W0.heap.size := World.block_lt_of_cell? W0 _ r0
  have HG := hid hg
  have HB := hid hb
  have HPr := hid (fun W' (g : Gd W') => print_any ⟨sh.toArray⟩ row col ra ca W' g.1 g.2 (by rw [size_mk]; exact hs))
  obtain ⟨T, hTT⟩ : ∃ T : ByteArray, (⟨(prR sh row col ra ca).toArray⟩ : ByteArray) = T := ⟨_, rfl⟩
  have hTl : T.data.toList = prR sh row col ra ca := by rw [← hTT]
  have hT0 : 0 < T.size := by rw [← len_data, hTl]; exact hT
  have hl' : bs.length + T.size ≤ 1000000 := by rw [← len_data, hTl]; omega
  rw [show (⟨sh.toArray⟩ : ByteArray).data.toList = sh from rfl, hTT] at HPr
  rw [← hTl]
  clear hr hg hb hl hp hra hs hT hTl hTT
  go_enter Tryz.func28, Tryz.ntmps28
  go_upto_region 1 with fail
  have Z1 := hid (cb_new W [.int .i64 5, .int .i64 0, .string t, .bool false, .int .i64 0, .slice (some ⟨rb, ro, none⟩) 1 rc, .slice ao 0 cap] 26)
  have B1 := hid (HB.out.on ((Q.refl W).alloc (.cells #[.int .i64 5, .int .i64 0, .string t, .bool false, .int .i64 0, .slice (some ⟨rb, ro, none⟩) 1 rc, .slice ao 0 cap] 26)))
  rw [show ([.int .i64 5, .int .i64 0, .string t, .bool false, .int .i64 0, .slice (some ⟨rb, ro, none⟩) 1 rc, .slice ao 0 cap] : List Value).toArray = #[.int .i64 5, .int .i64 0, .string t, .bool false, .int .i64 0, .slice (some ⟨rb, ro, none⟩) 1 rc, .slice ao 0 cap] from rfl] at Z1
  have K1 := hid (Kp.of ((Q.refl W).alloc (.cells #[.int .i64 5, .int .i64 0, .string t, .bool false, .int .i64 0, .slice (some ⟨rb, ro, none⟩) 1 rc, .slice ao 0 cap] 26)))
  generalize W.alloc (.cells #[.int .i64 5, .int .i64 0, .string t, .bool false, .int .i64 0, .slice (some ⟨rb, ro, none⟩) 1 rc, .slice ao 0 cap] 26) = W1 at Z1 B1 K1 ⊢
  generalize W.heap.size = b1 at Z1 ⊢
  have d0 := Z1.out.c 0 _ rfl
  have d1 := Z1.out.c 1 _ rfl
  have d2 := Z1.out.c 2 _ rfl
  have d3 := Z1.out.c 3 _ rfl
  have d4 := Z1.out.c 4 _ rfl
  have d5 := Z1.out.c 5 _ rfl
  have d6 := Z1.out.c 6 _ rfl
  have x0 := (B1.out.2.cell hlt).trans r0
  have x1 := (B1.out.2.cell hlt).trans r1
  have x2 := (B1.out.2.cell hlt).trans r2
  have x3 := (B1.out.2.cell hlt).trans r3
  have x4 := (B1.out.2.cell hlt).trans r4
  generalize (⟨sh.toArray⟩ : ByteArray) = S at HPr x0
  unfold rv at HPr
  clear r0 r1 r2 r3 r4
  go_wp2_with (first | (go_at_call 60; refine (HPr.out _ (HG.out.on B1.out.2)).mono ?_; rintro e9 w3 ⟨rfl, q3⟩; have B3 := hid (B1.out.on q3); have K3 := hid (K1.out.trans (Kp.of q3)); clear q3) | (go_at_call 58; refine (bd_write B3.out T hT0 hl').mono ?_; rintro e9 w4 ⟨⟨u, rfl⟩, b4, k4⟩; have B4 := hid b4; have K4 := hid (K3.out.trans k4); clear b4 k4))
  go_end0
  exact ⟨⟨_, rfl⟩, B4.out, K4.out⟩
end Go.Proofs.YtgheopdadfnilaaGreatDoor
