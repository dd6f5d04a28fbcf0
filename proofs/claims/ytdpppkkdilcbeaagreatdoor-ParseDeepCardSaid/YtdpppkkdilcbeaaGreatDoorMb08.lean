/- Both read the same, of any text. ParseAll, walked. -/
import Derived.Test.YtdpppkkdilcbeaaGreatDoorMb07
import Derived.Test.YtdpppkkdilcbeaaGreatDoorMa28
namespace Go.Proofs.YtdpppkkdilcbeaaGreatDoor
open Go.RowKit
set_option linter.unusedVariables false
set_option linter.unusedSimpArgs false


set_option maxRecDepth 100000 in
set_option maxHeartbeats 8000000 in
theorem rparse_many (s : ByteArray) (W : World) (hs : s.size ≤ 100000) (L : List Wd) (n f : Nat) (r : Ex × St) (hn : scanL s.data.toList = (some L, n)) (hpt : treeF EE L f 1 ⟨0, false, 0⟩ = some r) (hb : r.2.bd = false) (hk : kAt L r.2.i = 7) (hn2 : 200 < r.2.n) :
    Calls Tryz.prog 9 #[.string s] W fun e W' => RepR W (zeroE, 3) e W' := by
  have HZ := hid (tb_new W (.int .i64 0) (.int .i64 0) (.string ⟨#[]⟩) (.bool false) (.int .i64 0) (.slice none 0 0) (.slice none 0 0) 28)
  have HSc := hid (fun W1 => rscan_any s W1 hs)
  have HN := hid hn
  obtain ⟨hpos, hr, hE, hG, hK, hz⟩ := scan_good hn
  have HPr := hid (fun W1 p b off cap (g : PS W1 p L b off cap 0 false 0) => (ref_all L hE hG hK hr hz p b off cap f).1 1 ⟨0, false, 0⟩ r W1 (by omega) (by omega) hpt g hpos (Nat.le_refl _))
  have hF := ((fwd_all EE L hE f).1 _ _ _ (by omega) hpt hpos).1
  have hil : r.2.i < L.length := hF.lt
  have hnl : r.2.n ≤ 50000 := by have h1 := hF.nd; have h2 := hF.lt; simp at h1; omega
  have HDp := hid (fun W1 v (h : Rd W1 r.1 v) => depth_any 51 r.1 v W1 51 rfl (by omega) h)
  have hdl := dp_le 51 r.1
  have hkg := kAt_get hil
  clear hn hF
  go_enter Tryz.func9, Tryz.ntmps9
  go_upto_region 6 with (first | (go_at_call 21; refine (HSc.out _).mono ?_; rintro e w1 ⟨h1, q1⟩; rw [HN.out] at h1; obtain ⟨sv, h1', hsl⟩ := ScanRet.some h1; subst h1'; obtain ⟨b, off, cap, hsw⟩ := sw_of hsl hpos; obtain rfl := hsw.ev; have Q1 : Hid (Q W w1) := hid (Q.trans (by repeat (first | with_reducible exact Q.refl _ | with_reducible refine Q.drewN ?_ _ | with_reducible refine Q.drew ?_ | with_reducible refine Q.alloc ?_ _ | with_reducible refine Q.setCell ?_ (by simp) _)) q1); have hs1 : W.heap.size < w1.heap.size := (by have := q1.size; simp at this; omega); have Z1 := hid (HZ.out.on (p := W.heap.size + 1) (Qx.of q1) (by omega)); have P1 : Hid (PS (w1.alloc (.cells #[.slice (some ⟨b, off, none⟩) L.length cap, .int .i64 0, .bool false, .int .i64 0] 54)) w1.heap.size L b off cap 0 false 0) := hid (ps_new w1 L b off cap hsw hpos); clear q1 h1 hsl hsw) | (go_at_call 22; refine (HPr.out _ _ _ _ _ P1.out).mono ?_; rintro e w2 ⟨v, rfl, hr2, q2, p2⟩; obtain ⟨k, m, t, bb, er, a1, l1, c1, a2, l2, c2, rfl⟩ := hr2.shape; have R2 := hid hr2; have Q2 := hid q2; have P2 := hid (p2.on ((Q.refl _).alloc (.cells #[.int .i64 k, .int .i64 m, .string t, .bool bb, .int .i64 er, .slice a1 l1 c1, .slice a2 l2 c2] 28))); have Z2 := hid (((Z1.out.on (p := w1.heap.size) ((Qx.refl _ _).alloc _) (by omega)).on q2 (by omega)).on (p := w1.heap.size) ((Qx.refl _ _).alloc (.cells #[.int .i64 k, .int .i64 m, .string t, .bool bb, .int .i64 er, .slice a1 l1 c1, .slice a2 l2 c2] 28)) (by omega)); have X2 := hid (tb_new w2 (.int .i64 k) (.int .i64 m) (.string t) (.bool bb) (.int .i64 er) (.slice a1 l1 c1) (.slice a2 l2 c2) 28); have hs2 : w1.heap.size < w2.heap.size := (by have := q2.size; simp at this; omega); have QW : Hid (Q W (w2.alloc (.cells #[.int .i64 k, .int .i64 m, .string t, .bool bb, .int .i64 er, .slice a1 l1 c1, .slice a2 l2 c2] 28))) := hid (((Q1.out.alloc _).viax q2 (by omega)).alloc _); clear hr2 q2 p2))
  obtain ⟨V2, hV2, P2v, Z2v, X2v, QWv, RV, hsv⟩ : ∃ V2, V2 = w2.alloc (.cells #[.int .i64 k, .int .i64 m, .string t, .bool bb, .int .i64 er, .slice a1 l1 c1, .slice a2 l2 c2] 28) ∧ PS V2 w1.heap.size L b off cap r.2.i r.2.bd r.2.n ∧ Tb V2 W.heap.size (.int .i64 0) (.int .i64 0) (.string ⟨#[]⟩) (.bool false) (.int .i64 0) (.slice none 0 0) (.slice none 0 0) ∧ Tb V2 w2.heap.size (.int .i64 k) (.int .i64 m) (.string t) (.bool bb) (.int .i64 er) (.slice a1 l1 c1) (.slice a2 l2 c2) ∧ Q W V2 ∧ Rdg (fun b => W.heap.size + 1 ≤ b) V2 r.1 (.agg #[.int .i64 k, .int .i64 m, .string t, .bool bb, .int .i64 er, .slice a1 l1 c1, .slice a2 l2 c2]) ∧ w2.heap.size < V2.heap.size :=
    ⟨_, rfl, P2.out, Z2.out, X2.out, QW.out, Rdg.on (p := W.heap.size) ((Qx.refl _ _).alloc _) (fun b hb => by omega) _ _ (Rdg.mono (fun b hb => by simp at hb; omega) _ _ R2.out), by simp⟩
  rw [← hV2]
  have P2h := hid P2v
  have Z2h := hid Z2v
  have X2h := hid X2v
  have QWh := hid QWv
  have RVh := hid RV
  have c0 := P2v.c0
  have c1' := P2v.c1
  have c2' := P2v.c2
  have c3 := P2v.c3
  have v0 := P2v.sw.k r.2.i hil
  rw [← hkg.1] at v0
  have n0 := X2v.g0
  have n1 := X2v.g1
  have n2 := X2v.g2
  have n3 := X2v.g3
  have n4 := X2v.g4
  have n5 := X2v.g5
  have n6 := X2v.g6
  have d0 := Z2v.g0
  have d1 := Z2v.g1
  have d2 := Z2v.g2
  have d3 := Z2v.g3
  have d4 := Z2v.g4
  have d5 := Z2v.g5
  have d6 := Z2v.g6
  have y0 := Z2v.f 0
  have y1 := Z2v.f 1
  have y2 := Z2v.f 2
  have y3 := Z2v.f 3
  have y4 := Z2v.f 4
  have y5 := Z2v.f 5
  have y6 := Z2v.f 6
  clear hV2 P2v Z2v X2v QWv RV P2 Z2 X2 QW R2 hkg
  rw [hb] at c2'
  rw [hk] at v0
  have c200 : (200 : Int) < (r.2.n : Int) := by omega
  go_quiet (fail)
  go_wp2_with fail
  refine bodyPost_ret (v := .tuple #[.agg #[.int .i64 0, .int .i64 0, .string ⟨#[]⟩, .bool false, .int .i64 0, .slice none 0 0, .slice none 0 0], .int .i64 3]) (by simp [results, Tryz.results9, go_sem, d0, d1, d2, d3, d4, d5, d6]) rfl ?_
  exact ⟨_, rfl, rd_zero _, Q.setCell (Q.setCell (Q.setCell (Q.setCell (Q.setCell (Q.setCell (Q.setCell (QWh.out.drewN _) (Nat.le_refl _) _) (Nat.le_refl _) _) (Nat.le_refl _) _) (Nat.le_refl _) _) (Nat.le_refl _) _) (Nat.le_refl _) _) (Nat.le_refl _) _⟩

set_option maxRecDepth 100000 in
set_option maxHeartbeats 8000000 in
theorem rparse_deep (s : ByteArray) (W : World) (hs : s.size ≤ 100000) (L : List Wd) (n f : Nat) (r : Ex × St) (hn : scanL s.data.toList = (some L, n)) (hpt : treeF EE L f 1 ⟨0, false, 0⟩ = some r) (hb : r.2.bd = false) (hk : kAt L r.2.i = 7) (hn2 : ¬ 200 < r.2.n) (hd : 50 < dp 51 r.1) :
    Calls Tryz.prog 9 #[.string s] W fun e W' => RepR W (zeroE, 3) e W' := by
  have HZ := hid (tb_new W (.int .i64 0) (.int .i64 0) (.string ⟨#[]⟩) (.bool false) (.int .i64 0) (.slice none 0 0) (.slice none 0 0) 28)
  have HSc := hid (fun W1 => rscan_any s W1 hs)
  have HN := hid hn
  obtain ⟨hpos, hr, hE, hG, hK, hz⟩ := scan_good hn
  have HPr := hid (fun W1 p b off cap (g : PS W1 p L b off cap 0 false 0) => (ref_all L hE hG hK hr hz p b off cap f).1 1 ⟨0, false, 0⟩ r W1 (by omega) (by omega) hpt g hpos (Nat.le_refl _))
  have hF := ((fwd_all EE L hE f).1 _ _ _ (by omega) hpt hpos).1
  have hil : r.2.i < L.length := hF.lt
  have hnl : r.2.n ≤ 50000 := by have h1 := hF.nd; have h2 := hF.lt; simp at h1; omega
  have HDp := hid (fun W1 v (h : Rd W1 r.1 v) => depth_any 51 r.1 v W1 51 rfl (by omega) h)
  have hdl := dp_le 51 r.1
  have hkg := kAt_get hil
  clear hn hF
  go_enter Tryz.func9, Tryz.ntmps9
  go_upto_region 6 with (first | (go_at_call 21; refine (HSc.out _).mono ?_; rintro e w1 ⟨h1, q1⟩; rw [HN.out] at h1; obtain ⟨sv, h1', hsl⟩ := ScanRet.some h1; subst h1'; obtain ⟨b, off, cap, hsw⟩ := sw_of hsl hpos; obtain rfl := hsw.ev; have Q1 : Hid (Q W w1) := hid (Q.trans (by repeat (first | with_reducible exact Q.refl _ | with_reducible refine Q.drewN ?_ _ | with_reducible refine Q.drew ?_ | with_reducible refine Q.alloc ?_ _ | with_reducible refine Q.setCell ?_ (by simp) _)) q1); have hs1 : W.heap.size < w1.heap.size := (by have := q1.size; simp at this; omega); have Z1 := hid (HZ.out.on (p := W.heap.size + 1) (Qx.of q1) (by omega)); have P1 : Hid (PS (w1.alloc (.cells #[.slice (some ⟨b, off, none⟩) L.length cap, .int .i64 0, .bool false, .int .i64 0] 54)) w1.heap.size L b off cap 0 false 0) := hid (ps_new w1 L b off cap hsw hpos); clear q1 h1 hsl hsw) | (go_at_call 22; refine (HPr.out _ _ _ _ _ P1.out).mono ?_; rintro e w2 ⟨v, rfl, hr2, q2, p2⟩; obtain ⟨k, m, t, bb, er, a1, l1, c1, a2, l2, c2, rfl⟩ := hr2.shape; have R2 := hid hr2; have Q2 := hid q2; have P2 := hid (p2.on ((Q.refl _).alloc (.cells #[.int .i64 k, .int .i64 m, .string t, .bool bb, .int .i64 er, .slice a1 l1 c1, .slice a2 l2 c2] 28))); have Z2 := hid (((Z1.out.on (p := w1.heap.size) ((Qx.refl _ _).alloc _) (by omega)).on q2 (by omega)).on (p := w1.heap.size) ((Qx.refl _ _).alloc (.cells #[.int .i64 k, .int .i64 m, .string t, .bool bb, .int .i64 er, .slice a1 l1 c1, .slice a2 l2 c2] 28)) (by omega)); have X2 := hid (tb_new w2 (.int .i64 k) (.int .i64 m) (.string t) (.bool bb) (.int .i64 er) (.slice a1 l1 c1) (.slice a2 l2 c2) 28); have hs2 : w1.heap.size < w2.heap.size := (by have := q2.size; simp at this; omega); have QW : Hid (Q W (w2.alloc (.cells #[.int .i64 k, .int .i64 m, .string t, .bool bb, .int .i64 er, .slice a1 l1 c1, .slice a2 l2 c2] 28))) := hid (((Q1.out.alloc _).viax q2 (by omega)).alloc _); clear hr2 q2 p2))
  obtain ⟨V2, hV2, P2v, Z2v, X2v, QWv, RV, hsv⟩ : ∃ V2, V2 = w2.alloc (.cells #[.int .i64 k, .int .i64 m, .string t, .bool bb, .int .i64 er, .slice a1 l1 c1, .slice a2 l2 c2] 28) ∧ PS V2 w1.heap.size L b off cap r.2.i r.2.bd r.2.n ∧ Tb V2 W.heap.size (.int .i64 0) (.int .i64 0) (.string ⟨#[]⟩) (.bool false) (.int .i64 0) (.slice none 0 0) (.slice none 0 0) ∧ Tb V2 w2.heap.size (.int .i64 k) (.int .i64 m) (.string t) (.bool bb) (.int .i64 er) (.slice a1 l1 c1) (.slice a2 l2 c2) ∧ Q W V2 ∧ Rdg (fun b => W.heap.size + 1 ≤ b) V2 r.1 (.agg #[.int .i64 k, .int .i64 m, .string t, .bool bb, .int .i64 er, .slice a1 l1 c1, .slice a2 l2 c2]) ∧ w2.heap.size < V2.heap.size :=
    ⟨_, rfl, P2.out, Z2.out, X2.out, QW.out, Rdg.on (p := W.heap.size) ((Qx.refl _ _).alloc _) (fun b hb => by omega) _ _ (Rdg.mono (fun b hb => by simp at hb; omega) _ _ R2.out), by simp⟩
  rw [← hV2]
  have P2h := hid P2v
  have Z2h := hid Z2v
  have X2h := hid X2v
  have QWh := hid QWv
  have RVh := hid RV
  have c0 := P2v.c0
  have c1' := P2v.c1
  have c2' := P2v.c2
  have c3 := P2v.c3
  have v0 := P2v.sw.k r.2.i hil
  rw [← hkg.1] at v0
  have n0 := X2v.g0
  have n1 := X2v.g1
  have n2 := X2v.g2
  have n3 := X2v.g3
  have n4 := X2v.g4
  have n5 := X2v.g5
  have n6 := X2v.g6
  have d0 := Z2v.g0
  have d1 := Z2v.g1
  have d2 := Z2v.g2
  have d3 := Z2v.g3
  have d4 := Z2v.g4
  have d5 := Z2v.g5
  have d6 := Z2v.g6
  have y0 := Z2v.f 0
  have y1 := Z2v.f 1
  have y2 := Z2v.f 2
  have y3 := Z2v.f 3
  have y4 := Z2v.f 4
  have y5 := Z2v.f 5
  have y6 := Z2v.f 6
  clear hV2 P2v Z2v X2v QWv RV P2 Z2 X2 QW R2 hkg
  rw [hb] at c2'
  rw [hk] at v0
  have c200 : ¬ (200 : Int) < (r.2.n : Int) := by omega
  have cd : (50 : Int) < (dp 51 r.1 : Int) := by omega
  generalize dp 51 r.1 = dd at HDp cd hdl hd
  go_quiet (fail)
  go_wp2_with (go_at_call 23; refine (HDp.out _ _ (Rd.on ((Q.refl _).drewN _) _ _ (Rdg.rd _ _ RVh.out))).mono ?_; rintro e w4 ⟨rfl, q4⟩; have Q4 : Hid (Q V2 w4) := hid (((Q.refl _).drewN _).trans q4); have X4 := hid (X2h.out.on (p := w1.heap.size) (Qx.of Q4.out) (by omega)); have Z4 := hid (Z2h.out.on (p := w1.heap.size) (Qx.of Q4.out) (by omega)); clear q4; have e0 := Z4.out.g0; have e1 := Z4.out.g1; have e2 := Z4.out.g2; have e3 := Z4.out.g3; have e4 := Z4.out.g4; have e5 := Z4.out.g5; have e6 := Z4.out.g6; have f0 := Z4.out.f 0; have f1 := Z4.out.f 1; have f2 := Z4.out.f 2; have f3 := Z4.out.f 3; have f4 := Z4.out.f 4; have f5 := Z4.out.f 5; have f6 := Z4.out.f 6)
  refine bodyPost_ret (v := .tuple #[.agg #[.int .i64 0, .int .i64 0, .string ⟨#[]⟩, .bool false, .int .i64 0, .slice none 0 0, .slice none 0 0], .int .i64 3]) (by simp [results, Tryz.results9, go_sem, e0, e1, e2, e3, e4, e5, e6]) rfl ?_
  exact ⟨_, rfl, rd_zero _, Q.setCell (Q.setCell (Q.setCell (Q.setCell (Q.setCell (Q.setCell (Q.setCell (QWh.out.trans Q4.out) (Nat.le_refl _) _) (Nat.le_refl _) _) (Nat.le_refl _) _) (Nat.le_refl _) _) (Nat.le_refl _) _) (Nat.le_refl _) _) (Nat.le_refl _) _⟩

set_option maxRecDepth 100000 in
set_option maxHeartbeats 8000000 in
theorem rparse_ok (s : ByteArray) (W : World) (hs : s.size ≤ 100000) (L : List Wd) (n f : Nat) (r : Ex × St) (hn : scanL s.data.toList = (some L, n)) (hpt : treeF EE L f 1 ⟨0, false, 0⟩ = some r) (hb : r.2.bd = false) (hk : kAt L r.2.i = 7) (hn2 : ¬ 200 < r.2.n) (hd : ¬ 50 < dp 51 r.1) :
    Calls Tryz.prog 9 #[.string s] W fun e W' => RepR W (r.1, 0) e W' := by
  have HZ := hid (tb_new W (.int .i64 0) (.int .i64 0) (.string ⟨#[]⟩) (.bool false) (.int .i64 0) (.slice none 0 0) (.slice none 0 0) 28)
  have HSc := hid (fun W1 => rscan_any s W1 hs)
  have HN := hid hn
  obtain ⟨hpos, hr, hE, hG, hK, hz⟩ := scan_good hn
  have HPr := hid (fun W1 p b off cap (g : PS W1 p L b off cap 0 false 0) => (ref_all L hE hG hK hr hz p b off cap f).1 1 ⟨0, false, 0⟩ r W1 (by omega) (by omega) hpt g hpos (Nat.le_refl _))
  have hF := ((fwd_all EE L hE f).1 _ _ _ (by omega) hpt hpos).1
  have hil : r.2.i < L.length := hF.lt
  have hnl : r.2.n ≤ 50000 := by have h1 := hF.nd; have h2 := hF.lt; simp at h1; omega
  have HDp := hid (fun W1 v (h : Rd W1 r.1 v) => depth_any 51 r.1 v W1 51 rfl (by omega) h)
  have hdl := dp_le 51 r.1
  have hkg := kAt_get hil
  clear hn hF
  go_enter Tryz.func9, Tryz.ntmps9
  go_upto_region 6 with (first | (go_at_call 21; refine (HSc.out _).mono ?_; rintro e w1 ⟨h1, q1⟩; rw [HN.out] at h1; obtain ⟨sv, h1', hsl⟩ := ScanRet.some h1; subst h1'; obtain ⟨b, off, cap, hsw⟩ := sw_of hsl hpos; obtain rfl := hsw.ev; have Q1 : Hid (Q W w1) := hid (Q.trans (by repeat (first | with_reducible exact Q.refl _ | with_reducible refine Q.drewN ?_ _ | with_reducible refine Q.drew ?_ | with_reducible refine Q.alloc ?_ _ | with_reducible refine Q.setCell ?_ (by simp) _)) q1); have hs1 : W.heap.size < w1.heap.size := (by have := q1.size; simp at this; omega); have Z1 := hid (HZ.out.on (p := W.heap.size + 1) (Qx.of q1) (by omega)); have P1 : Hid (PS (w1.alloc (.cells #[.slice (some ⟨b, off, none⟩) L.length cap, .int .i64 0, .bool false, .int .i64 0] 54)) w1.heap.size L b off cap 0 false 0) := hid (ps_new w1 L b off cap hsw hpos); clear q1 h1 hsl hsw) | (go_at_call 22; refine (HPr.out _ _ _ _ _ P1.out).mono ?_; rintro e w2 ⟨v, rfl, hr2, q2, p2⟩; obtain ⟨k, m, t, bb, er, a1, l1, c1, a2, l2, c2, rfl⟩ := hr2.shape; have R2 := hid hr2; have Q2 := hid q2; have P2 := hid (p2.on ((Q.refl _).alloc (.cells #[.int .i64 k, .int .i64 m, .string t, .bool bb, .int .i64 er, .slice a1 l1 c1, .slice a2 l2 c2] 28))); have Z2 := hid (((Z1.out.on (p := w1.heap.size) ((Qx.refl _ _).alloc _) (by omega)).on q2 (by omega)).on (p := w1.heap.size) ((Qx.refl _ _).alloc (.cells #[.int .i64 k, .int .i64 m, .string t, .bool bb, .int .i64 er, .slice a1 l1 c1, .slice a2 l2 c2] 28)) (by omega)); have X2 := hid (tb_new w2 (.int .i64 k) (.int .i64 m) (.string t) (.bool bb) (.int .i64 er) (.slice a1 l1 c1) (.slice a2 l2 c2) 28); have hs2 : w1.heap.size < w2.heap.size := (by have := q2.size; simp at this; omega); have QW : Hid (Q W (w2.alloc (.cells #[.int .i64 k, .int .i64 m, .string t, .bool bb, .int .i64 er, .slice a1 l1 c1, .slice a2 l2 c2] 28))) := hid (((Q1.out.alloc _).viax q2 (by omega)).alloc _); clear hr2 q2 p2))
  obtain ⟨V2, hV2, P2v, Z2v, X2v, QWv, RV, hsv⟩ : ∃ V2, V2 = w2.alloc (.cells #[.int .i64 k, .int .i64 m, .string t, .bool bb, .int .i64 er, .slice a1 l1 c1, .slice a2 l2 c2] 28) ∧ PS V2 w1.heap.size L b off cap r.2.i r.2.bd r.2.n ∧ Tb V2 W.heap.size (.int .i64 0) (.int .i64 0) (.string ⟨#[]⟩) (.bool false) (.int .i64 0) (.slice none 0 0) (.slice none 0 0) ∧ Tb V2 w2.heap.size (.int .i64 k) (.int .i64 m) (.string t) (.bool bb) (.int .i64 er) (.slice a1 l1 c1) (.slice a2 l2 c2) ∧ Q W V2 ∧ Rdg (fun b => W.heap.size + 1 ≤ b) V2 r.1 (.agg #[.int .i64 k, .int .i64 m, .string t, .bool bb, .int .i64 er, .slice a1 l1 c1, .slice a2 l2 c2]) ∧ w2.heap.size < V2.heap.size :=
    ⟨_, rfl, P2.out, Z2.out, X2.out, QW.out, Rdg.on (p := W.heap.size) ((Qx.refl _ _).alloc _) (fun b hb => by omega) _ _ (Rdg.mono (fun b hb => by simp at hb; omega) _ _ R2.out), by simp⟩
  rw [← hV2]
  have P2h := hid P2v
  have Z2h := hid Z2v
  have X2h := hid X2v
  have QWh := hid QWv
  have RVh := hid RV
  have c0 := P2v.c0
  have c1' := P2v.c1
  have c2' := P2v.c2
  have c3 := P2v.c3
  have v0 := P2v.sw.k r.2.i hil
  rw [← hkg.1] at v0
  have n0 := X2v.g0
  have n1 := X2v.g1
  have n2 := X2v.g2
  have n3 := X2v.g3
  have n4 := X2v.g4
  have n5 := X2v.g5
  have n6 := X2v.g6
  have d0 := Z2v.g0
  have d1 := Z2v.g1
  have d2 := Z2v.g2
  have d3 := Z2v.g3
  have d4 := Z2v.g4
  have d5 := Z2v.g5
  have d6 := Z2v.g6
  have y0 := Z2v.f 0
  have y1 := Z2v.f 1
  have y2 := Z2v.f 2
  have y3 := Z2v.f 3
  have y4 := Z2v.f 4
  have y5 := Z2v.f 5
  have y6 := Z2v.f 6
  clear hV2 P2v Z2v X2v QWv RV P2 Z2 X2 QW R2 hkg
  rw [hb] at c2'
  rw [hk] at v0
  have c200 : ¬ (200 : Int) < (r.2.n : Int) := by omega
  have cd : ¬ (50 : Int) < (dp 51 r.1 : Int) := by omega
  generalize dp 51 r.1 = dd at HDp cd hdl hd
  go_quiet (fail)
  go_wp2_with (go_at_call 23; refine (HDp.out _ _ (Rd.on ((Q.refl _).drewN _) _ _ (Rdg.rd _ _ RVh.out))).mono ?_; rintro e w4 ⟨rfl, q4⟩; have Q4 : Hid (Q V2 w4) := hid (((Q.refl _).drewN _).trans q4); have X4 := hid (X2h.out.on (p := w1.heap.size) (Qx.of Q4.out) (by omega)); have Z4 := hid (Z2h.out.on (p := w1.heap.size) (Qx.of Q4.out) (by omega)); clear q4; have e0 := Z4.out.g0; have e1 := Z4.out.g1; have e2 := Z4.out.g2; have e3 := Z4.out.g3; have e4 := Z4.out.g4; have e5 := Z4.out.g5; have e6 := Z4.out.g6; have f0 := Z4.out.f 0; have f1 := Z4.out.f 1; have f2 := Z4.out.f 2; have f3 := Z4.out.f 3; have f4 := Z4.out.f 4; have f5 := Z4.out.f 5; have f6 := Z4.out.f 6; have r0 := X4.out.g0; have r1 := X4.out.g1; have r2 := X4.out.g2; have r3 := X4.out.g3; have r4 := X4.out.g4; have r5 := X4.out.g5; have r6 := X4.out.g6)
  refine bodyPost_ret (v := .tuple #[.agg #[.int .i64 k, .int .i64 m, .string t, .bool bb, .int .i64 er, .slice a1 l1 c1, .slice a2 l2 c2], .int .i64 0]) (by simp [results, Tryz.results9, go_sem, e0, e1, e2, e3, e4, e5, e6]) rfl ?_
  have QF : ∀ Vf : World, Qx W.heap.size w4 Vf → Rd Vf r.1 (.agg #[.int .i64 k, .int .i64 m, .string t, .bool bb, .int .i64 er, .slice a1 l1 c1, .slice a2 l2 c2]) := fun Vf q => Rdg.rd _ _ (Rdg.on q (fun b hb => by omega) _ _ (Rdg.on (Qx.of (p := W.heap.size) Q4.out) (fun b hb => by omega) _ _ RVh.out))
  exact ⟨_, rfl, QF _ ((((((((Qx.refl _ _).own _ _).own _ _).own _ _).own _ _).own _ _).own _ _).own _ _), Q.setCell (Q.setCell (Q.setCell (Q.setCell (Q.setCell (Q.setCell (Q.setCell (QWh.out.trans Q4.out) (Nat.le_refl _) _) (Nat.le_refl _) _) (Nat.le_refl _) _) (Nat.le_refl _) _) (Nat.le_refl _) _) (Nat.le_refl _) _) (Nat.le_refl _) _⟩

/-- the reference's Parse, of any text -/
theorem rparse_text (s : ByteArray) (W : World) (hs : s.size ≤ 100000) (L : List Wd) (n f : Nat) (r : Ex × St) (hn : scanL s.data.toList = (some L, n)) (hpt : treeF EE L f 1 ⟨0, false, 0⟩ = some r) :
    Calls Tryz.prog 9 #[.string s] W fun e W' => RepR W (finS L r) e W' := by
  unfold finS
  cases hb : r.2.bd
  · by_cases hk : kAt L r.2.i = 7
    · rw [if_neg (by rintro (e | e); · cases e
                     · exact e hk)]
      by_cases h2 : 200 < r.2.n
      · rw [if_pos (.inl h2)]
        exact rparse_many s W hs L n f r hn hpt hb hk h2
      · by_cases hd : 50 < dp 51 r.1
        · rw [if_pos (.inr hd)]
          exact rparse_deep s W hs L n f r hn hpt hb hk h2 hd
        · rw [if_neg (by rintro (e | e); · exact h2 e
                         · exact hd e)]
          exact rparse_ok s W hs L n f r hn hpt hb hk h2 hd
    · rw [if_pos (.inr hk)]
      exact rparse_end s W hs L n f r hn hpt hb hk
  · rw [if_pos (.inl rfl)]
    exact rparse_bad s W hs L n f r hn hpt hb
/-- both answer the same, of any text -/
theorem parse_same (s : ByteArray) (hs : s.size ≤ 100000) : ∃ x : Ex × Nat, (∀ W, Std W → Calls Tryz.prog 8 #[.string s] W fun e W' => RepR W x e W') ∧ (∀ W, Calls Tryz.prog 9 #[.string s] W fun e W' => RepR W x e W') := by
  cases hsc : scanL s.data.toList with
  | mk ol n =>
    cases ol with
    | none => exact ⟨(zeroE, 2), fun W hw => pparse_scan s W hw hs n hsc, fun W => rparse_scan s W hs n hsc⟩
    | some L =>
      obtain ⟨hpos, hr, hE, hG, hK, hz⟩ := scan_good hsc
      obtain ⟨f, r, hf⟩ := total_ref EE L hE L.length ⟨0, false, 0⟩ (by simp) hpos 1 (by omega) (by omega)
      obtain ⟨g, o, hg, hag⟩ := (same_all EE L hE hG f).1 1 ⟨0, false, 0⟩ r (by omega) (by omega) hpos rfl hf
      refine ⟨finR L o, fun W hw => pparse_any s W hw hs L n g o hsc hg, fun W => ?_⟩
      have e : finS L r = finR L o := by
        cases o with
        | none =>
          have hb : r.2.bd = true := hag
          unfold finS finR
          rw [if_pos (.inl hb)]
        | some xj =>
          obtain ⟨x, j⟩ := xj
          obtain ⟨h1, h2, h3, h4⟩ := hag
          unfold finS finR
          simp only at h4 ⊢
          rw [h2, h1]
          by_cases hk : kAt L j = 7
          · rw [if_pos hk, if_neg (by rintro (e | e); · rw [h3] at e; cases e
                                      · exact e hk)]
            have hd := dp_shl 50 x
            unfold fitB
            rw [← hd]
            by_cases hn : nodes x ≤ 200
            · by_cases hdd : dp 51 x ≤ 50
              · rw [if_neg (by rintro (e | e) <;> omega), decide_eq_true hn, decide_eq_true hdd]; rfl
              · rw [if_pos (.inr (by omega)), decide_eq_true hn, decide_eq_false hdd]; rfl
            · rw [if_pos (.inl (by omega)), decide_eq_false hn]; rfl
          · rw [if_neg hk, if_pos (.inr hk)]
      rw [← e]
      exact rparse_text s W hs L n f r hsc hf
end Go.Proofs.YtdpppkkdilcbeaaGreatDoor
namespace Go.Proofs.YtdpppkkdilcbeaaGreatDoor
open Go.RowKit
set_option linter.unusedVariables false
set_option linter.unusedSimpArgs false

set_option maxRecDepth 100000 in
set_option maxHeartbeats 4000000 in
theorem parseall_any (s : ByteArray) (W : World) (hg : Gd W) : Calls Tryz.prog 3 #[.string s] W fun e W' => e = .returned (.bool true) ∧ Q W W' := by
  have HB := hid (begun_any W hg)
  have HS := hid (fun W' => short_any s 1100 W' (by omega) (by omega))
  obtain ⟨S, hS⟩ : ∃ S, (if (1100 : Int) < (s.size : Int) then s.extract 0 (1100 : Int).toNat else s) = S := ⟨_, rfl⟩
  have hlen : S.size ≤ 100000 := by
    rw [← hS]
    split
    · rw [ByteArray.size_extract]; omega
    · omega
  rw [hS] at HS
  obtain ⟨x, h8, h9⟩ := parse_same S hlen
  have H8 := hid h8
  have H9 := hid h9
  obtain ⟨X, er⟩ := x
  have HG := hid hg
  clear hS hlen h8 h9 hg
  go_enter Tryz.func3, Tryz.ntmps3
  go_upto_region 6 with (first | (go_at_call 6; refine HB.out.mono ?_; rintro e w1 ⟨rfl, q1⟩; have Q1 := hid q1; clear q1) | (go_at_call 7; refine (HS.out _).mono ?_; rintro e w2 ⟨rfl, h2⟩; replace h2 := h2.symm; subst h2) | (go_at_call 8; refine (H8.out _ (HG.out.on Q1.out).1).mono ?_; rintro e w3 ⟨v, rfl, hr, q3⟩; obtain ⟨k, n, t, b, e1, a1, l1, c1, a2, l2, c2, rfl⟩ := hr.shape; have R3 := hid hr; have Q3 := hid q3; clear hr q3))
  have HX := hid (Bx.start w3 (.int .i64 k) (.int .i64 n) (.string t) (.bool b) (.int .i64 e1) (.slice a1 l1 c1) (.slice a2 l2 c2) 28)
  obtain ⟨w4, hw4⟩ : ∃ w4, w4 = w3.alloc (.cells #[.int .i64 k, .int .i64 n, .string t, .bool b, .int .i64 e1, .slice a1 l1 c1, .slice a2 l2 c2] 28) := ⟨_, rfl⟩
  rw [← hw4] at HX
  have HQ4 : Hid (Q w3 w4) := by rw [hw4]; exact (Q.refl _).alloc _
  rw [← hw4]
  clear hw4
  have he : ((er : Int) == (er : Int)) = true := by simp
  go_upto_region 7 with (go_at_call 9; refine (H9.out _).mono ?_; rintro e w5 ⟨v, rfl, hr, q5⟩; obtain ⟨k', n', t', b', e1', a1', l1', c1', a2', l2', c2', rfl⟩ := hr.shape; have R5 := hid hr; have X5 := hid (HX.out.on q5); have Q5 := hid q5; clear hr q5)
  have HY := hid (Bx.start w5 (.int .i64 k') (.int .i64 n') (.string t') (.bool b') (.int .i64 e1') (.slice a1' l1' c1') (.slice a2' l2' c2') 28)
  obtain ⟨w6, hw6⟩ : ∃ w6, w6 = w5.alloc (.cells #[.int .i64 k', .int .i64 n', .string t', .bool b', .int .i64 e1', .slice a1' l1' c1', .slice a2' l2' c2'] 28) := ⟨_, rfl⟩
  rw [← hw6] at HY
  have HQ6 : Hid (Q w5 w6) := by rw [hw6]; exact (Q.refl _).alloc _
  have X6 := hid (X5.out.on HQ6.out)
  rw [← hw6]
  clear hw6
  have HE := hid ((eqexpr_any (SizeOf.sizeOf X) X X _ _ w6 (Nat.le_refl _) (Rd.on (HQ4.out.trans (Q5.out.trans HQ6.out)) _ _ R3.out) (Rd.on HQ6.out _ _ R5.out)).mono fun e w h => (⟨h.1.t rfl, h.2⟩ : e = .returned (.bool true) ∧ Q w6 w))
  obtain ⟨_, _, g0, g1, g2, g3, g4, g5, g6⟩ := X6.out
  obtain ⟨_, _, d0, d1, d2, d3, d4, d5, d6⟩ := HY.out
  go_wp2_with (go_at_call 10; refine HE.out.mono ?_; rintro e w7 ⟨rfl, q7⟩; have Q7 := hid q7; clear q7)
  go_ret
  exact ⟨rfl, ((((Q1.out.trans Q3.out).trans HQ4.out).trans Q5.out).trans HQ6.out).trans Q7.out⟩
end Go.Proofs.YtdpppkkdilcbeaaGreatDoor
