/- Package builtin: calls of functions of single values. -/
import Derived.Test.YtfjpdopmojfchaaGreatDoorBc
namespace Go.Proofs.YtfjpdopmojfchaaGreatDoor
open Go.RowKit
set_option linter.unusedVariables false
set_option linter.unusedSimpArgs false
set_option maxHeartbeats 1000000 in
theorem sing75 (P : List (Value × Cv)) (v : Value) (y : Cv) (p : Nat)  (w : World) (hw : Std2 w) (h : Args w v (sg P)) (hm : P.length ≤ 1000) (hs : ∀ p ∈ P, p.2.sm) (hp : w.cell? ⟨p, 0, none⟩ = some (.func (.func 64) #[] #[]))
    (HG : ∀ W s, Q w W → Sl Cv.cells 5 W s (P.map fun p => ctd p.2) → Calls Tryz.prog 64 #[s] W fun r W' => r = .returned y.v ∧ Q W W') :
    Calls Tryz.prog 110 #[v, .pointer (some ⟨p, 0, none⟩)] w fun r w' => r = .returned y.v ∧ Q w w' := by
  have HB := hid (bxz w)
  have HS := hid (fun W (g : Q w W) => singles_yes P v W (hw.on g) (h.on g) hm hs)
  have HG' := hid HG
  have hpl := World.block_lt_of_cell? w _ hp
  have HP := hid (fun W (g : Q w W) => fcell hp g)
  obtain ⟨yk, yn, yt, yb, ye⟩ := y
  clear hw h hm hs hp HG
  simp only [Cv.v, vv] at *
  go_enter Tryz.func110, Tryz.ntmps110
  go_wp2_with (first
    | (go_at_call 111; refine (HS.out _ ((Q.refl _).alloc _)).mono ?_; rintro x w1 ⟨s, rfl, S1, q1⟩; have B1 := HB.out.on q1; have Q1 : Hid (Q w w1) := hid (((Q.refl _).alloc _).trans q1); clear q1; have cp := HP.out _ Q1.out; have S2 := hid S1; clear S1)
    | (go_at_call 64; refine (HG'.out _ _ Q1.out S2.out).mono ?_; rintro x w2 ⟨rfl, q1⟩; have B2 := B1.on q1; have Q2 : Hid (Q w w2) := hid (Q1.out.trans q1); clear q1; obtain ⟨d0, d1, d2, d3, d4, y0, y1, y2, y3, y4, _⟩ := B2))
  exact bodyPost_ret (v := .agg #[.int .i64 yk, .int .i64 yn, .string yt, .bool yb, .int .i64 ye]) (by simp [results, Tryz.results110, go_sem, d0, d1, d2, d3, d4]) rfl ⟨rfl, Q5 Q2.out (Nat.le_refl _)⟩
set_option maxHeartbeats 1000000 in
theorem sing82 (P : List (Value × Cv)) (v : Value) (y : Cv) (p : Nat)  (w : World) (hw : Std2 w) (h : Args w v (sg P)) (hm : P.length ≤ 1000) (hs : ∀ p ∈ P, p.2.sm) (hp : w.cell? ⟨p, 0, none⟩ = some (.func (.func 74) #[] #[]))
    (HG : ∀ W s, Q w W → Sl Cv.cells 5 W s (P.map fun p => ctd p.2) → Calls Tryz.prog 74 #[s] W fun r W' => r = .returned y.v ∧ Q W W') :
    Calls Tryz.prog 110 #[v, .pointer (some ⟨p, 0, none⟩)] w fun r w' => r = .returned y.v ∧ Q w w' := by
  have HB := hid (bxz w)
  have HS := hid (fun W (g : Q w W) => singles_yes P v W (hw.on g) (h.on g) hm hs)
  have HG' := hid HG
  have hpl := World.block_lt_of_cell? w _ hp
  have HP := hid (fun W (g : Q w W) => fcell hp g)
  obtain ⟨yk, yn, yt, yb, ye⟩ := y
  clear hw h hm hs hp HG
  simp only [Cv.v, vv] at *
  go_enter Tryz.func110, Tryz.ntmps110
  go_wp2_with (first
    | (go_at_call 111; refine (HS.out _ ((Q.refl _).alloc _)).mono ?_; rintro x w1 ⟨s, rfl, S1, q1⟩; have B1 := HB.out.on q1; have Q1 : Hid (Q w w1) := hid (((Q.refl _).alloc _).trans q1); clear q1; have cp := HP.out _ Q1.out; have S2 := hid S1; clear S1)
    | (go_at_call 74; refine (HG'.out _ _ Q1.out S2.out).mono ?_; rintro x w2 ⟨rfl, q1⟩; have B2 := B1.on q1; have Q2 : Hid (Q w w2) := hid (Q1.out.trans q1); clear q1; obtain ⟨d0, d1, d2, d3, d4, y0, y1, y2, y3, y4, _⟩ := B2))
  exact bodyPost_ret (v := .agg #[.int .i64 yk, .int .i64 yn, .string yt, .bool yb, .int .i64 ye]) (by simp [results, Tryz.results110, go_sem, d0, d1, d2, d3, d4]) rfl ⟨rfl, Q5 Q2.out (Nat.le_refl _)⟩
set_option maxHeartbeats 1000000 in
theorem iserr_any (x : Cv) (v : Value) (w : World) (h : Sl Cv.cells 5 w v [x]) : Calls Tryz.prog 74 #[v] w fun r w' => r = .returned (bo (x.k == 4)).v ∧ Q w w' := by
  obtain ⟨b, off, cap, rfl, a5⟩ := single_sl h
  clear h
  have HB := hid (bxz w)
  have HT := hid (fun W => btruth_any (x.k == 4) W)
  obtain ⟨k, n, t, bb, e⟩ := x
  have hlt := World.block_lt_of_cell? w _ a5.c0
  obtain ⟨c0, c1, c2, c3, c4⟩ := a5
  simp only [Cv.v, vv, bo] at *
  go_enter Tryz.func74, Tryz.ntmps74
  go_wp2_with (go_at_call 43; refine (HT.out _).mono ?_; rintro x w2 ⟨rfl, q1⟩; have B2 := HB.out.on q1; have Q2 : Hid (Q w w2) := hid (((Q.refl _).alloc _).trans q1); clear q1; obtain ⟨d0, d1, d2, d3, d4, y0, y1, y2, y3, y4, _⟩ := B2)
  exact bodyPost_ret (v := .agg #[.int .i64 3, .int .i64 0, .string ⟨#[]⟩, .bool (k == 4), .int .i64 0]) (by simp [results, Tryz.results74, go_sem, d0, d1, d2, d3, d4]) rfl ⟨rfl, Q5 Q2.out (Nat.le_refl _)⟩
theorem two_sl {W : World} {s : Value} {x y : Cv} (h : Sl Cv.cells 5 W s [x, y]) : ∃ b off cap, s = .slice (some ⟨b, off, none⟩) 2 cap ∧ At5 W b off x ∧ At5 W b (off + 5) y := by
  obtain ⟨ao, cap, hv, h1, h2, h3⟩ := h
  obtain ⟨b, off, rfl, hc⟩ := h3 (by simp)
  have e0 := at5_of (hc 0 (by simp))
  have e1 := at5_of (hc 1 (by simp))
  simp at e0 e1
  exact ⟨b, off, cap, hv, e0, e1⟩
theorem three_sl {W : World} {s : Value} {x y z : Cv} (h : Sl Cv.cells 5 W s [x, y, z]) : ∃ b off cap, s = .slice (some ⟨b, off, none⟩) 3 cap ∧ At5 W b off x ∧ At5 W b (off + 5) y ∧ At5 W b (off + 10) z := by
  obtain ⟨ao, cap, hv, h1, h2, h3⟩ := h
  obtain ⟨b, off, rfl, hc⟩ := h3 (by simp)
  have e0 := at5_of (hc 0 (by simp))
  have e1 := at5_of (hc 1 (by simp))
  have e2 := at5_of (hc 2 (by simp))
  simp at e0 e1 e2
  exact ⟨b, off, cap, hv, e0, e1, e2⟩
theorem truth_bo (c : Bool) (w : World) (hw : Std2 w) : Calls Tryz.prog 66 #[.agg #[.int .i64 3, .int .i64 0, .string ⟨#[]⟩, .bool c, .int .i64 0]] w fun x w' => x = .returned (.tuple #[.bool c, .int .i64 0]) ∧ Q w w' := by
  have h := truth_vk 3 0 ⟨#[]⟩ c 0 w hw (by decide) (Vk.bool c)
  exact h
set_option maxHeartbeats 1000000 in
theorem choose2_t (a b : Cv) (v : Value) (w : World) (hw : Std2 w) (h : Sl Cv.cells 5 w v [bo true, a]) : Calls Tryz.prog 64 #[v] w fun r w' => r = .returned a.v ∧ Q w w' := by
  obtain ⟨g, off, cap, rfl, a5, b5⟩ := two_sl h
  clear h
  have HB := hid (bxz w)
  have HT := hid (fun W (q : Q w W) => truth_bo true W (hw.on q))
  have HZ := hid (fun W => btruth_any false W)
  have hlt := World.block_lt_of_cell? w _ a5.c0
  have HA5 := hid (fun W (q : Q w W) => a5.on q)
  have HB5 := hid (fun W (q : Q w W) => b5.on q)
  obtain ⟨c0, c1, c2, c3, c4⟩ := a5
  obtain ⟨ak, an, at', ab, ae⟩ := a
  obtain ⟨bk, bn, bt, bb, be⟩ := b
  clear hw b5
  simp only [Cv.v, vv, bo] at *
  go_enter Tryz.func64, Tryz.ntmps64
  go_wp2_with (go_at_call 66; refine (HT.out _ ((Q.refl _).alloc _)).mono ?_; rintro x w1 ⟨rfl, q1⟩; have B1 := HB.out.on q1; have Q1 : Hid (Q w w1) := hid (((Q.refl _).alloc _).trans q1); clear q1; obtain ⟨p0, p1, p2, p3, p4⟩ := HB5.out _ Q1.out; obtain ⟨d0, d1, d2, d3, d4, y0, y1, y2, y3, y4, l1⟩ := B1; simp only at p0 p1 p2 p3 p4)
  exact bodyPost_ret (v := .agg #[.int .i64 ak, .int .i64 an, .string at', .bool ab, .int .i64 ae]) (by simp [results, Tryz.results64, go_sem, d0, d1, d2, d3, d4]) rfl ⟨rfl, Q5 Q1.out (Nat.le_refl _)⟩
set_option maxHeartbeats 1000000 in
theorem choose2_f (a b : Cv) (v : Value) (w : World) (hw : Std2 w) (h : Sl Cv.cells 5 w v [bo false, a]) : Calls Tryz.prog 64 #[v] w fun r w' => r = .returned (bo false).v ∧ Q w w' := by
  obtain ⟨g, off, cap, rfl, a5, b5⟩ := two_sl h
  clear h
  have HB := hid (bxz w)
  have HT := hid (fun W (q : Q w W) => truth_bo false W (hw.on q))
  have HZ := hid (fun W => btruth_any false W)
  have hlt := World.block_lt_of_cell? w _ a5.c0
  have HA5 := hid (fun W (q : Q w W) => a5.on q)
  have HB5 := hid (fun W (q : Q w W) => b5.on q)
  obtain ⟨c0, c1, c2, c3, c4⟩ := a5
  obtain ⟨ak, an, at', ab, ae⟩ := a
  obtain ⟨bk, bn, bt, bb, be⟩ := b
  clear hw b5
  simp only [Cv.v, vv, bo] at *
  go_enter Tryz.func64, Tryz.ntmps64
  go_wp2_with (first
    | (go_at_call 66; refine (HT.out _ ((Q.refl _).alloc _)).mono ?_; rintro x w1 ⟨rfl, q1⟩; have B1 := HB.out.on q1; have Q1 : Hid (Q w w1) := hid (((Q.refl _).alloc _).trans q1); clear q1)
    | (go_at_call 43; refine (HZ.out _).mono ?_; rintro x w2 ⟨rfl, q1⟩; have B2 := B1.on q1; have Q2 : Hid (Q w w2) := hid (Q1.out.trans q1); clear q1; obtain ⟨d0, d1, d2, d3, d4, y0, y1, y2, y3, y4, _⟩ := B2))
  exact bodyPost_ret (v := .agg #[.int .i64 3, .int .i64 0, .string ⟨#[]⟩, .bool false, .int .i64 0]) (by simp [results, Tryz.results64, go_sem, d0, d1, d2, d3, d4]) rfl ⟨rfl, Q5 Q2.out (Nat.le_refl _)⟩
set_option maxHeartbeats 1000000 in
theorem choose3_t (a b : Cv) (v : Value) (w : World) (hw : Std2 w) (h : Sl Cv.cells 5 w v [bo true, a, b]) : Calls Tryz.prog 64 #[v] w fun r w' => r = .returned a.v ∧ Q w w' := by
  obtain ⟨g, off, cap, rfl, a5, b5, z5⟩ := three_sl h
  clear h
  have HB := hid (bxz w)
  have HT := hid (fun W (q : Q w W) => truth_bo true W (hw.on q))
  have HZ := hid (fun W => btruth_any false W)
  have hlt := World.block_lt_of_cell? w _ a5.c0
  have HA5 := hid (fun W (q : Q w W) => a5.on q)
  have HB5 := hid (fun W (q : Q w W) => b5.on q)
  have HZ5 := hid (fun W (q : Q w W) => z5.on q)
  obtain ⟨c0, c1, c2, c3, c4⟩ := a5
  obtain ⟨ak, an, at', ab, ae⟩ := a
  obtain ⟨bk, bn, bt, bb, be⟩ := b
  clear hw b5
  simp only [Cv.v, vv, bo] at *
  go_enter Tryz.func64, Tryz.ntmps64
  go_wp2_with (go_at_call 66; refine (HT.out _ ((Q.refl _).alloc _)).mono ?_; rintro x w1 ⟨rfl, q1⟩; have B1 := HB.out.on q1; have Q1 : Hid (Q w w1) := hid (((Q.refl _).alloc _).trans q1); clear q1; obtain ⟨p0, p1, p2, p3, p4⟩ := HB5.out _ Q1.out; obtain ⟨z0, z1, z2, z3, z4⟩ := HZ5.out _ Q1.out; obtain ⟨d0, d1, d2, d3, d4, y0, y1, y2, y3, y4, l1⟩ := B1; simp only at p0 p1 p2 p3 p4 z0 z1 z2 z3 z4)
  exact bodyPost_ret (v := .agg #[.int .i64 ak, .int .i64 an, .string at', .bool ab, .int .i64 ae]) (by simp [results, Tryz.results64, go_sem, d0, d1, d2, d3, d4]) rfl ⟨rfl, Q5 Q1.out (Nat.le_refl _)⟩
set_option maxHeartbeats 1000000 in
theorem choose3_f (a b : Cv) (v : Value) (w : World) (hw : Std2 w) (h : Sl Cv.cells 5 w v [bo false, a, b]) : Calls Tryz.prog 64 #[v] w fun r w' => r = .returned b.v ∧ Q w w' := by
  obtain ⟨g, off, cap, rfl, a5, b5, z5⟩ := three_sl h
  clear h
  have HB := hid (bxz w)
  have HT := hid (fun W (q : Q w W) => truth_bo false W (hw.on q))
  have HZ := hid (fun W => btruth_any false W)
  have hlt := World.block_lt_of_cell? w _ a5.c0
  have HA5 := hid (fun W (q : Q w W) => a5.on q)
  have HB5 := hid (fun W (q : Q w W) => b5.on q)
  have HZ5 := hid (fun W (q : Q w W) => z5.on q)
  obtain ⟨c0, c1, c2, c3, c4⟩ := a5
  obtain ⟨ak, an, at', ab, ae⟩ := a
  obtain ⟨bk, bn, bt, bb, be⟩ := b
  clear hw b5
  simp only [Cv.v, vv, bo] at *
  go_enter Tryz.func64, Tryz.ntmps64
  go_wp2_with (go_at_call 66; refine (HT.out _ ((Q.refl _).alloc _)).mono ?_; rintro x w1 ⟨rfl, q1⟩; have B1 := HB.out.on q1; have Q1 : Hid (Q w w1) := hid (((Q.refl _).alloc _).trans q1); clear q1; obtain ⟨p0, p1, p2, p3, p4⟩ := HB5.out _ Q1.out; obtain ⟨z0, z1, z2, z3, z4⟩ := HZ5.out _ Q1.out; obtain ⟨d0, d1, d2, d3, d4, y0, y1, y2, y3, y4, l1⟩ := B1; simp only at p0 p1 p2 p3 p4 z0 z1 z2 z3 z4)
  exact bodyPost_ret (v := .agg #[.int .i64 bk, .int .i64 bn, .string bt, .bool bb, .int .i64 be]) (by simp [results, Tryz.results64, go_sem, d0, d1, d2, d3, d4]) rfl ⟨rfl, Q5 Q1.out (Nat.le_refl _)⟩
end Go.Proofs.YtfjpdopmojfchaaGreatDoor
