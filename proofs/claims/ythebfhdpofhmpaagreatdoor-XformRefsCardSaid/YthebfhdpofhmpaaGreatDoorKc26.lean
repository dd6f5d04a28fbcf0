/- rewrite.Lines of trees that may be, walked; rewrite.Sheet wh. -/
import Derived.Test.YthebfhdpofhmpaaGreatDoorKc25
import Derived.Test.YthebfhdpofhmpaaGreatDoorKc16
import Derived.Test.YthebfhdpofhmpaaGreatDoorKc18
import Derived.Test.YthebfhdpofhmpaaGreatDoorKc19
set_option linter.unusedVariables false
set_option linter.unusedSimpArgs false
set_option maxRecDepth 100000
set_option maxHeartbeats 8000000
namespace Go.Proofs.YthebfhdpofhmpaaGreatDoor
open Go.RowKit
def lnE (home on : List UInt8) (rows : Bool) (k a t : Int) (x : Ex) : Ex := if L.mayB k a t = true then chg home on (mvB rows k a t) (mvR rows k a t) x else x
theorem q_chd {W w w' : World} {p o lo hi : Nat} (q : Q W w) (h : Chd w w' p o lo hi) (h1 : W.heap.size ≤ p) (h2 : W.heap.size ≤ lo) : Q W w' :=
  ⟨h.q.os.trans q.os, h.q.tape.trans q.tape, h.q.output.trans q.output, Nat.le_trans q.size h.q.size, fun i hi => (h.q.block i (Nat.lt_of_lt_of_le hi q.size) (fun e => by omega)).trans (Q.block q hi)⟩
set_option maxHeartbeats 800000 in
theorem lines_any (x : Ex) (v : Value) (home on : ByteArray) (rows : Bool) (k a t : Int) (W : World) (hg : Gd W) (hx : Rd W x v) (hs : Sn x) (hm : Sm x) (hk : nodes x ≤ 200) (hmay : (fitB x && mall mayN x) = true) :
    Calls Tryz.prog 55 #[v, .string home, .string on, .bool rows, .agg #[.int .i64 k, .int .i64 a, .int .i64 t]] W fun e W' => ∃ v', e = .returned v' ∧ Q W W' ∧ ∃ lo hi, W.heap.size ≤ lo ∧ hi ≤ W'.heap.size ∧ Ow W' (lnE home.data.toList on.data.toList rows k a t x) v' lo hi := by
  obtain ⟨k0, n0, t0, b0, e0, a1, l1, c1, a2, l2, c2, rfl⟩ := hx.shape
  obtain ⟨w1, hw1⟩ : ∃ w1, w1 = (((W.alloc (.cells #[.int .i64 k0, .int .i64 n0, .string t0, .bool b0, .int .i64 e0, .slice a1 l1 c1, .slice a2 l2 c2] 35)).alloc (.cells #[.bool rows] 4)).alloc (.cells #[.int .i64 k, .int .i64 a, .int .i64 t] 28)).alloc (.cells #[.int .i64 0, .int .i64 0, .string ⟨#[]⟩, .bool false, .int .i64 0, .slice none 0 0, .slice none 0 0] 35) := ⟨_, rfl⟩
  have q1 : Q W w1 := by rw [hw1]; exact ((((Q.refl _).alloc _).alloc _).alloc _).alloc _
  have s1 : w1.heap.size = W.heap.size + 1 + 1 + 1 + 1 := by rw [hw1]; simp
  have HLV : Hid (Lv w1 (W.heap.size + 1) (W.heap.size + 1 + 1) rows k a t) := by
    rw [hw1]
    refine ⟨?_, ?_, ?_, ?_⟩ <;> simp [go_sem]
  have HTB : Hid (Tb w1 (W.heap.size + 1 + 1 + 1) (.int .i64 0) (.int .i64 0) (.string ⟨#[]⟩) (.bool false) (.int .i64 0) (.slice none 0 0) (.slice none 0 0)) := by
    have := tb_new (((W.alloc (.cells #[.int .i64 k0, .int .i64 n0, .string t0, .bool b0, .int .i64 e0, .slice a1 l1 c1, .slice a2 l2 c2] 35)).alloc (.cells #[.bool rows] 4)).alloc (.cells #[.int .i64 k, .int .i64 a, .int .i64 t] 28)) (.int .i64 0) (.int .i64 0) (.string ⟨#[]⟩) (.bool false) (.int .i64 0) (.slice none 0 0) (.slice none 0 0) 35
    rw [hw1]
    show Tb _ _ _ _ _ _ _ _ _
    simpa using this
  have HBX : Hid (Tb w1 W.heap.size (.int .i64 k0) (.int .i64 n0) (.string t0) (.bool b0) (.int .i64 e0) (.slice a1 l1 c1) (.slice a2 l2 c2)) := by
    have := (tb_new W (.int .i64 k0) (.int .i64 n0) (.string t0) (.bool b0) (.int .i64 e0) (.slice a1 l1 c1) (.slice a2 l2 c2) 35).blk (W' := w1) (by rw [hw1]; exact Q.block ((((Q.refl _).alloc _).alloc _).alloc _) (by simp))
    exact this
  have HCO : Hid (Calls Tryz.prog 41 #[.agg #[.int .i64 k0, .int .i64 n0, .string t0, .bool b0, .int .i64 e0, .slice a1 l1 c1, .slice a2 l2 c2]] ((((W.alloc (.cells #[.int .i64 k0, .int .i64 n0, .string t0, .bool b0, .int .i64 e0, .slice a1 l1 c1, .slice a2 l2 c2] 35)).alloc (.cells #[.bool rows] 4)).alloc (.cells #[.int .i64 k, .int .i64 a, .int .i64 t] 28)).alloc (.cells #[.int .i64 0, .int .i64 0, .string ⟨#[]⟩, .bool false, .int .i64 0, .slice none 0 0, .slice none 0 0] 35)) fun e W' => ∃ v', e = .returned v' ∧ Q w1 W' ∧ ∃ lo hi, w1.heap.size ≤ lo ∧ hi ≤ W'.heap.size ∧ Ow W' x v' lo hi) := by
    rw [← hw1]
    exact copied_any x _ w1 (Rd.on q1 _ _ hx) hs hk
  have HMY := hid (fun w (q : Q W w) => pmay_any x _ w (hg.on q) hm (Rd.on q _ _ hx))
  rw [hmay] at HMY
  have HAX := hid (fun w => L.may_any k a t w)
  have HCH := hid (fun w p c0 c1 c2 c3 c4 c5 c6 lo hi => change_all home on (W.heap.size + 1) (W.heap.size + 1 + 1) rows k a t _ x w p 0 c0 c1 c2 c3 c4 c5 c6 lo hi (Nat.le_refl _))
  have HQ1 := hid q1
  have HS1 := hid s1
  clear hg hx hs hm hk hmay hw1 q1 s1
  cases hb : L.mayB k a t
  · rw [hb] at HAX
    have HLN : Hid (lnE home.data.toList on.data.toList rows k a t x = x) := hid (by unfold lnE; rw [hb]; rfl)
    clear hb
    go_enter Tryz.func55, Tryz.ntmps55
    go_wp2_with (first
      | (go_at_call 41; refine HCO.out.mono ?_; rintro e9 w2 ⟨v2, rfl, q2, lo, hi, h1, h2, ow2⟩; obtain ⟨k3, n3, t3, b3, e3, a3, l3, c3, a4, l4, c4, rfl⟩ := ow2.shape; have Q2 := hid q2; have O2 := hid ow2; have H12 := hid (And.intro h1 h2); have hl2 : W.heap.size + 1 + 1 + 1 < w2.heap.size := (by have := HS1.out; have := q2.size; omega); have hl0 : W.heap.size < w2.heap.size := (by omega); have hl1 : W.heap.size + 1 + 1 < w2.heap.size := (by omega); clear h1 h2 ow2; obtain ⟨z0, z1, z2, z3, z4, z5, z6, _⟩ := HBX.out.blk (Q.block q2 (by have := HS1.out; omega)); clear q2)
      | (go_at_call 42; refine (HMY.out _ ((HQ1.out.trans Q2.out).alloc _)).mono ?_; rintro e9 w4 ⟨rfl, q4⟩; have Q4 := hid q4; have N4 := hid ((nd_new w2 (.int .i64 k3) (.int .i64 n3) (.string t3) (.bool b3) (.int .i64 e3) (.slice a3 l3 c3) (.slice a4 l4 c4) 35).on q4); have q24 : Q w2 w4 := ((Q.refl _).alloc _).trans q4; have Q24 := hid q24; have LV4 := hid (HLV.out.blk (Q.block (Q2.out.trans q24) (by have := HS1.out; omega)) (Q.block (Q2.out.trans q24) (by have := HS1.out; omega))); have O4 := hid (Ow.on _ _ _ _ (fun i _ h => Bs.of (Q.block q24 (by have := H12.out; omega))) O2.out); have TB4 := hid (HTB.out.blk (Q.block (Q2.out.trans q24) (by have := HS1.out; omega))); have hl4 : w2.heap.size < w4.heap.size := N4.out.pl.lt; have hl5 : W.heap.size + 1 + 1 + 1 < w4.heap.size := (by omega); clear q4 q24 z0 z1 z2 z3 z4 z5 z6; obtain ⟨_, x0, x1, x2⟩ := LV4.out; obtain ⟨y0, y1, y2, y3, y4, y5, y6, _⟩ := N4.out; obtain ⟨u0, u1, u2, u3, u4, u5, u6, uf⟩ := TB4.out; have f0 := uf 0; have f1 := uf 1; have f2 := uf 2; have f3 := uf 3; have f4 := uf 4; have f5 := uf 5; have f6 := uf 6; clear uf)
      | (go_at_call 30; refine (HAX.out _).mono ?_; rintro e9 w5 ⟨rfl, h5⟩; have q5 : Q w4 w5 := (by rw [h5]; exact (Q.refl _).alloc _); have Q5 := hid q5; have N5 := hid (N4.out.on q5); have O5 := hid (Ow.on _ _ _ _ (fun i _ h => Bs.of (Q.block q5 (by have := H12.out; omega))) O4.out); have LV5 := hid (LV4.out.blk (Q.block q5 (by omega)) (Q.block q5 (by omega))); have TB5 := hid (TB4.out.blk (Q.block q5 (by omega))); clear h5 q5 y0 y1 y2 y3 y4 y5 y6 u0 u1 u2 u3 u4 u5 u6 f0 f1 f2 f3 f4 f5 f6 x0 x1 x2; obtain ⟨y0, y1, y2, y3, y4, y5, y6, _⟩ := N5.out; obtain ⟨u0, u1, u2, u3, u4, u5, u6, uf⟩ := TB5.out; have f0 := uf 0; have f1 := uf 1; have f2 := uf 2; have f3 := uf 3; have f4 := uf 4; have f5 := uf 5; have f6 := uf 6; clear uf; simp only [Nat.zero_add] at y0 y1 y2 y3 y4 y5 y6))
    refine bodyPost_ret (v := .agg #[.int .i64 k3, .int .i64 n3, .string t3, .bool b3, .int .i64 e3, .slice a3 l3 c3, .slice a4 l4 c4]) (by simp [results, Tryz.results55, go_sem, u0, u1, u2, u3, u4, u5, u6]) rfl ?_
    have QF : Qx (W.heap.size + 1 + 1 + 1) w5 (((((((w5.setCell ⟨W.heap.size + 1 + 1 + 1, 0, none⟩ (.int .i64 k3)).setCell ⟨W.heap.size + 1 + 1 + 1, 1, none⟩ (.int .i64 n3)).setCell ⟨W.heap.size + 1 + 1 + 1, 2, none⟩ (.string t3)).setCell ⟨W.heap.size + 1 + 1 + 1, 3, none⟩ (.bool b3)).setCell ⟨W.heap.size + 1 + 1 + 1, 4, none⟩ (.int .i64 e3)).setCell ⟨W.heap.size + 1 + 1 + 1, 5, none⟩ (.slice a3 l3 c3)).setCell ⟨W.heap.size + 1 + 1 + 1, 6, none⟩ (.slice a4 l4 c4)) := (((((((Qx.refl _ _).own _ _).own _ _).own _ _).own _ _).own _ _).own _ _).own _ _
    have hq : Q W w5 := ((HQ1.out.trans Q2.out).trans Q24.out).trans Q5.out
    have hz := HS1.out
    have h12 := H12.out
    have hz4 := Q24.out.size
    have hz5 := Q5.out.size
    rw [HLN.out]
    refine ⟨_, rfl, ⟨QF.os.trans hq.os, QF.tape.trans hq.tape, QF.output.trans hq.output, Nat.le_trans hq.size QF.size, fun i hi => (QF.block i (Nat.lt_of_lt_of_le hi hq.size) (fun e => by have := Option.some.inj e; omega)).trans (Q.block hq hi)⟩, lo, hi, by omega, Nat.le_trans (by omega) QF.size, ?_⟩
    exact Ow.on _ _ _ _ (fun i h1 h2 => Bs.of (QF.block i (by omega) (fun e => by have := Option.some.inj e; omega))) O5.out
  · rw [hb] at HAX
    have HLN : Hid (lnE home.data.toList on.data.toList rows k a t x = chg home.data.toList on.data.toList (mvB rows k a t) (mvR rows k a t) x) := hid (by unfold lnE; rw [hb]; rfl)
    clear hb
    go_enter Tryz.func55, Tryz.ntmps55
    go_wp2_with (first
      | (go_at_call 41; refine HCO.out.mono ?_; rintro e9 w2 ⟨v2, rfl, q2, lo, hi, h1, h2, ow2⟩; obtain ⟨k3, n3, t3, b3, e3, a3, l3, c3, a4, l4, c4, rfl⟩ := ow2.shape; have Q2 := hid q2; have O2 := hid ow2; have H12 := hid (And.intro h1 h2); have hl2 : W.heap.size + 1 + 1 + 1 < w2.heap.size := (by have := HS1.out; have := q2.size; omega); have hl0 : W.heap.size < w2.heap.size := (by omega); have hl1 : W.heap.size + 1 + 1 < w2.heap.size := (by omega); clear h1 h2 ow2; obtain ⟨z0, z1, z2, z3, z4, z5, z6, _⟩ := HBX.out.blk (Q.block q2 (by have := HS1.out; omega)); clear q2)
      | (go_at_call 42; refine (HMY.out _ ((HQ1.out.trans Q2.out).alloc _)).mono ?_; rintro e9 w4 ⟨rfl, q4⟩; have Q4 := hid q4; have N4 := hid ((nd_new w2 (.int .i64 k3) (.int .i64 n3) (.string t3) (.bool b3) (.int .i64 e3) (.slice a3 l3 c3) (.slice a4 l4 c4) 35).on q4); have q24 : Q w2 w4 := ((Q.refl _).alloc _).trans q4; have Q24 := hid q24; have LV4 := hid (HLV.out.blk (Q.block (Q2.out.trans q24) (by have := HS1.out; omega)) (Q.block (Q2.out.trans q24) (by have := HS1.out; omega))); have O4 := hid (Ow.on _ _ _ _ (fun i _ h => Bs.of (Q.block q24 (by have := H12.out; omega))) O2.out); have TB4 := hid (HTB.out.blk (Q.block (Q2.out.trans q24) (by have := HS1.out; omega))); have hl4 : w2.heap.size < w4.heap.size := N4.out.pl.lt; have hl5 : W.heap.size + 1 + 1 + 1 < w4.heap.size := (by omega); clear q4 q24 z0 z1 z2 z3 z4 z5 z6; obtain ⟨_, x0, x1, x2⟩ := LV4.out; obtain ⟨y0, y1, y2, y3, y4, y5, y6, _⟩ := N4.out; obtain ⟨u0, u1, u2, u3, u4, u5, u6, uf⟩ := TB4.out; have f0 := uf 0; have f1 := uf 1; have f2 := uf 2; have f3 := uf 3; have f4 := uf 4; have f5 := uf 5; have f6 := uf 6; clear uf)
      | (go_at_call 30; refine (HAX.out _).mono ?_; rintro e9 w5 ⟨rfl, h5⟩; have q5 : Q w4 w5 := (by rw [h5]; exact (Q.refl _).alloc _); have Q5 := hid q5; have N5 := hid (N4.out.on q5); have O5 := hid (Ow.on _ _ _ _ (fun i _ h => Bs.of (Q.block q5 (by have := H12.out; omega))) O4.out); have LV5 := hid (LV4.out.blk (Q.block q5 (by omega)) (Q.block q5 (by omega))); have TB5 := hid (TB4.out.blk (Q.block q5 (by omega))); clear h5 q5 y0 y1 y2 y3 y4 y5 y6 u0 u1 u2 u3 u4 u5 u6 f0 f1 f2 f3 f4 f5 f6 x0 x1 x2; obtain ⟨y0, y1, y2, y3, y4, y5, y6, _⟩ := N5.out; obtain ⟨u0, u1, u2, u3, u4, u5, u6, uf⟩ := TB5.out; have f0 := uf 0; have f1 := uf 1; have f2 := uf 2; have f3 := uf 3; have f4 := uf 4; have f5 := uf 5; have f6 := uf 6; clear uf; simp only [Nat.zero_add] at y0 y1 y2 y3 y4 y5 y6)
      | (go_at_call 43; refine (HCH.out w5 w2.heap.size _ _ _ _ _ _ _ lo hi N5.out O5.out (by have := H12.out; have := Q5.out.size; omega) (.inr H12.out.2) LV5.out (.inl (by have := H12.out; have := HS1.out; omega)) (.inl (by have := H12.out; have := HS1.out; omega)) (by omega) (by omega)).mono ?_; rintro e9 w6 ⟨⟨u9, rfl⟩, cd6⟩; obtain ⟨d0, d1, d2, d3, d4, d5, d6, n6, o6⟩ := cd6.ex; obtain ⟨k7, n7, t7, b7, e7, a7, l7, c7, a8, l8, c8, hsh⟩ := o6.shape; simp only [Value.agg.injEq, Array.mk.injEq, List.cons.injEq, and_true] at hsh; obtain ⟨rfl, rfl, rfl, rfl, rfl, rfl, rfl⟩ := hsh; have C6 := hid cd6.ch; have O6 := hid o6; have TB6 := hid (TB4.out.blk ((C6.out.q.block _ (Q.lt Q5.out hl5) (fun e => by have := H12.out; have := HS1.out; omega)).trans (Q.block Q5.out hl5))); clear y0 y1 y2 y3 y4 y5 y6 u0 u1 u2 u3 u4 u5 u6 f0 f1 f2 f3 f4 f5 f6; obtain ⟨y0, y1, y2, y3, y4, y5, y6, _⟩ := n6; obtain ⟨u0, u1, u2, u3, u4, u5, u6, uf⟩ := TB6.out; have f0 := uf 0; have f1 := uf 1; have f2 := uf 2; have f3 := uf 3; have f4 := uf 4; have f5 := uf 5; have f6 := uf 6; clear uf cd6 o6; simp only [Nat.zero_add] at y0 y1 y2 y3 y4 y5 y6))
    refine bodyPost_ret (v := .agg #[.int .i64 k7, .int .i64 n7, .string t7, .bool b7, .int .i64 e7, .slice a7 l7 c7, .slice a8 l8 c8]) (by simp [results, Tryz.results55, go_sem, u0, u1, u2, u3, u4, u5, u6]) rfl ?_
    have QF : Qx (W.heap.size + 1 + 1 + 1) w6 (((((((w6.setCell ⟨W.heap.size + 1 + 1 + 1, 0, none⟩ (.int .i64 k7)).setCell ⟨W.heap.size + 1 + 1 + 1, 1, none⟩ (.int .i64 n7)).setCell ⟨W.heap.size + 1 + 1 + 1, 2, none⟩ (.string t7)).setCell ⟨W.heap.size + 1 + 1 + 1, 3, none⟩ (.bool b7)).setCell ⟨W.heap.size + 1 + 1 + 1, 4, none⟩ (.int .i64 e7)).setCell ⟨W.heap.size + 1 + 1 + 1, 5, none⟩ (.slice a7 l7 c7)).setCell ⟨W.heap.size + 1 + 1 + 1, 6, none⟩ (.slice a8 l8 c8)) := (((((((Qx.refl _ _).own _ _).own _ _).own _ _).own _ _).own _ _).own _ _).own _ _
    have hz := HS1.out
    have h12 := H12.out
    have hq : Q W w6 := q_chd (((HQ1.out.trans Q2.out).trans Q24.out).trans Q5.out) C6.out (by omega) (by omega)
    have hz4 := Q24.out.size
    have hz5 := Q5.out.size
    have hz6 := C6.out.q.size
    rw [HLN.out]
    refine ⟨_, rfl, ⟨QF.os.trans hq.os, QF.tape.trans hq.tape, QF.output.trans hq.output, Nat.le_trans hq.size QF.size, fun i hi => (QF.block i (Nat.lt_of_lt_of_le hi hq.size) (fun e => by have := Option.some.inj e; omega)).trans (Q.block hq hi)⟩, lo, hi, by omega, Nat.le_trans (by omega) QF.size, ?_⟩
    exact Ow.on _ _ _ _ (fun i h1 h2 => Bs.of (QF.block i (by omega) (fun e => by have := Option.some.inj e; omega))) O6.out
set_option maxHeartbeats 2000000 in
theorem sheet_none (x : Ex) (v : Value) (home gone : ByteArray) (W : World) (hg : Gd W) (hx : Rd W x v) (hs : Sn x) (hm : Sm x) (hk : nodes x ≤ 1000) (hmay : (fitB x && mall mayN x) = true) (hgo : gone.data.toList = []) :
    Calls Tryz.prog 26 #[v, .string home, .string gone] W fun e W' => ∃ v', e = .returned v' ∧ Q W W' ∧ ∃ lo hi, W.heap.size ≤ lo ∧ hi ≤ W'.heap.size ∧ Ow W' (x) v' lo hi := by
  obtain ⟨k0, n0, t0, b0, e0, a1, l1, c1, a2, l2, c2, rfl⟩ := hx.shape
  obtain ⟨w1, hw1⟩ : ∃ w1, w1 = (W.alloc (.cells #[.int .i64 k0, .int .i64 n0, .string t0, .bool b0, .int .i64 e0, .slice a1 l1 c1, .slice a2 l2 c2] 35)).alloc (.cells #[.int .i64 0, .int .i64 0, .string ⟨#[]⟩, .bool false, .int .i64 0, .slice none 0 0, .slice none 0 0] 35) := ⟨_, rfl⟩
  have q1 : Q W w1 := by rw [hw1]; exact ((Q.refl _).alloc _).alloc _
  have s1 : w1.heap.size = W.heap.size + 1 + 1 := by rw [hw1]; simp
  have HTB : Hid (Tb w1 (W.heap.size + 1) (.int .i64 0) (.int .i64 0) (.string ⟨#[]⟩) (.bool false) (.int .i64 0) (.slice none 0 0) (.slice none 0 0)) := by
    have := tb_new ((W.alloc (.cells #[.int .i64 k0, .int .i64 n0, .string t0, .bool b0, .int .i64 e0, .slice a1 l1 c1, .slice a2 l2 c2] 35))) (.int .i64 0) (.int .i64 0) (.string ⟨#[]⟩) (.bool false) (.int .i64 0) (.slice none 0 0) (.slice none 0 0) 35
    rw [hw1]
    show Tb _ _ _ _ _ _ _ _ _
    simpa using this
  have HBX : Hid (Tb w1 W.heap.size (.int .i64 k0) (.int .i64 n0) (.string t0) (.bool b0) (.int .i64 e0) (.slice a1 l1 c1) (.slice a2 l2 c2)) := by
    have := (tb_new W (.int .i64 k0) (.int .i64 n0) (.string t0) (.bool b0) (.int .i64 e0) (.slice a1 l1 c1) (.slice a2 l2 c2) 35).blk (W' := w1) (by rw [hw1]; exact Q.block ((Q.refl _).alloc _) (by simp))
    exact this
  have HCO : Hid (Calls Tryz.prog 41 #[.agg #[.int .i64 k0, .int .i64 n0, .string t0, .bool b0, .int .i64 e0, .slice a1 l1 c1, .slice a2 l2 c2]] ((W.alloc (.cells #[.int .i64 k0, .int .i64 n0, .string t0, .bool b0, .int .i64 e0, .slice a1 l1 c1, .slice a2 l2 c2] 35)).alloc (.cells #[.int .i64 0, .int .i64 0, .string ⟨#[]⟩, .bool false, .int .i64 0, .slice none 0 0, .slice none 0 0] 35)) fun e W' => ∃ v', e = .returned v' ∧ Q w1 W' ∧ ∃ lo hi, w1.heap.size ≤ lo ∧ hi ≤ W'.heap.size ∧ Ow W' x v' lo hi) := by
    rw [← hw1]
    exact copied_all x _ w1 (Rd.on q1 _ _ hx) hs hk
  have HMY := hid (fun w (q : Q W w) => pmay_any x _ w (hg.on q) hm (Rd.on q _ _ hx))
  rw [hmay] at HMY
  have HQ1 := hid q1
  have HS1 := hid s1
  have hgn : (gone.toList == []) = true := by rw [(hid (toL gone)).out, hgo]; rfl
  clear hg hx hs hm hk hmay hw1 q1 s1 hgo
  go_enter Tryz.func26, Tryz.ntmps26
  go_wp2_with (first
    | (go_at_call 41; refine HCO.out.mono ?_; rintro e9 w2 ⟨v2, rfl, q2, lo, hi, h1, h2, ow2⟩; obtain ⟨k3, n3, t3, b3, e3, a3, l3, c3, a4, l4, c4, rfl⟩ := ow2.shape; have Q2 := hid q2; have O2 := hid ow2; have H12 := hid (And.intro h1 h2); have hl2 : W.heap.size + 1 < w2.heap.size := (by have := HS1.out; have := q2.size; omega); have hl0 : W.heap.size < w2.heap.size := (by omega); clear h1 h2 ow2; obtain ⟨z0, z1, z2, z3, z4, z5, z6, _⟩ := HBX.out.blk (Q.block q2 (by have := HS1.out; omega)); clear q2)
    | (go_at_call 42; refine (HMY.out _ ((HQ1.out.trans Q2.out).alloc _)).mono ?_; rintro e9 w4 ⟨rfl, q4⟩; have N4 := hid ((nd_new w2 (.int .i64 k3) (.int .i64 n3) (.string t3) (.bool b3) (.int .i64 e3) (.slice a3 l3 c3) (.slice a4 l4 c4) 35).on q4); have q24 : Q w2 w4 := ((Q.refl _).alloc _).trans q4; have Q24 := hid q24; have O4 := hid (Ow.on _ _ _ _ (fun i _ h => Bs.of (Q.block q24 (by have := H12.out; omega))) O2.out); have TB4 := hid (HTB.out.blk (Q.block (Q2.out.trans q24) (by have := HS1.out; omega))); have hl4 : w2.heap.size < w4.heap.size := N4.out.pl.lt; have hl5 : W.heap.size + 1 < w4.heap.size := (by omega); clear q4 q24 z0 z1 z2 z3 z4 z5 z6; obtain ⟨y0, y1, y2, y3, y4, y5, y6, _⟩ := N4.out; obtain ⟨u0, u1, u2, u3, u4, u5, u6, uf⟩ := TB4.out; have f0 := uf 0; have f1 := uf 1; have f2 := uf 2; have f3 := uf 3; have f4 := uf 4; have f5 := uf 5; have f6 := uf 6; clear uf; simp only [Nat.zero_add] at y0 y1 y2 y3 y4 y5 y6))
  refine bodyPost_ret (v := .agg #[.int .i64 k3, .int .i64 n3, .string t3, .bool b3, .int .i64 e3, .slice a3 l3 c3, .slice a4 l4 c4]) (by simp [results, Tryz.results26, go_sem, u0, u1, u2, u3, u4, u5, u6]) rfl ?_
  have QF : Qx (W.heap.size + 1) w4 (((((((w4.setCell ⟨W.heap.size + 1, 0, none⟩ (.int .i64 k3)).setCell ⟨W.heap.size + 1, 1, none⟩ (.int .i64 n3)).setCell ⟨W.heap.size + 1, 2, none⟩ (.string t3)).setCell ⟨W.heap.size + 1, 3, none⟩ (.bool b3)).setCell ⟨W.heap.size + 1, 4, none⟩ (.int .i64 e3)).setCell ⟨W.heap.size + 1, 5, none⟩ (.slice a3 l3 c3)).setCell ⟨W.heap.size + 1, 6, none⟩ (.slice a4 l4 c4)) := (((((((Qx.refl _ _).own _ _).own _ _).own _ _).own _ _).own _ _).own _ _).own _ _
  have hz := HS1.out
  have h12 := H12.out
  have hq : Q W w4 := (HQ1.out.trans Q2.out).trans Q24.out
  have hz4 := Q24.out.size
  refine ⟨_, rfl, ⟨QF.os.trans hq.os, QF.tape.trans hq.tape, QF.output.trans hq.output, Nat.le_trans hq.size QF.size, fun i hi => (QF.block i (Nat.lt_of_lt_of_le hi hq.size) (fun e => by have := Option.some.inj e; omega)).trans (Q.block hq hi)⟩, lo, hi, by omega, Nat.le_trans (by omega) QF.size, ?_⟩
  exact Ow.on _ _ _ _ (fun i h1 h2 => Bs.of (QF.block i (by omega) (fun e => by have := Option.some.inj e; omega))) O4.out
theorem tr_of {w0 W : World} {X : Ex} {v : Value} (h : ∃ lo hi, w0.heap.size ≤ lo ∧ hi ≤ W.heap.size ∧ Ow W X v lo hi) : ∃ q : Rv, v = .agg (tr7 q).toArray ∧ Tr w0 W X q := by
  obtain ⟨lo, hi, h1, h2, h3⟩ := h
  obtain ⟨k, n, t, b, e, a1, l1, c1, a2, l2, c2, rfl⟩ := h3.shape
  exact ⟨fo ⟨#[]⟩ 0 0 k n t b e a1 l1 c1 a2 l2 c2, rfl, lo, hi, h1, h2, h3⟩
theorem lines_q (x y : Rv) (X : Ex) (V : World) (hg : Gd V) (hx : Rd V X (.agg (tr7 x).toArray)) (hs : Sn X) (hm : Sm X) (hk : nodes X ≤ 200) (hmay : (fitB X && mall mayN X) = true) :
    Calls Tryz.prog 55 #[.agg (tr7 x).toArray, .string x.sh, .string y.sh, .bool true, .agg (ln3 y).toArray] V fun e V' => ∃ q : Rv, e = .returned (.agg (tr7 q).toArray) ∧ Q V V' ∧ Tr V V' (lnE x.sh.data.toList y.sh.data.toList true y.lk y.la y.lt X) q := by
  refine (lines_any X _ x.sh y.sh true y.lk y.la y.lt V hg hx hs hm hk hmay).mono ?_
  rintro e V' ⟨v', rfl, q1, h⟩
  obtain ⟨q, rfl, hq⟩ := tr_of h
  exact ⟨q, rfl, q1, hq⟩
theorem sheet_q (x : Rv) (X : Ex) (V : World) (hg : Gd V) (hx : Rd V X (.agg (tr7 x).toArray)) (hs : Sn X) (hm : Sm X) (hk : nodes X ≤ 200) (hmay : (fitB X && mall mayN X) = true) :
    Calls Tryz.prog 26 #[.agg (tr7 x).toArray, .string x.sh, .string ⟨#[]⟩] V fun e V' => ∃ q : Rv, e = .returned (.agg (tr7 q).toArray) ∧ Q V V' ∧ Tr V V' X q := by
  refine (sheet_none X _ x.sh ⟨#[]⟩ V hg hx hs hm (by omega) hmay rfl).mono ?_
  rintro e V' ⟨v', rfl, q1, h⟩
  obtain ⟨q, rfl, hq⟩ := tr_of h
  exact ⟨q, rfl, q1, hq⟩
def kO : Option Rf → Ex
  | some r => .mk 5 0 [] false 0 [r] []
  | none => lostE
def tS (ks : List (Option Rf)) : Ex := .mk 9 0 [83, 85, 77] false 0 [] (ks.map kO)
structure GdK (ks : List (Option Rf)) : Prop where
  l : ks.length ≤ 30
  r : ∀ r, some r ∈ ks → r.1 = [] ∧ mayR r.1 r.2.1 r.2.2.1 = true
theorem kO_nodes (o : Option Rf) : nodes (kO o) = 1 := by
  cases o <;> (unfold kO; try unfold lostE) <;> simp [nodes, nodes.nodesL]
theorem tS_nodes (ks : List (Option Rf)) : nodes (tS ks) = 1 + ks.length := by
  unfold tS
  rw [nodes]
  congr 1
  induction ks with
  | nil => rfl
  | cons o ks ih => rw [List.map_cons, nodes.nodesL, ih, kO_nodes, List.length_cons]; omega
theorem tS_shl (ks : List (Option Rf)) : shl 50 (tS ks) = true := by
  unfold tS
  show ((ks.map kO).all (shl 49)) = true
  rw [List.all_eq_true]
  intro x hx
  obtain ⟨o, _, rfl⟩ := List.mem_map.1 hx
  cases o <;> rfl
theorem kO_may {o : Option Rf} (h : ∀ r, o = some r → mayR r.1 r.2.1 r.2.2.1 = true) : mall mayN (kO o) = true := by
  cases o with
  | none => decide
  | some r =>
    have := h r rfl
    unfold kO
    rw [mall]
    simp [mall.mallL, mayN, oneB, this, bareB]
theorem tS_may {ks : List (Option Rf)} (h : GdK ks) : (fitB (tS ks) && mall mayN (tS ks)) = true := by
  have hl := h.l
  have h1 : fitB (tS ks) = true := by
    unfold fitB
    rw [tS_nodes, tS_shl, decide_eq_true (by omega)]
    rfl
  rw [h1, Bool.true_and]
  unfold tS
  rw [mall, mallL_all]
  have h2 : (ks.map kO).all (mall mayN) = true := by
    rw [List.all_eq_true]
    intro x hx
    obtain ⟨o, ho, rfl⟩ := List.mem_map.1 hx
    exact kO_may (fun r e => (h.r r (e ▸ ho)).2)
  rw [h2, Bool.and_true]
  have hn : namF [83, 85, 77] = true := by decide
  simp [mayN, hn, bareB, hl]
theorem kO_sn {o : Option Rf} (h : ∀ r, o = some r → r.1 = []) : Sn (kO o) ∧ Sm (kO o) := by
  cases o with
  | none =>
    unfold kO lostE
    simp [Sn, Sn.SnL, Sm, Sm.SmL]
  | some r =>
    have := h r rfl
    unfold kO
    simp [Sn, Sn.SnL, Sm, Sm.SmL, this]
theorem tS_sn {ks : List (Option Rf)} (h : GdK ks) : Sn (tS ks) ∧ Sm (tS ks) := by
  have hl := h.l
  have h2 : ∀ l : List (Option Rf), (∀ r, some r ∈ l → r.1 = []) → Sn.SnL (l.map kO) ∧ Sm.SmL (l.map kO) := by
    intro l hh
    induction l with
    | nil => exact ⟨trivial, trivial⟩
    | cons o l ih =>
      have h3 := ih (fun r hr => hh r (List.mem_cons_of_mem _ hr))
      have h4 := kO_sn (o := o) (fun r e => hh r (e ▸ List.mem_cons_self ..))
      rw [List.map_cons]
      exact ⟨⟨h4.1, h3.1⟩, ⟨h4.2, h3.2⟩⟩
  have h3 := h2 ks (fun r hr => (h.r r hr).1)
  unfold tS
  refine ⟨?_, ?_⟩
  · unfold Sn
    exact ⟨by decide, by decide, fun r hr => absurd hr (by simp), by simp; omega, h3.1⟩
  · unfold Sm
    exact ⟨by decide, fun r hr => absurd hr (by simp), h3.2⟩
def kst (k a t : Int) : Option Rf → Option Rf
  | some r => if mvB true k a t r = true then some (mvR true k a t r) else none
  | none => none
theorem kO_chg (home : List UInt8) (k a t : Int) {o : Option Rf} (h : ∀ r, o = some r → r.1 = []) : chg home home (mvB true k a t) (mvR true k a t) (kO o) = kO (kst k a t o) := by
  cases o with
  | none => unfold kO lostE kst; simp [chg, chg.chgL, hit, lostE]
  | some r =>
    have h1 := h r rfl
    have hh : hit home home [r] = true := by
      show decide (orT r.1 home = home) = true
      rw [h1]
      exact decide_eq_true (if_pos rfl)
    unfold kO kst
    rw [chg, hh]
    cases hm : mvB true k a t r with
    | false => simp [hm]
    | true => simp [hm, chg.chgL]
theorem tS_lines (home : List UInt8) (k a t : Int) {ks : List (Option Rf)} (h : GdK ks) (hm : L.mayB k a t = true) : lnE home home true k a t (tS ks) = tS (ks.map (kst k a t)) := by
  unfold lnE
  rw [if_pos hm]
  unfold tS
  rw [chg]
  have hh : hit home home [] = false := rfl
  rw [hh]
  simp only [Bool.false_and, Bool.false_eq_true, if_false]
  rw [chgL_map, List.map_map, List.map_map]
  congr 1
  apply List.map_congr_left
  intro o ho
  exact kO_chg home k a t (fun r e => (h.r r (e ▸ ho)).1)
theorem GdK.step {ks : List (Option Rf)} (h : GdK ks) (k a t : Int) : GdK (ks.map (kst k a t)) := by
  refine ⟨by rw [List.length_map]; exact h.l, fun r' hr => ?_⟩
  obtain ⟨o, ho, he⟩ := List.mem_map.1 hr
  cases o with
  | none => cases he
  | some r =>
    obtain ⟨h1, h2⟩ := h.r r ho
    by_cases hm : mvB true k a t r = true
    · have e1 : kst k a t (some r) = some (mvR true k a t r) := if_pos hm
      rw [e1] at he
      have he := Option.some.inj he
      subst he
      unfold mvB mvL at hm
      rw [if_pos rfl, decide_eq_true_eq] at hm
      unfold mvR
      rw [if_pos rfl]
      refine ⟨h1, ?_⟩
      unfold mayR at h2 ⊢
      simp only [Bool.and_eq_true] at h2 ⊢
      exact ⟨h2.1, decide_eq_true hm, h2.2.2⟩
    · have e1 : kst k a t (some r) = none := if_neg hm
      rw [e1] at he
      cases he
def kall (ls : List L3) (ks : List (Option Rf)) : List (Option Rf) := ls.foldl (fun ks l => ks.map (kst l.1 l.2.1 l.2.2)) ks
def rst (l : L3) (r : Option Int) : Option Int := r.bind fun i => if 0 ≤ L.ix l.1 l.2.1 l.2.2 i ∧ L.ix l.1 l.2.1 l.2.2 i < 2199023255552 then some (L.ix l.1 l.2.1 l.2.2 i) else none
theorem kst_row (l : L3) (o : Option Rf) : (kst l.1 l.2.1 l.2.2 o).map (·.2.1) = rst l (o.map (·.2.1)) := by
  cases o with
  | none => rfl
  | some r =>
    unfold kst mvB mvL mvR rst
    simp only [Option.map_some, Option.bind_some, if_true, decide_eq_true_eq]
    split <;> rfl
theorem kp_cell {g : Nat → Prop} {W W' : World} (hb : ∀ i, g i → i < W.heap.size → W'.heap[i]? = W.heap[i]?) {b o : Nat} {c : Value} (hg : g b) (h : W.cell? ⟨b, o, none⟩ = some c) : W'.cell? ⟨b, o, none⟩ = some c :=
  (World.cell?_of_block (w := W) (w' := W') (a := ⟨b, o, none⟩) (hb b hg (World.block_lt_of_cell? W ⟨b, o, none⟩ h))).trans h
theorem Slg.kp {g : Nat → Prop} {W W' : World} {v : Value} {L : List Rf} (h : Slg g W v L) (hb : ∀ i, g i → i < W.heap.size → W'.heap[i]? = W.heap[i]?) : Slg g W' v L := by
  obtain ⟨ao, cap, hv, h1, h2, h3⟩ := h
  refine ⟨ao, cap, hv, h1, h2, fun hl => ?_⟩
  obtain ⟨b, off, ha, hg, hc⟩ := h3 hl
  exact ⟨b, off, ha, hg, fun i hi j u hu => kp_cell hb hg (hc i hi j u hu)⟩
theorem Slg.mo {g g' : Nat → Prop} {W : World} {v : Value} {L : List Rf} (h : Slg g W v L) (hl : ∀ i, g i → i < W.heap.size → g' i) : Slg g' W v L := by
  obtain ⟨ao, cap, hv, h1, h2, h3⟩ := h
  refine ⟨ao, cap, hv, h1, h2, fun hn => ?_⟩
  obtain ⟨b, off, ha, hg, hc⟩ := h3 hn
  have h4 := hc 0 hn 0 (.string ⟨(L[0]'hn).1.toArray⟩) rfl
  exact ⟨b, off, ha, hl _ hg (World.block_lt_of_cell? W ⟨b, _, none⟩ h4), hc⟩
theorem Pl.kp {g : Nat → Prop} {W W' : World} {b : Nat} (h : Pl W b) (hg : g b) (hb : ∀ i, g i → i < W.heap.size → W'.heap[i]? = W.heap[i]?) : Pl W' b := by
  have hlt := h.lt
  obtain ⟨c, t, h⟩ := h
  exact ⟨c, t, (hb b hg hlt).trans h⟩
theorem Rdg.kp {g : Nat → Prop} {W W' : World} (hb : ∀ i, g i → i < W.heap.size → W'.heap[i]? = W.heap[i]?) : ∀ (x : Ex) (v : Value), Rdg g W x v → Rdg g W' x v
  | .mk k n t b e rs ks, v, h => by
    unfold Rdg at h ⊢
    obtain ⟨rv, kv, hv, hr, ao, cap, hk, h1, h2, h3⟩ := h
    refine ⟨rv, kv, hv, hr.kp hb, ao, cap, hk, h1, h2, fun hn => ?_⟩
    obtain ⟨b', off, ha, hg, hpl, hl⟩ := h3 hn
    exact ⟨b', off, ha, hg, hpl.kp hg hb, go hb hg ks off hl⟩
  where
  go {g : Nat → Prop} {W W' : World} (hb : ∀ i, g i → i < W.heap.size → W'.heap[i]? = W.heap[i]?) {b : Nat} (hg : g b) : ∀ (l : List Ex) (off : Nat), Rdg.RdLg g W l b off → Rdg.RdLg g W' l b off
  | [], _, _ => by unfold Rdg.RdLg; trivial
  | x :: xs, off, h => by
    unfold Rdg.RdLg at h ⊢
    obtain ⟨⟨c0, c1, c2, c3, c4, c5, c6, g0, g1, g2, g3, g4, g5, g6, hx⟩, hr⟩ := h
    exact ⟨⟨c0, c1, c2, c3, c4, c5, c6, kp_cell hb hg g0, kp_cell hb hg g1, kp_cell hb hg g2, kp_cell hb hg g3, kp_cell hb hg g4, kp_cell hb hg g5, kp_cell hb hg g6, Rdg.kp hb x _ hx⟩, go hb hg xs (off + 7) hr⟩
theorem Rdg.mo {g g' : Nat → Prop} {W : World} (hl : ∀ i, g i → i < W.heap.size → g' i) : ∀ (x : Ex) (v : Value), Rdg g W x v → Rdg g' W x v
  | .mk k n t b e rs ks, v, h => by
    unfold Rdg at h ⊢
    obtain ⟨rv, kv, hv, hr, ao, cap, hk, h1, h2, h3⟩ := h
    refine ⟨rv, kv, hv, hr.mo hl, ao, cap, hk, h1, h2, fun hn => ?_⟩
    obtain ⟨b', off, ha, hg, hpl, hm⟩ := h3 hn
    exact ⟨b', off, ha, hl _ hg hpl.lt, hpl, go hl ks b' off hm⟩
  where
  go {g g' : Nat → Prop} {W : World} (hl : ∀ i, g i → i < W.heap.size → g' i) : ∀ (l : List Ex) (b off : Nat), Rdg.RdLg g W l b off → Rdg.RdLg g' W l b off
  | [], _, _, _ => by unfold Rdg.RdLg; trivial
  | x :: xs, b, off, h => by
    unfold Rdg.RdLg at h ⊢
    obtain ⟨⟨c0, c1, c2, c3, c4, c5, c6, g0, g1, g2, g3, g4, g5, g6, hx⟩, hr⟩ := h
    exact ⟨⟨c0, c1, c2, c3, c4, c5, c6, g0, g1, g2, g3, g4, g5, g6, Rdg.mo hl x _ hx⟩, go hl xs b (off + 7) hr⟩
abbrev Fst := Int × List (Option Rf)
def fq (row : Int) (q : Rv) : Rv := fo S0 row 3 q.tk q.tm q.tt q.tb q.te q.a1 q.l1 q.c1 q.a2 q.l2 q.c2
def Gf (p : Nat → Prop) (W : World) (a : Fst) (z : Rv) : Prop :=
  ∃ q : Rv, z = fq a.1 q ∧ Rdg p W (tS a.2) (.agg (tr7 q).toArray) ∧ GdK a.2 ∧ lnB a.1 = true
theorem gf_gk : GK Gf where
  kp := fun p W W' a x ⟨q, h1, h2, h3, h4⟩ _ hb => ⟨q, h1, Rdg.kp hb _ _ h2, h3, h4⟩
  mo := fun p p' W a x ⟨q, h1, h2, h3, h4⟩ hl => ⟨q, h1, Rdg.mo hl _ _ h2, h3, h4⟩
def stF (a : Fst) (y : Rv) : Option Fst := if lnB (L.ix y.lk y.la y.lt a.1) = true then some (L.ix y.lk y.la y.lt a.1, a.2.map (kst y.lk y.la y.lt)) else none
theorem stF_some (a : Fst) (y : Rv) : (stF a y).isSome = lnB (L.ix y.lk y.la y.lt a.1) := by
  unfold stF
  by_cases h : lnB (L.ix y.lk y.la y.lt a.1) = true
  · rw [if_pos h, h]; rfl
  · rw [if_neg h]
    simp at h
    rw [h]; rfl
theorem tS_fit {ks : List (Option Rf)} (h : GdK ks) : nodes (tS ks) ≤ 200 := by rw [tS_nodes]; have := h.l; omega
theorem gf_may (row : Int) (ks : List (Option Rf)) (q : Rv) (V : World) (hg : Gd V) (hk : GdK ks) (hr : Rd V (tS ks) (.agg (tr7 q).toArray)) : Calls Tryz.prog 22 #[(fq row q).v] V fun e V' => e = .returned (.bool (lnB row)) ∧ Q V V' := by
  refine (may_form S0 row 3 q.tk q.tm q.tt q.tb q.te q.a1 q.l1 q.c1 q.a2 q.l2 q.c2 (tS ks) V hg (by decide) (tS_sn hk).2 hr).mono ?_
  rintro e V' ⟨rfl, q1⟩
  refine ⟨?_, q1⟩
  rw [tS_may hk, id_S0]
  have h3 : lnB 3 = true := by decide
  rw [h3]
  simp
theorem gf_beh (a : Fst) (z : Rv) (l : L3) (P : Nat → Prop) (p : Bool) (V : World) (hg : Gd V) (h : Gf P V a z) (hm : L.mayB l.1 l.2.1 l.2.2 = true) :
    Calls Tryz.prog 20 #[.agg (aL z).toArray, .agg (aL (lop true l)).toArray, .bool p] V fun e V' => ∃ z', e = .returned (.tuple #[.agg (aB z' (stF a (lop true l)).isSome).toArray, .bool (stF a (lop true l)).isSome]) ∧ Q V V' ∧ ∀ a', stF a (lop true l) = some a' → Gf (fun i => V.heap.size ≤ i) V' a' z' := by
  obtain ⟨q, rfl, hr, hk, hl⟩ := h
  rw [stF_some]
  have hrd := Rdg.rd _ _ hr
  have hsn := tS_sn hk
  have hst : ∀ a', stF a (lop true l) = some a' → lnB (L.ix l.1 l.2.1 l.2.2 a.1) = true ∧ a' = (L.ix l.1 l.2.1 l.2.2 a.1, a.2.map (kst l.1 l.2.1 l.2.2)) := by
    intro a' h
    unfold stF at h
    by_cases hb : lnB (L.ix (lop true l).lk (lop true l).la (lop true l).lt a.1) = true
    · rw [if_pos hb] at h
      exact ⟨hb, (Option.some.inj h).symm⟩
    · rw [if_neg hb] at h
      cases h
  have hS := fun V' (q' : Q V V') => shifted_form (fq a.1 q) (lop true l) p (lnB (L.ix l.1 l.2.1 l.2.2 a.1)) (tS (a.2.map (kst l.1 l.2.1 l.2.2))) V' rfl rfl rfl rfl
    (fun V2 q2 => by
      have h1 := lines_q (fq a.1 q) (lop true l) (tS a.2) V2 (hg.on (q'.trans q2)) (Rd.on (q'.trans q2) _ _ hrd) hsn.1 hsn.2 (tS_fit hk) (tS_may hk)
      have h2 : lnE (fq a.1 q).sh.data.toList (lop true l).sh.data.toList true (lop true l).lk (lop true l).la (lop true l).lt (tS a.2) = tS (a.2.map (kst l.1 l.2.1 l.2.2)) := tS_lines S0.data.toList l.1 l.2.1 l.2.2 hk hm
      rw [h2] at h1
      exact h1)
    (fun q2 V2 qq hr2 => gf_may (L.ix l.1 l.2.1 l.2.2 a.1) _ q2 V2 (hg.on (q'.trans qq)) (hk.step l.1 l.2.1 l.2.2) hr2)
  have hB := abehind_ex (fq a.1 q) (lop true l) (fun q' => if lnB (L.ix l.1 l.2.1 l.2.2 a.1) = true then fq (L.ix l.1 l.2.1 l.2.2 a.1) q' else zR) p (lnB (L.ix l.1 l.2.1 l.2.2 a.1)) (tS (a.2.map (kst l.1 l.2.1 l.2.2))) V
    (fun V' q' => behind_ex (fq a.1 q) (lop true l) _ p _ _ V' (Or.inl rfl) (fun V2 q2 => (hS V2 (q'.trans q2)).mono fun e V3 ⟨q3, h1, h2, h3⟩ => ⟨q3, by
      rw [h1]
      cases lnB (L.ix l.1 l.2.1 l.2.2 a.1) with
      | true => rfl
      | false => rfl, h2, h3⟩))
  refine hB.mono ?_
  rintro e V' ⟨q3, h1, h2, h3⟩
  refine ⟨_, h1, h2, fun a' ha => ?_⟩
  obtain ⟨hb, rfl⟩ := hst a' ha
  rw [if_pos hb]
  obtain ⟨lo, hi, k1, k2, k3⟩ := h3
  exact ⟨q3, rfl, Ow.rdg _ _ lo hi (fun i hi1 _ => Nat.le_trans k1 hi1) k3, hk.step _ _ _, hb⟩
theorem gf_keep (a : Fst) (z : Rv) (l : L3) (P : Nat → Prop) (p : Bool) (V : World) (h : Gf P V a z) :
    Calls Tryz.prog 20 #[.agg (aL (lop true l)).toArray, .agg (aL z).toArray, .bool p] V fun e V' => e = .returned (.tuple #[.agg (aL (lop true l)).toArray, .bool true]) ∧ Q V V' := by
  obtain ⟨q, rfl, hr, hk, hl⟩ := h
  exact abehind_any (lop true l) (fq a.1 q) (lop true l) p true V (fun V' q' => behind_keep _ _ p V' rfl rfl rfl rfl)
theorem gf_told (a : Fst) (z : Rv) (P : Nat → Prop) (V : World) (hg : Gd V) (h : Gf P V a z) :
    Calls Tryz.prog 18 #[.agg (aL z).toArray] V fun e V' => ∃ q, e = .returned (z.wt q).v ∧ Q V V' ∧ Tr V V' (tS a.2) q := by
  obtain ⟨q, rfl, hr, hk, hl⟩ := h
  have hrd := Rdg.rd _ _ hr
  have hsn := tS_sn hk
  exact told_ex (fq a.1 q) (tS a.2) V (fun V' q' => copied_form (fq a.1 q) (tS a.2) V' (show S0.size ≤ 1000 by decide) (show (⟨#[]⟩ : ByteArray).size ≤ 1000 by decide) (show (⟨#[]⟩ : ByteArray).size ≤ 1000 by decide)
    (fun V2 q2 => sheet_q (fq a.1 q) (tS a.2) V2 (hg.on (q'.trans q2)) (Rd.on (q'.trans q2) _ _ hrd) hsn.1 hsn.2 (tS_fit hk) (tS_may hk))
    (fun V2 q2 => sclone_nil V2))
def rall (ls : List L3) (r : Option Int) : Option Int := ls.foldl (fun r l => rst l r) r
theorem rall_none (ls : List L3) : rall ls none = none := by
  induction ls with
  | nil => rfl
  | cons l ls ih => exact ih
theorem rst_some (l : L3) (i : Int) : rst l (some i) = if lnB (L.ix l.1 l.2.1 l.2.2 i) = true then some (L.ix l.1 l.2.1 l.2.2 i) else none := by
  unfold rst lnB
  simp only [Option.bind_some, decide_eq_true_eq]
theorem pasO_lines (ls : List L3) : ∀ (r : Int) (ks : List (Option Rf)), pasO stF (r, ks) (ls.map (lop true)) = (rall ls (some r)).map fun r' => (r', kall ls ks) := by
  induction ls with
  | nil => intro r ks; rfl
  | cons l ls ih =>
    intro r ks
    show (stF (r, ks) (lop true l)).bind (fun a' => pasO stF a' (ls.map (lop true))) = (rall ls (rst l (some r))).map fun r' => (r', kall ls (ks.map (kst l.1 l.2.1 l.2.2)))
    rw [rst_some]
    unfold stF
    by_cases hb : lnB (L.ix l.1 l.2.1 l.2.2 r) = true
    · have hb' : lnB (L.ix (lop true l).lk (lop true l).la (lop true l).lt r) = true := hb
      rw [if_pos hb, if_pos hb']
      exact ih _ _
    · have hb' : ¬ lnB (L.ix (lop true l).lk (lop true l).la (lop true l).lt r) = true := hb
      rw [if_neg hb, if_neg hb', rall_none]
      rfl
theorem refs_bat (row : Int) (ks : List (Option Rf)) (q : Rv) (ls : List L3) (va vb : Value) (p : Bool) (W0 w : World) (hg : Gd W0) (ha : Sl Rv.L 23 W0 va [fq row q]) (hb : Sl Rv.L 23 W0 vb (ls.map (lop true))) (hq0 : Q W0 w) (hn : ls.length ≤ 1000)
    (hr : Rdg (fun i => i < W0.heap.size) W0 (tS ks) (.agg (tr7 q).toArray)) (hk : GdK ks) (hrow : lnB row = true) (hls : ∀ l ∈ ls, L.mayB l.1 l.2.1 l.2.2 = true) :
    Calls Tryz.prog 9 #[va, vb, .bool p] w fun e V' => ∃ u1 u2, e = .returned (.tuple #[u1, u2]) ∧ Sl Rv.L 23 V' u2 (ls.map (lop true)) ∧ Q w V' ∧ (rall ls (some row) = none → Sl Rv.L 23 V' u1 []) ∧ ∀ r', rall ls (some row) = some r' → ∃ q', Sl Rv.L 23 V' u1 [fq r' q'] ∧ Rd V' (tS (kall ls ks)) (.agg (tr7 q').toArray) := by
  have hin : ∀ y ∈ ls.map (lop true), ∃ l ∈ ls, y = lop true l := fun y hy => by
    obtain ⟨l, hl, rfl⟩ := List.mem_map.1 hy
    exact ⟨l, hl, rfl⟩
  have hrd := Rdg.rd _ _ hr
  refine (batches_ex Gf gf_gk (fun a => tS a.2) stF (row, ks) (fq row q) (ls.map (lop true)) va vb p W0 w ha hb hq0 (by simpa using hn)
    (fun V q1 => by
      have h := gf_may row ks q V (hg.on q1) hk (Rd.on q1 _ _ hrd)
      rw [hrow] at h
      exact h)
    (fun x hx V q1 => by
      obtain ⟨l, hl, rfl⟩ := hin x hx
      exact may_RL (lop_rl true l (hls l hl)) (hg.on q1) (by decide) id_S0)
    ⟨q, rfl, hr, hk, hrow⟩
    (fun a x P V q1 hG y hy => by
      obtain ⟨l, hl, rfl⟩ := hin y hy
      exact gf_beh a x l P p V (hg.on q1) hG (hls l hl))
    (fun a x P V q1 hG y hy => by
      obtain ⟨l, hl, rfl⟩ := hin y hy
      exact gf_keep a x l P (!p) V hG)
    (fun a z P V q1 hG => gf_told a z P V (hg.on q1) hG)
    (fun x hx V q1 => by
      obtain ⟨l, hl, rfl⟩ := hin x hx
      exact cop_RL V (lop_rl true l (hls l hl)) (by decide))).mono ?_
  rintro e V' ⟨u1, u2, rfl, h1, h2, h3, h4⟩
  rw [pasO_lines] at h3 h4
  refine ⟨u1, u2, rfl, h1, h2, fun h => h3 (by rw [h]; rfl), fun r' h => ?_⟩
  obtain ⟨z, q', ⟨P, V2, q0, rfl, _⟩, h6, h7⟩ := h4 (r', kall ls ks) (by rw [h]; rfl)
  exact ⟨q', h6, h7.rd⟩
def ke (g : Nat) : List Value := [.int .i64 5, .int .i64 0, .string ⟨#[]⟩, .bool false, .int .i64 0, .slice (some ⟨g, 0, none⟩) 1 1, .slice none 0 0]
theorem ke_len (g : Nat) : (ke g).length = 7 := rfl
theorem own_ne9 {α : Type} {enc : α → List Value} {e : TypeId} {k B : Nat} {W : World} {o : Value} {L : List α} (h : Own enc e k B W o L) {t : TypeId} {q : Nat} {cs : Array Value} (hq : Bk W t q cs) (hne : e ≠ t) : o.ownBlock ≠ some q := by
  rcases h.2 with ⟨hv, _⟩ | ⟨g, cap, cur, hv, _, hg, _⟩
  · rw [hv]; intro e; cases e
  · rw [hv]
    intro e'
    have e2 : g = q := Option.some.inj e'
    subst e2
    rw [hq.h] at hg
    exact hne (by injection hg with h; injection h with _ h _; exact h.symm)
structure Kd (B : Nat) (W : World) (v : Value) (rs : List Rf) : Prop where
  h : ∃ gs : List Nat, gs.length = rs.length ∧ Own ke 35 7 B W v gs ∧ ∀ i (h : i < gs.length) (h' : i < rs.length), Bk W 46 gs[i] (rf rs[i]).toArray
theorem Kd.on {B : Nat} {W W' : World} {v : Value} {rs : List Rf} (h : Kd B W v rs) (q : Q W W') : Kd B W' v rs := by
  obtain ⟨gs, h1, h2, h3⟩ := h.h
  exact ⟨gs, h1, h2.on q, fun i a b => (h3 i a b).on q⟩
theorem kd_nil (B : Nat) (W : World) : Kd B W (.slice none 0 0) [] := ⟨[], rfl, own_nil W, fun i h _ => absurd h (by simp)⟩
theorem Kd.snoc {B : Nat} {W W' : World} {o o' : Value} {rs : List Rf} {r : Rf} {g : Nat} (gs : List Nat) (h1 : gs.length = rs.length) (h2 : Own ke 35 7 B W o gs) (h3 : ∀ i (h : i < gs.length) (h' : i < rs.length), Bk W 46 gs[i] (rf rs[i]).toArray)
    (hg : W.grownBy W' o.ownBlock) (hr : Bk W 46 g (rf r).toArray) (ho : Own ke 35 7 B W' o' (gs ++ [g])) : Kd B W' o' (rs ++ [r]) := by
  refine ⟨gs ++ [g], by simp [h1], ho, fun i a b => ?_⟩
  by_cases hi : i < gs.length
  · rw [List.getElem_append_left hi, List.getElem_append_left (by omega)]
    exact (h3 i hi (by omega)).grown hg (own_ne9 h2 (h3 i hi (by omega)) (by decide))
  · have hie : i = gs.length := by simp at a; omega
    subst hie
    rw [List.getElem_append_right (Nat.le_refl _), List.getElem_append_right (by omega)]
    simp only [Nat.sub_self, List.getElem_cons_zero, h1]
    exact hr.grown hg (own_ne9 h2 hr (by decide))
def kv (v : Value) : List Value := [.int .i64 9, .int .i64 0, .string ⟨#[83, 85, 77]⟩, .bool false, .int .i64 0, .slice none 0 0, v]
theorem Kd.own {B : Nat} {W : World} {v : Value} {rs : List Rf} (h : Kd B W v rs) : ∃ ao cap, v = .slice ao rs.length cap ∧ rs.length ≤ cap ∧ cap ≤ maxLen := by
  obtain ⟨gs, h1, h2, _⟩ := h.h
  rw [← h1]
  exact (h2.sl ke_len (by decide)).len
theorem Kd.rdl {W : World} {g : Nat → Prop} {b : Nat} (gs : List Nat) (hp : ∀ i, i < W.heap.size → g i) (hc : ∀ i (h : i < gs.length), Ats ke W b (0 + i * 7) gs[i]) : ∀ (rs : List Rf) (o : Nat), o + rs.length = gs.length → (∀ i (h : i < rs.length) (h' : o + i < gs.length), Bk W 46 gs[o + i] (rf rs[i]).toArray) → Rdg.RdLg g W (rs.map fun r => kO (some r)) b (o * 7)
  | [], o, _, _ => by unfold List.map Rdg.RdLg; trivial
  | r :: rs, o, ho, hb => by
    have hlt : o < gs.length := by simp at ho; omega
    rw [List.map_cons]
    unfold Rdg.RdLg
    have ha := hc o hlt
    rw [Nat.zero_add] at ha
    refine ⟨⟨_, _, _, _, _, _, _, ha 0 _ rfl, ha 1 _ rfl, ha 2 _ rfl, ha 3 _ rfl, ha 4 _ rfl, ha 5 _ rfl, ha 6 _ rfl, ?_⟩, ?_⟩
    · unfold kO Rdg
      have h0 := hb 0 (by simp) (by omega)
      simp only [Nat.add_zero, List.getElem_cons_zero] at h0
      refine ⟨_, _, rfl, ⟨some ⟨gs[o], 0, none⟩, 1, rfl, Nat.le_refl _, by unfold maxLen; omega, fun _ => ⟨gs[o], 0, rfl, hp _ h0.l, fun i hi j u hu => ?_⟩⟩, none, 0, rfl, Nat.le_refl _, Nat.zero_le _, fun h => absurd rfl h⟩
      obtain rfl : i = 0 := by simpa using hi
      rw [show 0 + 0 * 5 + j = j by omega]
      exact h0.c j u (by simpa using hu)
    · have := Kd.rdl gs hp hc rs (o + 1) (by simp at ho; omega) (fun i hi h' => by
        have := hb (i + 1) (by simp; omega) (by omega)
        simp only [List.getElem_cons_succ] at this
        have e : gs[o + 1 + i] = gs[o + (i + 1)]'(by omega) := by congr 1; omega
        rw [e]
        exact this)
      rw [show (o + 1) * 7 = o * 7 + 7 by omega] at this
      exact this
theorem Kd.rdg {B : Nat} {W : World} {v : Value} {rs : List Rf} (h : Kd B W v rs) : Rdg (fun i => i < W.heap.size) W (tS (rs.map some)) (.agg (kv v).toArray) := by
  obtain ⟨gs, h1, h2, h3⟩ := h.h
  obtain ⟨ao, cap, hv, h4, h5, h6⟩ := h2.sl ke_len (by decide)
  unfold tS Rdg
  rw [List.map_map]
  refine ⟨_, _, rfl, ⟨none, 0, rfl, Nat.le_refl _, Nat.zero_le _, fun h => absurd h (by simp)⟩, ao, cap, by rw [hv, h1]; simp, by simp; omega, h5, fun hn => ?_⟩
  have hp : 0 < gs.length := by
    rw [h1]
    rcases rs with _ | ⟨r, rs⟩
    · exact absurd rfl hn
    · simp
  obtain ⟨b, off, ha, hc⟩ := h6 hp
  subst ha
  have hb := h2
  rcases hb.2 with ⟨hv2, hn2⟩ | ⟨g2, cap2, cur, hv2, _, hg2, _⟩
  · omega
  · rw [hv] at hv2
    injection hv2 with e1 e2 e3
    injection e1 with e1
    injection e1 with e4 e5
    subst e4 e5
    refine ⟨b, 0, rfl, ?_, ⟨_, _, hg2⟩, ?_⟩
    · rcases Nat.lt_or_ge b W.heap.size with h' | h'
      · exact h'
      · rw [Array.getElem?_eq_none h'] at hg2; cases hg2
    · have := Kd.rdl (W := W) (g := fun i => i < W.heap.size) (b := b) gs (fun _ h => h) hc rs 0 (by omega) (fun i hi h' => by
        have e : gs[0 + i] = gs[i]'(by omega) := by congr 1; omega
        rw [e]
        exact h3 i (by omega) hi)
      rw [Nat.zero_mul] at this
      exact this
set_option maxHeartbeats 4000000 in
theorem mre0 (R C : Int) (ra ca : Bool) (w : World) : Calls Tryz.prog 10 #[.agg #[.string ⟨#[]⟩, .int .i64 R, .int .i64 C, .bool ra, .bool ca]] w fun e W' => e = .returned (.bool (lnB R && lnB C)) ∧ Q w W' := by
  have HQ : Hid (Q w (w.alloc (.cells #[.string ⟨#[]⟩, .int .i64 R, .int .i64 C, .bool ra, .bool ca] 46))) := hid ((Q.refl w).alloc _)
  unfold lnB
  by_cases h1 : 0 ≤ R
  · by_cases h2 : R < 2199023255552
    · by_cases h3 : 0 ≤ C
      · by_cases h4 : C < 2199023255552
        · rw [decide_eq_true (by omega), decide_eq_true (by omega)]
          go_enter Tryz.func10, Tryz.ntmps10
          go_wp2_with fail
          go_ret
          exact ⟨rfl, HQ.out⟩
        · rw [decide_eq_false (p := 0 ≤ C ∧ C < 2199023255552) (by omega), Bool.and_false]
          go_enter Tryz.func10, Tryz.ntmps10
          go_wp2_with fail
          go_ret
          exact ⟨rfl, HQ.out⟩
      · rw [decide_eq_false (p := 0 ≤ C ∧ C < 2199023255552) (by omega), Bool.and_false]
        go_enter Tryz.func10, Tryz.ntmps10
        go_wp2_with fail
        go_ret
        exact ⟨rfl, HQ.out⟩
    · rw [decide_eq_false (p := 0 ≤ R ∧ R < 2199023255552) (by omega), Bool.false_and]
      go_enter Tryz.func10, Tryz.ntmps10
      go_wp2_with fail
      go_ret
      exact ⟨rfl, HQ.out⟩
  · rw [decide_eq_false (p := 0 ≤ R ∧ R < 2199023255552) (by omega), Bool.false_and]
    go_enter Tryz.func10, Tryz.ntmps10
    go_wp2_with fail
    go_ret
    exact ⟨rfl, HQ.out⟩
theorem rdl_at {W : World} {b : Nat} : ∀ (l : List Ex) (off i : Nat) (hi : i < l.length), Rd.RdL W l b off → ∃ c0 c1 c2 c3 c4 c5 c6, W.cell? ⟨b, off + i * 7, none⟩ = some c0 ∧ W.cell? ⟨b, off + i * 7 + 5, none⟩ = some c5 ∧ Rd W l[i] (.agg #[c0, c1, c2, c3, c4, c5, c6])
  | [], _, _, hi, _ => absurd hi (by simp)
  | x :: xs, off, i, hi, h => by
    unfold Rd.RdL at h
    obtain ⟨⟨c0, c1, c2, c3, c4, c5, c6, g0, g1, g2, g3, g4, g5, g6, hx⟩, hr⟩ := h
    cases i with
    | zero => exact ⟨c0, c1, c2, c3, c4, c5, c6, by simpa using g0, by simpa using g5, hx⟩
    | succ i =>
      obtain ⟨d0, d1, d2, d3, d4, d5, d6, k0, k5, kx⟩ := rdl_at xs (off + 7) i (by simpa using hi) hr
      rw [show off + 7 + i * 7 = off + (i + 1) * 7 by omega] at k0 k5
      exact ⟨d0, d1, d2, d3, d4, d5, d6, k0, k5, kx⟩
def KidAt (W : World) (b o : Nat) : Option Rf → Prop
  | none => W.cell? ⟨b, o, none⟩ = some (.int .i64 4)
  | some r => W.cell? ⟨b, o, none⟩ = some (.int .i64 5) ∧ ∃ b2 o2 c2, W.cell? ⟨b, o + 5, none⟩ = some (.slice (some ⟨b2, o2, none⟩) 1 c2) ∧ W.cell? ⟨b2, o2 + 1, none⟩ = some (.int .i64 r.2.1)
theorem sum_kids {W : World} {K : List (Option Rf)} {q : Rv} (h : Rd W (tS K) (.agg (tr7 q).toArray)) : q.l2 = K.length ∧ ∀ i (hi : i < K.length), ∃ b off, q.a2 = some ⟨b, off, none⟩ ∧ KidAt W b (off + i * 7) K[i] := by
  unfold tS Rd at h
  obtain ⟨rv, kv', hv, hr, ao, cap, hk, h1, h2, h3⟩ := h
  have hv' : tr7 q = [.int .i64 9, .int .i64 0, .string ⟨[83, 85, 77].toArray⟩, .bool false, .int .i64 0, rv, kv'] := by
    injection hv with hv
    have := congrArg Array.toList hv
    simpa using this
  have hk2 : Value.slice q.a2 q.l2 q.c2 = kv' := by
    unfold tr7 at hv'
    simp only [List.cons.injEq] at hv'
    exact hv'.2.2.2.2.2.2.1
  rw [hk] at hk2
  injection hk2 with e1 e2 e3
  refine ⟨by rw [e2, List.length_map], fun i hi => ?_⟩
  have hne : K.map kO ≠ [] := by
    intro e
    have := congrArg List.length e
    simp at this
    rw [this] at hi
    simp at hi
  obtain ⟨b', off, ha, _, hl⟩ := h3 hne
  obtain ⟨c0, c1, c2, c3, c4, c5, c6, g0, g5, hx⟩ := rdl_at (K.map kO) off i (by simpa using hi) hl
  refine ⟨b', off, e1.trans ha, ?_⟩
  rw [List.getElem_map] at hx
  cases hK : K[i] with
  | none =>
    rw [hK] at hx
    unfold kO lostE Rd at hx
    obtain ⟨rv2, kv2, hv2, _⟩ := hx
    injection hv2 with hv2
    have h9 := congrArg (·[0]?) hv2
    simp at h9
    subst h9
    exact g0
  | some r =>
    rw [hK] at hx
    unfold kO Rd at hx
    obtain ⟨rv2, kv2, hv2, hr2, _⟩ := hx
    injection hv2 with hv2
    have h9 := congrArg (·[0]?) hv2
    have h8 := congrArg (·[5]?) hv2
    simp at h9 h8
    subst h9 h8
    obtain ⟨b2, o2, c9, e9, _, _, hc⟩ := hr2.at (i := 0) (by simp)
    subst e9
    have h7 := hc 1 (.int .i64 r.2.1) rfl
    refine ⟨g0, b2, o2, c9, g5, ?_⟩
    simpa using h7
theorem kd_at {B : Nat} {W : World} {a : Option Addr} {n c : Nat} {rs : List Rf} (h : Kd B W (.slice a n c) rs) (i : Nat) (hi : i < rs.length) : ∃ g o g2, a = some ⟨g, o, none⟩ ∧ W.cell? ⟨g, o + i * 7 + 5, none⟩ = some (.slice (some ⟨g2, 0, none⟩) 1 1) ∧ W.cell? ⟨g2, 1, none⟩ = some (.int .i64 rs[i].2.1) := by
  obtain ⟨gs, h1, h2, h3⟩ := h.h
  obtain ⟨g, o, cap, e, _, _, hc⟩ := (h2.sl ke_len (by decide)).at (i := i) (by omega)
  injection e with e1 e2 e3
  have h4 := hc 5 (.slice (some ⟨gs[i]'(by omega), 0, none⟩) 1 1) rfl
  exact ⟨g, o, gs[i]'(by omega), e1, h4, (h3 i (by omega) hi).c 1 _ rfl⟩
theorem kall_len (ls : List L3) : ∀ ks, (kall ls ks).length = ks.length := by
  induction ls with
  | nil => intro ks; rfl
  | cons l ls ih =>
    intro ks
    show (kall ls (ks.map (kst l.1 l.2.1 l.2.2))).length = _
    rw [ih, List.length_map]
theorem kall_row (ls : List L3) : ∀ (ks : List (Option Rf)) (i : Nat) (hi : i < ks.length), ((kall ls ks)[i]'(by rw [kall_len]; exact hi)).map (·.2.1) = rall ls (ks[i].map (·.2.1)) := by
  induction ls with
  | nil => intro ks i hi; rfl
  | cons l ls ih =>
    intro ks i hi
    have h := ih (ks.map (kst l.1 l.2.1 l.2.2)) i (by simpa using hi)
    rw [List.getElem_map, kst_row] at h
    exact h
def z7 : Array Value := #[.int .i64 0, .int .i64 0, .string ⟨#[]⟩, .bool false, .int .i64 0, .slice none 0 0, .slice none 0 0]
def z5 : Array Value := #[.string ⟨#[]⟩, .int .i64 0, .int .i64 0, .bool false, .bool false]
theorem info35s : (Tryz.prog.info? 35).map (·.size) = some 7 := by kernel_rfl
theorem info46s : (Tryz.prog.info? 46).map (·.size) = some 5 := by kernel_rfl
theorem info35z : (Tryz.prog.info? 35).map (fun i => (i.zero, i.size)) = some (some (.agg z7), 7) := by kernel_rfl
theorem info46z : (Tryz.prog.info? 46).map (fun i => (i.zero, i.size)) = some (some (.agg z5), 5) := by kernel_rfl
theorem info35b : (Tryz.prog.info? 35).map (fun i => (i.zero, i.size, i.bytes)) = some (some (.agg z7), 7, 96) := by kernel_rfl
theorem rf_all (r : Rf) : (rf r).toArray.all (·.oneCell') = true := by simp [rf, Value.oneCell']
theorem ke_ones (g : Nat) : ∀ u ∈ ke g, u.oneCell' = true := by
  intro u hu
  simp [ke] at hu
  rcases hu with rfl | rfl | rfl | rfl | rfl | rfl | rfl <;> rfl
theorem Kd.oth {B : Nat} {W : World} {v : Value} {rs : List Rf} (h : Kd B W v rs) {b : Nat} {cs : Array Value} (hb : b < B) (hk : Bk W 35 b cs) (j : Nat) (u : Value) : Kd B (W.setCell ⟨b, j, none⟩ u) v rs := by
  obtain ⟨gs, h1, h2, h3⟩ := h.h
  refine ⟨gs, h1, ⟨h2.1, ?_⟩, fun i a a' => ?_⟩
  · rcases h2.2 with h | ⟨g, cap, cur, hv, hB, hg, k1, k2, k3, k4⟩
    · exact .inl h
    · exact .inr ⟨g, cap, cur, hv, hB, (heap_setCell_other W _ g u (by show g ≠ b; omega)).trans hg, k1, k2, k3, k4⟩
  · have h4 := h3 i a a'
    refine h4.oth (fun e => ?_) j u
    have h5 := h4.h
    rw [e, hk.h] at h5
    injection h5 with h5
    injection h5 with _ h5
    exact absurd h5 (by decide)
structure Pa (w1 : World) (W : World) (rs : List Rf) (n : Nat) : Prop where
  h : ∃ v, Bk W 35 w1.heap.size (kv v).toArray ∧ Kd (w1.heap.size + 1) W v rs
  l : rs.length ≤ n
  r : ∀ r ∈ rs, r.1 = [] ∧ mayR r.1 r.2.1 r.2.2.1 = true
  q : Q w1 W
theorem KidAt.on {W W' : World} {b o : Nat} {k : Option Rf} (h : KidAt W b o k) (q : Q W W') : KidAt W' b o k := by
  have hc : ∀ {b o : Nat} {u : Value}, W.cell? ⟨b, o, none⟩ = some u → W'.cell? ⟨b, o, none⟩ = some u := fun h => (q.cell (World.block_lt_of_cell? W ⟨_, _, none⟩ h)).trans h
  cases k with
  | none => exact hc h
  | some r =>
    obtain ⟨h1, b2, o2, c2, h2, h3⟩ := h
    exact ⟨hc h1, b2, o2, c2, hc h2, hc h3⟩
theorem lnB_iff (i : Int) : lnB i = true ↔ 0 ≤ i ∧ i < 2199023255552 := by unfold lnB; exact decide_eq_true_iff
theorem rall_app (a b : List L3) (r : Option Int) : rall (a ++ b) r = rall b (rall a r) := by unfold rall; rw [List.foldl_append]
theorem rall_take (ls : List L3) (n : Nat) (h : n < ls.length) (r : Option Int) : rall (ls.take (n + 1)) r = rst ls[n] (rall (ls.take n) r) := by
  rw [List.take_succ_eq_append_getElem h, rall_app]
  rfl
theorem rall_dead (ls : List L3) (n : Nat) (r : Option Int) (h : rall (ls.take n) r = none) : rall ls r = none := by
  have e : rall ls r = rall (ls.drop n) (rall (ls.take n) r) := by rw [← rall_app, List.take_append_drop]
  rw [e, h, rall_none]
theorem line_at {W : World} {g off : Nat} {l : L3} (h : Ats Rv.L W g off (lop true l)) : W.rangeAt g (off + 17) (le l) := fun j u hu => by
  have h1 := x_ln3 (lop true l) j u hu
  have h2 := h (17 + j) u (by simpa using h1)
  rw [show off + 17 + j = off + (17 + j) by omega]
  exact h2
def qk (a : Option Addr) (l c : Nat) : Rv := fo S0 0 0 9 0 ⟨#[83, 85, 77]⟩ false 0 none 0 0 a l c
def c13 (v : Value) : Array Value := #[.bool true, .int .i64 0, .int .i64 0, .string ⟨#[]⟩, .bool false, .int .i64 0, .int .i64 9, .int .i64 0, .string ⟨#[83, 85, 77]⟩, .bool false, .int .i64 0, .slice none 0 0, v]
set_option maxHeartbeats 16000000 in
theorem refs_any (vr vl : Value) (rs : List Rf) (ls : List L3) (w : World) (hg : Gd w) (hr : Sl rf 5 w vr rs) (hl : Sl le 3 w vl ls) :
    Calls Tryz.prog 4 #[vr, vl] w fun e V' => e = .returned (.bool true) ∧ Q w V' := by
  have HB := hid (begun_any w hg)
  have HG := hid hg
  have HL := hid hl
  have HR := hid hr
  obtain ⟨i7, HI7⟩ := inf_of info35b
  have HI7 := hid HI7
  obtain ⟨lo, lc, rfl, l1, l2⟩ := hl.len
  obtain ⟨ro, rc, rfl, r1, r2⟩ := hr.len
  have hll : ls.length ≤ 9223372036854775807 := Nat.le_trans l1 (by unfold maxLen at l2; omega)
  have hrl : rs.length ≤ 9223372036854775807 := Nat.le_trans r1 (by unfold maxLen at r2; omega)
  clear hg hl hr l1 l2 r1 r2
  go_enter Tryz.func4, Tryz.ntmps4
  go_upto_block 0 with (first
    | (go_at_call 6; refine HB.out.mono ?_; rintro e w1 ⟨rfl, q1⟩; have Q1 := hid q1; clear q1)
    | (with_reducible refine wpl_buildt 35 _ (by with_unfolding_all rfl) (by with_unfolding_all rfl) (kv (.slice none 0 0)).toArray (by with_unfolding_all kernel_rfl) ?_)
    | (with_reducible refine wpl_layt w1 35 z7 (kv (.slice none 0 0)).toArray _ _ (by with_unfolding_all rfl) (by with_unfolding_all rfl) (by with_unfolding_all rfl) (by with_unfolding_all rfl) (by with_unfolding_all exact info35s) (by with_unfolding_all rfl) (by with_unfolding_all rfl) (by with_unfolding_all rfl) ?_))
  have HPA : Hid (Pa w1 (w1.alloc (.cells (kv (.slice none 0 0)).toArray 35)) [] 0) := hid ⟨⟨_, bk_new w1 35 _, kd_nil _ _⟩, Nat.le_refl _, fun r h => absurd h (by simp), (Q.refl w1).alloc _⟩
  generalize w1.alloc (.cells (kv (.slice none 0 0)).toArray 35) = w2 at HPA ⊢
  have HBE : Hid (∃ be, be = w1.heap.size) := hid ⟨_, rfl⟩
  go_cut [7, 8] from 24 to 53 (fun i r W => ∃ rs', Hid (Pa w1 W rs' 8))
  case first =>
    go_wp2_with fail
    go_loopw [7, 8] (fun i r W => ∃ (n : Nat) (rs' : List Rf), n ≤ rs.length ∧ n ≤ 8 ∧ i = .int .i64 n ∧ Hid (Pa w1 W rs' n)) (fun i _ _ => rs.length - (intOf i).toNat)
    case atStart => exact ⟨0, [], Nat.zero_le _, by decide, rfl, HPA⟩
    case round =>
      obtain ⟨n, rs', hn, hn8, rfl, HP⟩ := hrel
      clear HPA
      by_cases hlt : n < rs.length ∧ n < 8
      · obtain ⟨hl1, hl2⟩ := hlt
        have hc1 : (n : Int) < (rs.length : Int) := by omega
        have hc2 : (n : Int) < 8 := by omega
        obtain ⟨g, off, cap', e, _, _, hcc⟩ := (HR.out.on (Q1.out.trans HP.out.q)).at hl1
        cases e
        obtain ⟨x, hx⟩ : ∃ x, rs[n] = x := ⟨_, rfl⟩
        rw [hx] at hcc
        have HRg := hid (show wr.rangeAt g (off + n * 5) (rf x) from fun j u hu => hcc j u hu)
        clear hcc hx
        go_upto_region 9 with (first
          | (with_reducible refine wpList_load_mid (by with_unfolding_all rfl) 46 _ (by with_unfolding_all rfl) g (off + n * 5) (by with_unfolding_all rfl) (rf x) _ HRg.out Tryz.underlying46 (by with_unfolding_all rfl) (by with_unfolding_all exact info46s) ?_)
          | (with_reducible refine wpl_layt wr 46 z5 (rf x).toArray _ _ (by with_unfolding_all rfl) (by with_unfolding_all rfl) (by with_unfolding_all rfl) (by with_unfolding_all rfl) (by with_unfolding_all exact info46s) (by with_unfolding_all rfl) (rf_all x) (by with_unfolding_all rfl) ?_))
        have H8 := hid (bk_new wr 46 (rf x).toArray)
        have f8 := H8.out.f 0
        have c8 := H8.out.c 0 (.string ⟨x.1.toArray⟩) rfl
        go_upto_region 10 with fail
        have HQ4 : Hid (Q wr (wr.alloc (.cells ((rf x).set 0 (.string ⟨#[]⟩)).toArray 46))) := hid ((Q.refl wr).alloc _)
        have H84 : Hid (Bk (wr.alloc (.cells ((rf x).set 0 (.string ⟨#[]⟩)).toArray 46)) 46 wr.heap.size (rf ([], x.2)).toArray) := hid (bk_new wr 46 _)
        clear f8 c8 H8 HRg
        generalize wr.alloc (.cells ((rf x).set 0 (.string ⟨#[]⟩)).toArray 46) = w4 at HQ4 H84 ⊢
        obtain ⟨b8, hb8⟩ : ∃ b8, wr.heap.size = b8 := ⟨_, rfl⟩
        have HB8 := hid hb8
        rw [hb8] at H84 ⊢
        clear hb8
        have HMR := hid (fun V => mre0 x.2.1 x.2.2.1 x.2.2.2.1 x.2.2.2.2 V)
        have e8 : (rf ([], x.2)).toArray = #[.string ⟨#[]⟩, .int .i64 x.2.1, .int .i64 x.2.2.1, .bool x.2.2.2.1, .bool x.2.2.2.2] := rfl
        by_cases hok : (lnB x.2.1 && lnB x.2.2.1) = true
        · rw [hok] at HMR
          by_cases hsm : x.2.1 < 549755813888
          · have HBL := hid HP.out.q.size
            obtain ⟨v, hv1, hv2⟩ := HP.out.h
            obtain ⟨gs, hgs1, hgs2, hgs3⟩ := hv2.h
            have HV1 := hid hv1
            have HGS1 := hid hgs1
            have HGS2 := hid hgs2
            have HGS3 := hid hgs3
            have hgl : gs.length ≤ 8 := by have := HP.out.l; omega
            clear hv1 hv2 hgs1 hgs2 hgs3
            go_upto_region 11 with (first
              | (with_reducible refine wpList_load_row (by with_unfolding_all rfl) 46 _ (by with_unfolding_all rfl) b8 (by with_unfolding_all rfl) 46 (rf ([], x.2)).toArray (0, 0) _ H84.out.h Tryz.underlying46 (by with_unfolding_all rfl) (by with_unfolding_all exact info46s) ?_)
              | (go_at_call 10; refine (HMR.out _).mono ?_; rintro e9 w5 ⟨rfl, q9⟩; have HQ5 := hid (HQ4.out.trans q9); have H85 := hid (H84.out.on q9); clear q9; have d1 := H85.out.c 1 (.int .i64 x.2.1) rfl))
            have HV5 := hid (HV1.out.on HQ5.out)
            have k6 := HV5.out.c 6 v rfl
            have HQ6 : Hid (Q wr ((w5.alloc (.cells (rf ([], x.2)).toArray 46)).alloc (.cells (ke w5.heap.size).toArray 35))) := hid ((HQ5.out.alloc _).alloc _)
            have HR6 : Hid (Bk ((w5.alloc (.cells (rf ([], x.2)).toArray 46)).alloc (.cells (ke w5.heap.size).toArray 35)) 46 w5.heap.size (rf ([], x.2)).toArray) := hid ((bk_new w5 46 _).on ((Q.refl _).alloc _))
            clear d1
            go_upto_region 7 with (first
              | (with_reducible refine wpList_load_row (by with_unfolding_all rfl) 46 _ (by with_unfolding_all rfl) b8 (by with_unfolding_all rfl) 46 (rf ([], x.2)).toArray (0, 0) _ H85.out.h Tryz.underlying46 (by with_unfolding_all rfl) (by with_unfolding_all exact info46s) ?_)
              | (with_reducible refine wpl_bs1 32 46 5 z5 (rf ([], x.2)).toArray Tryz.underlying32 info46z (by decide) _ (by with_unfolding_all rfl) (by with_unfolding_all rfl) (by with_unfolding_all kernel_rfl) ?_)
              | (with_reducible refine wpl_buildt 35 _ (by with_unfolding_all rfl) (by with_unfolding_all rfl) (ke w5.heap.size).toArray (by with_unfolding_all kernel_rfl) ?_)
              | (with_reducible refine wpl_bs1 33 35 7 z7 (ke w5.heap.size).toArray Tryz.underlying33 info35z (by decide) _ (by with_unfolding_all rfl) (by with_unfolding_all rfl) (by with_unfolding_all kernel_rfl) ?_)
              | (at_builtin; refine wpList_append_own _ rfl _ _ 33 rfl (w1.heap.size + 1) 35 i7 (.agg z7) 7 96 Tryz.underlying33 HI7.out.1 HI7.out.2.1 HI7.out.2.2.1 HI7.out.2.2.2 rfl (by decide) v gs.length (flat ke gs) rfl (HGS2.out.on HQ6.out) ⟨(w5.alloc (.cells (rf ([], x.2)).toArray 46)).heap.size, 0, none⟩ 1 1 (ke w5.heap.size) rfl rfl (news_new (w5.alloc (.cells (rf ([], x.2)).toArray 46)) (ke w5.heap.size) 35) (ke_ones _) (by unfold maxLen; omega) (by omega) (by have := HV5.out.l; simp; omega) ?_; intro v7 w7 hown hg9 _; have HN7 : Hid (v.ownBlock ≠ some w1.heap.size) := hid (fun e => by have := HGS2.out.blk _ e; omega); have HB7 := hid ((HV1.out.on HQ6.out).grown hg9 HN7.out); have HK7 : Hid (Kd (w1.heap.size + 1) w7 v7 (rs' ++ [([], x.2)])) := hid (Kd.snoc gs HGS1.out (HGS2.out.on HQ6.out) (fun i a b => (HGS3.out i a b).on HQ6.out) hg9 HR6.out (own_snoc hown)); have HQ7 : Hid (Q w1 w7) := hid (Below.grown (HP.out.q.trans HQ6.out) hg9 (HP.out.q.trans HQ6.out).size (fun j e => by have := HGS2.out.blk _ e; omega)); clear hown hg9; obtain ⟨a7, c7, rfl, _, _⟩ := HK7.out.own; have f7 := HB7.out.f 6; have e7 := HB7.out.c 6 v rfl))
            have HP9 : Hid (Pa w1 (w7.setCell ⟨w1.heap.size, 6, none⟩ (.slice a7 (rs'.length + 1) c7)) (rs' ++ [([], x.2)]) (n + 1)) := hid (by
              have h7 := HK7.out
              rw [List.length_append, List.length_singleton] at h7
              refine ⟨⟨.slice a7 (rs'.length + 1) c7, HB7.out.put 6 _, h7.oth (Nat.lt_succ_self _) HB7.out 6 _⟩, by have := HP.out.l; simp; omega, fun r hr => ?_, HQ7.out.setCell (Nat.le_refl _) _⟩
              rcases List.mem_append.1 hr with h | h
              · exact HP.out.r r h
              · rw [List.mem_singleton.1 h]
                refine ⟨rfl, ?_⟩
                unfold mayR
                unfold lnB at hok
                show (true && _) = true
                rw [Bool.true_and]
                exact hok)
            go_wp2_with fail
            go_roundw
            case rel => exact ⟨n + 1, rs' ++ [([], x.2)], by omega, by omega, by go_num, HP9⟩
            case measure => simp [intOf]; omega
          · have hsm' : ¬ x.2.1 < 549755813888 := hsm
            go_wp2_with (first
              | (with_reducible refine wpList_load_row (by with_unfolding_all rfl) 46 _ (by with_unfolding_all rfl) b8 (by with_unfolding_all rfl) 46 (rf ([], x.2)).toArray (0, 0) _ H84.out.h Tryz.underlying46 (by with_unfolding_all rfl) (by with_unfolding_all exact info46s) ?_)
              | (go_at_call 10; refine (HMR.out _).mono ?_; rintro e9 w5 ⟨rfl, q9⟩; have HQ5 := hid (HQ4.out.trans q9); have H85 := hid (H84.out.on q9); clear q9; have d1 := H85.out.c 1 (.int .i64 x.2.1) rfl))
            have HP5 : Hid (Pa w1 w5 rs' (n + 1)) := hid ⟨by obtain ⟨v, h1, h2⟩ := HP.out.h; exact ⟨v, h1.on HQ5.out, h2.on HQ5.out⟩, Nat.le_succ_of_le HP.out.l, HP.out.r, HP.out.q.trans HQ5.out⟩
            go_roundw
            case rel => exact ⟨n + 1, rs', by omega, by omega, by go_num, HP5⟩
            case measure => simp [intOf]; omega
        · have hok' : (lnB x.2.1 && lnB x.2.2.1) = false := by simpa using hok
          rw [hok'] at HMR
          go_wp2_with (first
            | (with_reducible refine wpList_load_row (by with_unfolding_all rfl) 46 _ (by with_unfolding_all rfl) b8 (by with_unfolding_all rfl) 46 (rf ([], x.2)).toArray (0, 0) _ H84.out.h Tryz.underlying46 (by with_unfolding_all rfl) (by with_unfolding_all exact info46s) ?_)
            | (go_at_call 10; refine (HMR.out _).mono ?_; rintro e9 w5 ⟨rfl, q9⟩; have HQ5 := hid (HQ4.out.trans q9); clear q9))
          have HP5 : Hid (Pa w1 w5 rs' (n + 1)) := hid ⟨by obtain ⟨v, h1, h2⟩ := HP.out.h; exact ⟨v, h1.on HQ5.out, h2.on HQ5.out⟩, Nat.le_succ_of_le HP.out.l, HP.out.r, HP.out.q.trans HQ5.out⟩
          go_roundw
          case rel => exact ⟨n + 1, rs', by omega, by omega, by go_num, HP5⟩
          case measure => simp [intOf]; omega
      · have HP8 : Hid (Pa w1 wr rs' 8) := hid ⟨HP.out.h, Nat.le_trans HP.out.l hn8, HP.out.r, HP.out.q⟩
        by_cases h1 : n < rs.length
        · have l1 : (n : Int) < (rs.length : Int) := by omega
          have l8 : ¬ (n : Int) < 8 := by omega
          go_wp2_with fail
          go_meet
          exact ⟨rs', HP8⟩
        · have l1 : ¬ (n : Int) < (rs.length : Int) := by omega
          go_wp2_with fail
          go_meet
          exact ⟨rs', HP8⟩
  case rest =>
    obtain ⟨rs', HP⟩ := hcut
    obtain ⟨w3, rfl⟩ : ∃ w3, w3 = wc := ⟨wc, rfl⟩
    clear HPA HR HBE HI7
    obtain ⟨i0, HI⟩ := inf_of info35y
    have HI := hid HI
    go_upto_block 2 with fail
    go_cut [9, 10] from 54 to 76 (fun b i W => ∃ ls' : List L3, Hid (ls'.length ≤ 8) ∧ Hid (∀ l ∈ ls', L.mayB l.1 l.2.1 l.2.2 = true) ∧ Hid (Own Rv.L 40 23 w3.heap.size W b (ls'.map (lop true))) ∧ Hid (Q w3 W))
    case first =>
      go_wp2_with fail
      go_loopw [9, 10] (fun b i W => ∃ (n : Nat) (ls' : List L3), n ≤ ls.length ∧ n ≤ 8 ∧ i = .int .i64 n ∧ Hid (ls'.length ≤ n) ∧ Hid (∀ l ∈ ls', L.mayB l.1 l.2.1 l.2.2 = true) ∧ Hid (Own Rv.L 40 23 w3.heap.size W b (ls'.map (lop true))) ∧ Hid (Q w3 W)) (fun _ i _ => ls.length - (intOf i).toNat)
      case atStart => exact ⟨0, [], Nat.zero_le _, by decide, rfl, hid (Nat.le_refl _), hid (fun l h => absurd h (by simp)), hid (own_nil _), hid (Q.refl _)⟩
      case round =>
        obtain ⟨n, ls', hn, hn8, rfl, HLL, HLM, HOW, HQ⟩ := hrel
        by_cases hlt : n < ls.length ∧ n < 8
        · obtain ⟨hl1, hl2⟩ := hlt
          have hc1 : (n : Int) < (ls.length : Int) := by omega
          have hc2 : (n : Int) < 8 := by omega
          have HI8 := hid hl2
          obtain ⟨g, off, cap', e, _, _, hcc⟩ := (HL.out.on (Q1.out.trans HP.out.q)).at hl1
          cases e
          obtain ⟨l, hlx⟩ : ∃ l, ls[n] = l := ⟨_, rfl⟩
          rw [hlx] at hcc
          have HRg := hid (fun W (q : Q w3 W) => show W.rangeAt g (off + n * 3) (le l) from fun j u hu => (hcc.on q) j u hu)
          clear hcc hlx
          have HMy := hid (fun V => ref_may l V)
          obtain ⟨mb, hmb⟩ : ∃ mb, L.mayB l.1 l.2.1 l.2.2 = mb := ⟨_, rfl⟩
          have HMB := hid hmb
          rw [hmb] at HMy
          clear hmb
          cases mb with
          | false =>
            go_wp2_with (first
              | (with_reducible refine wpList_load_mid (by with_unfolding_all rfl) 28 _ (by with_unfolding_all rfl) g (off + n * 3) (by with_unfolding_all rfl) (le l) _ (HRg.out wr HQ.out) Tryz.underlying28 (by with_unfolding_all rfl) (by with_unfolding_all exact info28f) ?_)
              | (go_at_call 7; refine (HMy.out _).mono ?_; rintro e9 w4 ⟨rfl, q9⟩; have HQ4 := hid (HQ.out.trans q9); have HOW4 := hid (HOW.out.on q9); clear q9))
            go_roundw
            case rel => exact ⟨n + 1, ls', by omega, by omega, by go_num, hid (Nat.le_succ_of_le HLL.out), HLM, HOW4, HQ4⟩
            case measure => simp [intOf]; omega
          | true =>
            go_upto_region 17 with (first
              | (with_reducible refine wpList_load_mid (by with_unfolding_all rfl) 28 _ (by with_unfolding_all rfl) g (off + n * 3) (by with_unfolding_all rfl) (le l) _ (HRg.out wr HQ.out) Tryz.underlying28 (by with_unfolding_all rfl) (by with_unfolding_all exact info28f) ?_)
              | (go_at_call 7; refine (HMy.out _).mono ?_; rintro e9 w4 ⟨rfl, q9⟩; have HQ4 := hid (HQ.out.trans q9); have HOW4 := hid (HOW.out.on q9); clear q9))
            clear HQ HOW
            have HOL : Hid ((ls'.map (lop true)).length ≤ 8) := hid (by rw [List.length_map]; have := HLL.out; omega)
            go_wp2_with (first
              | (with_reducible refine wpList_load_mid (by with_unfolding_all rfl) 28 _ (by with_unfolding_all rfl) g (off + n * 3) (by with_unfolding_all rfl) (le l) _ (HRg.out w4 HQ4.out) Tryz.underlying28 (by with_unfolding_all rfl) (by with_unfolding_all exact info28f) ?_)
              | (with_reducible refine wpl_buildt 40 _ (by with_unfolding_all rfl) (by with_unfolding_all rfl) (lop true l).L.toArray (by with_unfolding_all kernel_rfl) ?_)
              | (with_reducible refine wpl_bs23 (lop true l) _ (by with_unfolding_all rfl) (by with_unfolding_all rfl) (by with_unfolding_all rfl) ?_)
              | (at_builtin; refine wpList_append_own _ rfl _ _ 25 rfl w3.heap.size 40 i0 (.agg zero23) 23 264 Tryz.underlying25 HI.out.1 HI.out.2.1 HI.out.2.2.1 HI.out.2.2.2 rfl (by decide) _ _ _ rfl (HOW4.out.alloc _) ⟨w4.heap.size, 0, none⟩ 1 1 (lop true l).L rfl rfl (news_new w4 (lop true l).L 40) (lop true l).ones (by unfold maxLen; have := HOL.out; omega) (by have := HOL.out; omega) (by have := HQ4.out.size; simp; omega) ?_; intro v5 w5 hown hg9 _; have HO5 : Hid (Own Rv.L 40 23 w3.heap.size w5 v5 ((ls' ++ [l]).map (lop true))) := hid (by rw [List.map_append]; exact own_snoc hown); have HQ5 : Hid (Q w3 w5) := hid (Below.grown (HQ4.out.alloc _) hg9 (HQ4.out.alloc _).size (HOW4.out.blk)); clear hown hg9))
            go_roundw
            case rel => exact ⟨n + 1, ls' ++ [l], by omega, by omega, by go_num, hid (by have := HLL.out; simp; omega), hid (fun y h => (List.mem_append.1 h).elim (HLM.out y) (fun h => by rw [List.mem_singleton.1 h]; exact HMB.out)), HO5, HQ5⟩
            case measure => simp [intOf]; omega
        · by_cases h1 : n < ls.length
          · have l1 : (n : Int) < (ls.length : Int) := by omega
            have l8 : ¬ (n : Int) < 8 := by omega
            go_wp2_with fail
            go_meet
            exact ⟨ls', hid (Nat.le_trans HLL.out hn8), HLM, HOW, HQ⟩
          · have l1 : ¬ (n : Int) < (ls.length : Int) := by omega
            go_wp2_with fail
            go_meet
            exact ⟨ls', hid (Nat.le_trans HLL.out hn8), HLM, HOW, HQ⟩
    case rest =>
      obtain ⟨ls', HLL, HLM, HOW, HQ⟩ := hcut
      obtain ⟨w4, rfl⟩ : ∃ w4, w4 = wc := ⟨wc, rfl⟩
      obtain ⟨v, hv1, hv2⟩ := HP.out.h
      obtain ⟨aK, cK, rfl, hK1, hK2⟩ := hv2.own
      have HV := hid (hv1.on HQ.out)
      have HK := hid (hv2.on HQ.out)
      have HGK : Hid (GdK (rs'.map some)) := hid ⟨by rw [List.length_map]; have := HP.out.l; omega, fun r hr => by
        obtain ⟨r', h1, h2⟩ := List.mem_map.1 hr
        obtain rfl := Option.some.inj h2
        exact HP.out.r r' h1⟩
      clear hv1 hv2 hK1 hK2 HL HI HB
      have HX := hid (show (fq 1048576 (qk aK rs'.length cK)).L.toArray = (fq 1048576 (qk aK rs'.length cK)).L.toArray from rfl)
      have HS1 := hid (sl_one w4 (fq 1048576 (qk aK rs'.length cK)))
      have HSb : Hid (Sl Rv.L 23 w4 u9 (ls'.map (lop true))) := hid (HOW.out.sl Rv.len (by decide))
      have HQ5 : Hid (Q w (w4.alloc (.cells (fq 1048576 (qk aK rs'.length cK)).L.toArray 40))) := hid ((Q1.out.trans (HP.out.q.trans HQ.out)).alloc _)
      have HBt := hid (refs_bat 1048576 (rs'.map some) (qk aK rs'.length cK) ls' _ u9 true _ _ (HG.out.on HQ5.out) HS1.out (HSb.out.on ((Q.refl w4).alloc _)) (Q.refl _) (by have := HLL.out; omega) ((HK.out.on ((Q.refl w4).alloc (.cells (fq 1048576 (qk aK rs'.length cK)).L.toArray 40))).rdg) HGK.out (by decide) HLM.out)
      obtain ⟨ab, cb, eb⟩ := sl_len2 HSb.out
      subst eb
      rw [List.length_map] at HBt HOW HSb
      have hb8 : ls'.length ≤ 8 := HLL.out
      generalize hx0 : fq 1048576 (qk aK rs'.length cK) = x0 at HS1 HQ5 HBt
      have HX0 := hid hx0
      clear hx0 HX
      go_upto_region 20 with (first
        | (with_reducible refine wpList_load_row (by with_unfolding_all rfl) 35 _ (by with_unfolding_all rfl) w1.heap.size (by with_unfolding_all rfl) 35 (kv (.slice aK rs'.length cK)).toArray (0, 0) _ HV.out.h Tryz.underlying35 (by with_unfolding_all rfl) (by with_unfolding_all exact info35s) ?_)
        | (with_reducible refine wpl_buildt 37 _ (by with_unfolding_all rfl) (by with_unfolding_all rfl) (c13 (.slice aK rs'.length cK)) (by with_unfolding_all kernel_rfl) ?_)
        | (with_reducible refine wpl_buildt 40 _ (by with_unfolding_all rfl) (by with_unfolding_all rfl) (fq 1048576 (qk aK rs'.length cK)).L.toArray (by with_unfolding_all kernel_rfl) ?_; rw [HX0.out])
        | (with_reducible refine wpl_bs23 x0 _ (by with_unfolding_all rfl) (by with_unfolding_all rfl) (by with_unfolding_all rfl) ?_)
        | (go_at_call 9; with_reducible refine HBt.out.mono ?_; rintro e9 w5 ⟨v1, v2, rfl, k1, q9, k2, k3⟩; have HU2 := hid k1; have HQ6 := hid (((Q.refl w4).alloc (.cells x0.L.toArray 40)).trans q9); have HN := hid k2; have HS := hid k3; clear k1 k2 k3 q9))
      have HV6 := hid (HV.out.on HQ6.out)
      have HK6 := hid (HK.out.on HQ6.out)
      have HW6 := hid (HOW.out.on HQ6.out)
      have HQ7 := hid ((Q1.out.trans (HP.out.q.trans HQ.out)).trans HQ6.out)
      obtain ⟨a2, c2, hv2⟩ := sl_len2 HU2.out
      rw [List.length_map] at hv2
      subst hv2
      clear HBt HS1 HSb HQ5 HV HK HU2 HOW HX0 HQ6 HQ HP
      go_upto_block 4 with fail
      go_cut [14, 15] from 87 to 107 (fun h i W => ∃ home : Int, h = .int .i64 home ∧ Hid (rall ls' (some 1048576) = if lnB home = true then some home else none) ∧ Hid (Q w5 W))
      case first =>
        have HSl : Hid (Sl Rv.L 23 w5 (.slice ab ls'.length cb) (ls'.map (lop true))) := hid (HW6.out.sl Rv.len (by decide))
        go_wp2_with fail
        go_loopw [14, 15] (fun h i W => ∃ (n : Nat) (home : Int), n ≤ ls'.length ∧ i = .int .i64 n ∧ h = .int .i64 home ∧ Hid (rall (ls'.take n) (some 1048576) = if lnB home = true then some home else none) ∧ Hid (Q w5 W)) (fun _ i _ => ls'.length - (intOf i).toNat)
        case atStart => exact ⟨0, 1048576, Nat.zero_le _, rfl, rfl, hid rfl, hid (Q.refl _)⟩
        case round =>
          obtain ⟨n, home, hn, rfl, rfl, HRa, HQ9⟩ := hrel
          by_cases hlt : n < ls'.length
          · have hc1 : (n : Int) < (ls'.length : Int) := by omega
            by_cases hin : lnB home = true
            · obtain ⟨p1, p2⟩ := (lnB_iff home).1 hin
              have HT := hid (rall_take ls' n hlt (some 1048576))
              rw [HRa.out, if_pos hin, rst_some] at HT
              obtain ⟨g, off, cap', e, _, _, hcc⟩ := (HSl.out.on HQ9.out).at (i := n) (by rw [List.length_map]; exact hlt)
              rw [List.length_map] at e
              cases e
              rw [List.getElem_map] at hcc
              obtain ⟨l, hlx⟩ : ∃ l, ls'[n] = l := ⟨_, rfl⟩
              rw [hlx] at hcc HT
              have HRg := hid (line_at hcc)
              have HIx := hid (fun V => ref_ix l home V)
              clear hcc hlx hin
              go_wp2_with (first
                | (with_reducible refine wpList_load_mid (by with_unfolding_all rfl) 28 _ (by with_unfolding_all rfl) g (off + n * 23 + 17) (by with_unfolding_all rfl) (le l) _ HRg.out Tryz.underlying28 (by with_unfolding_all rfl) (by with_unfolding_all exact info28f) ?_)
                | (go_at_call 8; refine (HIx.out _).mono ?_; rintro e9 w6 ⟨rfl, q9⟩; have HQa := hid (HQ9.out.trans q9); clear q9))
              go_roundw
              case rel => exact ⟨n + 1, _, by omega, by go_num, rfl, HT, HQa⟩
              case measure => simp [intOf]; omega
            · have hnot : ¬ (0 ≤ home ∧ home < 2199023255552) := fun h => hin ((lnB_iff home).2 h)
              have HD : Hid (rall ls' (some 1048576) = if lnB home = true then some home else none) := hid (by rw [if_neg hin]; exact rall_dead ls' n _ (by rw [HRa.out, if_neg hin]))
              by_cases p1 : 0 ≤ home
              · have p2 : ¬ home < 2199023255552 := fun h => hnot ⟨p1, h⟩
                clear hnot hin
                go_wp2_with fail
                go_meet
                exact ⟨home, rfl, HD, HQ9⟩
              · clear hnot hin
                go_wp2_with fail
                go_meet
                exact ⟨home, rfl, HD, HQ9⟩
          · have hc1 : ¬ (n : Int) < (ls'.length : Int) := by omega
            have HD : Hid (rall ls' (some 1048576) = if lnB home = true then some home else none) := hid (by rw [← HRa.out, List.take_of_length_le (by omega)])
            go_wp2_with fail
            go_meet
            exact ⟨home, rfl, HD, HQ9⟩
      case rest =>
        obtain ⟨home, rfl, HD, HQ8⟩ := hcut
        obtain ⟨w8, rfl⟩ : ∃ w8, w8 = wc := ⟨wc, rfl⟩
        by_cases hin : lnB home = true
        · obtain ⟨p1, p2⟩ := (lnB_iff home).1 hin
          obtain ⟨q', hs1, hs2⟩ := HS.out home (by rw [HD.out, if_pos hin])
          obtain ⟨g1, o1, c1, rfl, _, _, hc1⟩ := sl_cell (hs1.on HQ8.out) (Nat.succ_pos 0)
          obtain ⟨hq1, hq2⟩ := sum_kids (Rd.on HQ8.out _ _ hs2)
          have HKL := hid (show (kall ls' (rs'.map some)).length = rs'.length by rw [kall_len, List.length_map])
          rw [HKL.out] at hq1
          have d16 := hc1 0 (Nat.succ_pos 0) 16 (.slice q'.a2 q'.l2 q'.c2) rfl
          rw [hq1] at d16
          simp only [Nat.zero_mul, Nat.add_zero, List.length_singleton] at d16 ⊢
          have HKD := hid (HK6.out.on HQ8.out)
          have HVB := hid (HV6.out.on HQ8.out)
          have HKI := hid (fun i (hi : i < rs'.length) => hq2 i (by rw [HKL.out]; exact hi))
          have HKRow := hid (fun i (hi : i < rs'.length) => kall_row ls' (rs'.map some) i (by rw [List.length_map]; exact hi))
          have HSl : Hid (Sl Rv.L 23 w8 (.slice ab ls'.length cb) (ls'.map (lop true))) := hid ((HW6.out.sl Rv.len (by decide)).on HQ8.out)
          have HQw := hid (HQ7.out.trans HQ8.out)
          have HRM := hid (fun i (hi : i < rs'.length) => (HGK.out.r rs'[i] (List.mem_map.2 ⟨rs'[i], List.getElem_mem _, rfl⟩)).2)
          have hrl8 : rs'.length ≤ 30 := by have := HGK.out.l; rw [List.length_map] at this; exact this
          have p0 : ¬ home < 0 := by omega
          have p3 : ¬ (2199023255552 : Int) ≤ home := by omega
          have e6 := HVB.out.c 6 (.slice aK rs'.length cK) rfl
          generalize q'.a2 = a9 at d16 HKI
          generalize q'.c2 = c9 at d16
          clear hs1 hs2 hc1 hq1 hq2 hin HD HS HN HK6 HV6 HW6 HQ7 HGK HLM HG
          go_wp2_with fail
          go_loopw [4, 17] (fun z i W => z = .bool false ∧ ∃ m : Nat, m ≤ rs'.length ∧ i = .int .i64 m ∧ Hid (Q w8 W)) (fun _ i _ => rs'.length - (intOf i).toNat)
          case atStart => exact ⟨rfl, 0, Nat.zero_le _, rfl, hid (Q.refl _)⟩
          case round =>
            obtain ⟨rfl, m, hm, rfl, HQ9⟩ := hrel
            by_cases hlt : m < rs'.length
            · have hc1 : (m : Int) < (rs'.length : Int) := by omega
              obtain ⟨gk, ok0, g2, eK, f5, f1⟩ := kd_at (HKD.out.on HQ9.out) m hlt
              subst eK
              have e6b : wr.cell? ⟨w1.heap.size, 6, none⟩ = some (.slice (some ⟨gk, ok0, none⟩) rs'.length cK) := (HVB.out.on HQ9.out).c 6 _ rfl
              obtain ⟨bk, ok, eA, hkid⟩ := HKI.out m hlt
              subst eA
              have HKR0 := HKRow.out m hlt
              have hr0 := HRM.out m hlt
              rw [List.getElem_map] at HKR0
              obtain ⟨k9, hk9⟩ : ∃ k9, k9 = (kall ls' (rs'.map some))[m]'(by rw [kall_len, List.length_map]; exact hlt) := ⟨_, rfl⟩
              rw [← hk9] at HKR0 hkid
              have HKR := hid HKR0
              have HKA := hid (fun V (q : Q w8 V) => hkid.on q)
              obtain ⟨r0, hr0e⟩ : ∃ r0, r0 = rs'[m].2.1 := ⟨_, rfl⟩
              have HR0 : Hid (0 ≤ r0 ∧ r0 < 2199023255552) := hid (by
                unfold mayR at hr0
                simp only [Bool.and_eq_true, decide_eq_true_eq] at hr0
                rw [hr0e]
                exact hr0.2.1)
              simp only [Option.map_some] at HKR
              rw [← hr0e] at HKR f1
              clear hk9 HKR0 hkid hr0 hr0e
              go_upto_region 36 with fail
              clear e6b f5 f1
              obtain ⟨wo, rfl⟩ : ∃ wo : World, wo = wr := ⟨_, rfl⟩
              go_wp2_with fail
              go_loopw [18, 19] (fun y j W => ∃ (n : Nat) (yy : Int), n ≤ ls'.length ∧ j = .int .i64 n ∧ y = .int .i64 yy ∧ yy < 2199023255552 ∧ Hid (rall (ls'.take n) (some r0) = if 0 ≤ yy then some yy else none) ∧ Hid (Q w8 W)) (fun _ j _ => ls'.length - (intOf j).toNat)
              case atStart => exact ⟨0, r0, Nat.zero_le _, rfl, rfl, HR0.out.2, hid (by rw [if_pos HR0.out.1]; rfl), HQ9⟩
              case round =>
                obtain ⟨n, yy, hn, rfl, rfl, hym, HRa, HQa⟩ := hrel
                by_cases hlt2 : n < ls'.length
                · have hc2 : (n : Int) < (ls'.length : Int) := by omega
                  by_cases hpos : 0 ≤ yy
                  · have HT := hid (rall_take ls' n hlt2 (some r0))
                    rw [HRa.out, if_pos hpos, rst_some] at HT
                    obtain ⟨g9, off9, cap9, e, _, _, hcc⟩ := (HSl.out.on HQa.out).at (i := n) (by rw [List.length_map]; exact hlt2)
                    rw [List.length_map] at e
                    cases e
                    rw [List.getElem_map] at hcc
                    obtain ⟨l, hlx⟩ : ∃ l, ls'[n] = l := ⟨_, rfl⟩
                    rw [hlx] at hcc HT
                    have HRg := hid (line_at hcc)
                    have HIx := hid (fun V => ref_ix l yy V)
                    generalize L.ix l.1 l.2.1 l.2.2 yy = z at HT HIx
                    clear hcc hlx
                    by_cases hz : 2199023255552 ≤ z
                    · have HT2 : Hid (rall (ls'.take (n + 1)) (some r0) = if (0 : Int) ≤ -1 then some (-1) else none) := hid (by rw [HT.out, if_neg (fun h => by have := (lnB_iff z).1 h; omega), if_neg (by omega)])
                      go_wp2_with (first
                        | (with_reducible refine wpList_load_mid (by with_unfolding_all rfl) 28 _ (by with_unfolding_all rfl) g9 (off9 + n * 23 + 17) (by with_unfolding_all rfl) (le l) _ HRg.out Tryz.underlying28 (by with_unfolding_all rfl) (by with_unfolding_all exact info28f) ?_)
                        | (go_at_call 8; refine (HIx.out _).mono ?_; rintro e9 w9 ⟨rfl, q9⟩; have HQb := hid (HQa.out.trans q9); clear q9))
                      go_roundw
                      case rel => exact ⟨n + 1, -1, by omega, by go_num, rfl, by omega, HT2, HQb⟩
                      case measure => simp [intOf]; omega
                    · have HT2 : Hid (rall (ls'.take (n + 1)) (some r0) = if 0 ≤ z then some z else none) := hid (by
                        rw [HT.out]
                        by_cases h0 : 0 ≤ z
                        · rw [if_pos ((lnB_iff z).2 ⟨h0, by omega⟩), if_pos h0]
                        · rw [if_neg (fun h => h0 ((lnB_iff z).1 h).1), if_neg h0])
                      go_wp2_with (first
                        | (with_reducible refine wpList_load_mid (by with_unfolding_all rfl) 28 _ (by with_unfolding_all rfl) g9 (off9 + n * 23 + 17) (by with_unfolding_all rfl) (le l) _ HRg.out Tryz.underlying28 (by with_unfolding_all rfl) (by with_unfolding_all exact info28f) ?_)
                        | (go_at_call 8; refine (HIx.out _).mono ?_; rintro e9 w9 ⟨rfl, q9⟩; have HQb := hid (HQa.out.trans q9); clear q9))
                      go_roundw
                      case rel => exact ⟨n + 1, z, by omega, by go_num, rfl, by omega, HT2, HQb⟩
                      case measure => simp [intOf]; omega
                  · have HDk : Hid (rall ls' (some r0) = none) := hid (rall_dead ls' n _ (by rw [HRa.out, if_neg hpos]))
                    have HKN : Hid (k9 = none) := hid (by
                      have h1 := HKR.out
                      rw [HDk.out] at h1
                      cases k9 with
                      | none => rfl
                      | some r => cases h1)
                    have hka := HKA.out _ HQa.out
                    rw [HKN.out] at hka
                    have j4 : wr.cell? ⟨bk, ok + m * 7, none⟩ = some (.int .i64 4) := hka
                    have y0 : yy < 0 := by omega
                    clear HKN hka HRa HDk
                    go_wp2_with fail
                    go_roundw
                    case rel => exact ⟨rfl, m + 1, by omega, by go_num, HQa⟩
                    case measure => simp [intOf]; omega
                · have hc2 : ¬ (n : Int) < (ls'.length : Int) := by omega
                  have HDk0 : Hid (rall ls' (some r0) = if 0 ≤ yy then some yy else none) := hid (by rw [← HRa.out, List.take_of_length_le (by omega)])
                  by_cases hpos : 0 ≤ yy
                  · have HKS : Hid (∃ r, k9 = some r ∧ r.2.1 = yy) := hid (by
                      have h1 := HKR.out
                      rw [HDk0.out, if_pos hpos] at h1
                      cases k9 with
                      | none => cases h1
                      | some r => exact ⟨r, rfl, Option.some.inj h1⟩)
                    obtain ⟨r9, hr9, hry⟩ := HKS.out
                    have hka := HKA.out _ HQa.out
                    rw [hr9] at hka
                    obtain ⟨j5, b2, o2, c2', j6, j7⟩ := hka
                    rw [hry] at j7
                    have y1 : ¬ yy < 0 := by omega
                    clear HKS hr9 hry HRa HDk0
                    go_wp2_with fail
                    go_roundw
                    case rel => exact ⟨rfl, m + 1, by omega, by go_num, HQa⟩
                    case measure => simp [intOf]; omega
                  · have HDk : Hid (rall ls' (some r0) = none) := hid (by rw [HDk0.out, if_neg hpos])
                    have HKN : Hid (k9 = none) := hid (by
                      have h1 := HKR.out
                      rw [HDk.out] at h1
                      cases k9 with
                      | none => rfl
                      | some r => cases h1)
                    have hka := HKA.out _ HQa.out
                    rw [HKN.out] at hka
                    have j4 : wr.cell? ⟨bk, ok + m * 7, none⟩ = some (.int .i64 4) := hka
                    have y0 : yy < 0 := by omega
                    clear HKN hka HRa HDk
                    go_wp2_with fail
                    go_roundw
                    case rel => exact ⟨rfl, m + 1, by omega, by go_num, HQa⟩
                    case measure => simp [intOf]; omega
            · have hc1 : ¬ (m : Int) < (rs'.length : Int) := by omega
              have HQa := hid (HQw.out.trans HQ9.out)
              go_wp2_with fail
              go_ret
              exact ⟨rfl, HQa.out⟩
        · have hnot : ¬ (0 ≤ home ∧ home < 2199023255552) := fun h => hin ((lnB_iff home).2 h)
          have hs1 := HN.out (by rw [HD.out, if_neg hin])
          obtain ⟨a1, c1, rfl⟩ := sl_len2 hs1
          have HQa := hid (HQ7.out.trans HQ8.out)
          simp only [List.length_nil]
          clear hin hs1 HD HS HN
          by_cases p1 : 0 ≤ home
          · have p2 : ¬ home < 2199023255552 := fun h => hnot ⟨p1, h⟩
            have p3 : (2199023255552 : Int) ≤ home := by omega
            clear hnot
            go_wp2_with fail
            go_ret
            exact ⟨rfl, HQa.out⟩
          · have p0 : home < 0 := by omega
            clear hnot
            go_wp2_with fail
            go_ret
            exact ⟨rfl, HQa.out⟩
end Go.Proofs.YthebfhdpofhmpaaGreatDoor
