/- rewrite.Lines of trees that ma. -/
import Derived.Test.YtoikodohcieipaaGreatDoorKe25
import Derived.Test.YtoikodohcieipaaGreatDoorKe27
import Derived.Test.YtoikodohcieipaaGreatDoorKe08
set_option linter.unusedVariables false
set_option linter.unusedSimpArgs false
set_option maxRecDepth 100000
set_option maxHeartbeats 8000000
namespace Go.Proofs.YtoikodohcieipaaGreatDoor
open Go.RowKit
def lnE (home on : List UInt8) (rows : Bool) (k a t : Int) (x : Ex) : Ex := if L.mayB k a t = true then chg home on (mvB rows k a t) (mvR rows k a t) x else x
theorem q_chd {W w w' : World} {p o lo hi : Nat} (q : Q W w) (h : Chd w w' p o lo hi) (h1 : W.heap.size ≤ p) (h2 : W.heap.size ≤ lo) : Q W w' :=
  ⟨h.q.os.trans q.os, h.q.tape.trans q.tape, h.q.output.trans q.output, Nat.le_trans q.size h.q.size, fun i hi => (h.q.block i (Nat.lt_of_lt_of_le hi q.size) (fun e => by omega)).trans (Q.block q hi)⟩
set_option maxHeartbeats 800000 in
theorem lines_any (x : Ex) (v : Value) (home on : ByteArray) (rows : Bool) (k a t : Int) (W : World) (hg : Gd W) (hx : Rd W x v) (hs : Sn x) (hm : Sm x) (hk : nodes x ≤ 200) (hmay : (fitB x && mall mayN x) = true) :
    Calls Tryz.prog 11 #[v, .string home, .string on, .bool rows, .agg #[.int .i64 k, .int .i64 a, .int .i64 t]] W fun e W' => ∃ v', e = .returned v' ∧ Q W W' ∧ ∃ lo hi, W.heap.size ≤ lo ∧ hi ≤ W'.heap.size ∧ Ow W' (lnE home.data.toList on.data.toList rows k a t x) v' lo hi := by
  obtain ⟨k0, n0, t0, b0, e0, a1, l1, c1, a2, l2, c2, rfl⟩ := hx.shape
  obtain ⟨w1, hw1⟩ : ∃ w1, w1 = (((W.alloc (.cells #[.int .i64 k0, .int .i64 n0, .string t0, .bool b0, .int .i64 e0, .slice a1 l1 c1, .slice a2 l2 c2] 26)).alloc (.cells #[.bool rows] 4)).alloc (.cells #[.int .i64 k, .int .i64 a, .int .i64 t] 28)).alloc (.cells #[.int .i64 0, .int .i64 0, .string ⟨#[]⟩, .bool false, .int .i64 0, .slice none 0 0, .slice none 0 0] 26) := ⟨_, rfl⟩
  have q1 : Q W w1 := by rw [hw1]; exact ((((Q.refl _).alloc _).alloc _).alloc _).alloc _
  have s1 : w1.heap.size = W.heap.size + 1 + 1 + 1 + 1 := by rw [hw1]; simp
  have HLV : Hid (Lv w1 (W.heap.size + 1) (W.heap.size + 1 + 1) rows k a t) := by
    rw [hw1]
    refine ⟨?_, ?_, ?_, ?_⟩ <;> simp [go_sem]
  have HTB : Hid (Tb w1 (W.heap.size + 1 + 1 + 1) (.int .i64 0) (.int .i64 0) (.string ⟨#[]⟩) (.bool false) (.int .i64 0) (.slice none 0 0) (.slice none 0 0)) := by
    have := tb_new (((W.alloc (.cells #[.int .i64 k0, .int .i64 n0, .string t0, .bool b0, .int .i64 e0, .slice a1 l1 c1, .slice a2 l2 c2] 26)).alloc (.cells #[.bool rows] 4)).alloc (.cells #[.int .i64 k, .int .i64 a, .int .i64 t] 28)) (.int .i64 0) (.int .i64 0) (.string ⟨#[]⟩) (.bool false) (.int .i64 0) (.slice none 0 0) (.slice none 0 0) 26
    rw [hw1]
    show Tb _ _ _ _ _ _ _ _ _
    simpa using this
  have HBX : Hid (Tb w1 W.heap.size (.int .i64 k0) (.int .i64 n0) (.string t0) (.bool b0) (.int .i64 e0) (.slice a1 l1 c1) (.slice a2 l2 c2)) := by
    have := (tb_new W (.int .i64 k0) (.int .i64 n0) (.string t0) (.bool b0) (.int .i64 e0) (.slice a1 l1 c1) (.slice a2 l2 c2) 26).blk (W' := w1) (by rw [hw1]; exact Q.block ((((Q.refl _).alloc _).alloc _).alloc _) (by simp))
    exact this
  have HCO : Hid (Calls Tryz.prog 23 #[.agg #[.int .i64 k0, .int .i64 n0, .string t0, .bool b0, .int .i64 e0, .slice a1 l1 c1, .slice a2 l2 c2]] ((((W.alloc (.cells #[.int .i64 k0, .int .i64 n0, .string t0, .bool b0, .int .i64 e0, .slice a1 l1 c1, .slice a2 l2 c2] 26)).alloc (.cells #[.bool rows] 4)).alloc (.cells #[.int .i64 k, .int .i64 a, .int .i64 t] 28)).alloc (.cells #[.int .i64 0, .int .i64 0, .string ⟨#[]⟩, .bool false, .int .i64 0, .slice none 0 0, .slice none 0 0] 26)) fun e W' => ∃ v', e = .returned v' ∧ Q w1 W' ∧ ∃ lo hi, w1.heap.size ≤ lo ∧ hi ≤ W'.heap.size ∧ Ow W' x v' lo hi) := by
    rw [← hw1]
    exact copied_any x _ w1 (Rd.on q1 _ _ hx) hs hk
  have HMY := hid (fun w (q : Q W w) => pmay_any x _ w (hg.on q) hm (Rd.on q _ _ hx))
  rw [hmay] at HMY
  have HAX := hid (fun w => L.may_any k a t w)
  have HCH := hid (fun w p c0 c1 c2 c3 c4 c5 c6 lo hi => change_all home on (W.heap.size + 1) (W.heap.size + 1 + 1) rows k a t _ x w p 0 c0 c1 c2 c3 c4 c5 c6 lo hi (Nat.le_refl _))
  have HQ1 := hid q1
  have HS1 := hid s1
  clear hg hx hs hm hk hmay hw1 q1 s1
  cases hb : L.mayB k a t
  · rw [hb] at HAX
    have HLN : Hid (lnE home.data.toList on.data.toList rows k a t x = x) := hid (by unfold lnE; rw [hb]; rfl)
    clear hb
    go_enter Tryz.func11, Tryz.ntmps11
    go_wp2_with (first
      | (go_at_call 23; refine HCO.out.mono ?_; rintro e9 w2 ⟨v2, rfl, q2, lo, hi, h1, h2, ow2⟩; obtain ⟨k3, n3, t3, b3, e3, a3, l3, c3, a4, l4, c4, rfl⟩ := ow2.shape; have Q2 := hid q2; have O2 := hid ow2; have H12 := hid (And.intro h1 h2); have hl2 : W.heap.size + 1 + 1 + 1 < w2.heap.size := (by have := HS1.out; have := q2.size; omega); have hl0 : W.heap.size < w2.heap.size := (by omega); have hl1 : W.heap.size + 1 + 1 < w2.heap.size := (by omega); clear h1 h2 ow2; obtain ⟨z0, z1, z2, z3, z4, z5, z6, _⟩ := HBX.out.blk (Q.block q2 (by have := HS1.out; omega)); clear q2)
      | (go_at_call 24; refine (HMY.out _ ((HQ1.out.trans Q2.out).alloc _)).mono ?_; rintro e9 w4 ⟨rfl, q4⟩; have Q4 := hid q4; have N4 := hid ((nd_new w2 (.int .i64 k3) (.int .i64 n3) (.string t3) (.bool b3) (.int .i64 e3) (.slice a3 l3 c3) (.slice a4 l4 c4) 26).on q4); have q24 : Q w2 w4 := ((Q.refl _).alloc _).trans q4; have Q24 := hid q24; have LV4 := hid (HLV.out.blk (Q.block (Q2.out.trans q24) (by have := HS1.out; omega)) (Q.block (Q2.out.trans q24) (by have := HS1.out; omega))); have O4 := hid (Ow.on _ _ _ _ (fun i _ h => Bs.of (Q.block q24 (by have := H12.out; omega))) O2.out); have TB4 := hid (HTB.out.blk (Q.block (Q2.out.trans q24) (by have := HS1.out; omega))); have hl4 : w2.heap.size < w4.heap.size := N4.out.pl.lt; have hl5 : W.heap.size + 1 + 1 + 1 < w4.heap.size := (by omega); clear q4 q24 z0 z1 z2 z3 z4 z5 z6; obtain ⟨_, x0, x1, x2⟩ := LV4.out; obtain ⟨y0, y1, y2, y3, y4, y5, y6, _⟩ := N4.out; obtain ⟨u0, u1, u2, u3, u4, u5, u6, uf⟩ := TB4.out; have f0 := uf 0; have f1 := uf 1; have f2 := uf 2; have f3 := uf 3; have f4 := uf 4; have f5 := uf 5; have f6 := uf 6; clear uf)
      | (go_at_call 25; refine (HAX.out _).mono ?_; rintro e9 w5 ⟨rfl, h5⟩; have q5 : Q w4 w5 := (by rw [h5]; exact (Q.refl _).alloc _); have Q5 := hid q5; have N5 := hid (N4.out.on q5); have O5 := hid (Ow.on _ _ _ _ (fun i _ h => Bs.of (Q.block q5 (by have := H12.out; omega))) O4.out); have LV5 := hid (LV4.out.blk (Q.block q5 (by omega)) (Q.block q5 (by omega))); have TB5 := hid (TB4.out.blk (Q.block q5 (by omega))); clear h5 q5 y0 y1 y2 y3 y4 y5 y6 u0 u1 u2 u3 u4 u5 u6 f0 f1 f2 f3 f4 f5 f6 x0 x1 x2; obtain ⟨y0, y1, y2, y3, y4, y5, y6, _⟩ := N5.out; obtain ⟨u0, u1, u2, u3, u4, u5, u6, uf⟩ := TB5.out; have f0 := uf 0; have f1 := uf 1; have f2 := uf 2; have f3 := uf 3; have f4 := uf 4; have f5 := uf 5; have f6 := uf 6; clear uf; simp only [Nat.zero_add] at y0 y1 y2 y3 y4 y5 y6))
    refine bodyPost_ret (v := .agg #[.int .i64 k3, .int .i64 n3, .string t3, .bool b3, .int .i64 e3, .slice a3 l3 c3, .slice a4 l4 c4]) (by simp [results, Tryz.results11, go_sem, u0, u1, u2, u3, u4, u5, u6]) rfl ?_
    have QF : Qx (W.heap.size + 1 + 1 + 1) w5 (((((((w5.setCell ⟨W.heap.size + 1 + 1 + 1, 0, none⟩ (.int .i64 k3)).setCell ⟨W.heap.size + 1 + 1 + 1, 1, none⟩ (.int .i64 n3)).setCell ⟨W.heap.size + 1 + 1 + 1, 2, none⟩ (.string t3)).setCell ⟨W.heap.size + 1 + 1 + 1, 3, none⟩ (.bool b3)).setCell ⟨W.heap.size + 1 + 1 + 1, 4, none⟩ (.int .i64 e3)).setCell ⟨W.heap.size + 1 + 1 + 1, 5, none⟩ (.slice a3 l3 c3)).setCell ⟨W.heap.size + 1 + 1 + 1, 6, none⟩ (.slice a4 l4 c4)) := (((((((Qx.refl _ _).own _ _).own _ _).own _ _).own _ _).own _ _).own _ _).own _ _
    have hq : Q W w5 := ((HQ1.out.trans Q2.out).trans Q24.out).trans Q5.out
    have hz := HS1.out
    have h12 := H12.out
    have hz4 := Q24.out.size
    have hz5 := Q5.out.size
    rw [HLN.out]
    refine ⟨_, rfl, ⟨QF.os.trans hq.os, QF.tape.trans hq.tape, QF.output.trans hq.output, Nat.le_trans hq.size QF.size, fun i hi => (QF.block i (Nat.lt_of_lt_of_le hi hq.size) (fun e => by have := Option.some.inj e; omega)).trans (Q.block hq hi)⟩, lo, hi, by omega, Nat.le_trans (by omega) QF.size, ?_⟩
    exact Ow.on _ _ _ _ (fun i h1 h2 => Bs.of (QF.block i (by omega) (fun e => by have := Option.some.inj e; omega))) O5.out
  · rw [hb] at HAX
    have HLN : Hid (lnE home.data.toList on.data.toList rows k a t x = chg home.data.toList on.data.toList (mvB rows k a t) (mvR rows k a t) x) := hid (by unfold lnE; rw [hb]; rfl)
    clear hb
    go_enter Tryz.func11, Tryz.ntmps11
    go_wp2_with (first
      | (go_at_call 23; refine HCO.out.mono ?_; rintro e9 w2 ⟨v2, rfl, q2, lo, hi, h1, h2, ow2⟩; obtain ⟨k3, n3, t3, b3, e3, a3, l3, c3, a4, l4, c4, rfl⟩ := ow2.shape; have Q2 := hid q2; have O2 := hid ow2; have H12 := hid (And.intro h1 h2); have hl2 : W.heap.size + 1 + 1 + 1 < w2.heap.size := (by have := HS1.out; have := q2.size; omega); have hl0 : W.heap.size < w2.heap.size := (by omega); have hl1 : W.heap.size + 1 + 1 < w2.heap.size := (by omega); clear h1 h2 ow2; obtain ⟨z0, z1, z2, z3, z4, z5, z6, _⟩ := HBX.out.blk (Q.block q2 (by have := HS1.out; omega)); clear q2)
      | (go_at_call 24; refine (HMY.out _ ((HQ1.out.trans Q2.out).alloc _)).mono ?_; rintro e9 w4 ⟨rfl, q4⟩; have Q4 := hid q4; have N4 := hid ((nd_new w2 (.int .i64 k3) (.int .i64 n3) (.string t3) (.bool b3) (.int .i64 e3) (.slice a3 l3 c3) (.slice a4 l4 c4) 26).on q4); have q24 : Q w2 w4 := ((Q.refl _).alloc _).trans q4; have Q24 := hid q24; have LV4 := hid (HLV.out.blk (Q.block (Q2.out.trans q24) (by have := HS1.out; omega)) (Q.block (Q2.out.trans q24) (by have := HS1.out; omega))); have O4 := hid (Ow.on _ _ _ _ (fun i _ h => Bs.of (Q.block q24 (by have := H12.out; omega))) O2.out); have TB4 := hid (HTB.out.blk (Q.block (Q2.out.trans q24) (by have := HS1.out; omega))); have hl4 : w2.heap.size < w4.heap.size := N4.out.pl.lt; have hl5 : W.heap.size + 1 + 1 + 1 < w4.heap.size := (by omega); clear q4 q24 z0 z1 z2 z3 z4 z5 z6; obtain ⟨_, x0, x1, x2⟩ := LV4.out; obtain ⟨y0, y1, y2, y3, y4, y5, y6, _⟩ := N4.out; obtain ⟨u0, u1, u2, u3, u4, u5, u6, uf⟩ := TB4.out; have f0 := uf 0; have f1 := uf 1; have f2 := uf 2; have f3 := uf 3; have f4 := uf 4; have f5 := uf 5; have f6 := uf 6; clear uf)
      | (go_at_call 25; refine (HAX.out _).mono ?_; rintro e9 w5 ⟨rfl, h5⟩; have q5 : Q w4 w5 := (by rw [h5]; exact (Q.refl _).alloc _); have Q5 := hid q5; have N5 := hid (N4.out.on q5); have O5 := hid (Ow.on _ _ _ _ (fun i _ h => Bs.of (Q.block q5 (by have := H12.out; omega))) O4.out); have LV5 := hid (LV4.out.blk (Q.block q5 (by omega)) (Q.block q5 (by omega))); have TB5 := hid (TB4.out.blk (Q.block q5 (by omega))); clear h5 q5 y0 y1 y2 y3 y4 y5 y6 u0 u1 u2 u3 u4 u5 u6 f0 f1 f2 f3 f4 f5 f6 x0 x1 x2; obtain ⟨y0, y1, y2, y3, y4, y5, y6, _⟩ := N5.out; obtain ⟨u0, u1, u2, u3, u4, u5, u6, uf⟩ := TB5.out; have f0 := uf 0; have f1 := uf 1; have f2 := uf 2; have f3 := uf 3; have f4 := uf 4; have f5 := uf 5; have f6 := uf 6; clear uf; simp only [Nat.zero_add] at y0 y1 y2 y3 y4 y5 y6)
      | (go_at_call 26; refine (HCH.out w5 w2.heap.size _ _ _ _ _ _ _ lo hi N5.out O5.out (by have := H12.out; have := Q5.out.size; omega) (.inr H12.out.2) LV5.out (.inl (by have := H12.out; have := HS1.out; omega)) (.inl (by have := H12.out; have := HS1.out; omega)) (by omega) (by omega)).mono ?_; rintro e9 w6 ⟨⟨u9, rfl⟩, cd6⟩; obtain ⟨d0, d1, d2, d3, d4, d5, d6, n6, o6⟩ := cd6.ex; obtain ⟨k7, n7, t7, b7, e7, a7, l7, c7, a8, l8, c8, hsh⟩ := o6.shape; simp only [Value.agg.injEq, Array.mk.injEq, List.cons.injEq, and_true] at hsh; obtain ⟨rfl, rfl, rfl, rfl, rfl, rfl, rfl⟩ := hsh; have C6 := hid cd6.ch; have O6 := hid o6; have TB6 := hid (TB4.out.blk ((C6.out.q.block _ (Q.lt Q5.out hl5) (fun e => by have := H12.out; have := HS1.out; omega)).trans (Q.block Q5.out hl5))); clear y0 y1 y2 y3 y4 y5 y6 u0 u1 u2 u3 u4 u5 u6 f0 f1 f2 f3 f4 f5 f6; obtain ⟨y0, y1, y2, y3, y4, y5, y6, _⟩ := n6; obtain ⟨u0, u1, u2, u3, u4, u5, u6, uf⟩ := TB6.out; have f0 := uf 0; have f1 := uf 1; have f2 := uf 2; have f3 := uf 3; have f4 := uf 4; have f5 := uf 5; have f6 := uf 6; clear uf cd6 o6; simp only [Nat.zero_add] at y0 y1 y2 y3 y4 y5 y6))
    refine bodyPost_ret (v := .agg #[.int .i64 k7, .int .i64 n7, .string t7, .bool b7, .int .i64 e7, .slice a7 l7 c7, .slice a8 l8 c8]) (by simp [results, Tryz.results11, go_sem, u0, u1, u2, u3, u4, u5, u6]) rfl ?_
    have QF : Qx (W.heap.size + 1 + 1 + 1) w6 (((((((w6.setCell ⟨W.heap.size + 1 + 1 + 1, 0, none⟩ (.int .i64 k7)).setCell ⟨W.heap.size + 1 + 1 + 1, 1, none⟩ (.int .i64 n7)).setCell ⟨W.heap.size + 1 + 1 + 1, 2, none⟩ (.string t7)).setCell ⟨W.heap.size + 1 + 1 + 1, 3, none⟩ (.bool b7)).setCell ⟨W.heap.size + 1 + 1 + 1, 4, none⟩ (.int .i64 e7)).setCell ⟨W.heap.size + 1 + 1 + 1, 5, none⟩ (.slice a7 l7 c7)).setCell ⟨W.heap.size + 1 + 1 + 1, 6, none⟩ (.slice a8 l8 c8)) := (((((((Qx.refl _ _).own _ _).own _ _).own _ _).own _ _).own _ _).own _ _).own _ _
    have hz := HS1.out
    have h12 := H12.out
    have hq : Q W w6 := q_chd (((HQ1.out.trans Q2.out).trans Q24.out).trans Q5.out) C6.out (by omega) (by omega)
    have hz4 := Q24.out.size
    have hz5 := Q5.out.size
    have hz6 := C6.out.q.size
    rw [HLN.out]
    refine ⟨_, rfl, ⟨QF.os.trans hq.os, QF.tape.trans hq.tape, QF.output.trans hq.output, Nat.le_trans hq.size QF.size, fun i hi => (QF.block i (Nat.lt_of_lt_of_le hi hq.size) (fun e => by have := Option.some.inj e; omega)).trans (Q.block hq hi)⟩, lo, hi, by omega, Nat.le_trans (by omega) QF.size, ?_⟩
    exact Ow.on _ _ _ _ (fun i h1 h2 => Bs.of (QF.block i (by omega) (fun e => by have := Option.some.inj e; omega))) O6.out
def xq : Ex := binE [43] (refE ([], 0, 0, false, false)) (refE ([], 2, 0, false, false))
def xqW : List Wd := [⟨3, [65, 49], 0⟩, ⟨6, [43], 2⟩, ⟨3, [65, 51], 3⟩, ⟨7, [], 5⟩]
def xr : Ex := binE [43] lostE (refE ([], 1, 0, false, false))
theorem xq_parse (W : World) : Calls Tryz.prog 21 #[.string ⟨#[65, 49, 43, 65, 51]⟩] W fun e W' => RepR W (xq, 0) e W' :=
  rparse_ok ⟨#[65, 49, 43, 65, 51]⟩ W (by decide) xqW 0 20 (xq, ⟨3, false, 3⟩) (by kernel_rfl) (by kernel_rfl) rfl rfl (by decide) (by decide)
theorem xq_may : (fitB xq && mall mayN xq) = true := by decide +kernel
theorem xq_sm : Sm xq := by
  unfold xq binE refE
  simp [Sm, Sm.SmL]
theorem xq_sn : Sn xq := by
  unfold xq binE refE
  simp [Sn, Sn.SnL]
theorem xr_sn : Sn xr := by
  unfold xr binE refE lostE
  simp [Sn, Sn.SnL]
theorem xq_ln : lnE (⟨#[99, 48, 110, 48]⟩ : ByteArray).data.toList (⟨#[99, 48, 110, 48]⟩ : ByteArray).data.toList true 2 0 0 xq = xr := by kernel_rfl
theorem xr_refs : rfs xr = [([], 1, 0, false, false)] := by kernel_rfl
theorem xr_shape {W : World} {v : Value} {lo hi : Nat} (h : Ow W xr v lo hi) : ∃ a1 l1 c1 g c2, v = .agg #[.int .i64 8, .int .i64 0, .string ⟨#[43]⟩, .bool false, .int .i64 0, .slice a1 l1 c1, .slice (some ⟨g, 0, none⟩) 2 c2] ∧ 2 ≤ c2 ∧ c2 ≤ maxLen ∧ W.cell? ⟨g, 0, none⟩ = some (.int .i64 4) := by
  unfold xr binE Ow at h
  obtain ⟨rv, kv, m, hv, hr, hm, ao, cap, hkv, hc1, hc2, hk3⟩ := h
  obtain ⟨g, m', rfl, _, _, _, hl⟩ := hk3 (by simp)
  obtain ⟨a1, l1, c1, rfl⟩ := hr.shape
  unfold Ow.OwL at hl
  obtain ⟨m1, ⟨d0, d1, d2, d3, d4, d5, d6, g0, g1, g2, g3, g4, g5, g6, hx⟩, _⟩ := hl
  unfold lostE Ow at hx
  obtain ⟨rv', kv', _, hv', _⟩ := hx
  simp only [Value.agg.injEq, Array.mk.injEq, List.cons.injEq, and_true] at hv'
  obtain ⟨rfl, _⟩ := hv'
  subst hkv
  exact ⟨a1, l1, c1, g, cap, hv, by simpa using hc1, hc2, g0⟩
set_option maxHeartbeats 1000000 in
theorem begun_any (W : World) (hg : Gd W) : Calls Tryz.prog 8 #[] W fun e W' => e = .returned (.bool true) ∧ Q W W' := by
  have HP := hid (xq_parse W)
  have HLI := hid (fun w v (q : Q W w) (r : Rd w xq v) => lines_any xq v ⟨#[99, 48, 110, 48]⟩ ⟨#[99, 48, 110, 48]⟩ true 2 0 0 w (hg.on q) r xq_sn xq_sm (by decide) xq_may)
  rw [xq_ln] at HLI
  have HRE := hid (fun w v (r : Rd w xr v) => refs_any xr v w r xr_sn (by decide) (by rw [xr_refs]; decide))
  clear hg
  go_enter Tryz.func8, Tryz.ntmps8
  go_wp2_with (first
    | (go_at_call 21; refine HP.out.mono ?_; rintro e9 w1 ⟨v1, rfl, r1, q1⟩; obtain ⟨k1, n1, t1, b1, e1, a1, l1, c1, a2, l2, c2, rfl⟩ := r1.shape; have R1 := hid (Rdg.rd _ _ r1); have Q1 := hid q1; clear r1 q1)
    | (go_at_call 11; refine (HLI.out _ _ (Q1.out.alloc _) (Rd.on ((Q.refl _).alloc _) _ _ R1.out)).mono ?_; rintro e9 w3 ⟨v3, rfl, q3, lo, hi, _, _, ow3⟩; obtain ⟨a3, l3, c3, g3, c4, rfl, hc3, hc4, hz3⟩ := xr_shape ow3; have R3 := hid (Rdg.rd _ _ (Ow.rdg (g := fun _ => True) _ _ _ _ (fun _ _ _ => trivial) ow3)); have Q3 := hid ((Q1.out.alloc _).trans q3); clear ow3 q3; have hl3 := World.block_lt_of_cell? w3 _ hz3)
    | (go_at_call 17; refine (HRE.out _ _ (Rd.on ((Q.refl _).alloc _) _ _ R3.out)).mono ?_; rintro e9 w5 ⟨v5, rfl, o5, q5⟩; rw [xr_refs] at o5; obtain ⟨g5, c5, hv5, _, hlt5, hca5, hcb5⟩ := o5.shape (by simp); simp only [List.length_singleton] at hv5 hca5; subst hv5; have z5 : w5.cell? ⟨g5, 1, none⟩ = some (.int .i64 1) := (by have h := Own.cell (L := [([], 1, 0, false, false)]) o5 rf_len (i := 0) (by simp) 1 (.int .i64 1) rfl; simpa using h); have z6 : w5.cell? ⟨g3, 0, none⟩ = some (.int .i64 4) := (q5.cell (by simp; omega)).trans ((Q.cell ((Q.refl _).alloc _) hl3).trans hz3); have N5 := hid ((nd_new w3 (.int .i64 8) (.int .i64 0) (.string ⟨#[43]⟩) (.bool false) (.int .i64 0) (.slice a3 l3 c3) (.slice (some ⟨g3, 0, none⟩) 2 c4) 26).on q5); have Q5 := hid ((Q3.out.alloc _).trans q5); clear o5 q5; obtain ⟨y0, y1, y2, y3, y4, y5, y6, _⟩ := N5.out; simp only [Nat.zero_add] at y0 y1 y2 y3 y4 y5 y6))
  go_ret
  exact ⟨rfl, Q5.out⟩
end Go.Proofs.YtoikodohcieipaaGreatDoor
namespace Go.Proofs.YtoikodohcieipaaGreatDoor
open Go.RowKit
set_option linter.unusedVariables false
set_option linter.unusedSimpArgs false
def mayRf (r : Rf) : Bool := mayR r.1 r.2.1 r.2.2.1
theorem bare_len {n : Int} {t : List UInt8} {b : Bool} {e : Int} {l1 l2 : Nat} (h : bareB n t b e l1 l2 = true) : l1 = 0 := by
  unfold bareB at h
  exact (of_decide_eq_true h).2.2.2.2.1
theorem may_refs {k n : Int} {t : List UInt8} {b : Bool} {e : Int} {rs : List Rf} {ks : List Ex} (h : mayN (.mk k n t b e rs ks) = true) : rs.length ≤ 2 ∧ ∀ r ∈ rs, mayRf r = true := by
  have nil : rs.length = 0 → rs.length ≤ 2 ∧ ∀ r ∈ rs, mayRf r = true := fun h0 => ⟨by omega, fun r hr => by rw [List.eq_nil_of_length_eq_zero h0] at hr; simp at hr⟩
  simp only [mayN] at h
  split at h
  · exact nil (bare_len (Bool.and_eq_true_iff.1 h).2)
  split at h
  · exact nil (bare_len (Bool.and_eq_true_iff.1 h).2)
  split at h
  · exact nil (bare_len (Bool.and_eq_true_iff.1 h).2)
  split at h
  · exact nil (bare_len (Bool.and_eq_true_iff.1 h).2)
  split at h
  · have h1 := (Bool.and_eq_true_iff.1 h).1
    match rs, h1 with
    | [x], h1 => exact ⟨by simp, fun r hr => by simp at hr; subst hr; exact h1⟩
  split at h
  · have h1 := (Bool.and_eq_true_iff.1 h).1
    match rs, h1 with
    | [x, y], h1 =>
      have h2 := Bool.and_eq_true_iff.1 h1
      have h3 := Bool.and_eq_true_iff.1 h2.2
      refine ⟨by simp, fun r hr => ?_⟩
      simp only [List.mem_cons, List.not_mem_nil, or_false] at hr
      rcases hr with rfl | rfl
      · exact h2.1
      · exact h3.1
  split at h
  · exact nil (bare_len (Bool.and_eq_true_iff.1 h).2)
  split at h
  · exact nil (bare_len (Bool.and_eq_true_iff.1 h).2)
  split at h
  · exact nil (bare_len (Bool.and_eq_true_iff.1 h).2)
  · cases h
structure Gx (x : Ex) : Prop where
  sn : Sn x
  sm : Sm x
  may : (fitB x && mall mayN x) = true
theorem Gx.nodes {x : Ex} (h : Gx x) : nodes x ≤ 200 := by
  have h1 := (Bool.and_eq_true_iff.1 h.may).1
  unfold fitB at h1
  exact of_decide_eq_true (Bool.and_eq_true_iff.1 h1).1
theorem snL_of : ∀ {ks : List Ex}, (∀ y ∈ ks, Sn y) → Sn.SnL ks
  | [], _ => by unfold Sn.SnL; trivial
  | x :: xs, h => by unfold Sn.SnL; exact ⟨h x (List.mem_cons_self ..), snL_of (fun y hy => h y (List.mem_cons_of_mem _ hy))⟩
section
variable (hm on : List UInt8) (mb : Rf → Bool) (mr : Rf → Rf)
end
end Go.Proofs.YtoikodohcieipaaGreatDoor
namespace Go.Proofs.YtoikodohcieipaaGreatDoor
open Go.RowKit
set_option maxHeartbeats 2000000 in
theorem lines_no (x : Ex) (v : Value) (home on : ByteArray) (rows : Bool) (k a t : Int) (W : World) (hg : Gd W) (hx : Rd W x v) (hs : Sn x) (hm : Sm x) (hk : nodes x ≤ 1000) (hmay : (fitB x && mall mayN x) = false) :
    Calls Tryz.prog 11 #[v, .string home, .string on, .bool rows, .agg #[.int .i64 k, .int .i64 a, .int .i64 t]] W fun e W' => ∃ v', e = .returned v' ∧ Q W W' ∧ ∃ lo hi, W.heap.size ≤ lo ∧ hi ≤ W'.heap.size ∧ Ow W' (x) v' lo hi := by
  obtain ⟨k0, n0, t0, b0, e0, a1, l1, c1, a2, l2, c2, rfl⟩ := hx.shape
  obtain ⟨w1, hw1⟩ : ∃ w1, w1 = (((W.alloc (.cells #[.int .i64 k0, .int .i64 n0, .string t0, .bool b0, .int .i64 e0, .slice a1 l1 c1, .slice a2 l2 c2] 26)).alloc (.cells #[.bool rows] 4)).alloc (.cells #[.int .i64 k, .int .i64 a, .int .i64 t] 28)).alloc (.cells #[.int .i64 0, .int .i64 0, .string ⟨#[]⟩, .bool false, .int .i64 0, .slice none 0 0, .slice none 0 0] 26) := ⟨_, rfl⟩
  have q1 : Q W w1 := by rw [hw1]; exact ((((Q.refl _).alloc _).alloc _).alloc _).alloc _
  have s1 : w1.heap.size = W.heap.size + 1 + 1 + 1 + 1 := by rw [hw1]; simp
  have HTB : Hid (Tb w1 (W.heap.size + 1 + 1 + 1) (.int .i64 0) (.int .i64 0) (.string ⟨#[]⟩) (.bool false) (.int .i64 0) (.slice none 0 0) (.slice none 0 0)) := by
    have := tb_new ((((W.alloc (.cells #[.int .i64 k0, .int .i64 n0, .string t0, .bool b0, .int .i64 e0, .slice a1 l1 c1, .slice a2 l2 c2] 26)).alloc (.cells #[.bool rows] 4)).alloc (.cells #[.int .i64 k, .int .i64 a, .int .i64 t] 28))) (.int .i64 0) (.int .i64 0) (.string ⟨#[]⟩) (.bool false) (.int .i64 0) (.slice none 0 0) (.slice none 0 0) 26
    rw [hw1]
    show Tb _ _ _ _ _ _ _ _ _
    simpa using this
  have HBX : Hid (Tb w1 W.heap.size (.int .i64 k0) (.int .i64 n0) (.string t0) (.bool b0) (.int .i64 e0) (.slice a1 l1 c1) (.slice a2 l2 c2)) := by
    have := (tb_new W (.int .i64 k0) (.int .i64 n0) (.string t0) (.bool b0) (.int .i64 e0) (.slice a1 l1 c1) (.slice a2 l2 c2) 26).blk (W' := w1) (by rw [hw1]; exact Q.block ((((Q.refl _).alloc _).alloc _).alloc _) (by simp))
    exact this
  have HCO : Hid (Calls Tryz.prog 23 #[.agg #[.int .i64 k0, .int .i64 n0, .string t0, .bool b0, .int .i64 e0, .slice a1 l1 c1, .slice a2 l2 c2]] ((((W.alloc (.cells #[.int .i64 k0, .int .i64 n0, .string t0, .bool b0, .int .i64 e0, .slice a1 l1 c1, .slice a2 l2 c2] 26)).alloc (.cells #[.bool rows] 4)).alloc (.cells #[.int .i64 k, .int .i64 a, .int .i64 t] 28)).alloc (.cells #[.int .i64 0, .int .i64 0, .string ⟨#[]⟩, .bool false, .int .i64 0, .slice none 0 0, .slice none 0 0] 26)) fun e W' => ∃ v', e = .returned v' ∧ Q w1 W' ∧ ∃ lo hi, w1.heap.size ≤ lo ∧ hi ≤ W'.heap.size ∧ Ow W' x v' lo hi) := by
    rw [← hw1]
    exact copied_all x _ w1 (Rd.on q1 _ _ hx) hs hk
  have HMY := hid (fun w (q : Q W w) => pmay_any x _ w (hg.on q) hm (Rd.on q _ _ hx))
  rw [hmay] at HMY
  have HQ1 := hid q1
  have HS1 := hid s1
  clear hg hx hs hm hk hmay hw1 q1 s1
  go_enter Tryz.func11, Tryz.ntmps11
  go_wp2_with (first
    | (go_at_call 23; refine HCO.out.mono ?_; rintro e9 w2 ⟨v2, rfl, q2, lo, hi, h1, h2, ow2⟩; obtain ⟨k3, n3, t3, b3, e3, a3, l3, c3, a4, l4, c4, rfl⟩ := ow2.shape; have Q2 := hid q2; have O2 := hid ow2; have H12 := hid (And.intro h1 h2); have hl2 : W.heap.size + 1 + 1 + 1 < w2.heap.size := (by have := HS1.out; have := q2.size; omega); have hl0 : W.heap.size < w2.heap.size := (by omega); clear h1 h2 ow2; obtain ⟨z0, z1, z2, z3, z4, z5, z6, _⟩ := HBX.out.blk (Q.block q2 (by have := HS1.out; omega)); clear q2)
    | (go_at_call 24; refine (HMY.out _ ((HQ1.out.trans Q2.out).alloc _)).mono ?_; rintro e9 w4 ⟨rfl, q4⟩; have N4 := hid ((nd_new w2 (.int .i64 k3) (.int .i64 n3) (.string t3) (.bool b3) (.int .i64 e3) (.slice a3 l3 c3) (.slice a4 l4 c4) 26).on q4); have q24 : Q w2 w4 := ((Q.refl _).alloc _).trans q4; have Q24 := hid q24; have O4 := hid (Ow.on _ _ _ _ (fun i _ h => Bs.of (Q.block q24 (by have := H12.out; omega))) O2.out); have TB4 := hid (HTB.out.blk (Q.block (Q2.out.trans q24) (by have := HS1.out; omega))); have hl4 : w2.heap.size < w4.heap.size := N4.out.pl.lt; have hl5 : W.heap.size + 1 + 1 + 1 < w4.heap.size := (by omega); clear q4 q24 z0 z1 z2 z3 z4 z5 z6; obtain ⟨y0, y1, y2, y3, y4, y5, y6, _⟩ := N4.out; obtain ⟨u0, u1, u2, u3, u4, u5, u6, uf⟩ := TB4.out; have f0 := uf 0; have f1 := uf 1; have f2 := uf 2; have f3 := uf 3; have f4 := uf 4; have f5 := uf 5; have f6 := uf 6; clear uf; simp only [Nat.zero_add] at y0 y1 y2 y3 y4 y5 y6))
  refine bodyPost_ret (v := .agg #[.int .i64 k3, .int .i64 n3, .string t3, .bool b3, .int .i64 e3, .slice a3 l3 c3, .slice a4 l4 c4]) (by simp [results, Tryz.results11, go_sem, u0, u1, u2, u3, u4, u5, u6]) rfl ?_
  have QF : Qx (W.heap.size + 1 + 1 + 1) w4 (((((((w4.setCell ⟨W.heap.size + 1 + 1 + 1, 0, none⟩ (.int .i64 k3)).setCell ⟨W.heap.size + 1 + 1 + 1, 1, none⟩ (.int .i64 n3)).setCell ⟨W.heap.size + 1 + 1 + 1, 2, none⟩ (.string t3)).setCell ⟨W.heap.size + 1 + 1 + 1, 3, none⟩ (.bool b3)).setCell ⟨W.heap.size + 1 + 1 + 1, 4, none⟩ (.int .i64 e3)).setCell ⟨W.heap.size + 1 + 1 + 1, 5, none⟩ (.slice a3 l3 c3)).setCell ⟨W.heap.size + 1 + 1 + 1, 6, none⟩ (.slice a4 l4 c4)) := (((((((Qx.refl _ _).own _ _).own _ _).own _ _).own _ _).own _ _).own _ _).own _ _
  have hz := HS1.out
  have h12 := H12.out
  have hq : Q W w4 := (HQ1.out.trans Q2.out).trans Q24.out
  have hz4 := Q24.out.size
  refine ⟨_, rfl, ⟨QF.os.trans hq.os, QF.tape.trans hq.tape, QF.output.trans hq.output, Nat.le_trans hq.size QF.size, fun i hi => (QF.block i (Nat.lt_of_lt_of_le hi hq.size) (fun e => by have := Option.some.inj e; omega)).trans (Q.block hq hi)⟩, lo, hi, by omega, Nat.le_trans (by omega) QF.size, ?_⟩
  exact Ow.on _ _ _ _ (fun i h1 h2 => Bs.of (QF.block i (by omega) (fun e => by have := Option.some.inj e; omega))) O4.out
set_option maxHeartbeats 2000000 in
theorem sheet_no (x : Ex) (v : Value) (home gone : ByteArray) (W : World) (hg : Gd W) (hx : Rd W x v) (hs : Sn x) (hm : Sm x) (hk : nodes x ≤ 1000) (hmay : (fitB x && mall mayN x) = false) :
    Calls Tryz.prog 16 #[v, .string home, .string gone] W fun e W' => ∃ v', e = .returned v' ∧ Q W W' ∧ ∃ lo hi, W.heap.size ≤ lo ∧ hi ≤ W'.heap.size ∧ Ow W' (x) v' lo hi := by
  obtain ⟨k0, n0, t0, b0, e0, a1, l1, c1, a2, l2, c2, rfl⟩ := hx.shape
  obtain ⟨w1, hw1⟩ : ∃ w1, w1 = (W.alloc (.cells #[.int .i64 k0, .int .i64 n0, .string t0, .bool b0, .int .i64 e0, .slice a1 l1 c1, .slice a2 l2 c2] 26)).alloc (.cells #[.int .i64 0, .int .i64 0, .string ⟨#[]⟩, .bool false, .int .i64 0, .slice none 0 0, .slice none 0 0] 26) := ⟨_, rfl⟩
  have q1 : Q W w1 := by rw [hw1]; exact ((Q.refl _).alloc _).alloc _
  have s1 : w1.heap.size = W.heap.size + 1 + 1 := by rw [hw1]; simp
  have HTB : Hid (Tb w1 (W.heap.size + 1) (.int .i64 0) (.int .i64 0) (.string ⟨#[]⟩) (.bool false) (.int .i64 0) (.slice none 0 0) (.slice none 0 0)) := by
    have := tb_new ((W.alloc (.cells #[.int .i64 k0, .int .i64 n0, .string t0, .bool b0, .int .i64 e0, .slice a1 l1 c1, .slice a2 l2 c2] 26))) (.int .i64 0) (.int .i64 0) (.string ⟨#[]⟩) (.bool false) (.int .i64 0) (.slice none 0 0) (.slice none 0 0) 26
    rw [hw1]
    show Tb _ _ _ _ _ _ _ _ _
    simpa using this
  have HBX : Hid (Tb w1 W.heap.size (.int .i64 k0) (.int .i64 n0) (.string t0) (.bool b0) (.int .i64 e0) (.slice a1 l1 c1) (.slice a2 l2 c2)) := by
    have := (tb_new W (.int .i64 k0) (.int .i64 n0) (.string t0) (.bool b0) (.int .i64 e0) (.slice a1 l1 c1) (.slice a2 l2 c2) 26).blk (W' := w1) (by rw [hw1]; exact Q.block ((Q.refl _).alloc _) (by simp))
    exact this
  have HCO : Hid (Calls Tryz.prog 23 #[.agg #[.int .i64 k0, .int .i64 n0, .string t0, .bool b0, .int .i64 e0, .slice a1 l1 c1, .slice a2 l2 c2]] ((W.alloc (.cells #[.int .i64 k0, .int .i64 n0, .string t0, .bool b0, .int .i64 e0, .slice a1 l1 c1, .slice a2 l2 c2] 26)).alloc (.cells #[.int .i64 0, .int .i64 0, .string ⟨#[]⟩, .bool false, .int .i64 0, .slice none 0 0, .slice none 0 0] 26)) fun e W' => ∃ v', e = .returned v' ∧ Q w1 W' ∧ ∃ lo hi, w1.heap.size ≤ lo ∧ hi ≤ W'.heap.size ∧ Ow W' x v' lo hi) := by
    rw [← hw1]
    exact copied_all x _ w1 (Rd.on q1 _ _ hx) hs hk
  have HMY := hid (fun w (q : Q W w) => pmay_any x _ w (hg.on q) hm (Rd.on q _ _ hx))
  rw [hmay] at HMY
  have HQ1 := hid q1
  have HS1 := hid s1
  clear hg hx hs hm hk hmay hw1 q1 s1
  go_enter Tryz.func16, Tryz.ntmps16
  go_wp2_with (first
    | (go_at_call 23; refine HCO.out.mono ?_; rintro e9 w2 ⟨v2, rfl, q2, lo, hi, h1, h2, ow2⟩; obtain ⟨k3, n3, t3, b3, e3, a3, l3, c3, a4, l4, c4, rfl⟩ := ow2.shape; have Q2 := hid q2; have O2 := hid ow2; have H12 := hid (And.intro h1 h2); have hl2 : W.heap.size + 1 < w2.heap.size := (by have := HS1.out; have := q2.size; omega); have hl0 : W.heap.size < w2.heap.size := (by omega); clear h1 h2 ow2; obtain ⟨z0, z1, z2, z3, z4, z5, z6, _⟩ := HBX.out.blk (Q.block q2 (by have := HS1.out; omega)); clear q2)
    | (go_at_call 24; refine (HMY.out _ ((HQ1.out.trans Q2.out).alloc _)).mono ?_; rintro e9 w4 ⟨rfl, q4⟩; have N4 := hid ((nd_new w2 (.int .i64 k3) (.int .i64 n3) (.string t3) (.bool b3) (.int .i64 e3) (.slice a3 l3 c3) (.slice a4 l4 c4) 26).on q4); have q24 : Q w2 w4 := ((Q.refl _).alloc _).trans q4; have Q24 := hid q24; have O4 := hid (Ow.on _ _ _ _ (fun i _ h => Bs.of (Q.block q24 (by have := H12.out; omega))) O2.out); have TB4 := hid (HTB.out.blk (Q.block (Q2.out.trans q24) (by have := HS1.out; omega))); have hl4 : w2.heap.size < w4.heap.size := N4.out.pl.lt; have hl5 : W.heap.size + 1 < w4.heap.size := (by omega); clear q4 q24 z0 z1 z2 z3 z4 z5 z6; obtain ⟨y0, y1, y2, y3, y4, y5, y6, _⟩ := N4.out; obtain ⟨u0, u1, u2, u3, u4, u5, u6, uf⟩ := TB4.out; have f0 := uf 0; have f1 := uf 1; have f2 := uf 2; have f3 := uf 3; have f4 := uf 4; have f5 := uf 5; have f6 := uf 6; clear uf; simp only [Nat.zero_add] at y0 y1 y2 y3 y4 y5 y6))
  refine bodyPost_ret (v := .agg #[.int .i64 k3, .int .i64 n3, .string t3, .bool b3, .int .i64 e3, .slice a3 l3 c3, .slice a4 l4 c4]) (by simp [results, Tryz.results16, go_sem, u0, u1, u2, u3, u4, u5, u6]) rfl ?_
  have QF : Qx (W.heap.size + 1) w4 (((((((w4.setCell ⟨W.heap.size + 1, 0, none⟩ (.int .i64 k3)).setCell ⟨W.heap.size + 1, 1, none⟩ (.int .i64 n3)).setCell ⟨W.heap.size + 1, 2, none⟩ (.string t3)).setCell ⟨W.heap.size + 1, 3, none⟩ (.bool b3)).setCell ⟨W.heap.size + 1, 4, none⟩ (.int .i64 e3)).setCell ⟨W.heap.size + 1, 5, none⟩ (.slice a3 l3 c3)).setCell ⟨W.heap.size + 1, 6, none⟩ (.slice a4 l4 c4)) := (((((((Qx.refl _ _).own _ _).own _ _).own _ _).own _ _).own _ _).own _ _).own _ _
  have hz := HS1.out
  have h12 := H12.out
  have hq : Q W w4 := (HQ1.out.trans Q2.out).trans Q24.out
  have hz4 := Q24.out.size
  refine ⟨_, rfl, ⟨QF.os.trans hq.os, QF.tape.trans hq.tape, QF.output.trans hq.output, Nat.le_trans hq.size QF.size, fun i hi => (QF.block i (Nat.lt_of_lt_of_le hi hq.size) (fun e => by have := Option.some.inj e; omega)).trans (Q.block hq hi)⟩, lo, hi, by omega, Nat.le_trans (by omega) QF.size, ?_⟩
  exact Ow.on _ _ _ _ (fun i h1 h2 => Bs.of (QF.block i (by omega) (fun e => by have := Option.some.inj e; omega))) O4.out
set_option maxHeartbeats 2000000 in
theorem sheet_may (x : Ex) (v : Value) (home gone : ByteArray) (W : World) (hg : Gd W) (hx : Rd W x v) (hs : Sn x) (hm : Sm x) (hk : nodes x ≤ 1000) (hmay : (fitB x && mall mayN x) = true) (hgo : gone.data.toList ≠ []) :
    Calls Tryz.prog 16 #[v, .string home, .string gone] W fun e W' => ∃ v', e = .returned v' ∧ Q W W' ∧ ∃ lo hi, W.heap.size ≤ lo ∧ hi ≤ W'.heap.size ∧ Ow W' (chg home.data.toList gone.data.toList noB noR x) v' lo hi := by
  obtain ⟨k0, n0, t0, b0, e0, a1, l1, c1, a2, l2, c2, rfl⟩ := hx.shape
  obtain ⟨w1, hw1⟩ : ∃ w1, w1 = (W.alloc (.cells #[.int .i64 k0, .int .i64 n0, .string t0, .bool b0, .int .i64 e0, .slice a1 l1 c1, .slice a2 l2 c2] 26)).alloc (.cells #[.int .i64 0, .int .i64 0, .string ⟨#[]⟩, .bool false, .int .i64 0, .slice none 0 0, .slice none 0 0] 26) := ⟨_, rfl⟩
  have q1 : Q W w1 := by rw [hw1]; exact ((Q.refl _).alloc _).alloc _
  have s1 : w1.heap.size = W.heap.size + 1 + 1 := by rw [hw1]; simp
  have HTB : Hid (Tb w1 (W.heap.size + 1) (.int .i64 0) (.int .i64 0) (.string ⟨#[]⟩) (.bool false) (.int .i64 0) (.slice none 0 0) (.slice none 0 0)) := by
    have := tb_new ((W.alloc (.cells #[.int .i64 k0, .int .i64 n0, .string t0, .bool b0, .int .i64 e0, .slice a1 l1 c1, .slice a2 l2 c2] 26))) (.int .i64 0) (.int .i64 0) (.string ⟨#[]⟩) (.bool false) (.int .i64 0) (.slice none 0 0) (.slice none 0 0) 26
    rw [hw1]
    show Tb _ _ _ _ _ _ _ _ _
    simpa using this
  have HBX : Hid (Tb w1 W.heap.size (.int .i64 k0) (.int .i64 n0) (.string t0) (.bool b0) (.int .i64 e0) (.slice a1 l1 c1) (.slice a2 l2 c2)) := by
    have := (tb_new W (.int .i64 k0) (.int .i64 n0) (.string t0) (.bool b0) (.int .i64 e0) (.slice a1 l1 c1) (.slice a2 l2 c2) 26).blk (W' := w1) (by rw [hw1]; exact Q.block ((Q.refl _).alloc _) (by simp))
    exact this
  have HCO : Hid (Calls Tryz.prog 23 #[.agg #[.int .i64 k0, .int .i64 n0, .string t0, .bool b0, .int .i64 e0, .slice a1 l1 c1, .slice a2 l2 c2]] ((W.alloc (.cells #[.int .i64 k0, .int .i64 n0, .string t0, .bool b0, .int .i64 e0, .slice a1 l1 c1, .slice a2 l2 c2] 26)).alloc (.cells #[.int .i64 0, .int .i64 0, .string ⟨#[]⟩, .bool false, .int .i64 0, .slice none 0 0, .slice none 0 0] 26)) fun e W' => ∃ v', e = .returned v' ∧ Q w1 W' ∧ ∃ lo hi, w1.heap.size ≤ lo ∧ hi ≤ W'.heap.size ∧ Ow W' x v' lo hi) := by
    rw [← hw1]
    exact copied_all x _ w1 (Rd.on q1 _ _ hx) hs hk
  have HMY := hid (fun w (q : Q W w) => pmay_any x _ w (hg.on q) hm (Rd.on q _ _ hx))
  rw [hmay] at HMY
  have HQ1 := hid q1
  have HS1 := hid s1
  have HCH := hid (fun w p c0 c1 c2 c3 c4 c5 c6 lo hi => shut_all home gone _ x w p 0 c0 c1 c2 c3 c4 c5 c6 lo hi (Nat.le_refl _))
  have hgn : (gone.toList == []) = false := by rw [(hid (toL gone)).out, beq_eq_false_iff_ne]; exact hgo
  clear hg hx hs hm hk hmay hw1 q1 s1
  go_enter Tryz.func16, Tryz.ntmps16
  go_wp2_with (first
    | (go_at_call 23; refine HCO.out.mono ?_; rintro e9 w2 ⟨v2, rfl, q2, lo, hi, h1, h2, ow2⟩; obtain ⟨k3, n3, t3, b3, e3, a3, l3, c3, a4, l4, c4, rfl⟩ := ow2.shape; have Q2 := hid q2; have O2 := hid ow2; have H12 := hid (And.intro h1 h2); have hl2 : W.heap.size + 1 < w2.heap.size := (by have := HS1.out; have := q2.size; omega); have hl0 : W.heap.size < w2.heap.size := (by omega); clear h1 h2 ow2; obtain ⟨z0, z1, z2, z3, z4, z5, z6, _⟩ := HBX.out.blk (Q.block q2 (by have := HS1.out; omega)); clear q2)
    | (go_at_call 24; refine (HMY.out _ ((HQ1.out.trans Q2.out).alloc _)).mono ?_; rintro e9 w4 ⟨rfl, q4⟩; have N4 := hid ((nd_new w2 (.int .i64 k3) (.int .i64 n3) (.string t3) (.bool b3) (.int .i64 e3) (.slice a3 l3 c3) (.slice a4 l4 c4) 26).on q4); have q24 : Q w2 w4 := ((Q.refl _).alloc _).trans q4; have Q24 := hid q24; have O4 := hid (Ow.on _ _ _ _ (fun i _ h => Bs.of (Q.block q24 (by have := H12.out; omega))) O2.out); have TB4 := hid (HTB.out.blk (Q.block (Q2.out.trans q24) (by have := HS1.out; omega))); have hl4 : w2.heap.size < w4.heap.size := N4.out.pl.lt; have hl5 : W.heap.size + 1 < w4.heap.size := (by omega); clear q4 q24 z0 z1 z2 z3 z4 z5 z6; obtain ⟨y0, y1, y2, y3, y4, y5, y6, _⟩ := N4.out; obtain ⟨u0, u1, u2, u3, u4, u5, u6, uf⟩ := TB4.out; have f0 := uf 0; have f1 := uf 1; have f2 := uf 2; have f3 := uf 3; have f4 := uf 4; have f5 := uf 5; have f6 := uf 6; clear uf; simp only [Nat.zero_add] at y0 y1 y2 y3 y4 y5 y6)
    | (go_at_call 26; refine (HCH.out w4 w2.heap.size _ _ _ _ _ _ _ lo hi N4.out O4.out (by have := H12.out; have := Q24.out.size; omega) (.inr H12.out.2)).mono ?_; rintro e9 w6 ⟨⟨u9, rfl⟩, cd6⟩; obtain ⟨d0, d1, d2, d3, d4, d5, d6, n6, o6⟩ := cd6.ex; obtain ⟨k7, n7, t7, b7, e7, a7, l7, c7, a8, l8, c8, hsh⟩ := o6.shape; simp only [Value.agg.injEq, Array.mk.injEq, List.cons.injEq, and_true] at hsh; obtain ⟨rfl, rfl, rfl, rfl, rfl, rfl, rfl⟩ := hsh; have C6 := hid cd6.ch; have O6 := hid o6; have TB6 := hid (TB4.out.blk (C6.out.q.block _ hl5 (fun e => by have := H12.out; have := HS1.out; omega))); clear y0 y1 y2 y3 y4 y5 y6 u0 u1 u2 u3 u4 u5 u6 f0 f1 f2 f3 f4 f5 f6; obtain ⟨y0, y1, y2, y3, y4, y5, y6, _⟩ := n6; obtain ⟨u0, u1, u2, u3, u4, u5, u6, uf⟩ := TB6.out; have f0 := uf 0; have f1 := uf 1; have f2 := uf 2; have f3 := uf 3; have f4 := uf 4; have f5 := uf 5; have f6 := uf 6; clear uf cd6 o6; simp only [Nat.zero_add] at y0 y1 y2 y3 y4 y5 y6))
  refine bodyPost_ret (v := .agg #[.int .i64 k7, .int .i64 n7, .string t7, .bool b7, .int .i64 e7, .slice a7 l7 c7, .slice a8 l8 c8]) (by simp [results, Tryz.results16, go_sem, u0, u1, u2, u3, u4, u5, u6]) rfl ?_
  have QF : Qx (W.heap.size + 1) w6 (((((((w6.setCell ⟨W.heap.size + 1, 0, none⟩ (.int .i64 k7)).setCell ⟨W.heap.size + 1, 1, none⟩ (.int .i64 n7)).setCell ⟨W.heap.size + 1, 2, none⟩ (.string t7)).setCell ⟨W.heap.size + 1, 3, none⟩ (.bool b7)).setCell ⟨W.heap.size + 1, 4, none⟩ (.int .i64 e7)).setCell ⟨W.heap.size + 1, 5, none⟩ (.slice a7 l7 c7)).setCell ⟨W.heap.size + 1, 6, none⟩ (.slice a8 l8 c8)) := (((((((Qx.refl _ _).own _ _).own _ _).own _ _).own _ _).own _ _).own _ _).own _ _
  have hz := HS1.out
  have h12 := H12.out
  have hq : Q W w6 := q_chd ((HQ1.out.trans Q2.out).trans Q24.out) C6.out (by omega) (by omega)
  have hz4 := Q24.out.size
  have hz6 := C6.out.q.size
  refine ⟨_, rfl, ⟨QF.os.trans hq.os, QF.tape.trans hq.tape, QF.output.trans hq.output, Nat.le_trans hq.size QF.size, fun i hi => (QF.block i (Nat.lt_of_lt_of_le hi hq.size) (fun e => by have := Option.some.inj e; omega)).trans (Q.block hq hi)⟩, lo, hi, by omega, Nat.le_trans (by omega) QF.size, ?_⟩
  exact Ow.on _ _ _ _ (fun i h1 h2 => Bs.of (QF.block i (by omega) (fun e => by have := Option.some.inj e; omega))) O6.out
end Go.Proofs.YtoikodohcieipaaGreatDoor
