/- P.tree of the reference, walke. -/
import Derived.Test.YtoikodohcieipaaGreatDoorKe07
import Derived.BigQuiet
import Derived.Test.YtoikodohcieipaaGreatDoorKe10
import Derived.Deep.RegionHeld3
import Derived.Test.YtoikodohcieipaaGreatDoorKe04
set_option linter.unusedVariables false
set_option linter.unusedSimpArgs false
set_option maxRecDepth 100000
set_option maxHeartbeats 8000000
namespace Go.Proofs.YtoikodohcieipaaGreatDoor
open Go.RowKit
def far (p : Nat) (W : World) : Nat := match W.cell? ⟨p, 1, none⟩ with
  | some (.int _ i) => i.toNat
  | _ => 0
theorem far_of {W : World} {p : Nat} {L : List Wd} {b off cap i : Nat} {bd : Bool} {n : Nat} (h : PS W p L b off cap i bd n) : far p W = i := by
  unfold far
  rw [h.c1]
  simp
structure LI (E : Env) (L : List Wd) (p b off cap lv : Nat) (W : World) (X0 : Nat) (R : Ex × St) (W' : World) (f' : Nat) (s1 : St) (y : Ex) (k m : Int) (t : ByteArray) (bb : Bool) (er : Int) (a1 : Option Addr) (l1 c1 : Nat) (a2 : Option Addr) (l2 c2 : Nat) : Prop where
  st : PS W' p L b off cap s1.i s1.bd s1.n
  lt : s1.i < L.length
  nb : s1.n ≤ s1.i
  fe : treeF.loopF E L f' lv y s1 = some R
  xb : Tb W' X0 (.int .i64 k) (.int .i64 m) (.string t) (.bool bb) (.int .i64 er) (.slice a1 l1 c1) (.slice a2 l2 c2)
  zb : Tb W' W.heap.size (.int .i64 0) (.int .i64 0) (.string ⟨#[]⟩) (.bool false) (.int .i64 0) (.slice none 0 0) (.slice none 0 0)
  rd : Rdg (fun b => W.heap.size + 1 ≤ b ∧ b ≠ X0) W' y (.agg #[.int .i64 k, .int .i64 m, .string t, .bool bb, .int .i64 er, .slice a1 l1 c1, .slice a2 l2 c2])
  qx : Qx p W W'
theorem loop_stop {E : Env} {L : List Wd} {f lv : Nat} {x : Ex} {s : St} {R : Ex × St} (h : ¬ (s.bd = false ∧ stg L s.i = lv)) (e : treeF.loopF E L f lv x s = some R) : R = (x, s) := by
  cases f with
  | zero => unfold treeF.loopF at e; cases e
  | succ f => rw [treeF.loopF, if_neg h] at e; exact (Option.some.inj e).symm
theorem Tb.put {W : World} {q : Nat} {c0 c1 c2 c3 c4 c5 c6 : Value} (h : Tb W q c0 c1 c2 c3 c4 c5 c6) (d0 d1 d2 d3 d4 d5 d6 : Value) :
    Tb (((((((W.setCell ⟨q, 0, none⟩ d0).setCell ⟨q, 1, none⟩ d1).setCell ⟨q, 2, none⟩ d2).setCell ⟨q, 3, none⟩ d3).setCell ⟨q, 4, none⟩ d4).setCell ⟨q, 5, none⟩ d5).setCell ⟨q, 6, none⟩ d6) q d0 d1 d2 d3 d4 d5 d6 := by
  obtain ⟨h0, h1, h2, h3, h4, h5, h6, hf⟩ := h
  have same : ∀ {V : World} {j : Nat} {c d : Value}, V.cell? ⟨q, j, none⟩ = some c → (V.setCell ⟨q, j, none⟩ d).cell? ⟨q, j, none⟩ = some d := fun {V j c d} e => World.cell?_setCell_same _ _ _ e
  have other : ∀ {V : World} {j k : Nat} {d : Value} {o : Option Value}, k ≠ j → V.cell? ⟨q, j, none⟩ = o → (V.setCell ⟨q, k, none⟩ d).cell? ⟨q, j, none⟩ = o := fun {V j k d o} hk e => by
    rw [World.cell?_setCell_other _ _ _ _ (by simp; try omega)]; exact e
  have p0 : ∀ {V : World}, V.cell? ⟨q, 0, none⟩ = some c0 → True := fun _ => trivial
  refine ⟨?_, ?_, ?_, ?_, ?_, ?_, ?_, fun j => ?_⟩
  · exact other (by omega) (other (by omega) (other (by omega) (other (by omega) (other (by omega) (other (by omega) (same h0))))))
  · exact other (by omega) (other (by omega) (other (by omega) (other (by omega) (other (by omega) (same (other (by omega) h1))))))
  · exact other (by omega) (other (by omega) (other (by omega) (other (by omega) (same (other (by omega) (other (by omega) h2))))))
  · exact other (by omega) (other (by omega) (other (by omega) (same (other (by omega) (other (by omega) (other (by omega) h3))))))
  · exact other (by omega) (other (by omega) (same (other (by omega) (other (by omega) (other (by omega) (other (by omega) h4))))))
  · exact other (by omega) (same (other (by omega) (other (by omega) (other (by omega) (other (by omega) (other (by omega) h5))))))
  · exact same (other (by omega) (other (by omega) (other (by omega) (other (by omega) (other (by omega) (other (by omega) h6))))))
  · simp only [World.frozen?_setCell]
    exact hf j
structure Tw (W : World) (q : Nat) (c0 c1 c2 c3 c4 c5 c6 d0 d1 d2 d3 d4 d5 d6 : Value) : Prop where
  g0 : W.cell? ⟨q, 0, none⟩ = some c0
  g1 : W.cell? ⟨q, 1, none⟩ = some c1
  g2 : W.cell? ⟨q, 2, none⟩ = some c2
  g3 : W.cell? ⟨q, 3, none⟩ = some c3
  g4 : W.cell? ⟨q, 4, none⟩ = some c4
  g5 : W.cell? ⟨q, 5, none⟩ = some c5
  g6 : W.cell? ⟨q, 6, none⟩ = some c6
  e0 : W.cell? ⟨q, 7, none⟩ = some d0
  e1 : W.cell? ⟨q, 8, none⟩ = some d1
  e2 : W.cell? ⟨q, 9, none⟩ = some d2
  e3 : W.cell? ⟨q, 10, none⟩ = some d3
  e4 : W.cell? ⟨q, 11, none⟩ = some d4
  e5 : W.cell? ⟨q, 12, none⟩ = some d5
  e6 : W.cell? ⟨q, 13, none⟩ = some d6
theorem tw_new (W : World) (c0 c1 c2 c3 c4 c5 c6 d0 d1 d2 d3 d4 d5 d6 : Value) (t : TypeId) : Tw (W.alloc (.cells #[c0, c1, c2, c3, c4, c5, c6, d0, d1, d2, d3, d4, d5, d6] t)) W.heap.size c0 c1 c2 c3 c4 c5 c6 d0 d1 d2 d3 d4 d5 d6 := by
  refine ⟨?_, ?_, ?_, ?_, ?_, ?_, ?_, ?_, ?_, ?_, ?_, ?_, ?_, ?_⟩
  all_goals simp [World.cell?_alloc_new]
theorem Tw.on {p : Nat} {W W' : World} {q : Nat} {c0 c1 c2 c3 c4 c5 c6 d0 d1 d2 d3 d4 d5 d6 : Value} (h : Tw W q c0 c1 c2 c3 c4 c5 c6 d0 d1 d2 d3 d4 d5 d6) (x : Qx p W W') (hq : q ≠ p) : Tw W' q c0 c1 c2 c3 c4 c5 c6 d0 d1 d2 d3 d4 d5 d6 := by
  have hl : q < W.heap.size := World.block_lt_of_cell? W ⟨q, 0, none⟩ h.g0
  exact ⟨(x.cell hl hq).trans h.g0, (x.cell hl hq).trans h.g1, (x.cell hl hq).trans h.g2, (x.cell hl hq).trans h.g3, (x.cell hl hq).trans h.g4, (x.cell hl hq).trans h.g5, (x.cell hl hq).trans h.g6,
    (x.cell hl hq).trans h.e0, (x.cell hl hq).trans h.e1, (x.cell hl hq).trans h.e2, (x.cell hl hq).trans h.e3, (x.cell hl hq).trans h.e4, (x.cell hl hq).trans h.e5, (x.cell hl hq).trans h.e6⟩
theorem Tw.two {g : Nat → Prop} {W : World} {q : Nat} {c0 c1 c2 c3 c4 c5 c6 d0 d1 d2 d3 d4 d5 d6 : Value} {x y : Ex} (h : Tw W q c0 c1 c2 c3 c4 c5 c6 d0 d1 d2 d3 d4 d5 d6) (hx : Rdg g W x (.agg #[c0, c1, c2, c3, c4, c5, c6])) (hy : Rdg g W y (.agg #[d0, d1, d2, d3, d4, d5, d6])) : Rdg.RdLg g W [x, y] q 0 := by
  unfold Rdg.RdLg
  refine ⟨⟨_, _, _, _, _, _, _, h.g0, h.g1, h.g2, h.g3, h.g4, h.g5, h.g6, hx⟩, ?_⟩
  unfold Rdg.RdLg
  refine ⟨⟨_, _, _, _, _, _, _, h.e0, h.e1, h.e2, h.e3, h.e4, h.e5, h.e6, hy⟩, ?_⟩
  unfold Rdg.RdLg
  trivial
theorem loop_go {E : Env} {L : List Wd} {f lv : Nat} {x : Ex} {s : St} {R : Ex × St} (h : s.bd = false ∧ stg L s.i = lv) (e : treeF.loopF E L f lv x s = some R) : ∃ g r, f = g + 1 ∧ treeF E L g (lv + 1) s.on = some r ∧ treeF.loopF E L g lv (binE (tAt L s.i) x r.1) r.2.node = some R := by
  cases f with
  | zero => unfold treeF.loopF at e; cases e
  | succ f =>
    rw [treeF.loopF, if_pos h] at e
    obtain ⟨r, h1, h2⟩ := Option.bind_eq_some_iff.1 e
    exact ⟨f, r, rfl, h1, h2⟩
set_option maxHeartbeats 16000000 in
theorem tree_step (E : Env) (L : List Wd) (hE : Ends L) (p b off cap lv : Nat) (s : St) (W : World) (h : PS W p L b off cap s.i s.bd s.n) (hi : s.i < L.length) (hb : s.bd = false) (hv0 : 1 ≤ lv) (hv : lv ≤ 4) (r0 R : Ex × St) (f0 : Nat) (HR : Hid (treeF.loopF E L f0 lv r0.1 r0.2 = some R))
    (HT : Hid (∀ W1, PS W1 p L b off cap s.i s.bd s.n → Calls Tryz.prog 41 #[.pointer (some ⟨p, 0, none⟩), .int .i64 ((lv : Int) + 1)] W1 fun e W' => Rep p L b off cap W1 r0 e W'))
    (HT2 : Hid (∀ f' s1 r W1, f' < f0 → treeF E L f' (lv + 1) s1 = some r → PS W1 p L b off cap s1.i s1.bd s1.n → s1.i < L.length → s1.n ≤ s1.i → Calls Tryz.prog 41 #[.pointer (some ⟨p, 0, none⟩), .int .i64 ((lv : Int) + 1)] W1 fun e W' => Rep p L b off cap W1 r e W'))
    (hroom : L.length ≤ 50000) (hF0 : Fwd L s r0.2) (hnb : s.n ≤ s.i) :
    Calls Tryz.prog 41 #[.pointer (some ⟨p, 0, none⟩), .int .i64 (lv : Int)] W fun e W' => Rep p L b off cap W R e W' := by
  have hlt := h.lt
  have hbW := h.blk hi
  have HP0 := hid (h.on ((Q.refl _).alloc (.cells #[.int .i64 0, .int .i64 0, .string ⟨#[]⟩, .bool false, .int .i64 0, .slice none 0 0, .slice none 0 0] 26)))
  have g2 := HP0.out.c2
  rw [hb] at g2
  have HZ := hid (tb_new W (.int .i64 0) (.int .i64 0) (.string ⟨#[]⟩) (.bool false) (.int .i64 0) (.slice none 0 0) (.slice none 0 0) 26)
  have h5 : ((lv : Int) == 5) = false := by rw [beq_eq_false_iff_ne]; omega
  have HFs := hid hF0
  obtain ⟨x, s'⟩ := r0
  simp only at HR HFs
  clear h hF0
  go_enter Tryz.func41, Tryz.ntmps41
  go_wp2_with (go_at_call 41; refine (HT.out _ HP0.out).mono ?_; rintro e w2 ⟨v, rfl, hr2, q2, p2⟩; obtain ⟨k, m, t, bb, er, a1, l1, c1, a2, l2, c2, rfl⟩ := hr2.shape; have R2 := hid hr2; have Q2 := hid q2; have P2 := hid p2; have Z2 := hid (HZ.out.on Q2.out (by omega)); clear hr2 q2 p2)
  have hsz : W.heap.size + 1 ≤ w2.heap.size := by have := Q2.out.size; simp at this; omega
  have hnb' : s'.n ≤ s'.i := by have := HFs.out.nd; omega
  have HI : Hid (LI E L p b off cap lv W w2.heap.size R (w2.alloc (.cells #[.int .i64 k, .int .i64 m, .string t, .bool bb, .int .i64 er, .slice a1 l1 c1, .slice a2 l2 c2] 26)) f0 s' x k m t bb er a1 l1 c1 a2 l2 c2) := hid ⟨P2.out.on ((Q.refl _).alloc _), HFs.out.lt, hnb', HR.out, tb_new _ _ _ _ _ _ _ _ _, Z2.out.on ((Qx.refl p _).alloc _) (by omega), Rdg.on ((Qx.refl p _).alloc _) (fun b hb => by omega) _ _ (Rdg.mono (fun b hb => by simp at hb; omega) _ _ (Rdg.in _ _ R2.out)), (((Qx.refl p W).alloc _).trans Q2.out).alloc _⟩
  go_loopw [6] (fun _ W' => ∃ (f' : Nat) (s1 : St) (y : Ex) (k m : Int) (t : ByteArray) (bb : Bool) (er : Int) (a1 : Option Addr) (l1 c1 : Nat) (a2 : Option Addr) (l2 c2 : Nat), f' ≤ f0 ∧ LI E L p b off cap lv W w2.heap.size R W' f' s1 y k m t bb er a1 l1 c1 a2 l2 c2) (fun _ W' => L.length - far p W')
  case atStart => exact ⟨f0, s', x, k, m, t, bb, er, a1, l1, c1, a2, l2, c2, Nat.le_refl _, HI.out⟩
  case round =>
    obtain ⟨f', s1, y, k, m, t, bb, er, a1, l1, c1, a2, l2, c2, hf', hI⟩ := hrel
    have HI2 := hid hI
    have hlt1 := hI.lt
    have z0 := hI.st.c0
    have z1 := hI.st.c1
    have z2 := hI.st.c2
    have v0 := hI.st.sw.k s1.i hI.lt
    have v1 := hI.st.sw.t s1.i hI.lt
    obtain ⟨T, hT, lT⟩ : ∃ T : ByteArray, ⟨L[s1.i].t.toArray⟩ = T ∧ T.data.toList = L[s1.i].t := ⟨_, rfl, rfl⟩
    rw [hT] at v1
    have hK := kAt_get hI.lt
    have HLV := hid (fun W => level_any T W)
    rw [lT, ← hK.2] at HLV
    rw [← hK.1] at v0
    have HTT : Hid (T.data.toList = tAt L s1.i) := hid (lT.trans hK.2.symm)
    by_cases hgo : s1.bd = false ∧ stg L s1.i = lv
    · have e6 : kAt L s1.i = 6 := stg_six (by omega)
      have e7 : lvl (tAt L s1.i) = lv := by have := hgo.2; unfold stg at this; rw [if_pos e6] at this; exact this
      have e9 : ((lv : Int) == (lv : Int)) = true := beq_self_eq_true _
      have HGO := hid hgo
      rw [hgo.1] at z2
      rw [e6] at v0
      rw [e7] at HLV
      obtain ⟨g, r, rfl, ht, hl⟩ := loop_go hgo hI.fe
      have hon : s1.on.i < L.length := hE _ hlt1 (by omega)
      have y1 := hI.st.f1
      have hFr := ((fwd_all E L hE g).1 _ _ _ (by omega) ht hon).1
      have hn3 : r.2.n ≤ 100000 := by have := hFr.nd; have := hFr.lt; have := hI.nb; have := hFr.le; simp only [on_i, on_n] at *; omega
      have hXp : w2.heap.size ≠ p := by omega
      clear hI hT lT hK hgo
      go_wp2_with fail
      go_quiet (first | (go_at_call 56; refine Calls.quiet_of_same (HLV.out _)) | (refine Calls.quiet_of_same (HLV.out _)))
      go_wp2_with fail
      go_quiet (fail)
      go_wp2_with (first | (go_at_call 41; refine (HT2.out g s1.on r _ (by omega) ht (PS.set1 (PS.on HI2.out.st (by repeat (first | exact Q.refl _ | refine Q.drewN ?_ _ | refine Q.drew ?_))) (s1.i + 1) _ (by go_num)) hon (by simp only [on_i, on_n]; have := HI2.out.nb; omega)).mono ?_; rintro e w3 ⟨v, rfl, hr3, q3, p3⟩; obtain ⟨k3, m3, t3, bb3, er3, a13, l13, c13, a23, l23, c23, rfl⟩ := hr3.shape; have R3 := hid hr3; have Q3 := hid q3; have P3 := hid p3; clear hr3 q3 p3; have QA : Hid (Qx p wr w3) := hid (Qx.trans (by repeat (first | with_reducible exact Qx.refl _ _ | with_reducible refine Qx.own ?_ _ _ | with_reducible refine Qx.drewN ?_ _)) Q3.out); have X4 := hid ((HI2.out.xb.on QA.out hXp).on ((Qx.refl p _).alloc (.cells #[.int .i64 k3, .int .i64 m3, .string t3, .bool bb3, .int .i64 er3, .slice a13 l13 c13, .slice a23 l23 c23] 26)) hXp); have d0 := X4.out.g0; have d1 := X4.out.g1; have d2 := X4.out.g2; have d3 := X4.out.g3; have d4 := X4.out.g4; have d5 := X4.out.g5; have d6 := X4.out.g6) | (go_at_call 66; refine (node_any _ p L b off cap _ _ _ ((P3.out.on ((Q.refl _).alloc _)).on ((Q.refl _).alloc _)) hn3 8 0 T false 0 none 0 0 (some ⟨w3.heap.size + 1, 0, none⟩) 2 2).mono ?_; rintro e w5 ⟨rfl, q5, p5⟩; have Q5 := hid q5; have P5 := hid p5; clear q5 p5; have X5 := hid ((X4.out.on ((Qx.refl p _).alloc _) hXp).on Q5.out hXp); have f0 := X5.out.f 0; have f1 := X5.out.f 1; have f2 := X5.out.f 2; have f3 := X5.out.f 3; have f4 := X5.out.f 4; have f5 := X5.out.f 5; have f6 := X5.out.f 6; have h0 := X5.out.g0; have h1 := X5.out.g1; have h2 := X5.out.g2; have h3 := X5.out.g3; have h4 := X5.out.g4; have h5 := X5.out.g5; have h6 := X5.out.g6))
      have QAo := QA.out
      have s3 : wr.heap.size ≤ w3.heap.size := QAo.size
      have s5 : w3.heap.size + 2 ≤ w5.heap.size := by have := Q5.out.size; simp at this; omega
      have hXr : w2.heap.size < wr.heap.size := World.block_lt_of_cell? wr ⟨w2.heap.size, 0, none⟩ HI2.out.xb.g0
      have QB : Qx p wr w5 := ((QAo.alloc _).alloc _).trans Q5.out
      have QW : Qx p W w5 := HI2.out.qx.trans QB
      have QF : Qx w2.heap.size w5 (((((((w5.setCell ⟨w2.heap.size, 0, none⟩ (.int .i64 8)).setCell ⟨w2.heap.size, 1, none⟩ (.int .i64 0)).setCell ⟨w2.heap.size, 2, none⟩ (.string T)).setCell ⟨w2.heap.size, 3, none⟩ (.bool false)).setCell ⟨w2.heap.size, 4, none⟩ (.int .i64 0)).setCell ⟨w2.heap.size, 5, none⟩ (.slice none 0 0)).setCell ⟨w2.heap.size, 6, none⟩ (.slice (some ⟨w3.heap.size + 1, 0, none⟩) 2 2)) := (((((((Qx.refl _ _).own _ _).own _ _).own _ _).own _ _).own _ _).own _ _).own _ _
      have K5 := (tw_new (w3.alloc (.cells #[.int .i64 k3, .int .i64 m3, .string t3, .bool bb3, .int .i64 er3, .slice a13 l13 c13, .slice a23 l23 c23] 26)) (.int .i64 k) (.int .i64 m) (.string t) (.bool bb) (.int .i64 er) (.slice a1 l1 c1) (.slice a2 l2 c2) (.int .i64 k3) (.int .i64 m3) (.string t3) (.bool bb3) (.int .i64 er3) (.slice a13 l13 c13) (.slice a23 l23 c23) 26).on Q5.out (by simp; omega)
      rw [show (w3.alloc (.cells #[.int .i64 k3, .int .i64 m3, .string t3, .bool bb3, .int .i64 er3, .slice a13 l13 c13, .slice a23 l23 c23] 26)).heap.size = w3.heap.size + 1 by simp] at K5
      have K6 := K5.on QF (by omega)
      have P6 := ((pl_new (w3.alloc (.cells #[.int .i64 k3, .int .i64 m3, .string t3, .bool bb3, .int .i64 er3, .slice a13 l13 c13, .slice a23 l23 c23] 26)) #[.int .i64 k, .int .i64 m, .string t, .bool bb, .int .i64 er, .slice a1 l1 c1, .slice a2 l2 c2, .int .i64 k3, .int .i64 m3, .string t3, .bool bb3, .int .i64 er3, .slice a13 l13 c13, .slice a23 l23 c23] 26).onx Q5.out (by simp; omega)).onx QF (by simp; omega)
      rw [show (w3.alloc (.cells #[.int .i64 k3, .int .i64 m3, .string t3, .bool bb3, .int .i64 er3, .slice a13 l13 c13, .slice a23 l23 c23] 26)).heap.size = w3.heap.size + 1 by simp] at P6
      have RY := Rdg.on QF (fun b hb => hb.2) _ _ (Rdg.on QB (fun b hb => by omega) _ _ HI2.out.rd)
      have RZ : Rdg (fun b => W.heap.size + 1 ≤ b ∧ b ≠ w2.heap.size) _ r.1 _ := Rdg.on QF (fun b hb => hb.2) _ _ (Rdg.on (((Qx.refl p _).alloc _).alloc _ |>.trans Q5.out) (fun b hb => by omega) _ _ (Rdg.mono (fun b hb => by simp at hb; omega) _ _ R3.out))
      have HL : LI E L p b off cap lv W w2.heap.size R _ g r.2.node (binE (tAt L s1.i) y r.1) 8 0 T false 0 none 0 0 (some ⟨w3.heap.size + 1, 0, none⟩) 2 2 :=
        ⟨P5.out.onx QF (by omega) (by omega), hFr.lt, by simp only [node_i, node_n]; have := hFr.nd; have := hFr.le; have := HI2.out.nb; simp only [on_i, on_n] at *; omega, hl, X5.out.put _ _ _ _ _ _ _, (HI2.out.zb.on QB (by omega)).on QF (by omega), rdg_kids 8 (tAt L s1.i) T HTT.out [y, r.1] (w3.heap.size + 1) 2 ⟨by omega, by omega⟩ (by simp) (by unfold maxLen; omega) P6 (K6.two RY RZ), by repeat (first | with_reducible exact QW | with_reducible refine Qx.new ?_ (by omega) _ _)⟩
      go_roundw
      case rel => exact ⟨g, r.2.node, _, 8, 0, T, false, 0, none, 0, 0, some ⟨w3.heap.size + 1, 0, none⟩, 2, 2, by omega, HL⟩
      case measure =>
        rw [far_of HL.st, far_of HI2.out.st]
        have := hFr.le
        simp only [on_i, node_i] at *
        omega
    · have eR := loop_stop hgo hI.fe
      have xg0 := hI.xb.g0
      have xg1 := hI.xb.g1
      have xg2 := hI.xb.g2
      have xg3 := hI.xb.g3
      have xg4 := hI.xb.g4
      have xg5 := hI.xb.g5
      have xg6 := hI.xb.g6
      have zg0 := hI.zb.g0
      have zg1 := hI.zb.g1
      have zg2 := hI.zb.g2
      have zg3 := hI.zb.g3
      have zg4 := hI.zb.g4
      have zg5 := hI.zb.g5
      have zg6 := hI.zb.g6
      have zf0 := hI.zb.f 0
      have zf1 := hI.zb.f 1
      have zf2 := hI.zb.f 2
      have zf3 := hI.zb.f 3
      have zf4 := hI.zb.f 4
      have zf5 := hI.zb.f 5
      have zf6 := hI.zb.f 6
      have hXz : w2.heap.size ≠ W.heap.size := by omega
      have fin : ∀ n : Nat, Rep p L b off cap W R (.returned (.agg #[.int .i64 k, .int .i64 m, .string t, .bool bb, .int .i64 er, .slice a1 l1 c1, .slice a2 l2 c2])) ((((((((wr.drewN n).setCell ⟨W.heap.size, 0, none⟩ (.int .i64 k)).setCell ⟨W.heap.size, 1, none⟩ (.int .i64 m)).setCell ⟨W.heap.size, 2, none⟩ (.string t)).setCell ⟨W.heap.size, 3, none⟩ (.bool bb)).setCell ⟨W.heap.size, 4, none⟩ (.int .i64 er)).setCell ⟨W.heap.size, 5, none⟩ (.slice a1 l1 c1)).setCell ⟨W.heap.size, 6, none⟩ (.slice a2 l2 c2)) := by
        intro n
        rw [eR]
        exact fin7 k m t bb er a1 l1 c1 a2 l2 c2 hlt hbW (HI2.out.qx.drewN n) (Rdg.on ((Qx.refl p _).drewN n) (fun b hb => by omega) _ _ (Rdg.mono (fun b hb => hb.1) _ _ HI2.out.rd)) (HI2.out.st.on ((Q.refl _).drewN n))
      have FIN := hid fin
      clear fin eR
      cases hbd : s1.bd
      · by_cases e6 : kAt L s1.i = 6
        · have e7 : lvl (tAt L s1.i) ≠ lv := fun e => hgo ⟨hbd, by unfold stg; rw [if_pos e6]; exact e⟩
          have e9 : ((lvl (tAt L s1.i) : Int) == (lv : Int)) = false := by rw [beq_eq_false_iff_ne]; omega
          rw [hbd] at z2
          rw [e6] at v0
          generalize lvl (tAt L s1.i) = lw at HLV e9
          clear hI hT lT hK hgo e7
          go_wp2_with fail
          go_quiet (first | (go_at_call 56; refine Calls.quiet_of_same (HLV.out _)) | (refine Calls.quiet_of_same (HLV.out _)))
          go_wp2_with fail
          refine bodyPost_ret (v := .agg #[.int .i64 k, .int .i64 m, .string t, .bool bb, .int .i64 er, .slice a1 l1 c1, .slice a2 l2 c2]) (by simp [results, Tryz.results41, go_sem, zg0, zg1, zg2, zg3, zg4, zg5, zg6]) rfl ?_
          exact FIN.out _
        · have e7 : ((kAt L s1.i : Int) == 6) = false := by rw [beq_eq_false_iff_ne]; omega
          rw [hbd] at z2
          generalize (kAt L s1.i : Int) = kk at v0 e7
          clear hI hT lT hK hgo
          go_wp2_with fail
          go_quiet (fail)
          go_wp2_with fail
          refine bodyPost_ret (v := .agg #[.int .i64 k, .int .i64 m, .string t, .bool bb, .int .i64 er, .slice a1 l1 c1, .slice a2 l2 c2]) (by simp [results, Tryz.results41, go_sem, zg0, zg1, zg2, zg3, zg4, zg5, zg6]) rfl ?_
          exact FIN.out _
      · rw [hbd] at z2
        clear hI hT lT hK hgo
        go_wp2_with fail
        go_quiet (fail)
        go_wp2_with fail
        refine bodyPost_ret (v := .agg #[.int .i64 k, .int .i64 m, .string t, .bool bb, .int .i64 er, .slice a1 l1 c1, .slice a2 l2 c2]) (by simp [results, Tryz.results41, go_sem, zg0, zg1, zg2, zg3, zg4, zg5, zg6]) rfl ?_
        exact FIN.out _
def errN (t : List UInt8) : Nat := if t = enL 1 then 1 else if t = enL 2 then 2 else if t = enL 3 then 3 else if t = enL 4 then 4 else if t = enL 5 then 5 else if t = enL 6 then 6 else if t = enL 7 then 7 else 0
def namF (t : List UInt8) : Bool := decide (0 < t.length) && (decide (t.length ≤ 20) && (decide (¬ (t = truW ∨ t = flsW)) && t.all let1))
def EE : Env := { num := fun t => V.pk (V.parseO t), nok := fun t => V.pf (V.parseO t), ref := refT, rok := refF, err := errN, nam := namF }
def KW (W : World) (p n b off cap i : Nat) (k : Int) (T : ByteArray) (q : Int) : Prop := W.cell? ⟨p, 0, none⟩ = some (.slice (some ⟨b, off, none⟩) n cap) ∧ W.cell? ⟨p, 1, none⟩ = some (.int .i64 (i : Int)) ∧ W.cell? ⟨b, off + i * 3, none⟩ = some (.int .i64 k) ∧ W.cell? ⟨b, off + i * 3 + 1, none⟩ = some (.string T) ∧ W.cell? ⟨b, off + i * 3 + 2, none⟩ = some (.int .i64 q)
theorem KW.on {W W' : World} {p n b off cap i : Nat} {k : Int} {T : ByteArray} {q : Int} (h : KW W p n b off cap i k T q) (x : Q W W') : KW W' p n b off cap i k T q :=
  ⟨(x.cell (World.block_lt_of_cell? W ⟨p, 0, none⟩ h.1)).trans h.1, (x.cell (World.block_lt_of_cell? W ⟨p, 1, none⟩ h.2.1)).trans h.2.1, (x.cell (World.block_lt_of_cell? W ⟨b, off + i * 3, none⟩ h.2.2.1)).trans h.2.2.1, (x.cell (World.block_lt_of_cell? W ⟨b, off + i * 3 + 1, none⟩ h.2.2.2.1)).trans h.2.2.2.1, (x.cell (World.block_lt_of_cell? W ⟨b, off + i * 3 + 2, none⟩ h.2.2.2.2)).trans h.2.2.2.2⟩
theorem PS.kw {W : World} {p : Nat} {L : List Wd} {b off cap i : Nat} {bd : Bool} {n : Nat} (h : PS W p L b off cap i bd n) (hi : i < L.length) : ∃ (T : ByteArray) (q : Int), T.data.toList = tAt L i ∧ KW W p L.length b off cap i (kAt L i : Int) T q := by
  have hk := kAt_get hi
  refine ⟨⟨L[i].t.toArray⟩, (L[i].p : Int), hk.2.symm, h.c0, h.c1, ?_, h.sw.t i hi, h.sw.p i hi⟩
  rw [hk.1]
  exact h.sw.k i hi
structure Wb (W : World) (q : Nat) (c0 c1 c2 : Value) : Prop where
  g0 : W.cell? ⟨q, 0, none⟩ = some c0
  g1 : W.cell? ⟨q, 1, none⟩ = some c1
  g2 : W.cell? ⟨q, 2, none⟩ = some c2
theorem wb_new (W : World) (c0 c1 c2 : Value) (t : TypeId) : Wb (W.alloc (.cells #[c0, c1, c2] t)) W.heap.size c0 c1 c2 := by
  refine ⟨?_, ?_, ?_⟩
  all_goals simp [World.cell?_alloc_new]
theorem Wb.on {p : Nat} {W W' : World} {q : Nat} {c0 c1 c2 : Value} (h : Wb W q c0 c1 c2) (x : Qx p W W') (hq : q ≠ p) : Wb W' q c0 c1 c2 := by
  have hl : q < W.heap.size := World.block_lt_of_cell? W ⟨q, 0, none⟩ h.g0
  exact ⟨(x.cell hl hq).trans h.g0, (x.cell hl hq).trans h.g1, (x.cell hl hq).trans h.g2⟩
theorem rdg_leaf {g : Nat → Prop} {W : World} (k n : Int) (t : List UInt8) (T : ByteArray) (hT : T.data.toList = t) (b : Bool) (e : Int) : Rdg g W (.mk k n t b e [] []) (.agg #[.int .i64 k, .int .i64 n, .string T, .bool b, .int .i64 e, .slice none 0 0, .slice none 0 0]) := by
  have e' : T = ⟨t.toArray⟩ := bytes_eq hT
  subst e'
  unfold Rdg
  exact ⟨_, _, rfl, ⟨none, 0, rfl, Nat.le_refl _, Nat.zero_le _, fun h => absurd h (by simp)⟩, none, 0, rfl, Nat.le_refl _, Nat.zero_le _, fun h => absurd rfl h⟩
set_option maxHeartbeats 8000000 in
theorem first_text (L : List Wd) (p b off cap : Nat) (s : St) (W : World) (h : PS W p L b off cap s.i s.bd s.n) (hi : s.i < L.length) (hr : L.length ≤ 50000) (hn : s.n ≤ s.i) (hw : isW L s.i [40] = false) (hk : kAt L s.i = 2) :
    Calls Tryz.prog 86 #[.pointer (some ⟨p, 0, none⟩)] W fun e W' => Rep p L b off cap W (textE (tAt L s.i), s.on.node) e W' := by
  have hlt := h.lt
  have hbW := h.blk hi
  obtain ⟨T, q, hT, kw⟩ := h.kw hi
  have HTT := hid hT
  have HK := hid kw
  rw [hk] at HK
  have HP := hid h
  have hroom : (s.i : Int) + 1 ≤ 9223372036854775807 := by omega
  have HZ := hid ((tb_new W (.int .i64 0) (.int .i64 0) (.string ⟨#[]⟩) (.bool false) (.int .i64 0) (.slice none 0 0) (.slice none 0 0) 26).on (((Qx.refl p _).alloc (.cells #[.int .i64 2, .string T, .int .i64 q] 78)).drew) (by omega))
  have HB := hid ((wb_new (W.alloc (.cells #[.int .i64 0, .int .i64 0, .string ⟨#[]⟩, .bool false, .int .i64 0, .slice none 0 0, .slice none 0 0] 26)) (.int .i64 2) (.string T) (.int .i64 q) 78).on ((Qx.refl p _).drew) (by simp; omega))
  rw [show (W.alloc (.cells #[.int .i64 0, .int .i64 0, .string ⟨#[]⟩, .bool false, .int .i64 0, .slice none 0 0, .slice none 0 0] 26)).heap.size = W.heap.size + 1 by simp] at HB
  have hc := hid (fun W1 (g : PS W1 p L b off cap s.i s.bd s.n) => take_any W1 p L b off cap s.i s.bd s.n ⟨#[40]⟩ g hi)
  rw [show (⟨#[40]⟩ : ByteArray).data.toList = [40] from rfl, hw] at hc
  clear h kw hT
  go_enter Tryz.func86, Tryz.ntmps86
  go_wp2_with fail
  go_region_held3 (fun V => V.cell? ⟨p, 0, none⟩ = some (.slice (some ⟨b, off, none⟩) L.length cap) ∧ V.cell? ⟨p, 1, none⟩ = some (.int .i64 (s.i : Int)) ∧ V.cell? ⟨b, off + s.i * 3, none⟩ = some (.int .i64 2) ∧ V.cell? ⟨b, off + s.i * 3 + 1, none⟩ = some (.string T) ∧ V.cell? ⟨b, off + s.i * 3 + 2, none⟩ = some (.int .i64 q)) (exact HK.out.on (by repeat (first | exact Q.refl _ | refine Q.drewN ?_ _ | refine Q.drew ?_ | refine Q.alloc ?_ _ | refine Q.setCell ?_ (by simp) _))) (fail)
  go_wp2_with (first | (go_at_call 85; refine (hc.out _ (HP.out.on (by repeat (first | exact Q.refl _ | refine Q.drewN ?_ _ | refine Q.drew ?_ | refine Q.alloc ?_ _ | refine Q.setCell ?_ (by simp) _)))).mono ?_; rintro e w1 ⟨rfl, q1, p1⟩; have Q1 : Hid (Qx p W w1) := hid (Qx.trans (by repeat (first | with_reducible exact Qx.refl _ _ | with_reducible refine Qx.drewN ?_ _ | with_reducible refine Qx.drew ?_ | with_reducible refine Qx.alloc ?_ _ | with_reducible refine Qx.own ?_ _ _ | with_reducible refine Qx.new ?_ (by simp) _ _)) q1); have P1 := hid p1; have Z1 := hid (HZ.out.on q1 (by omega)); have B1 := hid (HB.out.on q1 (by omega)); clear q1 p1; have x1 := P1.out.c1; have z1 := P1.out.f1; have b0 := B1.out.g0; have b1 := B1.out.g1; have b2 := B1.out.g2) | (go_at_call 66; refine (node_any _ p L b off cap _ _ _ (P1.out.set1 (s.i + 1) _ (by go_num)) (by omega) 2 0 T false 0 none 0 0 none 0 0).mono ?_; rintro e w3 ⟨rfl, q3, p3⟩; have Q3 : Hid (Qx p w1 w3) := hid (Qx.trans (by repeat (first | with_reducible exact Qx.refl _ _ | with_reducible refine Qx.drewN ?_ _ | with_reducible refine Qx.drew ?_ | with_reducible refine Qx.alloc ?_ _ | with_reducible refine Qx.own ?_ _ _ | with_reducible refine Qx.new ?_ (by simp) _ _)) q3); have P3 := hid p3; have Z3 := hid (Z1.out.on Q3.out (by omega)); clear q3 p3; have d0 := Z3.out.g0; have d1 := Z3.out.g1; have d2 := Z3.out.g2; have d3 := Z3.out.g3; have d4 := Z3.out.g4; have d5 := Z3.out.g5; have d6 := Z3.out.g6; have y0 := Z3.out.f 0; have y1 := Z3.out.f 1; have y2 := Z3.out.f 2; have y3 := Z3.out.f 3; have y4 := Z3.out.f 4; have y5 := Z3.out.f 5; have y6 := Z3.out.f 6))
  refine bodyPost_ret (v := .agg #[.int .i64 2, .int .i64 0, .string T, .bool false, .int .i64 0, .slice none 0 0, .slice none 0 0]) (by simp [results, Tryz.results86, go_sem, d0, d1, d2, d3, d4, d5, d6]) rfl ?_
  exact fin7 2 0 T false 0 none 0 0 none 0 0 hlt hbW (Q1.out.trans Q3.out) (rdg_leaf 2 0 (tAt L s.i) T HTT.out false 0) P3.out
set_option maxHeartbeats 8000000 in
theorem first_num (L : List Wd) (p b off cap : Nat) (s : St) (W : World) (h : PS W p L b off cap s.i s.bd s.n) (hi : s.i < L.length) (hr : L.length ≤ 50000) (hn : s.n ≤ s.i) (hw : isW L s.i [40] = false) (hk : kAt L s.i = 1) (hz : ∀ i, (tAt L i).length ≤ 1000) :
    Calls Tryz.prog 86 #[.pointer (some ⟨p, 0, none⟩)] W fun e W' => Rep p L b off cap W (numE (EE.num (tAt L s.i)), s.on.node) e W' := by
  have hlt := h.lt
  have hbW := h.blk hi
  obtain ⟨T, q, hT, kw⟩ := h.kw hi
  have HTT := hid hT
  have HK := hid kw
  rw [hk] at HK
  have HN := hid (fun W1 => V.rparse_any T W1 (by have := hz s.i; rw [← hT] at this; simp at this; omega))
  have HP := hid h
  have hroom : (s.i : Int) + 1 ≤ 9223372036854775807 := by omega
  have HZ := hid ((tb_new W (.int .i64 0) (.int .i64 0) (.string ⟨#[]⟩) (.bool false) (.int .i64 0) (.slice none 0 0) (.slice none 0 0) 26).on (((Qx.refl p _).alloc (.cells #[.int .i64 1, .string T, .int .i64 q] 78)).drew) (by omega))
  have HB := hid ((wb_new (W.alloc (.cells #[.int .i64 0, .int .i64 0, .string ⟨#[]⟩, .bool false, .int .i64 0, .slice none 0 0, .slice none 0 0] 26)) (.int .i64 1) (.string T) (.int .i64 q) 78).on ((Qx.refl p _).drew) (by simp; omega))
  rw [show (W.alloc (.cells #[.int .i64 0, .int .i64 0, .string ⟨#[]⟩, .bool false, .int .i64 0, .slice none 0 0, .slice none 0 0] 26)).heap.size = W.heap.size + 1 by simp] at HB
  have hc := hid (fun W1 (g : PS W1 p L b off cap s.i s.bd s.n) => take_any W1 p L b off cap s.i s.bd s.n ⟨#[40]⟩ g hi)
  rw [show (⟨#[40]⟩ : ByteArray).data.toList = [40] from rfl, hw] at hc
  clear h kw hT
  go_enter Tryz.func86, Tryz.ntmps86
  go_wp2_with fail
  go_region_held3 (fun V => V.cell? ⟨p, 0, none⟩ = some (.slice (some ⟨b, off, none⟩) L.length cap) ∧ V.cell? ⟨p, 1, none⟩ = some (.int .i64 (s.i : Int)) ∧ V.cell? ⟨b, off + s.i * 3, none⟩ = some (.int .i64 1) ∧ V.cell? ⟨b, off + s.i * 3 + 1, none⟩ = some (.string T) ∧ V.cell? ⟨b, off + s.i * 3 + 2, none⟩ = some (.int .i64 q)) (exact HK.out.on (by repeat (first | exact Q.refl _ | refine Q.drewN ?_ _ | refine Q.drew ?_ | refine Q.alloc ?_ _ | refine Q.setCell ?_ (by simp) _))) (fail)
  go_wp2_with (first | (go_at_call 85; refine (hc.out _ (HP.out.on (by repeat (first | exact Q.refl _ | refine Q.drewN ?_ _ | refine Q.drew ?_ | refine Q.alloc ?_ _ | refine Q.setCell ?_ (by simp) _)))).mono ?_; rintro e w1 ⟨rfl, q1, p1⟩; have Q1 : Hid (Qx p W w1) := hid (Qx.trans (by repeat (first | with_reducible exact Qx.refl _ _ | with_reducible refine Qx.drewN ?_ _ | with_reducible refine Qx.drew ?_ | with_reducible refine Qx.alloc ?_ _ | with_reducible refine Qx.own ?_ _ _ | with_reducible refine Qx.new ?_ (by simp) _ _)) q1); have P1 := hid p1; have Z1 := hid (HZ.out.on q1 (by omega)); have B1 := hid (HB.out.on q1 (by omega)); clear q1 p1; have x1 := P1.out.c1; have z1 := P1.out.f1; have b0 := B1.out.g0; have b1 := B1.out.g1; have b2 := B1.out.g2) | (go_at_call 82; refine (HN.out _).mono ?_; rintro e w2 ⟨h2, q2⟩; unfold V.RP at h2; subst h2; have Q2 := hid q2; clear q2) | (go_at_call 66; refine (node_any _ p L b off cap _ _ _ ((P1.out.set1 (s.i + 1) _ (by go_num)).on Q2.out) (by omega) 1 (V.pk (V.parseO T.data.toList)) ⟨#[]⟩ false 0 none 0 0 none 0 0).mono ?_; rintro e w3 ⟨rfl, q3, p3⟩; have Q3 : Hid (Qx p w1 w3) := hid (Qx.trans (Qx.trans (by repeat (first | with_reducible exact Qx.refl _ _ | with_reducible refine Qx.drewN ?_ _ | with_reducible refine Qx.drew ?_ | with_reducible refine Qx.alloc ?_ _ | with_reducible refine Qx.own ?_ _ _ | with_reducible refine Qx.new ?_ (by simp) _ _)) (Qx.of Q2.out)) q3); have P3 := hid p3; have Z3 := hid (Z1.out.on Q3.out (by omega)); clear q3 p3; have d0 := Z3.out.g0; have d1 := Z3.out.g1; have d2 := Z3.out.g2; have d3 := Z3.out.g3; have d4 := Z3.out.g4; have d5 := Z3.out.g5; have d6 := Z3.out.g6; have y0 := Z3.out.f 0; have y1 := Z3.out.f 1; have y2 := Z3.out.f 2; have y3 := Z3.out.f 3; have y4 := Z3.out.f 4; have y5 := Z3.out.f 5; have y6 := Z3.out.f 6))
  refine bodyPost_ret (v := .agg #[.int .i64 1, .int .i64 (V.pk (V.parseO T.data.toList)), .string ⟨#[]⟩, .bool false, .int .i64 0, .slice none 0 0, .slice none 0 0]) (by simp [results, Tryz.results86, go_sem, d0, d1, d2, d3, d4, d5, d6]) rfl ?_
  have e := rdg_leaf (g := fun b => W.heap.size + 1 ≤ b) (W := w3) 1 (V.pk (V.parseO T.data.toList)) [] ⟨#[]⟩ rfl false 0
  rw [show numE (EE.num (tAt L s.i)) = .mk 1 (V.pk (V.parseO T.data.toList)) [] false 0 [] [] by rw [HTT.out]; rfl]
  exact fin7 1 (V.pk (V.parseO T.data.toList)) ⟨#[]⟩ false 0 none 0 0 none 0 0 hlt hbW (Q1.out.trans Q3.out) e P3.out
set_option maxHeartbeats 4000000 in
theorem strength_any (s : ByteArray) (W : World) : Calls Tryz.prog 92 #[.string s] W fun e W' => e = .returned (.int .i64 (lvl s.data.toList : Int)) ∧ W' = W := by
  have et := hid (toL s)
  by_cases h0 : s.data.toList = [61]
  · have f0 : (s.toList == [61]) = true := by rw [et.out, h0]; rfl
    have HR : Hid (lvl s.data.toList = 1) := by show _ = _; rw [h0]; rfl
    generalize lvl s.data.toList = r at HR ⊢
    clear et h0
    go_enter Tryz.func92, Tryz.ntmps92
    go_wp2
    go_ret
    exact ⟨ret_int (by rw [HR.out]; rfl), rfl⟩
  · have f0 : (s.toList == [61]) = false := by rw [et.out, beq_eq_false_iff_ne]; exact h0
    by_cases h1 : s.data.toList = [60, 62]
    · have f1 : (s.toList == [60, 62]) = true := by rw [et.out, h1]; rfl
      have HR : Hid (lvl s.data.toList = 1) := by show _ = _; rw [h1]; rfl
      generalize lvl s.data.toList = r at HR ⊢
      clear et h0 h1
      go_enter Tryz.func92, Tryz.ntmps92
      go_wp2
      go_ret
      exact ⟨ret_int (by rw [HR.out]; rfl), rfl⟩
    · have f1 : (s.toList == [60, 62]) = false := by rw [et.out, beq_eq_false_iff_ne]; exact h1
      by_cases h2 : s.data.toList = [60]
      · have f2 : (s.toList == [60]) = true := by rw [et.out, h2]; rfl
        have HR : Hid (lvl s.data.toList = 1) := by show _ = _; rw [h2]; rfl
        generalize lvl s.data.toList = r at HR ⊢
        clear et h0 h1 h2
        go_enter Tryz.func92, Tryz.ntmps92
        go_wp2
        go_ret
        exact ⟨ret_int (by rw [HR.out]; rfl), rfl⟩
      · have f2 : (s.toList == [60]) = false := by rw [et.out, beq_eq_false_iff_ne]; exact h2
        by_cases h3 : s.data.toList = [60, 61]
        · have f3 : (s.toList == [60, 61]) = true := by rw [et.out, h3]; rfl
          have HR : Hid (lvl s.data.toList = 1) := by show _ = _; rw [h3]; rfl
          generalize lvl s.data.toList = r at HR ⊢
          clear et h0 h1 h2 h3
          go_enter Tryz.func92, Tryz.ntmps92
          go_wp2
          go_ret
          exact ⟨ret_int (by rw [HR.out]; rfl), rfl⟩
        · have f3 : (s.toList == [60, 61]) = false := by rw [et.out, beq_eq_false_iff_ne]; exact h3
          by_cases h4 : s.data.toList = [62]
          · have f4 : (s.toList == [62]) = true := by rw [et.out, h4]; rfl
            have HR : Hid (lvl s.data.toList = 1) := by show _ = _; rw [h4]; rfl
            generalize lvl s.data.toList = r at HR ⊢
            clear et h0 h1 h2 h3 h4
            go_enter Tryz.func92, Tryz.ntmps92
            go_wp2
            go_ret
            exact ⟨ret_int (by rw [HR.out]; rfl), rfl⟩
          · have f4 : (s.toList == [62]) = false := by rw [et.out, beq_eq_false_iff_ne]; exact h4
            by_cases h5 : s.data.toList = [62, 61]
            · have f5 : (s.toList == [62, 61]) = true := by rw [et.out, h5]; rfl
              have HR : Hid (lvl s.data.toList = 1) := by show _ = _; rw [h5]; rfl
              generalize lvl s.data.toList = r at HR ⊢
              clear et h0 h1 h2 h3 h4 h5
              go_enter Tryz.func92, Tryz.ntmps92
              go_wp2
              go_ret
              exact ⟨ret_int (by rw [HR.out]; rfl), rfl⟩
            · have f5 : (s.toList == [62, 61]) = false := by rw [et.out, beq_eq_false_iff_ne]; exact h5
              by_cases h6 : s.data.toList = [38]
              · have f6 : (s.toList == [38]) = true := by rw [et.out, h6]; rfl
                have HR : Hid (lvl s.data.toList = 2) := by show _ = _; rw [h6]; rfl
                generalize lvl s.data.toList = r at HR ⊢
                clear et h0 h1 h2 h3 h4 h5 h6
                go_enter Tryz.func92, Tryz.ntmps92
                go_wp2
                go_ret
                exact ⟨ret_int (by rw [HR.out]; rfl), rfl⟩
              · have f6 : (s.toList == [38]) = false := by rw [et.out, beq_eq_false_iff_ne]; exact h6
                by_cases h7 : s.data.toList = [43]
                · have f7 : (s.toList == [43]) = true := by rw [et.out, h7]; rfl
                  have HR : Hid (lvl s.data.toList = 3) := by show _ = _; rw [h7]; rfl
                  generalize lvl s.data.toList = r at HR ⊢
                  clear et h0 h1 h2 h3 h4 h5 h6 h7
                  go_enter Tryz.func92, Tryz.ntmps92
                  go_wp2
                  go_ret
                  exact ⟨ret_int (by rw [HR.out]; rfl), rfl⟩
                · have f7 : (s.toList == [43]) = false := by rw [et.out, beq_eq_false_iff_ne]; exact h7
                  by_cases h8 : s.data.toList = [45]
                  · have f8 : (s.toList == [45]) = true := by rw [et.out, h8]; rfl
                    have HR : Hid (lvl s.data.toList = 3) := by show _ = _; rw [h8]; rfl
                    generalize lvl s.data.toList = r at HR ⊢
                    clear et h0 h1 h2 h3 h4 h5 h6 h7 h8
                    go_enter Tryz.func92, Tryz.ntmps92
                    go_wp2
                    go_ret
                    exact ⟨ret_int (by rw [HR.out]; rfl), rfl⟩
                  · have f8 : (s.toList == [45]) = false := by rw [et.out, beq_eq_false_iff_ne]; exact h8
                    by_cases h9 : s.data.toList = [42]
                    · have f9 : (s.toList == [42]) = true := by rw [et.out, h9]; rfl
                      have HR : Hid (lvl s.data.toList = 4) := by show _ = _; rw [h9]; rfl
                      generalize lvl s.data.toList = r at HR ⊢
                      clear et h0 h1 h2 h3 h4 h5 h6 h7 h8 h9
                      go_enter Tryz.func92, Tryz.ntmps92
                      go_wp2
                      go_ret
                      exact ⟨ret_int (by rw [HR.out]; rfl), rfl⟩
                    · have f9 : (s.toList == [42]) = false := by rw [et.out, beq_eq_false_iff_ne]; exact h9
                      by_cases h10 : s.data.toList = [47]
                      · have f10 : (s.toList == [47]) = true := by rw [et.out, h10]; rfl
                        have HR : Hid (lvl s.data.toList = 4) := by show _ = _; rw [h10]; rfl
                        generalize lvl s.data.toList = r at HR ⊢
                        clear et h0 h1 h2 h3 h4 h5 h6 h7 h8 h9 h10
                        go_enter Tryz.func92, Tryz.ntmps92
                        go_wp2
                        go_ret
                        exact ⟨ret_int (by rw [HR.out]; rfl), rfl⟩
                      · have f10 : (s.toList == [47]) = false := by rw [et.out, beq_eq_false_iff_ne]; exact h10
                        have HR : Hid (lvl s.data.toList = 0) := by show _ = _; unfold lvl; rw [if_neg h0, if_neg h1, if_neg h2, if_neg h3, if_neg h4, if_neg h5, if_neg h6, if_neg h7, if_neg h8, if_neg h9, if_neg h10]
                        generalize lvl s.data.toList = r at HR ⊢
                        clear et h0 h1 h2 h3 h4 h5 h6 h7 h8 h9 h10
                        go_enter Tryz.func92, Tryz.ntmps92
                        go_wp2
                        go_ret
                        exact ⟨ret_int (by rw [HR.out]; rfl), rfl⟩
theorem errN_min {t : List UInt8} (h : errN t ≠ 0) : 1 ≤ errN t ∧ errN t ≤ 7 ∧ enL (errN t : Int) = t ∧ ∀ e : Nat, 1 ≤ e → e < errN t → enL (e : Int) ≠ t := by
  by_cases h1 : t = enL 1
  · have e : errN t = 1 := by unfold errN; rw [if_pos h1]
    rw [e]
    exact ⟨by omega, by omega, h1.symm, fun e a b => by omega⟩
  · by_cases h2 : t = enL 2
    · have e : errN t = 2 := by unfold errN; rw [if_neg h1, if_pos h2]
      rw [e]
      refine ⟨by omega, by omega, h2.symm, fun e a b => ?_⟩
      have : e = 1 := by omega
      subst this
      exact fun x => h1 x.symm
    · by_cases h3 : t = enL 3
      · have e : errN t = 3 := by unfold errN; rw [if_neg h1, if_neg h2, if_pos h3]
        rw [e]
        refine ⟨by omega, by omega, h3.symm, fun e a b => ?_⟩
        have : e = 1 ∨ e = 2 := by omega
        rcases this with rfl | rfl
        · exact fun x => h1 x.symm
        · exact fun x => h2 x.symm
      · by_cases h4 : t = enL 4
        · have e : errN t = 4 := by unfold errN; rw [if_neg h1, if_neg h2, if_neg h3, if_pos h4]
          rw [e]
          refine ⟨by omega, by omega, h4.symm, fun e a b => ?_⟩
          have : e = 1 ∨ e = 2 ∨ e = 3 := by omega
          rcases this with rfl | rfl | rfl
          · exact fun x => h1 x.symm
          · exact fun x => h2 x.symm
          · exact fun x => h3 x.symm
        · by_cases h5 : t = enL 5
          · have e : errN t = 5 := by unfold errN; rw [if_neg h1, if_neg h2, if_neg h3, if_neg h4, if_pos h5]
            rw [e]
            refine ⟨by omega, by omega, h5.symm, fun e a b => ?_⟩
            have : e = 1 ∨ e = 2 ∨ e = 3 ∨ e = 4 := by omega
            rcases this with rfl | rfl | rfl | rfl
            · exact fun x => h1 x.symm
            · exact fun x => h2 x.symm
            · exact fun x => h3 x.symm
            · exact fun x => h4 x.symm
          · by_cases h6 : t = enL 6
            · have e : errN t = 6 := by unfold errN; rw [if_neg h1, if_neg h2, if_neg h3, if_neg h4, if_neg h5, if_pos h6]
              rw [e]
              refine ⟨by omega, by omega, h6.symm, fun e a b => ?_⟩
              have : e = 1 ∨ e = 2 ∨ e = 3 ∨ e = 4 ∨ e = 5 := by omega
              rcases this with rfl | rfl | rfl | rfl | rfl
              · exact fun x => h1 x.symm
              · exact fun x => h2 x.symm
              · exact fun x => h3 x.symm
              · exact fun x => h4 x.symm
              · exact fun x => h5 x.symm
            · by_cases h7 : t = enL 7
              · have e : errN t = 7 := by unfold errN; rw [if_neg h1, if_neg h2, if_neg h3, if_neg h4, if_neg h5, if_neg h6, if_pos h7]
                rw [e]
                refine ⟨by omega, by omega, h7.symm, fun e a b => ?_⟩
                have : e = 1 ∨ e = 2 ∨ e = 3 ∨ e = 4 ∨ e = 5 ∨ e = 6 := by omega
                rcases this with rfl | rfl | rfl | rfl | rfl | rfl
                · exact fun x => h1 x.symm
                · exact fun x => h2 x.symm
                · exact fun x => h3 x.symm
                · exact fun x => h4 x.symm
                · exact fun x => h5 x.symm
                · exact fun x => h6 x.symm
              · exact absurd (by unfold errN; rw [if_neg h1, if_neg h2, if_neg h3, if_neg h4, if_neg h5, if_neg h6, if_neg h7]) h
structure EI (L : List Wd) (p b off cap : Nat) (s : St) (W : World) (T : ByteArray) (q : Int) (W' : World) : Prop where
  qx : Qx p W W'
  st : PS W' p L b off cap (s.i + 1) s.bd s.n
  zb : Tb W' W.heap.size (.int .i64 0) (.int .i64 0) (.string ⟨#[]⟩) (.bool false) (.int .i64 0) (.slice none 0 0) (.slice none 0 0)
  wb : Wb W' (W.heap.size + 1) (.int .i64 5) (.string T) (.int .i64 q)
theorem EI.on {L : List Wd} {p b off cap : Nat} {s : St} {W : World} {T : ByteArray} {q : Int} {W' W2 : World} (h : EI L p b off cap s W T q W') (hp : p < W.heap.size) (x : Q W' W2) : EI L p b off cap s W T q W2 :=
  ⟨h.qx.trans (Qx.of x), h.st.on x, h.zb.on (Qx.of (p := p) x) (by omega), h.wb.on (Qx.of (p := p) x) (by omega)⟩
set_option maxHeartbeats 8000000 in
theorem first_err (L : List Wd) (p b off cap : Nat) (s : St) (W : World) (h : PS W p L b off cap s.i s.bd s.n) (hi : s.i < L.length) (hr : L.length ≤ 50000) (hn : s.n ≤ s.i) (hw : isW L s.i [40] = false) (hk : kAt L s.i = 5) (he : errN (tAt L s.i) ≠ 0) :
    Calls Tryz.prog 86 #[.pointer (some ⟨p, 0, none⟩)] W fun e W' => Rep p L b off cap W (errE (errN (tAt L s.i)), s.on.node) e W' := by
  have hlt := h.lt
  have hbW := h.blk hi
  obtain ⟨T, q, hT, kw⟩ := h.kw hi
  have HTT := hid hT
  have HK := hid kw
  rw [hk] at HK
  have HM := hid (errN_min he)
  have hm1 := HM.out.1
  have hm7 := HM.out.2.1
  generalize hM : errN (tAt L s.i) = M at HM hm1 hm7 he ⊢
  have HP := hid h
  have hroom : (s.i : Int) + 1 ≤ 9223372036854775807 := by omega
  have HZ := hid ((tb_new W (.int .i64 0) (.int .i64 0) (.string ⟨#[]⟩) (.bool false) (.int .i64 0) (.slice none 0 0) (.slice none 0 0) 26).on (((Qx.refl p _).alloc (.cells #[.int .i64 5, .string T, .int .i64 q] 78)).drew) (by omega))
  have HB := hid ((wb_new (W.alloc (.cells #[.int .i64 0, .int .i64 0, .string ⟨#[]⟩, .bool false, .int .i64 0, .slice none 0 0, .slice none 0 0] 26)) (.int .i64 5) (.string T) (.int .i64 q) 78).on ((Qx.refl p _).drew) (by simp; omega))
  rw [show (W.alloc (.cells #[.int .i64 0, .int .i64 0, .string ⟨#[]⟩, .bool false, .int .i64 0, .slice none 0 0, .slice none 0 0] 26)).heap.size = W.heap.size + 1 by simp] at HB
  have hc := hid (fun W1 (g : PS W1 p L b off cap s.i s.bd s.n) => take_any W1 p L b off cap s.i s.bd s.n ⟨#[40]⟩ g hi)
  rw [show (⟨#[40]⟩ : ByteArray).data.toList = [40] from rfl, hw] at hc
  clear h kw hT
  go_enter Tryz.func86, Tryz.ntmps86
  go_wp2_with fail
  go_region_held3 (fun V => V.cell? ⟨p, 0, none⟩ = some (.slice (some ⟨b, off, none⟩) L.length cap) ∧ V.cell? ⟨p, 1, none⟩ = some (.int .i64 (s.i : Int)) ∧ V.cell? ⟨b, off + s.i * 3, none⟩ = some (.int .i64 5) ∧ V.cell? ⟨b, off + s.i * 3 + 1, none⟩ = some (.string T) ∧ V.cell? ⟨b, off + s.i * 3 + 2, none⟩ = some (.int .i64 q)) (exact HK.out.on (by repeat (first | exact Q.refl _ | refine Q.drewN ?_ _ | refine Q.drew ?_ | refine Q.alloc ?_ _ | refine Q.setCell ?_ (by simp) _))) (fail)
  go_wp2_with (go_at_call 85; refine (hc.out _ (HP.out.on (by repeat (first | exact Q.refl _ | refine Q.drewN ?_ _ | refine Q.drew ?_ | refine Q.alloc ?_ _ | refine Q.setCell ?_ (by simp) _)))).mono ?_; rintro e w1 ⟨rfl, q1, p1⟩; have Q1 : Hid (Qx p W w1) := hid (Qx.trans (by repeat (first | with_reducible exact Qx.refl _ _ | with_reducible refine Qx.drewN ?_ _ | with_reducible refine Qx.drew ?_ | with_reducible refine Qx.alloc ?_ _ | with_reducible refine Qx.own ?_ _ _ | with_reducible refine Qx.new ?_ (by simp) _ _)) q1); have P1 := hid p1; have Z1 := hid (HZ.out.on q1 (by omega)); have B1 := hid (HB.out.on q1 (by omega)); have hsw : W.heap.size + 1 < w1.heap.size := World.block_lt_of_cell? w1 ⟨W.heap.size + 1, 0, none⟩ B1.out.g0; clear q1 p1; have x1 := P1.out.c1; have z1 := P1.out.f1; have b0 := B1.out.g0; have b1 := B1.out.g1; have b2 := B1.out.g2)
  have HI : Hid (EI L p b off cap s W T q (w1.setCell ⟨p, 1, none⟩ (.int .i64 ((s.i : Int) + 1)))) := hid ⟨Q1.out.own _ _, P1.out.set1 (s.i + 1) _ (by omega), Z1.out.on ((Qx.refl p _).own _ _) (by omega), B1.out.on ((Qx.refl p _).own _ _) (by omega)⟩
  go_loopw [7] (fun y W' => ∃ e : Nat, 1 ≤ e ∧ e ≤ M ∧ y = .int .i64 (e : Int) ∧ EI L p b off cap s W T q W') (fun y _ => M - (intOf y).toNat)
  case atStart => exact ⟨1, by omega, by omega, rfl, HI.out⟩
  case round =>
    obtain ⟨e, he1, heM, rfl, hI⟩ := hrel
    have HI2 := hid hI
    have he7 : (e : Int) ≤ 7 := by omega
    have H1 := hid (fun W1 => V.rname_any (e : Int) W1)
    obtain ⟨N, hN, lN⟩ : ∃ N : ByteArray, ⟨(enL (e : Int)).toArray⟩ = N ∧ N.data.toList = enL (e : Int) := ⟨_, rfl, rfl⟩
    rw [hN] at H1
    by_cases hlt2 : e < M
    · have e7 : (N.toList == T.toList) = false := by rw [toL, toL, lN, beq_eq_false_iff_ne, HTT.out]; exact HM.out.2.2.2 e he1 hlt2
      clear hI hN lN
      go_wp2_with fail
      go_region_held3 (fun V => V.cell? ⟨W.heap.size + 1, 1, none⟩ = some (.string T)) (first | exact HI5.out.wb.g1 | exact (HI2.out.on hlt (by repeat (first | exact Q.refl _ | refine Q.drewN ?_ _ | refine Q.drew ?_ | refine Q.alloc ?_ _ | refine Q.setCell ?_ (by simp) _))).wb.g1) (first | (go_at_call 84; refine (H1.out _).mono ?_; rintro e9 w5 ⟨rfl, q5⟩; have HI5 := hid ((HI2.out.on hlt (by repeat (first | exact Q.refl _ | refine Q.drewN ?_ _ | refine Q.drew ?_ | refine Q.alloc ?_ _ | refine Q.setCell ?_ (by simp) _))).on hlt q5); clear q5))
      all_goals go_wp2_with fail
      all_goals go_roundw
      case rel => exact ⟨e + 1, by omega, by omega, by go_num, HI5.out⟩
      case measure => simp [intOf]; omega
    · have eM : e = M := by omega
      have e7 : (N.toList == T.toList) = true := by rw [toL, toL, lN, beq_iff_eq, HTT.out, eM]; exact HM.out.2.2.1
      have EM := hid eM
      clear hI hN lN hlt2 eM
      go_wp2_with fail
      go_region_held3 (fun V => V.cell? ⟨W.heap.size + 1, 1, none⟩ = some (.string T)) (first | exact HI5.out.wb.g1 | exact (HI2.out.on hlt (by repeat (first | exact Q.refl _ | refine Q.drewN ?_ _ | refine Q.drew ?_ | refine Q.alloc ?_ _ | refine Q.setCell ?_ (by simp) _))).wb.g1) (first | (go_at_call 84; refine (H1.out _).mono ?_; rintro e9 w5 ⟨rfl, q5⟩; have HI5 := hid ((HI2.out.on hlt (by repeat (first | exact Q.refl _ | refine Q.drewN ?_ _ | refine Q.drew ?_ | refine Q.alloc ?_ _ | refine Q.setCell ?_ (by simp) _))).on hlt q5); clear q5))
      all_goals go_wp2_with (go_at_call 66; refine (node_any _ p L b off cap _ _ _ HI5.out.st (by omega) 4 0 ⟨#[]⟩ false (e : Int) none 0 0 none 0 0).mono ?_; rintro e9 w3 ⟨rfl, q3, p3⟩; have Q3 := hid q3; have P3 := hid p3; have Z3 := hid (HI5.out.zb.on Q3.out (by omega)); clear q3 p3; have d0 := Z3.out.g0; have d1 := Z3.out.g1; have d2 := Z3.out.g2; have d3 := Z3.out.g3; have d4 := Z3.out.g4; have d5 := Z3.out.g5; have d6 := Z3.out.g6; have y0 := Z3.out.f 0; have y1 := Z3.out.f 1; have y2 := Z3.out.f 2; have y3 := Z3.out.f 3; have y4 := Z3.out.f 4; have y5 := Z3.out.f 5; have y6 := Z3.out.f 6)
      all_goals refine bodyPost_ret (v := .agg #[.int .i64 4, .int .i64 0, .string ⟨#[]⟩, .bool false, .int .i64 (e : Int), .slice none 0 0, .slice none 0 0]) (by simp [results, Tryz.results86, go_sem, d0, d1, d2, d3, d4, d5, d6]) rfl ?_
      all_goals rw [← EM.out]
      all_goals exact fin7 (s' := s.on.node) 4 0 ⟨#[]⟩ false (e : Int) none 0 0 none 0 0 hlt hbW (HI5.out.qx.trans Q3.out) (rdg_leaf 4 0 [] ⟨#[]⟩ rfl false (e : Int)) P3.out
structure R5 (W : World) (q o : Nat) (S : ByteArray) (row col : Int) (ra ca : Bool) : Prop where
  g0 : W.cell? ⟨q, o, none⟩ = some (.string S)
  g1 : W.cell? ⟨q, o + 1, none⟩ = some (.int .i64 row)
  g2 : W.cell? ⟨q, o + 2, none⟩ = some (.int .i64 col)
  g3 : W.cell? ⟨q, o + 3, none⟩ = some (.bool ra)
  g4 : W.cell? ⟨q, o + 4, none⟩ = some (.bool ca)
theorem R5.on {p : Nat} {W W' : World} {q o : Nat} {S : ByteArray} {row col : Int} {ra ca : Bool} (h : R5 W q o S row col ra ca) (x : Qx p W W') (hq : q ≠ p) : R5 W' q o S row col ra ca := by
  have hl : q < W.heap.size := World.block_lt_of_cell? W ⟨q, o, none⟩ h.g0
  exact ⟨(x.cell hl hq).trans h.g0, (x.cell hl hq).trans h.g1, (x.cell hl hq).trans h.g2, (x.cell hl hq).trans h.g3, (x.cell hl hq).trans h.g4⟩
theorem r5_new (W : World) (S : ByteArray) (row col : Int) (ra ca : Bool) (t : TypeId) : R5 (W.alloc (.cells #[.string S, .int .i64 row, .int .i64 col, .bool ra, .bool ca] t)) W.heap.size 0 S row col ra ca := by
  refine ⟨?_, ?_, ?_, ?_, ?_⟩
  all_goals simp [World.cell?_alloc_new]
theorem r5_two (W : World) (S : ByteArray) (row col : Int) (ra ca : Bool) (S' : ByteArray) (row' col' : Int) (ra' ca' : Bool) (t : TypeId) : R5 (W.alloc (.cells #[.string S, .int .i64 row, .int .i64 col, .bool ra, .bool ca, .string S', .int .i64 row', .int .i64 col', .bool ra', .bool ca'] t)) W.heap.size 0 S row col ra ca ∧ R5 (W.alloc (.cells #[.string S, .int .i64 row, .int .i64 col, .bool ra, .bool ca, .string S', .int .i64 row', .int .i64 col', .bool ra', .bool ca'] t)) W.heap.size 5 S' row' col' ra' ca' := by
  refine ⟨⟨?_, ?_, ?_, ?_, ?_⟩, ?_, ?_, ?_, ?_, ?_⟩
  all_goals simp [World.cell?_alloc_new]
theorem R5.ats {W : World} {q o : Nat} {S : ByteArray} {row col : Int} {ra ca : Bool} (h : R5 W q o S row col ra ca) : Ats rf W q o (S.data.toList, row, col, ra, ca) := by
  intro j u hu
  unfold rf at hu
  rcases j with _ | _ | _ | _ | _ | j
  · simp at hu; subst hu; exact h.g0
  · simp at hu; subst hu; exact h.g1
  · simp at hu; subst hu; exact h.g2
  · simp at hu; subst hu; exact h.g3
  · simp at hu; subst hu; exact h.g4
  · simp at hu
theorem rdg_ref {g : Nat → Prop} {W : World} {q : Nat} {S : ByteArray} {row col : Int} {ra ca : Bool} (hq : g q) (h : R5 W q 0 S row col ra ca) : Rdg g W (refE (S.data.toList, row, col, ra, ca)) (.agg #[.int .i64 5, .int .i64 0, .string ⟨#[]⟩, .bool false, .int .i64 0, .slice (some ⟨q, 0, none⟩) 1 1, .slice none 0 0]) := by
  unfold refE Rdg
  refine ⟨_, _, rfl, ⟨some ⟨q, 0, none⟩, 1, rfl, by simp, by unfold maxLen; omega, fun _ => ⟨q, 0, rfl, hq, fun i hi => ?_⟩⟩, none, 0, rfl, Nat.le_refl _, Nat.zero_le _, fun h => absurd rfl h⟩
  have : i = 0 := by simpa using hi
  subst this
  exact h.ats
theorem rdg_range {g : Nat → Prop} {W : World} {q : Nat} {S : ByteArray} {row col : Int} {ra ca : Bool} {S' : ByteArray} {row' col' : Int} {ra' ca' : Bool} (hq : g q) (h : R5 W q 0 S row col ra ca) (h' : R5 W q 5 S' row' col' ra' ca') : Rdg g W (rangeE (S.data.toList, row, col, ra, ca) (S'.data.toList, row', col', ra', ca')) (.agg #[.int .i64 6, .int .i64 0, .string ⟨#[]⟩, .bool false, .int .i64 0, .slice (some ⟨q, 0, none⟩) 2 2, .slice none 0 0]) := by
  unfold rangeE Rdg
  refine ⟨_, _, rfl, ⟨some ⟨q, 0, none⟩, 2, rfl, by simp, by unfold maxLen; omega, fun _ => ⟨q, 0, rfl, hq, fun i hi => ?_⟩⟩, none, 0, rfl, Nat.le_refl _, Nat.zero_le _, fun h => absurd rfl h⟩
  have : i = 0 ∨ i = 1 := by simp at hi; omega
  rcases this with rfl | rfl
  · exact h.ats
  · exact h'.ats
theorem ref_parts (l : List UInt8) : ∃ (S : ByteArray) (row col : Int) (ra ca : Bool), refT l = (S.data.toList, row, col, ra, ca) ∧ refA (refT l) = .agg #[.string S, .int .i64 row, .int .i64 col, .bool ra, .bool ca] := by
  obtain ⟨a, b, c, d, e⟩ := refT l
  exact ⟨⟨a.toArray⟩, b, c, d, e, rfl, rfl⟩
set_option maxHeartbeats 8000000 in
theorem first_ref (L : List Wd) (p b off cap : Nat) (s : St) (W : World) (h : PS W p L b off cap s.i s.bd s.n) (hi : s.i < L.length) (hr : L.length ≤ 50000) (hn : s.n ≤ s.i) (hE : Ends L) (hw : isW L s.i [40] = false) (hk : kAt L s.i = 3) (hz : ∀ i, (tAt L i).length ≤ 1000) (hw5 : isW L (s.i + 1) [58] = false) :
    Calls Tryz.prog 86 #[.pointer (some ⟨p, 0, none⟩)] W fun e W' => Rep p L b off cap W (refE (EE.ref (tAt L s.i)), s.on.node) e W' := by
  have hlt := h.lt
  have hbW := h.blk hi
  obtain ⟨T, q, hT, kw⟩ := h.kw hi
  have HTT := hid hT
  have HK := hid kw
  rw [hk] at HK
  obtain ⟨S, row, col, ra, ca, hS, hA⟩ := ref_parts T.data.toList
  have HRf := hid (fun W1 => rref_any T W1 (by have := hz s.i; rw [← hT] at this; simp at this; omega))
  rw [hA] at HRf
  generalize refF T.data.toList = rok at HRf
  have HS := hid hS
  clear hA hS
  have hi1 : s.i + 1 < L.length := hE _ hi (by omega)
  have hc5 := hid (fun W1 (g : PS W1 p L b off cap (s.i + 1) s.bd s.n) => take_any W1 p L b off cap (s.i + 1) s.bd s.n ⟨#[58]⟩ g hi1)
  rw [show (⟨#[58]⟩ : ByteArray).data.toList = [58] from rfl, hw5] at hc5
  have hpW : p ≠ W.heap.size := by omega
  have HP := hid h
  have hroom : (s.i : Int) + 1 ≤ 9223372036854775807 := by omega
  have HZ := hid ((tb_new W (.int .i64 0) (.int .i64 0) (.string ⟨#[]⟩) (.bool false) (.int .i64 0) (.slice none 0 0) (.slice none 0 0) 26).on (((Qx.refl p _).alloc (.cells #[.int .i64 3, .string T, .int .i64 q] 78)).drew) (by omega))
  have HB := hid ((wb_new (W.alloc (.cells #[.int .i64 0, .int .i64 0, .string ⟨#[]⟩, .bool false, .int .i64 0, .slice none 0 0, .slice none 0 0] 26)) (.int .i64 3) (.string T) (.int .i64 q) 78).on ((Qx.refl p _).drew) (by simp; omega))
  rw [show (W.alloc (.cells #[.int .i64 0, .int .i64 0, .string ⟨#[]⟩, .bool false, .int .i64 0, .slice none 0 0, .slice none 0 0] 26)).heap.size = W.heap.size + 1 by simp] at HB
  have hc := hid (fun W1 (g : PS W1 p L b off cap s.i s.bd s.n) => take_any W1 p L b off cap s.i s.bd s.n ⟨#[40]⟩ g hi)
  rw [show (⟨#[40]⟩ : ByteArray).data.toList = [40] from rfl, hw] at hc
  clear h kw hT
  go_enter Tryz.func86, Tryz.ntmps86
  go_wp2_with fail
  go_region_held3 (fun V => V.cell? ⟨p, 0, none⟩ = some (.slice (some ⟨b, off, none⟩) L.length cap) ∧ V.cell? ⟨p, 1, none⟩ = some (.int .i64 (s.i : Int)) ∧ V.cell? ⟨b, off + s.i * 3, none⟩ = some (.int .i64 3) ∧ V.cell? ⟨b, off + s.i * 3 + 1, none⟩ = some (.string T) ∧ V.cell? ⟨b, off + s.i * 3 + 2, none⟩ = some (.int .i64 q)) (exact HK.out.on (by repeat (first | exact Q.refl _ | refine Q.drewN ?_ _ | refine Q.drew ?_ | refine Q.alloc ?_ _ | refine Q.setCell ?_ (by simp) _))) (fail)
  go_wp2_with (first | (go_at_call 66; refine (node_any _ p L b off cap _ _ _ (P4.out.on (by repeat (first | exact Q.refl _ | refine Q.drewN ?_ _ | refine Q.drew ?_ | refine Q.alloc ?_ _ | refine Q.setCell ?_ (by simp) _))) (by omega) 5 0 ⟨#[]⟩ false 0 (some ⟨w4.heap.size, 0, none⟩) 1 1 none 0 0).mono ?_; rintro e w6 ⟨rfl, q6, p6⟩; have Q6 := hid q6; have P6 := hid p6; have Z6 := hid ((Z4.out.on (by repeat (first | with_reducible exact Qx.refl _ _ | with_reducible refine Qx.drewN ?_ _ | with_reducible refine Qx.drew ?_ | with_reducible refine Qx.alloc ?_ _ | with_reducible refine Qx.own ?_ _ _ | with_reducible refine Qx.new ?_ (by simp) _ _)) (show _ ≠ p by omega)).on q6 (by omega)); clear q6 p6; have d0 := Z6.out.g0; have d1 := Z6.out.g1; have d2 := Z6.out.g2; have d3 := Z6.out.g3; have d4 := Z6.out.g4; have d5 := Z6.out.g5; have d6 := Z6.out.g6; have y0 := Z6.out.f 0; have y1 := Z6.out.f 1; have y2 := Z6.out.f 2; have y3 := Z6.out.f 3; have y4 := Z6.out.f 4; have y5 := Z6.out.f 5; have y6 := Z6.out.f 6) | (go_at_call 85; refine (hc5.out _ P2.out).mono ?_; rintro e w4 ⟨rfl, q4, p4⟩; have Q4 := hid q4; have P4 := hid p4; have hs4 : w2.heap.size + 1 ≤ w4.heap.size := (by simpa using q4.size); have A4 := hid ((r5_new w2 S row col ra ca 40).on q4 (by omega)); have Z4 := hid (((Z1.out.on Q2.out (by omega)).on ((Qx.refl p _).alloc _) (by omega)).on q4 (by omega)); clear q4 p4; have m0 := A4.out.g0; have m1 := A4.out.g1; have m2 := A4.out.g2; have m3 := A4.out.g3; have m4 := A4.out.g4; simp only [Nat.zero_add] at m1 m2 m3 m4) | (go_at_call 83; refine (HRf.out _).mono ?_; rintro e w2 ⟨rfl, q2⟩; have hs2 : w1.heap.size ≤ w2.heap.size := (by simpa [World.setCell] using q2.size); have Q2 : Hid (Qx p w1 w2) := hid (Qx.trans (by repeat (first | with_reducible exact Qx.refl _ _ | with_reducible refine Qx.drewN ?_ _ | with_reducible refine Qx.drew ?_ | with_reducible refine Qx.alloc ?_ _ | with_reducible refine Qx.own ?_ _ _ | with_reducible refine Qx.new ?_ (by simp) _ _)) (Qx.of q2)); have P2 := hid (((P1.out.set1 (s.i + 1) _ (by go_num)).on q2).on ((Q.refl _).alloc (.cells #[.string S, .int .i64 row, .int .i64 col, .bool ra, .bool ca] 40))); clear q2) | (go_at_call 85; refine (hc.out _ (HP.out.on (by repeat (first | exact Q.refl _ | refine Q.drewN ?_ _ | refine Q.drew ?_ | refine Q.alloc ?_ _ | refine Q.setCell ?_ (by simp) _)))).mono ?_; rintro e w1 ⟨rfl, q1, p1⟩; have Q1 : Hid (Qx p W w1) := hid (Qx.trans (by repeat (first | with_reducible exact Qx.refl _ _ | with_reducible refine Qx.drewN ?_ _ | with_reducible refine Qx.drew ?_ | with_reducible refine Qx.alloc ?_ _ | with_reducible refine Qx.own ?_ _ _ | with_reducible refine Qx.new ?_ (by simp) _ _)) q1); have P1 := hid p1; have Z1 := hid (HZ.out.on q1 (by omega)); have B1 := hid (HB.out.on q1 (by omega)); have hsw : W.heap.size + 1 < w1.heap.size := World.block_lt_of_cell? w1 ⟨W.heap.size + 1, 0, none⟩ B1.out.g0; clear q1 p1; have x1 := P1.out.c1; have z1 := P1.out.f1; have b0 := B1.out.g0; have b1 := B1.out.g1; have b2 := B1.out.g2))
  refine bodyPost_ret (v := .agg #[.int .i64 5, .int .i64 0, .string ⟨#[]⟩, .bool false, .int .i64 0, .slice (some ⟨w4.heap.size, 0, none⟩) 1 1, .slice none 0 0]) (by simp [results, Tryz.results86, go_sem, d0, d1, d2, d3, d4, d5, d6]) rfl ?_
  rw [show refE (EE.ref (tAt L s.i)) = refE (S.data.toList, row, col, ra, ca) by show refE (refT (tAt L s.i)) = _; rw [← HTT.out, HS.out]]
  exact fin7 (s' := s.on.node) 5 0 ⟨#[]⟩ false 0 (some ⟨w4.heap.size, 0, none⟩) 1 1 none 0 0 hlt hbW ((((Q1.out.trans Q2.out).alloc _).trans Q4.out).trans ((Qx.alloc (Qx.refl p _) _).trans Q6.out)) (rdg_ref (show _ ≤ _ by omega) ((r5_new w4 S row col ra ca 40).on Q6.out (by omega))) P6.out
structure WdOk (x : Wd) : Prop where
  k1 : 1 ≤ x.k
  k6 : x.k ≤ 6
  len : x.t.length ≤ 1000
  num : x.k = 1 → EE.nok x.t = true
  ref : x.k = 3 → EE.rok x.t = true
  err : x.k = 5 → EE.err x.t ≠ 0
  nam : x.k = 4 → x.t = truW ∨ x.t = flsW ∨ EE.nam x.t = decide (x.t.length ≤ 20)
theorem wdok_plain {k : Nat} {t : List UInt8} {a : Nat} (h : k = 2 ∨ k = 6) (hl : t.length ≤ 1000) : WdOk ⟨k, t, a⟩ :=
  ⟨by simp only; omega, by simp only; omega, hl, fun e => by simp only at e; omega, fun e => by simp only at e; omega, fun e => by simp only at e; omega, fun e => by simp only at e; omega⟩
theorem mtB_len {t : List UInt8} (h : V.mtB t = true) : t.length ≤ 1000 := by
  unfold V.mtB at h
  simp only [Bool.and_eq_true, decide_eq_true_eq] at h
  have := h.1
  omega
theorem errN_enL {e : Int} (h : e ∈ ([1, 2, 3, 4, 5, 6, 7] : List Int)) : errN (enL e) ≠ 0 ∧ (enL e).length ≤ 1000 := by
  simp only [List.mem_cons, List.mem_nil_iff, or_false] at h
  rcases h with rfl | rfl | rfl | rfl | rfl | rfl | rfl <;> decide
theorem wordF_ok {l : List UInt8} (h : (wordF l).2.2 ≠ 0) (hl : l.length ≤ 1000) (a : Nat) : WdOk ⟨(wordF l).1, (wordF l).2.1, a⟩ := by
  by_cases h34 : l.headD 0 = 34
  · have e : wordF l = quoW l := by unfold wordF; rw [if_pos h34]
    rw [e] at h ⊢
    unfold quoW at h ⊢
    cases hq : quoF (l.drop 1) [] 1 with
    | none => rw [hq] at h; exact absurd rfl h
    | some r =>
      obtain ⟨t, n⟩ := r
      rw [hq] at h
      unfold quoP at h ⊢
      simp only at h ⊢
      by_cases hm : V.mtB t = true
      · rw [if_pos hm]
        exact wdok_plain (.inl rfl) (mtB_len hm)
      · rw [if_neg hm] at h; exact absurd rfl h
  · by_cases h35 : l.headD 0 = 35
    · have e : wordF l = errW l := by unfold wordF; rw [if_neg h34, if_pos h35]
      rw [e] at h ⊢
      unfold errW at h ⊢
      cases hq : errF l with
      | none => rw [hq] at h; exact absurd rfl h
      | some e =>
        unfold errP
        have hm : e ∈ ([1, 2, 3, 4, 5, 6, 7] : List Int) := List.mem_of_find?_eq_some hq
        obtain ⟨g1, g2⟩ := errN_enL hm
        exact ⟨by simp, by simp, g2, fun e => by simp at e, fun e => by simp at e, fun _ => g1, fun e => by simp at e⟩
    · by_cases hj : joinB (l.headD 0) = true
      · have e : wordF l = joinW l := by unfold wordF; rw [if_neg h34, if_neg h35, if_pos hj]
        rw [e] at h ⊢
        unfold joinW at h ⊢
        split at h
        · exact absurd rfl h
        · rename_i hk
          rw [if_neg hk]
          have hlen : (l.takeWhile joinB).length ≤ 1000 := Nat.le_trans (List.takeWhile_prefix _).length_le hl
          have hne : 0 < (l.takeWhile joinB).length := by
            cases l with
            | nil => simp [joinB] at hj
            | cons c r =>
              simp only [List.headD_cons] at hj
              rw [List.takeWhile_cons, if_pos hj]
              simp
          generalize l.takeWhile joinB = t at hk hlen hne ⊢
          unfold kindJ at hk ⊢
          by_cases c1 : V.pf (V.parseO t) = true
          · rw [if_pos c1]
            exact ⟨by simp, by simp, hlen, fun _ => c1, fun e => by simp at e, fun e => by simp at e, fun e => by simp at e⟩
          · rw [if_neg c1] at hk ⊢
            by_cases c3 : refF t = true
            · rw [if_pos c3]
              exact ⟨by simp, by simp, hlen, fun e => by simp at e, fun _ => c3, fun e => by simp at e, fun e => by simp at e⟩
            · rw [if_neg c3] at hk ⊢
              by_cases c4 : t = tru ∨ t = fls ∨ (Lib.hasPrefix (l.dropWhile joinB) [40] = true ∧ allL t = true)
              · rw [if_pos c4]
                refine ⟨by simp, by simp, hlen, fun e => by simp at e, fun e => by simp at e, fun e => by simp at e, fun _ => ?_⟩
                rcases c4 with e | e | ⟨_, e⟩
                · exact .inl e
                · exact .inr (.inl e)
                · by_cases ht : t = truW ∨ t = flsW
                  · rcases ht with e' | e'
                    · exact .inl e'
                    · exact .inr (.inl e')
                  · refine .inr (.inr ?_)
                    show namF t = _
                    unfold namF
                    rw [decide_eq_true hne, decide_eq_true ht, show t.all let1 = true from e]
                    simp
              · rw [if_neg c4] at hk
                exact absurd rfl hk
      · have e : wordF l = sigW l := by unfold wordF; rw [if_neg h34, if_neg h35, if_neg hj]
        rw [e] at h ⊢
        unfold sigW at h ⊢
        cases hq : sigF l with
        | none => rw [hq] at h; exact absurd rfl h
        | some t =>
          unfold sigP
          have hm : t ∈ sgL := List.mem_of_find?_eq_some hq
          refine wdok_plain (.inr rfl) ?_
          have : ∀ t ∈ sgL, t.length ≤ 1000 := by decide
          exact this t hm
theorem scanG_ok : ∀ (f : Nat) (l : List UInt8) (a : Nat) (acc L : List Wd) (n : Nat), l.length ≤ 1000 → (∀ x ∈ acc, WdOk x) → scanG f l a acc = (some L, n) → (∀ x ∈ L, WdOk x) ∧ L.length ≤ acc.length + l.length := by
  intro f
  induction f with
  | zero =>
    intro l a acc L n hl hacc h
    unfold scanG at h
    cases h
    exact ⟨hacc, by omega⟩
  | succ f ih =>
    intro l a acc L n hl hacc h
    cases l with
    | nil => unfold scanG at h; cases h; exact ⟨hacc, by simp⟩
    | cons c r =>
      unfold scanG at h
      split at h
      · obtain ⟨h1, h2⟩ := ih _ _ _ _ _ (by simp at hl; omega) hacc h
        exact ⟨h1, by simp; omega⟩
      · split at h
        · cases h
        · rename_i hn
          have hlen : ((c :: r).drop (wordF (c :: r)).2.2).length + 1 ≤ (c :: r).length := by rw [List.length_drop]; simp; omega
          have hacc' : ∀ x ∈ acc ++ [(⟨(wordF (c :: r)).1, (wordF (c :: r)).2.1, a⟩ : Wd)], WdOk x := by
            intro x hx
            rw [List.mem_append] at hx
            rcases hx with hx | hx
            · exact hacc x hx
            · simp only [List.mem_singleton] at hx
              subst hx
              exact wordF_ok hn hl a
          obtain ⟨h1, h2⟩ := ih _ _ _ _ _ (by omega) hacc' h
          refine ⟨h1, ?_⟩
          rw [List.length_append] at h2
          simp only [List.length_singleton] at h2
          omega
theorem scan_good {l : List UInt8} {L : List Wd} {n : Nat} (h : scanL l = (some L, n)) : 0 < L.length ∧ L.length ≤ 50000 ∧ Ends L ∧ Good EE L ∧ (∀ i, i < L.length → 1 ≤ kAt L i ∧ kAt L i ≤ 7) ∧ (∀ i, (tAt L i).length ≤ 1000) := by
  unfold scanL at h
  split at h
  · cases h
  · rename_i hlen
    split at h
    · rename_i Ls n' hs
      cases h
      obtain ⟨hok, hll⟩ := scanG_ok _ _ _ _ _ _ (by omega) (fun x hx => by cases hx) hs
      simp only [List.length_nil, Nat.zero_add] at hll
      have hat : ∀ i, i < Ls.length → ∃ x, WdOk x ∧ kAt (Ls ++ [⟨7, [], l.length⟩]) i = x.k ∧ tAt (Ls ++ [⟨7, [], l.length⟩]) i = x.t := by
        intro i hi
        refine ⟨Ls[i], hok _ (List.getElem_mem hi), ?_, ?_⟩
        · unfold kAt; rw [List.getD_eq_getElem?_getD, List.getElem?_append_left hi, List.getElem?_eq_getElem hi]; rfl
        · unfold tAt; rw [List.getD_eq_getElem?_getD, List.getElem?_append_left hi, List.getElem?_eq_getElem hi]; rfl
      have hend : ∀ i, Ls.length ≤ i → kAt (Ls ++ [⟨7, [], l.length⟩]) i = 7 ∧ tAt (Ls ++ [⟨7, [], l.length⟩]) i = [] := by
        intro i hi
        unfold kAt tAt
        rw [List.getD_eq_getElem?_getD, List.getElem?_append_right hi]
        rcases Nat.eq_zero_or_pos (i - Ls.length) with e | e
        · rw [e]; exact ⟨rfl, rfl⟩
        · rw [List.getElem?_eq_none (by simp; omega)]; exact ⟨rfl, rfl⟩
      have hL : (Ls ++ [(⟨7, [], l.length⟩ : Wd)]).length = Ls.length + 1 := by simp
      have low : ∀ i, kAt (Ls ++ [⟨7, [], l.length⟩]) i ≠ 7 → i < Ls.length := by
        intro i hk
        rcases Nat.lt_or_ge i Ls.length with h' | h'
        · exact h'
        · exact absurd (hend i h').1 hk
      refine ⟨by rw [hL]; omega, by rw [hL]; omega, fun i hi hk => by have := low i hk; omega, ⟨fun i _ hk => ?_, fun i _ hk => ?_, fun i _ hk => ?_, fun i _ hk => ?_⟩, fun i _ => ?_, fun i => ?_⟩
      · obtain ⟨x, hx, e1, e2⟩ := hat i (low i (by omega))
        rw [e2]; exact hx.num (by omega)
      · obtain ⟨x, hx, e1, e2⟩ := hat i (low i (by omega))
        rw [e2]; exact hx.ref (by omega)
      · obtain ⟨x, hx, e1, e2⟩ := hat i (low i (by omega))
        rw [e2]; exact hx.err (by omega)
      · obtain ⟨x, hx, e1, e2⟩ := hat i (low i (by omega))
        rw [e2]; exact hx.nam (by omega)
      · rcases Nat.lt_or_ge i Ls.length with h' | h'
        · obtain ⟨x, hx, e1, e2⟩ := hat i h'
          have := hx.k1
          have := hx.k6
          omega
        · have := (hend i h').1
          omega
      · rcases Nat.lt_or_ge i Ls.length with h' | h'
        · obtain ⟨x, hx, e1, e2⟩ := hat i h'
          rw [e2]; exact hx.len
        · rw [(hend i h').2]; simp
    · cases h
set_option maxHeartbeats 8000000 in
theorem first_other (L : List Wd) (p b off cap : Nat) (s : St) (W : World) (h : PS W p L b off cap s.i s.bd s.n) (hi : s.i < L.length) (hr : L.length ≤ 50000) (hn : s.n ≤ s.i) (hw : isW L s.i [40] = false) (hk : kAt L s.i = 6 ∨ kAt L s.i = 7) :
    Calls Tryz.prog 86 #[.pointer (some ⟨p, 0, none⟩)] W fun e W' => Rep p L b off cap W (zeroE, s.bad) e W' := by
  have hlt := h.lt
  have hbW := h.blk hi
  obtain ⟨T, q, hT, kw⟩ := h.kw hi
  have HTT := hid hT
  have HK := hid kw
  have hpW : p ≠ W.heap.size := by omega
  have k1 : ((kAt L s.i : Int) == 1) = false := by rw [beq_eq_false_iff_ne]; omega
  have k2 : ((kAt L s.i : Int) == 2) = false := by rw [beq_eq_false_iff_ne]; omega
  have k5 : ((kAt L s.i : Int) == 5) = false := by rw [beq_eq_false_iff_ne]; omega
  have k3 : ((kAt L s.i : Int) == 3) = false := by rw [beq_eq_false_iff_ne]; omega
  have k4 : ((kAt L s.i : Int) == 4) = false := by rw [beq_eq_false_iff_ne]; omega
  generalize hkk : (kAt L s.i : Int) = kk at HK k1 k2 k3 k4 k5
  clear hk
  have HP := hid h
  have hroom : (s.i : Int) + 1 ≤ 9223372036854775807 := by omega
  have HZ := hid ((tb_new W (.int .i64 0) (.int .i64 0) (.string ⟨#[]⟩) (.bool false) (.int .i64 0) (.slice none 0 0) (.slice none 0 0) 26).on (((Qx.refl p _).alloc (.cells #[.int .i64 kk, .string T, .int .i64 q] 78)).drew) (by omega))
  have HB := hid ((wb_new (W.alloc (.cells #[.int .i64 0, .int .i64 0, .string ⟨#[]⟩, .bool false, .int .i64 0, .slice none 0 0, .slice none 0 0] 26)) (.int .i64 kk) (.string T) (.int .i64 q) 78).on ((Qx.refl p _).drew) (by simp; omega))
  rw [show (W.alloc (.cells #[.int .i64 0, .int .i64 0, .string ⟨#[]⟩, .bool false, .int .i64 0, .slice none 0 0, .slice none 0 0] 26)).heap.size = W.heap.size + 1 by simp] at HB
  have hc := hid (fun W1 (g : PS W1 p L b off cap s.i s.bd s.n) => take_any W1 p L b off cap s.i s.bd s.n ⟨#[40]⟩ g hi)
  rw [show (⟨#[40]⟩ : ByteArray).data.toList = [40] from rfl, hw] at hc
  clear h kw hT
  go_enter Tryz.func86, Tryz.ntmps86
  go_wp2_with fail
  go_region_held3 (fun V => V.cell? ⟨p, 0, none⟩ = some (.slice (some ⟨b, off, none⟩) L.length cap) ∧ V.cell? ⟨p, 1, none⟩ = some (.int .i64 (s.i : Int)) ∧ V.cell? ⟨b, off + s.i * 3, none⟩ = some (.int .i64 kk) ∧ V.cell? ⟨b, off + s.i * 3 + 1, none⟩ = some (.string T) ∧ V.cell? ⟨b, off + s.i * 3 + 2, none⟩ = some (.int .i64 q)) (exact HK.out.on (by repeat (first | exact Q.refl _ | refine Q.drewN ?_ _ | refine Q.drew ?_ | refine Q.alloc ?_ _ | refine Q.setCell ?_ (by simp) _))) (fail)
  go_wp2_with (go_at_call 85; refine (hc.out _ (HP.out.on (by repeat (first | exact Q.refl _ | refine Q.drewN ?_ _ | refine Q.drew ?_ | refine Q.alloc ?_ _ | refine Q.setCell ?_ (by simp) _)))).mono ?_; rintro e w1 ⟨rfl, q1, p1⟩; have Q1 : Hid (Qx p W w1) := hid (Qx.trans (by repeat (first | with_reducible exact Qx.refl _ _ | with_reducible refine Qx.drewN ?_ _ | with_reducible refine Qx.drew ?_ | with_reducible refine Qx.alloc ?_ _ | with_reducible refine Qx.own ?_ _ _ | with_reducible refine Qx.new ?_ (by simp) _ _)) q1); have P1 := hid p1; have Z1 := hid (HZ.out.on q1 (by omega)); have B1 := hid (HB.out.on q1 (by omega)); clear q1 p1; have x1 := P1.out.c1; have z1 := P1.out.f1; have x2 := P1.out.c2; have z2 := P1.out.f2; have d0 := Z1.out.g0; have d1 := Z1.out.g1; have d2 := Z1.out.g2; have d3 := Z1.out.g3; have d4 := Z1.out.g4; have d5 := Z1.out.g5; have d6 := Z1.out.g6; have y0 := Z1.out.f 0; have y1 := Z1.out.f 1; have y2 := Z1.out.f 2; have y3 := Z1.out.f 3; have y4 := Z1.out.f 4; have y5 := Z1.out.f 5; have y6 := Z1.out.f 6; have b0 := B1.out.g0; have b1 := B1.out.g1; have b2 := B1.out.g2)
  refine bodyPost_ret (v := .agg #[.int .i64 0, .int .i64 0, .string ⟨#[]⟩, .bool false, .int .i64 0, .slice none 0 0, .slice none 0 0]) (by simp [results, Tryz.results86, go_sem, d0, d1, d2, d3, d4, d5, d6, hpW]) rfl ?_
  have hq : Qx p W _ := ((Q1.out.own 1 (.int .i64 ((s.i : Int) + 1))).own 1 (.int .i64 (s.i : Int))).own 2 (.bool true)
  have PY := ((P1.out.set1 (s.i + 1) ((s.i : Int) + 1) (by omega)).set1 s.i (s.i : Int) rfl).set2 true
  exact fin7 (s' := s.bad) 0 0 ⟨#[]⟩ false 0 none 0 0 none 0 0 hlt hbW hq (rdg_zero _ _) PY
end Go.Proofs.YtoikodohcieipaaGreatDoor
