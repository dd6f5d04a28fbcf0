/- P.node, level, of the reference, walked. P.ahead of the reference, walked. P.ahead, P.tree of the reference, walked: what is handed on. P.tree of what is wrong. P.tree of the reference, walked. lex.joins, ref.solid, lex.passBlanks, lex.greatLetters, ref.letters, walked. -/
import Derived.Test.YtgheopdadfnilaaDoorMa03
import Derived.BigQuiet
import Derived.Test.YtgheopdadfnilaaDoorMa01
namespace Go.Proofs.YtgheopdadfnilaaDoor
open Go.RowKit
set_option linter.unusedVariables false
set_option linter.unusedSimpArgs false


end Go.Proofs.YtgheopdadfnilaaDoor
namespace Go.Proofs.YtgheopdadfnilaaDoor
open Go.RowKit
set_option linter.unusedVariables false
set_option linter.unusedSimpArgs false


theorem Qx.frozen {p : Nat} {a w : World} (h : Qx p a w) {b o : Nat} (hb : b < a.heap.size) (hp : b ≠ p) : w.frozen? ⟨b, o, none⟩ = a.frozen? ⟨b, o, none⟩ :=
  World.frozen?_of_block (h.block b hb (fun e => hp (Option.some.inj e)))
/-- a block of a tree's seven cells that may be written -/
structure Tb (W : World) (q : Nat) (c0 c1 c2 c3 c4 c5 c6 : Value) : Prop where
  g0 : W.cell? ⟨q, 0, none⟩ = some c0
  g1 : W.cell? ⟨q, 1, none⟩ = some c1
  g2 : W.cell? ⟨q, 2, none⟩ = some c2
  g3 : W.cell? ⟨q, 3, none⟩ = some c3
  g4 : W.cell? ⟨q, 4, none⟩ = some c4
  g5 : W.cell? ⟨q, 5, none⟩ = some c5
  g6 : W.cell? ⟨q, 6, none⟩ = some c6
  f : ∀ j, W.frozen? ⟨q, j, none⟩ = false
theorem Tb.on {p : Nat} {W W' : World} {q : Nat} {c0 c1 c2 c3 c4 c5 c6 : Value} (h : Tb W q c0 c1 c2 c3 c4 c5 c6) (x : Qx p W W') (hq : q ≠ p) : Tb W' q c0 c1 c2 c3 c4 c5 c6 := by
  have hl : q < W.heap.size := World.block_lt_of_cell? W ⟨q, 0, none⟩ h.g0
  exact ⟨(x.cell hl hq).trans h.g0, (x.cell hl hq).trans h.g1, (x.cell hl hq).trans h.g2, (x.cell hl hq).trans h.g3, (x.cell hl hq).trans h.g4, (x.cell hl hq).trans h.g5, (x.cell hl hq).trans h.g6, fun j => (x.frozen hl hq).trans (h.f j)⟩
theorem tb_new (W : World) (c0 c1 c2 c3 c4 c5 c6 : Value) (t : TypeId) : Tb (W.alloc (.cells #[c0, c1, c2, c3, c4, c5, c6] t)) W.heap.size c0 c1 c2 c3 c4 c5 c6 := by
  refine ⟨?_, ?_, ?_, ?_, ?_, ?_, ?_, fun j => ?_⟩
  all_goals simp [World.cell?_alloc_new, World.frozen?_alloc_new]
theorem Rdg.shape {g : Nat → Prop} {W : World} {x : Ex} {v : Value} (h : Rdg g W x v) : ∃ k n t b e a1 l1 c1 a2 l2 c2, v = .agg #[.int .i64 k, .int .i64 n, .string t, .bool b, .int .i64 e, .slice a1 l1 c1, .slice a2 l2 c2] := by
  cases x with
  | mk k n t b e rs ks =>
    unfold Rdg at h
    obtain ⟨rv, kv, hv, hr, ao, cap, hk, _⟩ := h
    obtain ⟨a1, c1, hr, _⟩ := hr
    subst hr hk
    exact ⟨_, _, _, _, _, _, _, _, _, _, _, hv⟩
/-- a tree whose kid lies in a block -/
theorem rdg_kids {g : Nat → Prop} {W : World} (k : Int) (t : List UInt8) (T : ByteArray) (hT : T.data.toList = t) (ks : List Ex) (q cap : Nat) (hq : g q) (hc : ks.length ≤ cap) (hm : cap ≤ maxLen) (hpl : Pl W q) (h : Rdg.RdLg g W ks q 0) :
    Rdg g W (.mk k 0 t false 0 [] ks) (.agg #[.int .i64 k, .int .i64 0, .string T, .bool false, .int .i64 0, .slice none 0 0, .slice (some ⟨q, 0, none⟩) ks.length cap]) := by
  unfold Rdg
  have e : T = ⟨t.toArray⟩ := bytes_eq hT
  subst e
  exact ⟨_, _, rfl, ⟨none, 0, rfl, Nat.le_refl _, Nat.zero_le _, fun h => absurd h (by simp)⟩, some ⟨q, 0, none⟩, cap, rfl, hc, hm, fun _ => ⟨q, 0, rfl, hq, hpl, h⟩⟩
/-- what the reference's readers answer -/
def Rep (p : Nat) (L : List Wd) (b off cap : Nat) (W : World) (r : Ex × St) (e : Ending) (W' : World) : Prop :=
  ∃ v, e = .returned v ∧ Rdg (fun b => W.heap.size ≤ b) W' r.1 v ∧ Qx p W W' ∧ PS W' p L b off cap r.2.i r.2.bd r.2.n

end Go.Proofs.YtgheopdadfnilaaDoor
namespace Go.Proofs.YtgheopdadfnilaaDoor
open Go.RowKit
set_option linter.unusedVariables false
set_option linter.unusedSimpArgs false


/-- a tree is laid into the block of the result and handed back -/
theorem fin7 {p : Nat} {L : List Wd} {b off cap : Nat} {W w3 : World} {x : Ex} {s' : St} (k m : Int) (t : ByteArray) (bb : Bool) (er : Int) (a1 : Option Addr) (l1 c1 : Nat) (a2 : Option Addr) (l2 c2 : Nat) (hp : p < W.heap.size) (hb : b < W.heap.size) (hq : Qx p W w3) (hr : Rdg (fun b => W.heap.size + 1 ≤ b) w3 x (.agg #[.int .i64 k, .int .i64 m, .string t, .bool bb, .int .i64 er, .slice a1 l1 c1, .slice a2 l2 c2])) (h : PS w3 p L b off cap s'.i s'.bd s'.n) :
    Rep p L b off cap W (x, s') (.returned (.agg #[.int .i64 k, .int .i64 m, .string t, .bool bb, .int .i64 er, .slice a1 l1 c1, .slice a2 l2 c2])) (((((((w3.setCell ⟨W.heap.size, 0, none⟩ (.int .i64 k)).setCell ⟨W.heap.size, 1, none⟩ (.int .i64 m)).setCell ⟨W.heap.size, 2, none⟩ (.string t)).setCell ⟨W.heap.size, 3, none⟩ (.bool bb)).setCell ⟨W.heap.size, 4, none⟩ (.int .i64 er)).setCell ⟨W.heap.size, 5, none⟩ (.slice a1 l1 c1)).setCell ⟨W.heap.size, 6, none⟩ (.slice a2 l2 c2)) := by
  have QF : Qx W.heap.size w3 (((((((w3.setCell ⟨W.heap.size, 0, none⟩ (.int .i64 k)).setCell ⟨W.heap.size, 1, none⟩ (.int .i64 m)).setCell ⟨W.heap.size, 2, none⟩ (.string t)).setCell ⟨W.heap.size, 3, none⟩ (.bool bb)).setCell ⟨W.heap.size, 4, none⟩ (.int .i64 er)).setCell ⟨W.heap.size, 5, none⟩ (.slice a1 l1 c1)).setCell ⟨W.heap.size, 6, none⟩ (.slice a2 l2 c2)) := (((((((Qx.refl _ _).own _ _).own _ _).own _ _).own _ _).own _ _).own _ _).own _ _
  refine ⟨_, rfl, Rdg.mono (fun b hb => by omega) _ _ (Rdg.on QF (fun b hb => by omega) _ _ hr), ?_, h.onx QF (by omega) (by omega)⟩
  exact ((((((hq.new (Nat.le_refl _) _ _).new (Nat.le_refl _) _ _).new (Nat.le_refl _) _ _).new (Nat.le_refl _) _ _).new (Nat.le_refl _) _ _).new (Nat.le_refl _) _ _).new (Nat.le_refl _) _ _
theorem PS.blk {W : World} {p : Nat} {L : List Wd} {b off cap i : Nat} {bd : Bool} {n : Nat} (h : PS W p L b off cap i bd n) (hi : i < L.length) : b < W.heap.size := World.block_lt_of_cell? W ⟨b, off + i * 3, none⟩ (h.sw.k i hi)

end Go.Proofs.YtgheopdadfnilaaDoor
namespace Go.Proofs.YtgheopdadfnilaaDoor
open Go.RowKit
set_option linter.unusedVariables false
set_option linter.unusedSimpArgs false


end Go.Proofs.YtgheopdadfnilaaDoor
namespace Go.Proofs.YtgheopdadfnilaaDoor
open Go.RowKit
set_option linter.unusedVariables false
set_option linter.unusedSimpArgs false


/-- how far a reader is -/
def far (p : Nat) (W : World) : Nat := match W.cell? ⟨p, 1, none⟩ with
  | some (.int _ i) => i.toNat
  | _ => 0
theorem far_of {W : World} {p : Nat} {L : List Wd} {b off cap i : Nat} {bd : Bool} {n : Nat} (h : PS W p L b off cap i bd n) : far p W = i := by
  unfold far
  rw [h.c1]
  simp
/-- where the loop over operators stands -/
structure LI (E : Env) (L : List Wd) (p b off cap lv : Nat) (W : World) (X0 : Nat) (R : Ex × St) (W' : World) (f' : Nat) (s1 : St) (y : Ex) (k m : Int) (t : ByteArray) (bb : Bool) (er : Int) (a1 : Option Addr) (l1 c1 : Nat) (a2 : Option Addr) (l2 c2 : Nat) : Prop where
  st : PS W' p L b off cap s1.i s1.bd s1.n
  lt : s1.i < L.length
  nb : s1.n ≤ s1.i
  fe : treeF.loopF E L f' lv y s1 = some R
  xb : Tb W' X0 (.int .i64 k) (.int .i64 m) (.string t) (.bool bb) (.int .i64 er) (.slice a1 l1 c1) (.slice a2 l2 c2)
  zb : Tb W' W.heap.size (.int .i64 0) (.int .i64 0) (.string ⟨#[]⟩) (.bool false) (.int .i64 0) (.slice none 0 0) (.slice none 0 0)
  rd : Rdg (fun b => W.heap.size + 1 ≤ b ∧ b ≠ X0) W' y (.agg #[.int .i64 k, .int .i64 m, .string t, .bool bb, .int .i64 er, .slice a1 l1 c1, .slice a2 l2 c2])
  qx : Qx p W W'
theorem loop_stop {E : Env} {L : List Wd} {f lv : Nat} {x : Ex} {s : St} {R : Ex × St} (h : ¬ (s.bd = false ∧ stg L s.i = lv)) (e : treeF.loopF E L f lv x s = some R) : R = (x, s) := by
  cases f with
  | zero => unfold treeF.loopF at e; cases e
  | succ f => rw [treeF.loopF, if_neg h] at e; exact (Option.some.inj e).symm


/-- a tree's block that is written over -/
theorem Tb.put {W : World} {q : Nat} {c0 c1 c2 c3 c4 c5 c6 : Value} (h : Tb W q c0 c1 c2 c3 c4 c5 c6) (d0 d1 d2 d3 d4 d5 d6 : Value) :
    Tb (((((((W.setCell ⟨q, 0, none⟩ d0).setCell ⟨q, 1, none⟩ d1).setCell ⟨q, 2, none⟩ d2).setCell ⟨q, 3, none⟩ d3).setCell ⟨q, 4, none⟩ d4).setCell ⟨q, 5, none⟩ d5).setCell ⟨q, 6, none⟩ d6) q d0 d1 d2 d3 d4 d5 d6 := by
  obtain ⟨h0, h1, h2, h3, h4, h5, h6, hf⟩ := h
  have same : ∀ {V : World} {j : Nat} {c d : Value}, V.cell? ⟨q, j, none⟩ = some c → (V.setCell ⟨q, j, none⟩ d).cell? ⟨q, j, none⟩ = some d := fun {V j c d} e => World.cell?_setCell_same _ _ _ e
  have other : ∀ {V : World} {j k : Nat} {d : Value} {o : Option Value}, k ≠ j → V.cell? ⟨q, j, none⟩ = o → (V.setCell ⟨q, k, none⟩ d).cell? ⟨q, j, none⟩ = o := fun {V j k d o} hk e => by
    rw [World.cell?_setCell_other _ _ _ _ (by simp; try omega)]; exact e
  have p0 : ∀ {V : World}, V.cell? ⟨q, 0, none⟩ = some c0 → True := fun _ => trivial
  refine ⟨?_, ?_, ?_, ?_, ?_, ?_, ?_, fun j => ?_⟩
  · exact other (by omega) (other (by omega) (other (by omega) (other (by omega) (other (by omega) (other (by omega) (same h0))))))
  · exact other (by omega) (other (by omega) (other (by omega) (other (by omega) (other (by omega) (same (other (by omega) h1))))))
  · exact other (by omega) (other (by omega) (other (by omega) (other (by omega) (same (other (by omega) (other (by omega) h2))))))
  · exact other (by omega) (other (by omega) (other (by omega) (same (other (by omega) (other (by omega) (other (by omega) h3))))))
  · exact other (by omega) (other (by omega) (same (other (by omega) (other (by omega) (other (by omega) (other (by omega) h4))))))
  · exact other (by omega) (same (other (by omega) (other (by omega) (other (by omega) (other (by omega) (other (by omega) h5))))))
  · exact same (other (by omega) (other (by omega) (other (by omega) (other (by omega) (other (by omega) (other (by omega) h6))))))
  · simp only [World.frozen?_setCell]
    exact hf j
/-- the fourteen cells of two trees in a block -/
structure Tw (W : World) (q : Nat) (c0 c1 c2 c3 c4 c5 c6 d0 d1 d2 d3 d4 d5 d6 : Value) : Prop where
  g0 : W.cell? ⟨q, 0, none⟩ = some c0
  g1 : W.cell? ⟨q, 1, none⟩ = some c1
  g2 : W.cell? ⟨q, 2, none⟩ = some c2
  g3 : W.cell? ⟨q, 3, none⟩ = some c3
  g4 : W.cell? ⟨q, 4, none⟩ = some c4
  g5 : W.cell? ⟨q, 5, none⟩ = some c5
  g6 : W.cell? ⟨q, 6, none⟩ = some c6
  e0 : W.cell? ⟨q, 7, none⟩ = some d0
  e1 : W.cell? ⟨q, 8, none⟩ = some d1
  e2 : W.cell? ⟨q, 9, none⟩ = some d2
  e3 : W.cell? ⟨q, 10, none⟩ = some d3
  e4 : W.cell? ⟨q, 11, none⟩ = some d4
  e5 : W.cell? ⟨q, 12, none⟩ = some d5
  e6 : W.cell? ⟨q, 13, none⟩ = some d6
theorem tw_new (W : World) (c0 c1 c2 c3 c4 c5 c6 d0 d1 d2 d3 d4 d5 d6 : Value) (t : TypeId) : Tw (W.alloc (.cells #[c0, c1, c2, c3, c4, c5, c6, d0, d1, d2, d3, d4, d5, d6] t)) W.heap.size c0 c1 c2 c3 c4 c5 c6 d0 d1 d2 d3 d4 d5 d6 := by
  refine ⟨?_, ?_, ?_, ?_, ?_, ?_, ?_, ?_, ?_, ?_, ?_, ?_, ?_, ?_⟩
  all_goals simp [World.cell?_alloc_new]
theorem Tw.on {p : Nat} {W W' : World} {q : Nat} {c0 c1 c2 c3 c4 c5 c6 d0 d1 d2 d3 d4 d5 d6 : Value} (h : Tw W q c0 c1 c2 c3 c4 c5 c6 d0 d1 d2 d3 d4 d5 d6) (x : Qx p W W') (hq : q ≠ p) : Tw W' q c0 c1 c2 c3 c4 c5 c6 d0 d1 d2 d3 d4 d5 d6 := by
  have hl : q < W.heap.size := World.block_lt_of_cell? W ⟨q, 0, none⟩ h.g0
  exact ⟨(x.cell hl hq).trans h.g0, (x.cell hl hq).trans h.g1, (x.cell hl hq).trans h.g2, (x.cell hl hq).trans h.g3, (x.cell hl hq).trans h.g4, (x.cell hl hq).trans h.g5, (x.cell hl hq).trans h.g6,
    (x.cell hl hq).trans h.e0, (x.cell hl hq).trans h.e1, (x.cell hl hq).trans h.e2, (x.cell hl hq).trans h.e3, (x.cell hl hq).trans h.e4, (x.cell hl hq).trans h.e5, (x.cell hl hq).trans h.e6⟩
/-- two trees in a block, as kids -/
theorem Tw.two {g : Nat → Prop} {W : World} {q : Nat} {c0 c1 c2 c3 c4 c5 c6 d0 d1 d2 d3 d4 d5 d6 : Value} {x y : Ex} (h : Tw W q c0 c1 c2 c3 c4 c5 c6 d0 d1 d2 d3 d4 d5 d6) (hx : Rdg g W x (.agg #[c0, c1, c2, c3, c4, c5, c6])) (hy : Rdg g W y (.agg #[d0, d1, d2, d3, d4, d5, d6])) : Rdg.RdLg g W [x, y] q 0 := by
  unfold Rdg.RdLg
  refine ⟨⟨_, _, _, _, _, _, _, h.g0, h.g1, h.g2, h.g3, h.g4, h.g5, h.g6, hx⟩, ?_⟩
  unfold Rdg.RdLg
  refine ⟨⟨_, _, _, _, _, _, _, h.e0, h.e1, h.e2, h.e3, h.e4, h.e5, h.e6, hy⟩, ?_⟩
  unfold Rdg.RdLg
  trivial
theorem loop_go {E : Env} {L : List Wd} {f lv : Nat} {x : Ex} {s : St} {R : Ex × St} (h : s.bd = false ∧ stg L s.i = lv) (e : treeF.loopF E L f lv x s = some R) : ∃ g r, f = g + 1 ∧ treeF E L g (lv + 1) s.on = some r ∧ treeF.loopF E L g lv (binE (tAt L s.i) x r.1) r.2.node = some R := by
  cases f with
  | zero => unfold treeF.loopF at e; cases e
  | succ f =>
    rw [treeF.loopF, if_pos h] at e
    obtain ⟨r, h1, h2⟩ := Option.bind_eq_some_iff.1 e
    exact ⟨f, r, rfl, h1, h2⟩

end Go.Proofs.YtgheopdadfnilaaDoor
namespace Go.Proofs.YtgheopdadfnilaaDoor
open Go.RowKit
set_option linter.unusedVariables false
set_option linter.unusedSimpArgs false


theorem join_cases {c : UInt8} {a : Bool} (h : joinB c = a) : a = (decide (65 ≤ (c.toNat : Int) ∧ (c.toNat : Int) ≤ 90) || (decide (97 ≤ (c.toNat : Int) ∧ (c.toNat : Int) ≤ 122) || (decide (48 ≤ (c.toNat : Int) ∧ (c.toNat : Int) ≤ 57) || (decide ((c.toNat : Int) = 36) || (decide ((c.toNat : Int) = 33) || decide ((c.toNat : Int) = 46)))))) := by
  have e : ∀ n : Nat, n < 256 → (c == UInt8.ofNat n) = decide ((c.toNat : Int) = (n : Int)) := by
    intro n hn
    rw [Bool.eq_iff_iff, beq_iff_eq, decide_eq_true_eq]
    constructor
    · intro h; subst h; simp; omega
    · intro h
      apply UInt8.toNat_inj.1
      simp
      omega
  have e36 := e 36 (by omega)
  have e33 := e 33 (by omega)
  have e46 := e 46 (by omega)
  subst h
  unfold joinB
  show _ = _
  rw [show (c == 36) = decide ((c.toNat : Int) = 36) from e36, show (c == 33) = decide ((c.toNat : Int) = 33) from e33, show (c == 46) = decide ((c.toNat : Int) = 46) from e46]
  congr 1
  · rw [Bool.eq_iff_iff, decide_eq_true_eq, decide_eq_true_eq]; omega
  congr 1
  · rw [Bool.eq_iff_iff, decide_eq_true_eq, decide_eq_true_eq]; omega
  congr 1
  · rw [Bool.eq_iff_iff, decide_eq_true_eq, decide_eq_true_eq]; omega


set_option maxHeartbeats 2000000 in
theorem joins_any (c : UInt8) (w : World) : Calls Tryd.prog 28 #[.int .u8 c.toNat] w fun e w' => e = .returned (.bool (joinB c)) ∧ w' = w := by
  have H := join_cases (c := c) rfl
  generalize joinB c = a at H ⊢
  have h0 : 0 ≤ (c.toNat : Int) := by omega
  generalize (c.toNat : Int) = x at H h0 ⊢
  have HH := hid H
  clear H
  go_enter Tryd.func28, Tryd.ntmps28
  go_wp2
  all_goals go_ret
  all_goals exact ⟨ret_bool (by rw [HH.out, Bool.eq_iff_iff]; simp_all <;> omega), rfl⟩

theorem blk_at {s : ByteArray} {k : Nat} (hk : k < s.size) (h : s[k] = 32) : k + blk (s.data.toList.drop k) = k + 1 + blk (s.data.toList.drop (k + 1)) := by
  rw [drop_cons s k hk, h, blk_succ]; omega
theorem blk_not {s : ByteArray} {k : Nat} (hk : k < s.size) (h : s[k] ≠ 32) : k + blk (s.data.toList.drop k) = k := by
  rw [drop_cons s k hk, blk_zero (by simpa using h)]; omega
theorem blk_end {s : ByteArray} {k : Nat} (hk : s.size ≤ k) : k + blk (s.data.toList.drop k) = k := by
  rw [List.drop_of_length_le (by simpa using hk)]; rfl
theorem eq_byte {c : UInt8} {n : Nat} (hn : n < 256) (h : c = UInt8.ofNat n) : ((c.toNat : Int) == (n : Int)) = true := by
  subst h; simp; omega

set_option maxHeartbeats 1000000 in
theorem pass_any (s : ByteArray) (k : Nat) (w : World) (hk : k ≤ s.size) (hs : s.size ≤ 4000000000) :
    Calls Tryd.prog 18 #[.string s, .int .i64 k] w fun e w' => e = .returned (.int .i64 ((k + blk (s.data.toList.drop k) : Nat) : Int)) ∧ w' = w := by
  go_enter Tryd.func18, Tryd.ntmps18
  obtain ⟨R, hR⟩ : ∃ R, k + blk (s.data.toList.drop k) = R := ⟨_, rfl⟩
  rw [hR]
  have HR := hid hR
  have HK := hid hk
  clear hR hk
  go_wp2
  go_loop [1] (fun x => ∃ j : Nat, j ≤ s.size ∧ x = .int .i64 (j : Int) ∧ Hid (j + blk (s.data.toList.drop j) = R)) (fun x => s.size - (intOf x).toNat)
  case atStart => exact ⟨k, HK.out, rfl, HR⟩
  case round =>
    obtain ⟨j, hj, rfl, hr⟩ := hrel
    by_cases hlt : j < s.size
    · by_cases hc : s[j] = 32
      · have e := eq_byte (n := 32) (by omega) hc
        have HR2 := hid ((blk_at hlt hc).symm.trans hr.out)
        go_wp2
        go_round
        case rel => exact ⟨j + 1, by omega, by go_num, HR2⟩
        case measure => simp [intOf]; omega
      · have e := byte_ne (n := 32) (by omega) hc
        have HR2 := hid ((blk_not hlt hc).symm.trans hr.out)
        go_wp2
        go_ret
        exact ⟨ret_int (by rw [HR2.out]), rfl⟩
    · have HR2 := hid ((blk_end (by omega)).symm.trans hr.out)
      go_wp2
      go_ret
      exact ⟨ret_int (by rw [HR2.out]), rfl⟩

set_option maxHeartbeats 1000000 in
theorem great_any (s : ByteArray) (w : World) (hs : s.size ≤ 4000000000) :
    Calls Tryd.prog 56 #[.string s] w fun e w' => e = .returned (.bool (allL s.data.toList)) ∧ w' = w := by
  go_enter Tryd.func56, Tryd.ntmps56
  go_wp2
  go_loop [6] (fun i => ∃ k : Nat, k ≤ s.size ∧ i = .int .i64 k ∧ Hid (allL (s.data.toList.take k) = true)) (fun i => s.size - (intOf i).toNat)
  case atStart => exact ⟨0, Nat.zero_le _, rfl, rfl⟩
  case round =>
    obtain ⟨k, hk, rfl, ha⟩ := hrel
    by_cases hlt : k < s.size
    · by_cases hd : let1 s[k] = true
      · have ha' : Hid (allL (s.data.toList.take (k + 1)) = true) := by
          show _ = _
          have := ha.out
          rw [take_snoc s k hlt, allL_app, this]
          unfold allL
          simp [hd]
        have b0 : 65 ≤ (s[k].toNat : Int) := by unfold let1 at hd; simp at hd; omega
        have b1 : (s[k].toNat : Int) ≤ 90 := by unfold let1 at hd; simp at hd; omega
        clear hd
        go_wp2
        go_round
        case rel => exact ⟨k + 1, by omega, by go_num, ha'⟩
        case measure => simp [intOf]; omega
      · have hN := hid (allL_no s k hlt (by simpa using hd))
        by_cases b0 : (s[k].toNat : Int) < 65
        · clear hd
          go_wp2
          go_ret
          exact ⟨ret_bool hN.out.symm, rfl⟩
        · have b1 : 90 < (s[k].toNat : Int) := by unfold let1 at hd; simp at hd; omega
          clear hd
          go_wp2
          go_ret
          exact ⟨ret_bool hN.out.symm, rfl⟩
    · have hN : Hid (allL s.data.toList = true) := by
        show _ = _
        have := ha.out
        rw [take_all s k (by omega)] at this
        exact this
      go_wp2
      go_ret
      exact ⟨ret_bool hN.out.symm, rfl⟩
end Go.Proofs.YtgheopdadfnilaaDoor
