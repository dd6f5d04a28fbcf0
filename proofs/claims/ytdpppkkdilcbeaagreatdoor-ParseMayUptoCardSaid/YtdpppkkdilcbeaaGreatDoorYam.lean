/- Trees that came in, and what is cut of them, plainly. -/
import Derived.Test.YtdpppkkdilcbeaaGreatDoorMa19
namespace Go.Proofs.YtdpppkkdilcbeaaGreatDoor
open Go.RowKit
set_option linter.unusedVariables false
set_option linter.unusedSimpArgs false

/-- a value that reads as a tree, in whatever blocks -/
def RdI (W : World) : Ex → Value → Prop
  | .mk k n t b e rs ks, v => ∃ rv kv, v = .agg #[.int .i64 k, .int .i64 n, .string ⟨t.toArray⟩, .bool b, .int .i64 e, rv, kv] ∧ Sl rf 5 W rv rs ∧
      ∃ (ao : Option Addr) (cap : Nat), kv = .slice ao ks.length cap ∧ ks.length ≤ cap ∧ cap ≤ maxLen ∧ (ks ≠ [] → ∃ b' off, ao = some ⟨b', off, none⟩ ∧ RdIL W ks b' off)
  where
  RdIL (W : World) : List Ex → Nat → Nat → Prop
  | [], _, _ => True
  | x :: xs, b, off => (∃ c0 c1 c2 c3 c4 c5 c6, W.cell? ⟨b, off, none⟩ = some c0 ∧ W.cell? ⟨b, off + 1, none⟩ = some c1 ∧ W.cell? ⟨b, off + 2, none⟩ = some c2 ∧ W.cell? ⟨b, off + 3, none⟩ = some c3 ∧ W.cell? ⟨b, off + 4, none⟩ = some c4 ∧ W.cell? ⟨b, off + 5, none⟩ = some c5 ∧ W.cell? ⟨b, off + 6, none⟩ = some c6 ∧ RdI W x (.agg #[c0, c1, c2, c3, c4, c5, c6])) ∧ RdIL W xs b (off + 7)
/-- all blocks below n but p stand as they stood -/
structure Qb (n p : Nat) (w w' : World) : Prop where
  size : w.heap.size ≤ w'.heap.size
  block : ∀ i, i < n → i ≠ p → w'.heap[i]? = w.heap[i]?
theorem Qb.refl (n p : Nat) (w : World) : Qb n p w w := ⟨Nat.le_refl _, fun _ _ _ => rfl⟩
theorem Qb.trans {n p : Nat} {a b c : World} (h : Qb n p a b) (k : Qb n p b c) : Qb n p a c := ⟨Nat.le_trans h.size k.size, fun i hi hp => (k.block i hi hp).trans (h.block i hi hp)⟩
theorem Qb.of {n p : Nat} {a b : World} (h : Qx p a b) (hn : n ≤ a.heap.size) : Qb n p a b := ⟨h.size, fun i hi hp => h.block i (by omega) (fun e => hp (Option.some.inj e))⟩
theorem Qb.cell {n p : Nat} {a w : World} (h : Qb n p a w) {b o : Nat} (hb : b < n) (hp : b ≠ p) : w.cell? ⟨b, o, none⟩ = a.cell? ⟨b, o, none⟩ := World.cell?_of_block (h.block b hb hp)
/-- the cells of one such tree in a row -/
structure KidI (W : World) (x : Ex) (b off : Nat) (c0 c1 c2 c3 c4 c5 c6 : Value) : Prop where
  g0 : W.cell? ⟨b, off, none⟩ = some c0
  g1 : W.cell? ⟨b, off + 1, none⟩ = some c1
  g2 : W.cell? ⟨b, off + 2, none⟩ = some c2
  g3 : W.cell? ⟨b, off + 3, none⟩ = some c3
  g4 : W.cell? ⟨b, off + 4, none⟩ = some c4
  g5 : W.cell? ⟨b, off + 5, none⟩ = some c5
  g6 : W.cell? ⟨b, off + 6, none⟩ = some c6
  rd : RdI W x (.agg #[c0, c1, c2, c3, c4, c5, c6])
theorem RdI.RdIL.kid {W : World} : ∀ {ks : List Ex} {b off : Nat}, RdI.RdIL W ks b off → ∀ i (h : i < ks.length), ∃ c0 c1 c2 c3 c4 c5 c6, KidI W ks[i] b (off + i * 7) c0 c1 c2 c3 c4 c5 c6
  | [], _, _, _, i, h => absurd h (by simp)
  | x :: xs, b, off, hr, i, h => by
    unfold RdI.RdIL at hr
    obtain ⟨⟨c0, c1, c2, c3, c4, c5, c6, g0, g1, g2, g3, g4, g5, g6, hx⟩, hr⟩ := hr
    cases i with
    | zero => exact ⟨c0, c1, c2, c3, c4, c5, c6, by simpa using g0, by simpa using g1, by simpa using g2, by simpa using g3, by simpa using g4, by simpa using g5, by simpa using g6, hx⟩
    | succ i =>
      obtain ⟨c0, c1, c2, c3, c4, c5, c6, hk⟩ := RdI.RdIL.kid hr i (by simpa using h)
      rw [show off + 7 + i * 7 = off + (i + 1) * 7 by omega] at hk
      exact ⟨c0, c1, c2, c3, c4, c5, c6, hk⟩
theorem RdI.shape {W : World} {x : Ex} {v : Value} (h : RdI W x v) : ∃ k n t b e a1 l1 c1 a2 l2 c2, v = .agg #[.int .i64 k, .int .i64 n, .string t, .bool b, .int .i64 e, .slice a1 l1 c1, .slice a2 l2 c2] := by
  cases x with
  | mk k n t b e rs ks =>
    unfold RdI at h
    obtain ⟨rv, kv, hv, hr, ao, cap, hk, _⟩ := h
    obtain ⟨a1, c1, hr, _⟩ := hr
    subst hr hk
    exact ⟨_, _, _, _, _, _, _, _, _, _, _, hv⟩
/-- what is cut of a tree: at so deep, with so many nodes left -/
def cutE : Ex → Nat → Nat → Ex × Nat
  | .mk k n t b e rs ks, d, l => (.mk k n (t.take 250) b e (rs.take 4) (cutL ks d (l - 1)).1, (cutL ks d (l - 1)).2)
  where
  cutL : List Ex → Nat → Nat → List Ex × Nat
  | [], _, l => ([], l)
  | x :: xs, d, l => if 0 < l ∧ d < 60 then ((cutE x (d + 1) l).1 :: (cutL xs d (cutE x (d + 1) l).2).1, (cutL xs d (cutE x (d + 1) l).2).2) else ([], l)
/-- each node takes one -/
theorem cut_nodes : ∀ (x : Ex) (d l : Nat), 0 < l → nodes (cutE x d l).1 + (cutE x d l).2 = l
  | .mk k n t b e rs ks, d, l, h => by
    rw [cutE, nodes]
    have := go ks d (l - 1)
    simp only
    omega
  where
  go : ∀ (ks : List Ex) (d l : Nat), nodes.nodesL (cutE.cutL ks d l).1 + (cutE.cutL ks d l).2 = l
  | [], d, l => by rw [cutE.cutL]; simp [nodes.nodesL]
  | x :: xs, d, l => by
    rw [cutE.cutL]
    split
    · rename_i h
      have h1 := cut_nodes x (d + 1) l h.1
      have h2 := go xs d (cutE x (d + 1) l).2
      simp only [nodes.nodesL]
      omega
    · simp [nodes.nodesL]
/-- all sheets of references, of a tree -/
def Shs (B : Nat) : Ex → Prop
  | .mk _ _ _ _ _ rs ks => (∀ r ∈ rs, r.1.length ≤ B) ∧ ShsL B ks
  where
  ShsL (B : Nat) : List Ex → Prop
  | [] => True
  | x :: xs => Shs B x ∧ ShsL B xs
theorem cut_sm {B : Nat} (hB : B ≤ 2000000) : ∀ (x : Ex) (d l : Nat), Shs B x → Sm (cutE x d l).1
  | .mk k n t b e rs ks, d, l, h => by
    rw [Shs] at h
    rw [cutE, Sm]
    refine ⟨?_, fun r hr => Nat.le_trans (h.1 r (List.mem_of_mem_take hr)) hB, go hB ks d (l - 1) h.2⟩
    rw [List.length_take]
    omega
  where
  go {B : Nat} (hB : B ≤ 2000000) : ∀ (ks : List Ex) (d l : Nat), Shs.ShsL B ks → Sm.SmL (cutE.cutL ks d l).1
  | [], d, l, _ => by rw [cutE.cutL, Sm.SmL]; trivial
  | x :: xs, d, l, h => by
    rw [Shs.ShsL] at h
    rw [cutE.cutL]
    split
    · rw [Sm.SmL]
      exact ⟨cut_sm hB x (d + 1) l h.1, go hB xs d _ h.2⟩
    · rw [Sm.SmL]; trivial
end Go.Proofs.YtdpppkkdilcbeaaGreatDoor
