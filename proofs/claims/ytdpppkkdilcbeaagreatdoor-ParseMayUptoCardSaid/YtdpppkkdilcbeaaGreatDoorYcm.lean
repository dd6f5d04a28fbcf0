/- Both ways of asking whether a tree may be, plainly; both counts. -/
import Derived.Test.YtdpppkkdilcbeaaGreatDoorYam
namespace Go.Proofs.YtdpppkkdilcbeaaGreatDoor
open Go.RowKit
set_option linter.unusedVariables false
set_option linter.unusedSimpArgs false

/-- what the reference's may answers, so deep -/
def rm : Ex → Nat → Bool
  | .mk k n t b e rs ks, d => decide (d ≤ 50) && (mayN (.mk k n t b e rs ks) && rmL ks (d + 1))
  where
  rmL : List Ex → Nat → Bool
  | [], _ => true
  | x :: xs, d => rm x d && rmL xs d
theorem rmL_all (ks : List Ex) (d : Nat) : rm.rmL ks d = ks.all (fun x => rm x d) := by
  induction ks with
  | nil => rfl
  | cons x xs ih => rw [rm.rmL, ih]; rfl
theorem rm_shl : ∀ (x : Ex) (d m : Nat), d + m = 51 → rm x d = (shl m x && mall mayN x)
  | .mk k n t b e rs ks, d, m, h => by
    rw [rm, mall]
    cases m with
    | zero =>
      rw [decide_eq_false (by omega), Bool.false_and]
      rfl
    | succ m =>
      rw [decide_eq_true (by omega), Bool.true_and, go ks (d + 1) m (by omega)]
      show _ = (ks.all (shl m) && _)
      cases mayN (.mk k n t b e rs ks) <;> cases ks.all (shl m) <;> simp
  where
  go : ∀ (ks : List Ex) (d m : Nat), d + m = 51 → rm.rmL ks d = (ks.all (shl m) && mall.mallL mayN ks)
  | [], _, _, _ => by rw [rm.rmL, mall.mallL]; rfl
  | x :: xs, d, m, h => by
    rw [rm.rmL, rm_shl x d m h, go xs d m h, mall.mallL, List.all_cons]
    cases shl m x <;> cases mall mayN x <;> cases xs.all (shl m) <;> simp
/-- the reference's count, as far as its cap goes -/
theorem cnt_nodes : ∀ (x : Ex) (n : Nat), n ≤ 200 → min (cnt x n) 201 = min (n + nodes x) 201
  | .mk k m t b e rs ks, n, h => by
    rw [cnt, nodes, go ks (n + 1) (by omega)]
    congr 1
    omega
  where
  go : ∀ (ks : List Ex) (n : Nat), n ≤ 201 → min (cnt.cntL ks n) 201 = min (n + nodes.nodesL ks) 201
  | [], n, _ => by rw [cnt.cntL, nodes.nodesL, Nat.add_zero]
  | x :: xs, n, h => by
    rw [cnt.cntL, nodes.nodesL]
    split
    · rename_i h'
      have h1 := cnt_nodes x n h'
      have h2 := cnt_le x n h'
      rw [go xs (cnt x n) h2]
      omega
    · omega
end Go.Proofs.YtdpppkkdilcbeaaGreatDoor
