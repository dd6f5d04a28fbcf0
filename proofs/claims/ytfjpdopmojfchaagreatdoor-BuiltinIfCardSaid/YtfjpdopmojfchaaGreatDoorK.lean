/- A number of six digits by a magnitude: the product, where it has room. -/
import Derived.Test.YtfjpdopmojfchaaGreatDoorI
import Derived.Deep.RegionHeld
namespace Go.Proofs.YtfjpdopmojfchaaGreatDoor
open Go.RowKit
theorem prod_bound (a b : Int) (a0 : 0 ≤ a) (a1 : a < 4294967296) (b0 : 0 ≤ b) (b1 : b < 4294967296) : 0 ≤ a * b ∧ a * b ≤ 18446744065119617025 := by
  refine ⟨Int.mul_nonneg a0 b0, ?_⟩
  have h := Int.mul_le_mul (show a ≤ 4294967295 by omega) (show b ≤ 4294967295 by omega) b0 (by omega)
  omega
theorem prod_split (a b0 b1 n : Int) (hn : n = b0 + b1 * 4294967296) : a * n = a * b0 + a * b1 * 4294967296 := by
  rw [hn, Int.mul_add, ← Int.mul_assoc]
theorem prod_all (a0 a1 a2 a3 a4 a5 a n : Int) (ea : a = a0 + a1 * 4294967296 + a2 * 18446744073709551616 + a3 * 79228162514264337593543950336 + a4 * 340282366920938463463374607431768211456 + a5 * 1461501637330902918203684832716283019655932542976) :
    a * n = a0 * n + a1 * n * 4294967296 + a2 * n * 18446744073709551616 + a3 * n * 79228162514264337593543950336 + a4 * n * 340282366920938463463374607431768211456 + a5 * n * 1461501637330902918203684832716283019655932542976 := by
  rw [ea, Int.add_mul, Int.add_mul, Int.add_mul, Int.add_mul, Int.add_mul, Int.mul_right_comm a1, Int.mul_right_comm a2, Int.mul_right_comm a3, Int.mul_right_comm a4, Int.mul_right_comm a5]
/-- six cells of one block hold the digits, and may be written -/
structure Row (W : World) (b : Nat) (r0 r1 r2 r3 r4 r5 : Int) : Prop where
  c0 : W.cell? ⟨b, 0, none⟩ = some (.int .u64 r0)
  c1 : W.cell? ⟨b, 1, none⟩ = some (.int .u64 r1)
  c2 : W.cell? ⟨b, 2, none⟩ = some (.int .u64 r2)
  c3 : W.cell? ⟨b, 3, none⟩ = some (.int .u64 r3)
  c4 : W.cell? ⟨b, 4, none⟩ = some (.int .u64 r4)
  c5 : W.cell? ⟨b, 5, none⟩ = some (.int .u64 r5)
  f0 : W.frozen? ⟨b, 0, none⟩ = false
  f1 : W.frozen? ⟨b, 1, none⟩ = false
  f2 : W.frozen? ⟨b, 2, none⟩ = false
  f3 : W.frozen? ⟨b, 3, none⟩ = false
  f4 : W.frozen? ⟨b, 4, none⟩ = false
  f5 : W.frozen? ⟨b, 5, none⟩ = false
  big : b < W.heap.size
theorem Row.drew {W : World} {b : Nat} {r0 r1 r2 r3 r4 r5 : Int} (h : Row W b r0 r1 r2 r3 r4 r5) : Row W.drew b r0 r1 r2 r3 r4 r5 :=
  ⟨h.c0, h.c1, h.c2, h.c3, h.c4, h.c5, h.f0, h.f1, h.f2, h.f3, h.f4, h.f5, h.big⟩
theorem Row.far {W : World} {b b' k : Nat} {v : Value} {r0 r1 r2 r3 r4 r5 : Int} (h : Row W b r0 r1 r2 r3 r4 r5) (hb : b' ≠ b) : Row (W.setCell ⟨b', k, none⟩ v) b r0 r1 r2 r3 r4 r5 := by
  constructor
  all_goals first
    | (rw [World.cell?_setCell_far _ _ _ _ hb]; first | exact h.c0 | exact h.c1 | exact h.c2 | exact h.c3 | exact h.c4 | exact h.c5)
    | (rw [World.frozen?_setCell]; first | exact h.f0 | exact h.f1 | exact h.f2 | exact h.f3 | exact h.f4 | exact h.f5)
    | (rw [World.size_setCell]; exact h.big)
theorem Row.set0 {W : World} {b : Nat} {v r0 r1 r2 r3 r4 r5 : Int} (h : Row W b r0 r1 r2 r3 r4 r5) : Row (W.setCell ⟨b, 0, none⟩ (.int .u64 v)) b v r1 r2 r3 r4 r5 := by
  constructor
  · exact World.cell?_setCell_same _ _ _ h.c0
  · rw [World.cell?_setCell_other _ _ _ _ (by simp)]; exact h.c1
  · rw [World.cell?_setCell_other _ _ _ _ (by simp)]; exact h.c2
  · rw [World.cell?_setCell_other _ _ _ _ (by simp)]; exact h.c3
  · rw [World.cell?_setCell_other _ _ _ _ (by simp)]; exact h.c4
  · rw [World.cell?_setCell_other _ _ _ _ (by simp)]; exact h.c5
  · rw [World.frozen?_setCell]; exact h.f0
  · rw [World.frozen?_setCell]; exact h.f1
  · rw [World.frozen?_setCell]; exact h.f2
  · rw [World.frozen?_setCell]; exact h.f3
  · rw [World.frozen?_setCell]; exact h.f4
  · rw [World.frozen?_setCell]; exact h.f5
  · rw [World.size_setCell]; exact h.big
theorem Row.set1 {W : World} {b : Nat} {v r0 r1 r2 r3 r4 r5 : Int} (h : Row W b r0 r1 r2 r3 r4 r5) : Row (W.setCell ⟨b, 1, none⟩ (.int .u64 v)) b r0 v r2 r3 r4 r5 := by
  constructor
  · rw [World.cell?_setCell_other _ _ _ _ (by simp)]; exact h.c0
  · exact World.cell?_setCell_same _ _ _ h.c1
  · rw [World.cell?_setCell_other _ _ _ _ (by simp)]; exact h.c2
  · rw [World.cell?_setCell_other _ _ _ _ (by simp)]; exact h.c3
  · rw [World.cell?_setCell_other _ _ _ _ (by simp)]; exact h.c4
  · rw [World.cell?_setCell_other _ _ _ _ (by simp)]; exact h.c5
  · rw [World.frozen?_setCell]; exact h.f0
  · rw [World.frozen?_setCell]; exact h.f1
  · rw [World.frozen?_setCell]; exact h.f2
  · rw [World.frozen?_setCell]; exact h.f3
  · rw [World.frozen?_setCell]; exact h.f4
  · rw [World.frozen?_setCell]; exact h.f5
  · rw [World.size_setCell]; exact h.big
theorem Row.set2 {W : World} {b : Nat} {v r0 r1 r2 r3 r4 r5 : Int} (h : Row W b r0 r1 r2 r3 r4 r5) : Row (W.setCell ⟨b, 2, none⟩ (.int .u64 v)) b r0 r1 v r3 r4 r5 := by
  constructor
  · rw [World.cell?_setCell_other _ _ _ _ (by simp)]; exact h.c0
  · rw [World.cell?_setCell_other _ _ _ _ (by simp)]; exact h.c1
  · exact World.cell?_setCell_same _ _ _ h.c2
  · rw [World.cell?_setCell_other _ _ _ _ (by simp)]; exact h.c3
  · rw [World.cell?_setCell_other _ _ _ _ (by simp)]; exact h.c4
  · rw [World.cell?_setCell_other _ _ _ _ (by simp)]; exact h.c5
  · rw [World.frozen?_setCell]; exact h.f0
  · rw [World.frozen?_setCell]; exact h.f1
  · rw [World.frozen?_setCell]; exact h.f2
  · rw [World.frozen?_setCell]; exact h.f3
  · rw [World.frozen?_setCell]; exact h.f4
  · rw [World.frozen?_setCell]; exact h.f5
  · rw [World.size_setCell]; exact h.big
theorem Row.set3 {W : World} {b : Nat} {v r0 r1 r2 r3 r4 r5 : Int} (h : Row W b r0 r1 r2 r3 r4 r5) : Row (W.setCell ⟨b, 3, none⟩ (.int .u64 v)) b r0 r1 r2 v r4 r5 := by
  constructor
  · rw [World.cell?_setCell_other _ _ _ _ (by simp)]; exact h.c0
  · rw [World.cell?_setCell_other _ _ _ _ (by simp)]; exact h.c1
  · rw [World.cell?_setCell_other _ _ _ _ (by simp)]; exact h.c2
  · exact World.cell?_setCell_same _ _ _ h.c3
  · rw [World.cell?_setCell_other _ _ _ _ (by simp)]; exact h.c4
  · rw [World.cell?_setCell_other _ _ _ _ (by simp)]; exact h.c5
  · rw [World.frozen?_setCell]; exact h.f0
  · rw [World.frozen?_setCell]; exact h.f1
  · rw [World.frozen?_setCell]; exact h.f2
  · rw [World.frozen?_setCell]; exact h.f3
  · rw [World.frozen?_setCell]; exact h.f4
  · rw [World.frozen?_setCell]; exact h.f5
  · rw [World.size_setCell]; exact h.big
theorem Row.set4 {W : World} {b : Nat} {v r0 r1 r2 r3 r4 r5 : Int} (h : Row W b r0 r1 r2 r3 r4 r5) : Row (W.setCell ⟨b, 4, none⟩ (.int .u64 v)) b r0 r1 r2 r3 v r5 := by
  constructor
  · rw [World.cell?_setCell_other _ _ _ _ (by simp)]; exact h.c0
  · rw [World.cell?_setCell_other _ _ _ _ (by simp)]; exact h.c1
  · rw [World.cell?_setCell_other _ _ _ _ (by simp)]; exact h.c2
  · rw [World.cell?_setCell_other _ _ _ _ (by simp)]; exact h.c3
  · exact World.cell?_setCell_same _ _ _ h.c4
  · rw [World.cell?_setCell_other _ _ _ _ (by simp)]; exact h.c5
  · rw [World.frozen?_setCell]; exact h.f0
  · rw [World.frozen?_setCell]; exact h.f1
  · rw [World.frozen?_setCell]; exact h.f2
  · rw [World.frozen?_setCell]; exact h.f3
  · rw [World.frozen?_setCell]; exact h.f4
  · rw [World.frozen?_setCell]; exact h.f5
  · rw [World.size_setCell]; exact h.big
theorem Row.set5 {W : World} {b : Nat} {v r0 r1 r2 r3 r4 r5 : Int} (h : Row W b r0 r1 r2 r3 r4 r5) : Row (W.setCell ⟨b, 5, none⟩ (.int .u64 v)) b r0 r1 r2 r3 r4 v := by
  constructor
  · rw [World.cell?_setCell_other _ _ _ _ (by simp)]; exact h.c0
  · rw [World.cell?_setCell_other _ _ _ _ (by simp)]; exact h.c1
  · rw [World.cell?_setCell_other _ _ _ _ (by simp)]; exact h.c2
  · rw [World.cell?_setCell_other _ _ _ _ (by simp)]; exact h.c3
  · rw [World.cell?_setCell_other _ _ _ _ (by simp)]; exact h.c4
  · exact World.cell?_setCell_same _ _ _ h.c5
  · rw [World.frozen?_setCell]; exact h.f0
  · rw [World.frozen?_setCell]; exact h.f1
  · rw [World.frozen?_setCell]; exact h.f2
  · rw [World.frozen?_setCell]; exact h.f3
  · rw [World.frozen?_setCell]; exact h.f4
  · rw [World.frozen?_setCell]; exact h.f5
  · rw [World.size_setCell]; exact h.big
theorem Row.on {W W' : World} {b : Nat} {r0 r1 r2 r3 r4 r5 : Int} (h : Row W b r0 r1 r2 r3 r4 r5) (q : Q W W') : Row W' b r0 r1 r2 r3 r4 r5 := by
  have hb := h.big
  constructor
  · rw [q.cell hb]; exact h.c0
  · rw [q.cell hb]; exact h.c1
  · rw [q.cell hb]; exact h.c2
  · rw [q.cell hb]; exact h.c3
  · rw [q.cell hb]; exact h.c4
  · rw [q.cell hb]; exact h.c5
  · rw [Below.frozen q (p := ⟨b, 0, none⟩) hb]; exact h.f0
  · rw [Below.frozen q (p := ⟨b, 1, none⟩) hb]; exact h.f1
  · rw [Below.frozen q (p := ⟨b, 2, none⟩) hb]; exact h.f2
  · rw [Below.frozen q (p := ⟨b, 3, none⟩) hb]; exact h.f3
  · rw [Below.frozen q (p := ⟨b, 4, none⟩) hb]; exact h.f4
  · rw [Below.frozen q (p := ⟨b, 5, none⟩) hb]; exact h.f5
  · exact q.lt hb
theorem Q.setCell {a w : World} (h : Q a w) {b k : Nat} (hb : a.heap.size ≤ b) (v : Value) : Q a (w.setCell ⟨b, k, none⟩ v) := Below.setCell h hb v
end Go.Proofs.YtfjpdopmojfchaaGreatDoor
