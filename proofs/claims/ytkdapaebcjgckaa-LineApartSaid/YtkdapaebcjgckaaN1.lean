/- counterpanelaw3.LineApart: the walk. -/
import Derived.Test.YtkdapaebcjgckaaN
import Derived.Test.YtkdapaebcjgckaaM
namespace Go.Proofs.Ytkdapaebcjgckaa
open Go.RowKit
set_option linter.unusedVariables false
set_option linter.unusedSimpArgs false

/-- one box, and nothing old has turned -/
structure J1 (w : World) (k a t : Int) (W : World) : Prop where
  q : Q w W
  x : Lb W w.heap.size k a t
theorem J1.on {w W W' : World} {k a t : Int} (h : J1 w k a t W) (g : Q W W') : J1 w k a t W' := ⟨h.q.trans g, h.x.on g⟩
theorem J1.drew {w W : World} {k a t : Int} (h : J1 w k a t W) : J1 w k a t W.drew := h.on (Q.refl _).drew
theorem j1_new (w : World) (k a t : Int) : J1 w k a t (w.alloc (.cells #[.int .i64 k, .int .i64 a, .int .i64 t] 23)) := ⟨(Q.refl _).alloc _, lb_new _ _ _ _⟩
/-- the cells of a box -/
def Ce (b : Nat) (k a t : Int) (W : World) : Prop := W.cell? ⟨b, 0, none⟩ = some (.int .i64 k) ∧ W.cell? ⟨b, 1, none⟩ = some (.int .i64 a) ∧ W.cell? ⟨b, 2, none⟩ = some (.int .i64 t)

set_option maxHeartbeats 2000000 in
theorem apart_out (k a t i j : Int) (w : World) (h : mayB k a t = false ∨ mayB k a t = true ∧ (i < 0 ∨ 0 ≤ i ∧ j < 0 ∨ 0 ≤ i ∧ 0 ≤ j ∧ 576460752303423488 < i ∨ 0 ≤ i ∧ 0 ≤ j ∧ i ≤ 576460752303423488 ∧ 576460752303423488 < j)) :
    Calls Try.prog 3 #[.agg #[.int .i64 k, .int .i64 a, .int .i64 t], .int .i64 i, .int .i64 j] w fun e w' => e = .returned (.bool true) ∧ Q w w' := by
  have J := hid (j1_new w k a t)
  rcases h with hm | ⟨hm, h | ⟨g0, h⟩ | ⟨g0, g1, h⟩ | ⟨g0, g1, g2, h⟩⟩
  all_goals
    go_enter Try.func3, Try.ntmps3
    go_wp2_with fail
    go_upto_region 4 with (go_at_call 9; refine (begun_any _).mono ?_; rintro e w1 ⟨rfl, q1⟩; replace J := hid (J.out.on q1); clear q1)
    have hk0 : Hid (w1.drew.cell? ⟨w.heap.size, 0, none⟩ = some (.int .i64 k) ∧ w1.drew.cell? ⟨w.heap.size, 1, none⟩ = some (.int .i64 a) ∧ w1.drew.cell? ⟨w.heap.size, 2, none⟩ = some (.int .i64 t)) := ⟨J.out.x.c0, J.out.x.c1, J.out.x.c2⟩
    go_region_held3 (fun W => (W.cell? ⟨w.heap.size, 0, none⟩ = some (.int .i64 k) ∧ W.cell? ⟨w.heap.size, 1, none⟩ = some (.int .i64 a) ∧ W.cell? ⟨w.heap.size, 2, none⟩ = some (.int .i64 t))) (with_reducible (first | exact hk0.out | exact hk1.out | exact hk2.out))
      (first
        | (go_at_call_of 10 i; refine (index_any _ _ _ _ _).mono ?_; rintro r w2 ⟨rfl, q2⟩; replace J := hid (J.out.drew.on q2); clear q2; have hk1 : Hid (w2.cell? ⟨w.heap.size, 0, none⟩ = some (.int .i64 k) ∧ w2.cell? ⟨w.heap.size, 1, none⟩ = some (.int .i64 a) ∧ w2.cell? ⟨w.heap.size, 2, none⟩ = some (.int .i64 t)) := ⟨J.out.x.c0, J.out.x.c1, J.out.x.c2⟩)
        | (go_at_call_of 10 j; refine (index_any _ _ _ _ _).mono ?_; rintro r w3 ⟨rfl, q3⟩; replace J := hid (J.out.on q3); clear q3; have hk2 : Hid (w3.cell? ⟨w.heap.size, 0, none⟩ = some (.int .i64 k) ∧ w3.cell? ⟨w.heap.size, 1, none⟩ = some (.int .i64 a) ∧ w3.cell? ⟨w.heap.size, 2, none⟩ = some (.int .i64 t)) := ⟨J.out.x.c0, J.out.x.c1, J.out.x.c2⟩))
    have s0 := J.out.x.c0
    have s1 := J.out.x.c1
    have s2 := J.out.x.c2
    go_wp2_with (go_at_call 11; refine (rmay_any _ _ _ _).mono ?_; rintro r w4 ⟨rfl, rfl⟩)
    go_ret
    exact ⟨rfl, J.out.q.alloc _⟩
end Go.Proofs.Ytkdapaebcjgckaa
