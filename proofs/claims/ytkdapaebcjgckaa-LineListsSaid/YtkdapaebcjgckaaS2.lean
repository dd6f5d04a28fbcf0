/- counterpanelaw3.LineSides: the walk: what is no case; what is held in the loop. -/
import Derived.Test.YtkdapaebcjgckaaS1
namespace Go.Proofs.Ytkdapaebcjgckaa
open Go.RowKit
set_option linter.unusedVariables false
set_option linter.unusedSimpArgs false

theorem transform_tup (k a t k' a' t' : Int) (pr : Bool) (w : World) : Calls Try.prog 13 #[.agg #[.int .i64 k, .int .i64 a, .int .i64 t], .agg #[.int .i64 k', .int .i64 a', .int .i64 t'], .bool pr] w
    fun e w' => e = .returned (.tuple #[.agg #[.int .i64 (trK k a t k' a' t' pr), .int .i64 (trA k a t k' a' t' pr), .int .i64 (trT k a t k' a' t' pr)], .bool (trB k a t k' a' t' pr)]) ∧ Q w w' := transform_any k a t k' a' t' pr w

/-- the numbers that are tried -/
def nr (i a t a' t' : Int) (n : Nat) : Int := [i, a, a', t, t', a + 1, a' + 1, t - 1, t' - 1, i % 8, 0].getD n 0
theorem nr_le {i a t a' t' : Int} (h0 : 0 ≤ i) (h1 : i ≤ 1125899906842624) (h2 : a ≤ 1099511627776) (h3 : t ≤ 1099511627776) (h4 : a' ≤ 1099511627776) (h5 : t' ≤ 1099511627776) (n : Nat) : nr i a t a' t' n ≤ 1125899906842624 := by
  unfold nr
  match n with
  | 0 => exact h1
  | 1 => show a ≤ _; omega
  | 2 => show a' ≤ _; omega
  | 3 => show t ≤ _; omega
  | 4 => show t' ≤ _; omega
  | 5 => show a + 1 ≤ _; omega
  | 6 => show a' + 1 ≤ _; omega
  | 7 => show t - 1 ≤ _; omega
  | 8 => show t' - 1 ≤ _; omega
  | 9 => show i % 8 ≤ _; omega
  | 10 => show (0 : Int) ≤ _; omega
  | n + 11 => simp
/-- two boxes -/
structure J2 (w : World) (k a t k' a' t' : Int) (W : World) : Prop where
  q : Q w W
  l : Lb W w.heap.size k a t
  m : Lb W (w.heap.size + 1) k' a' t'
theorem J2.on {w W W' : World} {k a t k' a' t' : Int} (h : J2 w k a t k' a' t' W) (g : Q W W') : J2 w k a t k' a' t' W' := ⟨h.q.trans g, h.l.on g, h.m.on g⟩
theorem j2_new (w : World) (k a t k' a' t' : Int) : J2 w k a t k' a' t' ((w.alloc (.cells #[.int .i64 k, .int .i64 a, .int .i64 t] 23)).alloc (.cells #[.int .i64 k', .int .i64 a', .int .i64 t'] 23)) := by
  refine ⟨((Q.refl _).alloc _).alloc _, (lb_new _ _ _ _).alloc _, ?_⟩
  have h := lb_new (w.alloc (.cells #[.int .i64 k, .int .i64 a, .int .i64 t] 23)) k' a' t'
  rw [World.size_alloc] at h
  exact h
/-- four boxes and a list of numbers -/
structure J4 (w : World) (bx by' sb : Nat) (k a t k' a' t' x0 x1 x2 y0 y1 y2 : Int) (f : Nat → Int) (W : World) : Prop where
  j : J2 w k a t k' a' t' W
  x : Lb W bx x0 x1 x2
  y : Lb W by' y0 y1 y2
  s : ∀ n, n < 11 → W.cell? ⟨sb, n, none⟩ = some (.int .i64 (f n))
theorem J4.on {w W W' : World} {bx by' sb : Nat} {k a t k' a' t' x0 x1 x2 y0 y1 y2 : Int} {f : Nat → Int} (h : J4 w bx by' sb k a t k' a' t' x0 x1 x2 y0 y1 y2 f W) (g : Q W W') : J4 w bx by' sb k a t k' a' t' x0 x1 x2 y0 y1 y2 f W' :=
  ⟨h.j.on g, h.x.on g, h.y.on g, fun n hn => (g.cell (World.block_lt_of_cell? W ⟨sb, n, none⟩ (h.s n hn))).trans (h.s n hn)⟩
theorem J4.drew {w W : World} {bx by' sb : Nat} {k a t k' a' t' x0 x1 x2 y0 y1 y2 : Int} {f : Nat → Int} (h : J4 w bx by' sb k a t k' a' t' x0 x1 x2 y0 y1 y2 f W) : J4 w bx by' sb k a t k' a' t' x0 x1 x2 y0 y1 y2 f W.drew := h.on (Q.refl _).drew
theorem nr_new (W : World) (i a t a' t' : Int) (n : Nat) (hn : n < 11) :
    (W.alloc (.cells #[.int .i64 i, .int .i64 a, .int .i64 a', .int .i64 t, .int .i64 t', .int .i64 (a + 1), .int .i64 (a' + 1), .int .i64 (t - 1), .int .i64 (t' - 1), .int .i64 (i % 8), .int .i64 0] 2)).cell? ⟨W.heap.size, n, none⟩ = some (.int .i64 (nr i a t a' t' n)) := by
  unfold nr
  match n, hn with
  | 0, _ => simp [World.cell?_alloc_new]
  | 1, _ => simp [World.cell?_alloc_new]
  | 2, _ => simp [World.cell?_alloc_new]
  | 3, _ => simp [World.cell?_alloc_new]
  | 4, _ => simp [World.cell?_alloc_new]
  | 5, _ => simp [World.cell?_alloc_new]
  | 6, _ => simp [World.cell?_alloc_new]
  | 7, _ => simp [World.cell?_alloc_new]
  | 8, _ => simp [World.cell?_alloc_new]
  | 9, _ => simp [World.cell?_alloc_new]
  | 10, _ => simp [World.cell?_alloc_new]

set_option maxRecDepth 100000 in
set_option maxHeartbeats 2000000 in
theorem sides_out (k a t k' a' t' i : Int) (w : World)
    (h : mayB k a t = false ∨ mayB k a t = true ∧ (mayB k' a' t' = false ∨ mayB k' a' t' = true ∧ (1099511627776 < a ∨ a ≤ 1099511627776 ∧ (1099511627776 < t ∨ t ≤ 1099511627776 ∧ (1099511627776 < a' ∨ a' ≤ 1099511627776 ∧ (1099511627776 < t' ∨ t' ≤ 1099511627776 ∧ (i < 0 ∨ 0 ≤ i ∧ 1125899906842624 < i))))))) :
    Calls Try.prog 5 #[.agg #[.int .i64 k, .int .i64 a, .int .i64 t], .agg #[.int .i64 k', .int .i64 a', .int .i64 t'], .int .i64 i] w fun e w' => e = .returned (.bool true) ∧ Q w w' := by
  have J := hid (j2_new w k a t k' a' t')
  rcases h with hm | ⟨hm, hm' | ⟨hm', h | ⟨g0, h | ⟨g1, h | ⟨g2, h | ⟨g3, h | ⟨g4, h⟩⟩⟩⟩⟩⟩⟩
  all_goals
    go_enter Try.func5, Try.ntmps5
    go_wp2_with (first
      | (go_at_call 9; refine (begun_any _).mono ?_; rintro e w1 ⟨rfl, q1⟩; replace J := hid (J.out.on q1); clear q1; have s0 := J.out.l.c0; have s1 := J.out.l.c1; have s2 := J.out.l.c2; have s3 := J.out.m.c0; have s4 := J.out.m.c1; have s5 := J.out.m.c2; have z0 := J.out.l.lt; have z1 := J.out.m.lt)
      | (go_at_call 11; refine (rmay_any _ _ _ _).mono ?_; rintro r w4 ⟨rfl, rfl⟩))
    go_ret
    exact ⟨rfl, by repeat' (first | with_reducible exact J.out.q | with_reducible refine Q.alloc ?_ _)⟩
end Go.Proofs.Ytkdapaebcjgckaa
