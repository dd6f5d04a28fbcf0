/- BuiltinIf: two regions that draw their order: what holds whatever has come up. -/
import Derived.Test.YtfjpdopmojfchaaGreatDoorBo
import Derived.Test.YtfjpdopmojfchaaGreatDoorCa
import Derived.Test.YtfjpdopmojfchaaGreatDoorIv
namespace Go.Proofs.YtfjpdopmojfchaaGreatDoor
open Go.RowKit
set_option linter.unusedVariables false
set_option linter.unusedSimpArgs false

/-- one after the other -/
def SL (S : Nat → Oper → Prop) : Nat → List Oper → Prop
  | _, [] => True
  | k, o :: r => S k o ∧ SL S (k + 1) r
theorem sl_get {S : Nat → Oper → Prop} : ∀ (l : List Oper) (k : Nat), SL S k l → ∀ i o, l[i]? = some o → S (k + i) o
  | [], _, _, i, o, h => by simp at h
  | a :: l, k, hs, i, o, h => by
    cases i with
    | zero => simp at h; subst h; exact hs.1
    | succ i =>
      have := sl_get l (k + 1) hs.2 i o (by simpa using h)
      rw [show k + (i + 1) = k + 1 + i by omega]
      exact this
theorem steps_list {S : Nat → Oper → Prop} {l : List Oper} (h : SL S 0 l) : ∀ i o, l.toArray[i]? = some o → S i o := fun i o ho => by
  have := sl_get l 0 h i o (by simpa using ho)
  rwa [Nat.zero_add] at this
structure I7 (w : World) (c : Bool) (x z Y : Cv) (L : Nat → Bool) (v : Nat → Value) (W : World) : Prop where
  bp : Bp w x z W
  e0 : L 0 = true → v 26 = .bool c
  e1 : L 1 = true → v 27 = (bo c).v
  e2 : L 2 = true → L 7 = false → ∃ s, v 28 = .agg #[.bool false, s] ∧ Ob W s (bo c)
  e3 : L 3 = true → v 29 = x.v
  e4 : L 4 = true → L 7 = false → ∃ s, v 30 = .agg #[.bool false, s] ∧ Ob W s x
  e5 : L 5 = true → v 31 = z.v
  e6 : L 6 = true → L 7 = false → ∃ s, v 32 = .agg #[.bool false, s] ∧ Ob W s z
  e7 : L 7 = true → L 8 = false → ∃ s0 s1 s2, ∃ sl, v 33 = sl ∧ Args W sl (sg [(s0, bo c), (s1, x), (s2, z)])
  e8 : L 8 = true → v 34 = Y.v
  e9 : L 9 = true → ∃ g, v 8 = .pointer (some ⟨g, 0, none⟩) ∧ w.heap.size + 1 < g ∧ (L 10 = false → Bx W g (.int .i64 0) (.int .i64 0) (.string ⟨#[]⟩) (.bool false) (.int .i64 0)) ∧ (L 10 = true → Bx W g (.int .i64 Y.k) (.int .i64 Y.n) (.string Y.t) (.bool Y.b) (.int .i64 Y.e))
  e10 : L 10 = true → L 9 = true ∧ L 8 = true
  l7 : L 8 = true → L 7 = true
theorem I7.on {w W W' : World} {c : Bool} {x z Y : Cv} {L : Nat → Bool} {v : Nat → Value} (J : I7 w c x z Y L v W) (q : Q W W') : I7 w c x z Y L v W' :=
  ⟨(J.bp.on q), (J.e0), (J.e1), (fun a b => (J.e2 a b).imp fun _ h => ⟨h.1, h.2.on q⟩), (J.e3), (fun a b => (J.e4 a b).imp fun _ h => ⟨h.1, h.2.on q⟩), (J.e5), (fun a b => (J.e6 a b).imp fun _ h => ⟨h.1, h.2.on q⟩), (fun a b => by obtain ⟨s0, s1, s2, sl, h, h2⟩ := J.e7 a b; exact ⟨s0, s1, s2, sl, h, h2.on q⟩), (J.e8), (fun a => by obtain ⟨g, h, h1, h2, h3⟩ := J.e9 a; exact ⟨g, h, h1, fun b => (h2 b).on q, fun b => (h3 b).on q⟩), (J.e10), (J.l7)⟩
theorem I7.s0 {w W : World} {c : Bool} {x z Y : Cv} {L : Nat → Bool} {v : Nat → Value} {u : Value} (J : I7 w c x z Y L v W) (e : u = .bool c) : I7 w c x z Y (ul L 0) (up v 26 u) W :=
  ⟨(J.bp),
    (by intro _; rw [up_same]; exact e),
    (J.e1),
    (J.e2),
    (J.e3),
    (J.e4),
    (J.e5),
    (J.e6),
    (J.e7),
    (J.e8),
    (J.e9),
    (J.e10),
    (J.l7)⟩
theorem I7.s1 {w W : World} {c : Bool} {x z Y : Cv} {L : Nat → Bool} {v : Nat → Value} {u : Value} (J : I7 w c x z Y L v W) (e : u = (bo c).v) : I7 w c x z Y (ul L 1) (up v 27 u) W :=
  ⟨(J.bp),
    (J.e0),
    (by intro _; rw [up_same]; exact e),
    (J.e2),
    (J.e3),
    (J.e4),
    (J.e5),
    (J.e6),
    (J.e7),
    (J.e8),
    (J.e9),
    (J.e10),
    (J.l7)⟩
theorem I7.s2 {w W : World} {c : Bool} {x z Y : Cv} {L : Nat → Bool} {v : Nat → Value} {u : Value} (J : I7 w c x z Y L v W) (e : ∃ s, u = .agg #[.bool false, s] ∧ Ob W s (bo c)) : I7 w c x z Y (ul L 2) (up v 28 u) W :=
  ⟨(J.bp),
    (J.e0),
    (J.e1),
    (by intro _ _; rw [up_same]; exact e),
    (J.e3),
    (J.e4),
    (J.e5),
    (J.e6),
    (J.e7),
    (J.e8),
    (J.e9),
    (J.e10),
    (J.l7)⟩
theorem I7.s3 {w W : World} {c : Bool} {x z Y : Cv} {L : Nat → Bool} {v : Nat → Value} {u : Value} (J : I7 w c x z Y L v W) (e : u = x.v) : I7 w c x z Y (ul L 3) (up v 29 u) W :=
  ⟨(J.bp),
    (J.e0),
    (J.e1),
    (J.e2),
    (by intro _; rw [up_same]; exact e),
    (J.e4),
    (J.e5),
    (J.e6),
    (J.e7),
    (J.e8),
    (J.e9),
    (J.e10),
    (J.l7)⟩
theorem I7.s4 {w W : World} {c : Bool} {x z Y : Cv} {L : Nat → Bool} {v : Nat → Value} {u : Value} (J : I7 w c x z Y L v W) (e : ∃ s, u = .agg #[.bool false, s] ∧ Ob W s x) : I7 w c x z Y (ul L 4) (up v 30 u) W :=
  ⟨(J.bp),
    (J.e0),
    (J.e1),
    (J.e2),
    (J.e3),
    (by intro _ _; rw [up_same]; exact e),
    (J.e5),
    (J.e6),
    (J.e7),
    (J.e8),
    (J.e9),
    (J.e10),
    (J.l7)⟩
theorem I7.s5 {w W : World} {c : Bool} {x z Y : Cv} {L : Nat → Bool} {v : Nat → Value} {u : Value} (J : I7 w c x z Y L v W) (e : u = z.v) : I7 w c x z Y (ul L 5) (up v 31 u) W :=
  ⟨(J.bp),
    (J.e0),
    (J.e1),
    (J.e2),
    (J.e3),
    (J.e4),
    (by intro _; rw [up_same]; exact e),
    (J.e6),
    (J.e7),
    (J.e8),
    (J.e9),
    (J.e10),
    (J.l7)⟩
theorem I7.s6 {w W : World} {c : Bool} {x z Y : Cv} {L : Nat → Bool} {v : Nat → Value} {u : Value} (J : I7 w c x z Y L v W) (e : ∃ s, u = .agg #[.bool false, s] ∧ Ob W s z) : I7 w c x z Y (ul L 6) (up v 32 u) W :=
  ⟨(J.bp),
    (J.e0),
    (J.e1),
    (J.e2),
    (J.e3),
    (J.e4),
    (J.e5),
    (by intro _ _; rw [up_same]; exact e),
    (J.e7),
    (J.e8),
    (J.e9),
    (J.e10),
    (J.l7)⟩
theorem I7.s7 {w W : World} {c : Bool} {x z Y : Cv} {L : Nat → Bool} {v : Nat → Value} {u : Value} (J : I7 w c x z Y L v W) (e : ∃ s0 s1 s2, ∃ sl, u = sl ∧ Args W sl (sg [(s0, bo c), (s1, x), (s2, z)])) : I7 w c x z Y (ul L 7) (up v 33 u) W :=
  ⟨(J.bp),
    (J.e0),
    (J.e1),
    (fun _ h => by rw [ul_same] at h; cases h),
    (J.e3),
    (fun _ h => by rw [ul_same] at h; cases h),
    (J.e5),
    (fun _ h => by rw [ul_same] at h; cases h),
    (by intro _ _; rw [up_same]; exact e),
    (J.e8),
    (J.e9),
    (J.e10),
    (fun _ => ul_same)⟩
theorem I7.s8 {w W : World} {c : Bool} {x z Y : Cv} {L : Nat → Bool} {v : Nat → Value} {u : Value} (J : I7 w c x z Y L v W) (hb : L 7 = true) (e : u = Y.v) : I7 w c x z Y (ul L 8) (up v 34 u) W :=
  ⟨(J.bp),
    (J.e0),
    (J.e1),
    (J.e2),
    (J.e3),
    (J.e4),
    (J.e5),
    (J.e6),
    (fun _ h => by rw [ul_same] at h; cases h),
    (by intro _; rw [up_same]; exact e),
    (J.e9),
    (fun a => ⟨(J.e10 a).1, ul_same⟩),
    (fun _ => by rw [ul_ne (by decide)]; exact hb)⟩
theorem I7.s9 {w W : World} {c : Bool} {x z Y : Cv} {L : Nat → Bool} {v : Nat → Value} {u : Value} (J : I7 w c x z Y L v W) (hL : L 9 = false) (e : ∃ g, u = .pointer (some ⟨g, 0, none⟩) ∧ w.heap.size + 1 < g ∧ Bx W g (.int .i64 0) (.int .i64 0) (.string ⟨#[]⟩) (.bool false) (.int .i64 0)) : I7 w c x z Y (ul L 9) (up v 8 u) W :=
  ⟨(J.bp),
    (J.e0),
    (J.e1),
    (J.e2),
    (J.e3),
    (J.e4),
    (J.e5),
    (J.e6),
    (J.e7),
    (J.e8),
    (by intro _; rw [up_same]; obtain ⟨g, h, h1, h2⟩ := e; exact ⟨g, h, h1, fun _ => h2, fun a => by have := (J.e10 a).1; rw [hL] at this; cases this⟩),
    (fun a => ⟨ul_same, (J.e10 a).2⟩),
    (J.l7)⟩
theorem I7.s10 {w W : World} {c : Bool} {x z Y : Cv} {L : Nat → Bool} {v : Nat → Value} {g : Nat} (J : I7 w c x z Y L v W) (l7 : L 7 = true) (l8 : L 8 = true) (l9 : L 9 = true) (h : v 8 = .pointer (some ⟨g, 0, none⟩)) (h1 : w.heap.size + 1 < g) (h2 : Bx W g (.int .i64 0) (.int .i64 0) (.string ⟨#[]⟩) (.bool false) (.int .i64 0)) : I7 w c x z Y (ul L 10) v (set5 W g (.int .i64 Y.k) (.int .i64 Y.n) (.string Y.t) (.bool Y.b) (.int .i64 Y.e)) :=
  ⟨(⟨J.bp.q.set5 (by have := h1; omega), J.bp.x.far5 (by omega), J.bp.y.far5 (by omega)⟩),
    (J.e0),
    (J.e1),
    (fun _ a => by rw [ul_ne (by decide), l7] at a; cases a),
    (J.e3),
    (fun _ a => by rw [ul_ne (by decide), l7] at a; cases a),
    (J.e5),
    (fun _ a => by rw [ul_ne (by decide), l7] at a; cases a),
    (fun _ a => by rw [ul_ne (by decide), l8] at a; cases a),
    (J.e8),
    (fun _ => ⟨g, h, h1, fun a => (by rw [ul_same] at a; cases a), fun _ => h2.set5⟩),
    (fun _ => ⟨by rw [ul_ne (by decide)]; exact l9, by rw [ul_ne (by decide)]; exact l8⟩),
    (fun _ => by rw [ul_ne (by decide)]; exact l7)⟩
theorem I7.start {w W : World} {c : Bool} {x z Y : Cv} {v : Nat → Value} (bp : Bp w x z W) : I7 w c x z Y (fun _ => false) v W :=
  ⟨(bp), (fun h => by cases h), (fun h => by cases h), (fun h _ => by cases h), (fun h => by cases h), (fun h _ => by cases h), (fun h => by cases h), (fun h _ => by cases h), (fun h _ => by cases h), (fun h => by cases h), (fun h => by cases h), (fun h => by cases h), (fun h => by cases h)⟩
structure I8 (w : World) (c : Bool) (x z Y : Cv) (g0 : Nat) (U : Cv) (L : Nat → Bool) (v : Nat → Value) (W : World) : Prop where
  bp : Bp w x z W
  k0 : Bx W g0 (.int .i64 U.k) (.int .i64 U.n) (.string U.t) (.bool U.b) (.int .i64 U.e)
  k1 : w.heap.size + 1 < g0
  e0 : L 0 = true → v 35 = .bool c
  e1 : L 1 = true → v 36 = (bo c).v
  e2 : L 2 = true → L 5 = false → ∃ s, v 37 = .agg #[.bool false, s] ∧ Ob W s (bo c)
  e3 : L 3 = true → v 38 = x.v
  e4 : L 4 = true → L 5 = false → ∃ s, v 39 = .agg #[.bool false, s] ∧ Ob W s x
  e5 : L 5 = true → L 6 = false → ∃ s0 s1, ∃ sl, v 40 = sl ∧ Args W sl (sg [(s0, bo c), (s1, x)])
  e6 : L 6 = true → v 41 = Y.v
  e7 : L 7 = true → ∃ g, v 9 = .pointer (some ⟨g, 0, none⟩) ∧ w.heap.size + 1 < g ∧ g0 < g ∧ (L 8 = false → Bx W g (.int .i64 0) (.int .i64 0) (.string ⟨#[]⟩) (.bool false) (.int .i64 0)) ∧ (L 8 = true → Bx W g (.int .i64 Y.k) (.int .i64 Y.n) (.string Y.t) (.bool Y.b) (.int .i64 Y.e))
  e8 : L 8 = true → L 7 = true ∧ L 6 = true
  l7 : L 6 = true → L 5 = true
theorem I8.on {w W W' : World} {c : Bool} {x z Y : Cv} {g0 : Nat} {U : Cv} {L : Nat → Bool} {v : Nat → Value} (J : I8 w c x z Y g0 U L v W) (q : Q W W') : I8 w c x z Y g0 U L v W' :=
  ⟨(J.bp.on q), (J.k0.on q), (J.k1), (J.e0), (J.e1), (fun a b => (J.e2 a b).imp fun _ h => ⟨h.1, h.2.on q⟩), (J.e3), (fun a b => (J.e4 a b).imp fun _ h => ⟨h.1, h.2.on q⟩), (fun a b => by obtain ⟨s0, s1, sl, h, h2⟩ := J.e5 a b; exact ⟨s0, s1, sl, h, h2.on q⟩), (J.e6), (fun a => by obtain ⟨g, h, h1, h0, h2, h3⟩ := J.e7 a; exact ⟨g, h, h1, h0, fun b => (h2 b).on q, fun b => (h3 b).on q⟩), (J.e8), (J.l7)⟩
theorem I8.s0 {w W : World} {c : Bool} {x z Y : Cv} {g0 : Nat} {U : Cv} {L : Nat → Bool} {v : Nat → Value} {u : Value} (J : I8 w c x z Y g0 U L v W) (e : u = .bool c) : I8 w c x z Y g0 U (ul L 0) (up v 35 u) W :=
  ⟨(J.bp),
    (J.k0),
    (J.k1),
    (by intro _; rw [up_same]; exact e),
    (J.e1),
    (J.e2),
    (J.e3),
    (J.e4),
    (J.e5),
    (J.e6),
    (J.e7),
    (J.e8),
    (J.l7)⟩
theorem I8.s1 {w W : World} {c : Bool} {x z Y : Cv} {g0 : Nat} {U : Cv} {L : Nat → Bool} {v : Nat → Value} {u : Value} (J : I8 w c x z Y g0 U L v W) (e : u = (bo c).v) : I8 w c x z Y g0 U (ul L 1) (up v 36 u) W :=
  ⟨(J.bp),
    (J.k0),
    (J.k1),
    (J.e0),
    (by intro _; rw [up_same]; exact e),
    (J.e2),
    (J.e3),
    (J.e4),
    (J.e5),
    (J.e6),
    (J.e7),
    (J.e8),
    (J.l7)⟩
theorem I8.s2 {w W : World} {c : Bool} {x z Y : Cv} {g0 : Nat} {U : Cv} {L : Nat → Bool} {v : Nat → Value} {u : Value} (J : I8 w c x z Y g0 U L v W) (e : ∃ s, u = .agg #[.bool false, s] ∧ Ob W s (bo c)) : I8 w c x z Y g0 U (ul L 2) (up v 37 u) W :=
  ⟨(J.bp),
    (J.k0),
    (J.k1),
    (J.e0),
    (J.e1),
    (by intro _ _; rw [up_same]; exact e),
    (J.e3),
    (J.e4),
    (J.e5),
    (J.e6),
    (J.e7),
    (J.e8),
    (J.l7)⟩
theorem I8.s3 {w W : World} {c : Bool} {x z Y : Cv} {g0 : Nat} {U : Cv} {L : Nat → Bool} {v : Nat → Value} {u : Value} (J : I8 w c x z Y g0 U L v W) (e : u = x.v) : I8 w c x z Y g0 U (ul L 3) (up v 38 u) W :=
  ⟨(J.bp),
    (J.k0),
    (J.k1),
    (J.e0),
    (J.e1),
    (J.e2),
    (by intro _; rw [up_same]; exact e),
    (J.e4),
    (J.e5),
    (J.e6),
    (J.e7),
    (J.e8),
    (J.l7)⟩
theorem I8.s4 {w W : World} {c : Bool} {x z Y : Cv} {g0 : Nat} {U : Cv} {L : Nat → Bool} {v : Nat → Value} {u : Value} (J : I8 w c x z Y g0 U L v W) (e : ∃ s, u = .agg #[.bool false, s] ∧ Ob W s x) : I8 w c x z Y g0 U (ul L 4) (up v 39 u) W :=
  ⟨(J.bp),
    (J.k0),
    (J.k1),
    (J.e0),
    (J.e1),
    (J.e2),
    (J.e3),
    (by intro _ _; rw [up_same]; exact e),
    (J.e5),
    (J.e6),
    (J.e7),
    (J.e8),
    (J.l7)⟩
theorem I8.s5 {w W : World} {c : Bool} {x z Y : Cv} {g0 : Nat} {U : Cv} {L : Nat → Bool} {v : Nat → Value} {u : Value} (J : I8 w c x z Y g0 U L v W) (e : ∃ s0 s1, ∃ sl, u = sl ∧ Args W sl (sg [(s0, bo c), (s1, x)])) : I8 w c x z Y g0 U (ul L 5) (up v 40 u) W :=
  ⟨(J.bp),
    (J.k0),
    (J.k1),
    (J.e0),
    (J.e1),
    (fun _ h => by rw [ul_same] at h; cases h),
    (J.e3),
    (fun _ h => by rw [ul_same] at h; cases h),
    (by intro _ _; rw [up_same]; exact e),
    (J.e6),
    (J.e7),
    (J.e8),
    (fun _ => ul_same)⟩
theorem I8.s6 {w W : World} {c : Bool} {x z Y : Cv} {g0 : Nat} {U : Cv} {L : Nat → Bool} {v : Nat → Value} {u : Value} (J : I8 w c x z Y g0 U L v W) (hb : L 5 = true) (e : u = Y.v) : I8 w c x z Y g0 U (ul L 6) (up v 41 u) W :=
  ⟨(J.bp),
    (J.k0),
    (J.k1),
    (J.e0),
    (J.e1),
    (J.e2),
    (J.e3),
    (J.e4),
    (fun _ h => by rw [ul_same] at h; cases h),
    (by intro _; rw [up_same]; exact e),
    (J.e7),
    (fun a => ⟨(J.e8 a).1, ul_same⟩),
    (fun _ => by rw [ul_ne (by decide)]; exact hb)⟩
theorem I8.s7 {w W : World} {c : Bool} {x z Y : Cv} {g0 : Nat} {U : Cv} {L : Nat → Bool} {v : Nat → Value} {u : Value} (J : I8 w c x z Y g0 U L v W) (hL : L 7 = false) (e : ∃ g, u = .pointer (some ⟨g, 0, none⟩) ∧ w.heap.size + 1 < g ∧ g0 < g ∧ Bx W g (.int .i64 0) (.int .i64 0) (.string ⟨#[]⟩) (.bool false) (.int .i64 0)) : I8 w c x z Y g0 U (ul L 7) (up v 9 u) W :=
  ⟨(J.bp),
    (J.k0),
    (J.k1),
    (J.e0),
    (J.e1),
    (J.e2),
    (J.e3),
    (J.e4),
    (J.e5),
    (J.e6),
    (by intro _; rw [up_same]; obtain ⟨g, h, h1, h0, h2⟩ := e; exact ⟨g, h, h1, h0, fun _ => h2, fun a => by have := (J.e8 a).1; rw [hL] at this; cases this⟩),
    (fun a => ⟨ul_same, (J.e8 a).2⟩),
    (J.l7)⟩
theorem I8.s8 {w W : World} {c : Bool} {x z Y : Cv} {g0 : Nat} {U : Cv} {L : Nat → Bool} {v : Nat → Value} {g : Nat} (J : I8 w c x z Y g0 U L v W) (l7 : L 5 = true) (l8 : L 6 = true) (l9 : L 7 = true) (h : v 9 = .pointer (some ⟨g, 0, none⟩)) (h1 : w.heap.size + 1 < g) (h0 : g0 < g) (h2 : Bx W g (.int .i64 0) (.int .i64 0) (.string ⟨#[]⟩) (.bool false) (.int .i64 0)) : I8 w c x z Y g0 U (ul L 8) v (set5 W g (.int .i64 Y.k) (.int .i64 Y.n) (.string Y.t) (.bool Y.b) (.int .i64 Y.e)) :=
  ⟨(⟨J.bp.q.set5 (by have := h1; omega), J.bp.x.far5 (by omega), J.bp.y.far5 (by omega)⟩),
    (J.k0.far5 (by omega)),
    (J.k1),
    (J.e0),
    (J.e1),
    (fun _ a => by rw [ul_ne (by decide), l7] at a; cases a),
    (J.e3),
    (fun _ a => by rw [ul_ne (by decide), l7] at a; cases a),
    (fun _ a => by rw [ul_ne (by decide), l8] at a; cases a),
    (J.e6),
    (fun _ => ⟨g, h, h1, h0, fun a => (by rw [ul_same] at a; cases a), fun _ => h2.set5⟩),
    (fun _ => ⟨by rw [ul_ne (by decide)]; exact l9, by rw [ul_ne (by decide)]; exact l8⟩),
    (fun _ => by rw [ul_ne (by decide)]; exact l7)⟩
theorem I8.start {w W : World} {c : Bool} {x z Y : Cv} {g0 : Nat} {U : Cv} {v : Nat → Value} (bp : Bp w x z W) (k0 : Bx W g0 (.int .i64 U.k) (.int .i64 U.n) (.string U.t) (.bool U.b) (.int .i64 U.e)) (k1 : w.heap.size + 1 < g0) : I8 w c x z Y g0 U (fun _ => false) v W :=
  ⟨(bp), (k0), (k1), (fun h => by cases h), (fun h => by cases h), (fun h _ => by cases h), (fun h => by cases h), (fun h _ => by cases h), (fun h _ => by cases h), (fun h => by cases h), (fun h => by cases h), (fun h => by cases h), (fun h => by cases h)⟩
end Go.Proofs.YtfjpdopmojfchaaGreatDoor
