/- The region that holds the reference's three tests: what holds whatever has come up. -/
import Derived.Test.YtcefpjjefokjjaaDoorFo
import Derived.Test.YtcefpjjefokjjaaDoorFq0
namespace Go.Proofs.YtcefpjjefokjjaaDoor
open Go.RowKit
set_option linter.unusedVariables false
set_option linter.unusedSimpArgs false

/-- what each operation yields -/
def t5 (N n dl : Nat) (F S1 S2 : Value) (sF sX : ByteArray) (q : Bool) : Nat → Value
  | 0 => .int .i64 (N : Int)
  | 1 => .bool false
  | 2 => .bool false
  | 3 => .int .i64 (n : Int)
  | 4 => .int .i64 ((n : Int) + 8)
  | 5 => .int .i64 (N : Int)
  | 6 => .int .i64 ((n : Int) + 8 + (N : Int))
  | 7 => F
  | 8 => .int .i64 (dl : Int)
  | 9 => .bool false
  | 10 => .bool false
  | 11 => .bool false
  | 12 => F
  | 13 => .int .i64 (n : Int)
  | 14 => .int .i64 ((n : Int) + 8)
  | 15 => .int .i64 (n : Int)
  | 16 => .int .i64 ((n : Int) + 8)
  | 17 => .int .i64 (N : Int)
  | 18 => .int .i64 ((n : Int) + 8 + (N : Int))
  | 19 => S1
  | 21 => .string sF
  | 22 => F
  | 23 => .int .i64 (n : Int)
  | 24 => .int .i64 (n : Int)
  | 25 => .int .i64 ((n : Int) + 8)
  | 26 => .int .i64 (N : Int)
  | 27 => .int .i64 ((n : Int) + 8 + (N : Int))
  | 28 => S2
  | 29 => .string sX
  | 30 => .bool q
  | 31 => .bool q
  | _ => undef
structure I5 (w : World) (N n dl : Nat) (F S1 S2 : Value) (fb : List UInt8) (sF sX : ByteArray) (q : Bool) (o4 : Value) (LL : List (List UInt8)) (L : Nat → Bool) (v : Nat → Value) (W : World) : Prop where
  qw : Q w W
  r : Rf w w.heap.size W o4 LL
  e : ∀ k, L k = true → k ≠ 20 → v (41 + k) = t5 N n dl F S1 S2 sF sX q k
  c : L 20 = true → ∃ a d, v 61 = .slice a fb.length d ∧ Sl eb 1 W (.slice a fb.length d) fb
theorem I5.on {W' : World} {w W : World} {N n dl : Nat} {F S1 S2 : Value} {fb : List UInt8} {sF sX : ByteArray} {q : Bool} {o4 : Value} {LL : List (List UInt8)} {L : Nat → Bool} {v : Nat → Value} (J : I5 w N n dl F S1 S2 fb sF sX q o4 LL L v W) (h : Q W W') : I5 w N n dl F S1 S2 fb sF sX q o4 LL L v W' := ⟨J.qw.trans h, J.r.on h, J.e, fun hl => by
  obtain ⟨a, d, h1, h2⟩ := J.c hl
  exact ⟨a, d, h1, h2.on h⟩⟩
theorem I5.s {w W : World} {N n dl : Nat} {F S1 S2 : Value} {fb : List UInt8} {sF sX : ByteArray} {q : Bool} {o4 : Value} {LL : List (List UInt8)} {L : Nat → Bool} {v : Nat → Value} {u : Value} (J : I5 w N n dl F S1 S2 fb sF sX q o4 LL L v W) (k : Nat) (hk : k ≠ 20) (e : u = t5 N n dl F S1 S2 sF sX q k) : I5 w N n dl F S1 S2 fb sF sX q o4 LL (ul L k) (up v (41 + k) u) W := by
  refine ⟨J.qw, J.r, fun j hj hj2 => ?_, fun hl => ?_⟩
  · by_cases hjk : j = k
    · subst hjk
      rw [up_same]
      exact e
    · rw [ul_ne hjk] at hj
      rw [up_ne (by omega)]
      exact J.e j hj hj2
  · rw [ul_ne (Ne.symm hk)] at hl
    rw [up_ne (by omega)]
    exact J.c hl
theorem I5.k {w W : World} {N n dl : Nat} {F S1 S2 : Value} {fb : List UInt8} {sF sX : ByteArray} {q : Bool} {o4 : Value} {LL : List (List UInt8)} {L : Nat → Bool} {v : Nat → Value} {u : Value} (J : I5 w N n dl F S1 S2 fb sF sX q o4 LL L v W) (h : ∃ a d, u = .slice a fb.length d ∧ Sl eb 1 W (.slice a fb.length d) fb) : I5 w N n dl F S1 S2 fb sF sX q o4 LL (ul L 20) (up v 61 u) W := by
  refine ⟨J.qw, J.r, fun j hj hj2 => ?_, fun hl => ?_⟩
  · rw [ul_ne hj2] at hj
    rw [up_ne (by omega)]
    exact J.e j hj hj2
  · rw [up_same]
    exact h
theorem I5.start {w W : World} {N n dl : Nat} {F S1 S2 : Value} {fb : List UInt8} {sF sX : ByteArray} {q : Bool} {o4 : Value} {LL : List (List UInt8)} {v : Nat → Value} (hq : Q w W) (hr : Rf w w.heap.size W o4 LL) : I5 w N n dl F S1 S2 fb sF sX q o4 LL (fun _ => false) v W := ⟨hq, hr, fun k h _ => (by cases h), fun h => (by cases h)⟩
end Go.Proofs.YtcefpjjefokjjaaDoor
