/- lex.first, walked. Numbers of six digits of 32 bits (counterpaneref1.W): what its functions return. Numbers of six digits, further: which is less; a magnitude with its sign as a number. A number of six digits by a magnitude: the product, where it has room. counterpaneref1.times, walked: a number of six digits by a magnitude. counterpaneref1.times, walked: a number of six digits by a magnitude. counterpaneref1.Parse, walked. counterpaneref5.Ref, walked: no sheet told. counterpaneref5.Ref, walked: a sheet told. counterpaneref5.Ref: what it returns. How long a word is, plainly. ref.word of letters and digits, walked: a number. P.first of the reference, walked: texts, numbers. The program's reader: word, sign, take, strength. The program's readers go on. The program's reader: ahead. -/
import Derived.Test.YtgheopdadfnilaaDoorMa06
import Derived.Test.YtgheopdadfnilaaDoorMa00
import Derived.Handy
import Derived.Laws.Bits64b
import Derived.Deep.RegionHeld
import Derived.Deep.CutBlock
import Derived.Test.YtgheopdadfnilaaDoorMa03
import Derived.Test.YtgheopdadfnilaaDoorMa05
import Derived.Deep.CutRange
import Derived.Test.YtgheopdadfnilaaDoorMa01
import Derived.Test.YtgheopdadfnilaaDoorMa04
import Derived.Deep.RegionHeld3
namespace Go.Proofs.YtgheopdadfnilaaDoor
open Go.RowKit
set_option linter.unusedVariables false
set_option linter.unusedSimpArgs false


theorem ret_tup {t : Nat × List UInt8 × Nat} {a n : Nat} {l : List UInt8} (h : t = (a, l, n)) : Ending.returned (.tuple #[.int .i64 (a : Int), .string ⟨l.toArray⟩, .int .i64 (n : Int)]) = .returned (wv t) := by
  subst h
  rfl
theorem first_any (s : ByteArray) (w : World) (hw : Std w) (hp : 0 < s.size) (hs : s.size ≤ 100000) :
    Calls Tryd.prog 19 #[.string s] w fun e w' => e = .returned (wv (wordF s.data.toList)) ∧ Q w w' := by
  have hh := headD_get s hp
  by_cases h34 : s[0] = 34
  · have e34 := eq_byte (n := 34) (by omega) h34
    have HX := hid (quoted_any s w hw hp hs)
    have HF : Hid (wordF s.data.toList = quoW s.data.toList) := by show _ = _; unfold wordF; rw [hh, if_pos h34]
    clear hh hw
    generalize quoW s.data.toList = q at HF HX
    generalize wordF s.data.toList = f at HF ⊢
    obtain ⟨a, l, n⟩ := q
    unfold wv at HX
    simp only at HX
    go_enter Tryd.func19, Tryd.ntmps19
    go_wp2_with (go_at_call 26; refine HX.out.mono ?_; rintro e w1 ⟨rfl, q1⟩; have Q1 := hid q1; clear q1)
    go_ret3
    exact ⟨ret_tup HF.out, Q1.out⟩
  · have n34 := byte_ne (n := 34) (by omega) h34
    by_cases h35 : s[0] = 35
    · have e35 := eq_byte (n := 35) (by omega) h35
      have HX := hid (failure_any s w hw (by omega))
      have HF : Hid (wordF s.data.toList = errW s.data.toList) := by show _ = _; unfold wordF; rw [hh, if_neg h34, if_pos h35]
      clear hh hw
      generalize errW s.data.toList = q at HF HX
      generalize wordF s.data.toList = f at HF ⊢
      obtain ⟨a, l, n⟩ := q
      unfold wv at HX
      simp only at HX
      go_enter Tryd.func19, Tryd.ntmps19
      go_wp2_with (go_at_call 27; refine HX.out.mono ?_; rintro e w1 ⟨rfl, h1⟩; replace h1 := h1.symm; subst h1)
      go_ret3
      exact ⟨ret_tup HF.out, Q.refl _⟩
    · have n35 := byte_ne (n := 35) (by omega) h35
      have HJ := hid (fun W => joins_any s[0] W)
      cases hj : joinB s[0]
      · rw [hj] at HJ
        have HX := hid (sign_any s w hw (by omega))
        have HF : Hid (wordF s.data.toList = sigW s.data.toList) := by show _ = _; unfold wordF; rw [hh, if_neg h34, if_neg h35, if_neg (by simp [hj])]
        clear hh hw
        generalize sigW s.data.toList = q at HF HX
        generalize wordF s.data.toList = f at HF ⊢
        obtain ⟨a, l, n⟩ := q
        unfold wv at HX
        simp only at HX
        go_enter Tryd.func19, Tryd.ntmps19
        go_wp2_with (first | (go_at_call 28; refine (HJ.out _).mono ?_; rintro e w1 ⟨rfl, h1⟩; replace h1 := h1.symm; subst h1) | (go_at_call 30; refine HX.out.mono ?_; rintro e w1 ⟨rfl, h1⟩; replace h1 := h1.symm; subst h1))
        go_ret3
        exact ⟨ret_tup HF.out, Q.refl _⟩
      · rw [hj] at HJ
        have HX := hid (joined_any s w hw (by omega))
        have HF : Hid (wordF s.data.toList = joinW s.data.toList) := by show _ = _; unfold wordF; rw [hh, if_neg h34, if_neg h35, if_pos hj]
        clear hh hw
        generalize joinW s.data.toList = q at HF HX
        generalize wordF s.data.toList = f at HF ⊢
        obtain ⟨a, l, n⟩ := q
        unfold wv at HX
        simp only at HX
        go_enter Tryd.func19, Tryd.ntmps19
        go_wp2_with (first | (go_at_call 28; refine (HJ.out _).mono ?_; rintro e w1 ⟨rfl, h1⟩; replace h1 := h1.symm; subst h1) | (go_at_call 29; refine HX.out.mono ?_; rintro e w1 ⟨rfl, q1⟩; have Q1 := hid q1; clear q1))
        go_ret3
        exact ⟨ret_tup HF.out, Q1.out⟩
end Go.Proofs.YtgheopdadfnilaaDoor
namespace Go.Proofs.YtgheopdadfnilaaDoor.V
open Go.RowKit

/-- six digits of 32 bits write n -/
structure Dg (a0 a1 a2 a3 a4 a5 n : Int) : Prop where
  l0 : 0 ≤ a0
  h0 : a0 < 4294967296
  l1 : 0 ≤ a1
  h1 : a1 < 4294967296
  l2 : 0 ≤ a2
  h2 : a2 < 4294967296
  l3 : 0 ≤ a3
  h3 : a3 < 4294967296
  l4 : 0 ≤ a4
  h4 : a4 < 4294967296
  l5 : 0 ≤ a5
  h5 : a5 < 4294967296
  e : n = a0 + a1 * 4294967296 + a2 * 18446744073709551616 + a3 * 79228162514264337593543950336 + a4 * 340282366920938463463374607431768211456 + a5 * 1461501637330902918203684832716283019655932542976

/-- a result that is such a number -/
def WR (n : Int) (e : Ending) : Prop := ∃ a0 a1 a2 a3 a4 a5 : Int, e = .returned (.agg #[.int .u64 a0, .int .u64 a1, .int .u64 a2, .int .u64 a3, .int .u64 a4, .int .u64 a5]) ∧ Dg a0 a1 a2 a3 a4 a5 n

theorem ret_agg {v u : Value} (h : v = u) : Ending.returned v = .returned u := by rw [h]

end Go.Proofs.YtgheopdadfnilaaDoor.V
namespace Go.Proofs.YtgheopdadfnilaaDoor.V
open Go.RowKit

theorem ret_bool' {a b : Bool} (h : a = b) : Ending.returned (.bool a) = .returned (.bool b) := by rw [h]

theorem or_nat (a b : Nat) (ha : a < 4294967296) (hb : b < 4294967296) : bits BinOp.or IntKind.u64 (a : Int) (b : Int) = ((a ||| b : Nat) : Int) ∧ a ||| b < 4294967296 := by
  refine ⟨bits_or_u64_nat a b (by omega) (by omega), ?_⟩
  exact Nat.or_lt_two_pow (n := 32) ha hb

/-- are there digits beyond two? -/
theorem or_four (a b c d : Int) (a0 : 0 ≤ a) (a1 : a < 4294967296) (b0 : 0 ≤ b) (b1 : b < 4294967296) (c0 : 0 ≤ c) (c1 : c < 4294967296) (d0 : 0 ≤ d) (d1 : d < 4294967296) (h : 0 < a ∨ 0 < b ∨ 0 < c ∨ 0 < d) :
    (bits BinOp.or IntKind.u64 (bits BinOp.or IntKind.u64 (bits BinOp.or IntKind.u64 a b) c) d != 0) = true := by
  obtain ⟨a, rfl⟩ := Int.eq_ofNat_of_zero_le a0
  obtain ⟨b, rfl⟩ := Int.eq_ofNat_of_zero_le b0
  obtain ⟨c, rfl⟩ := Int.eq_ofNat_of_zero_le c0
  obtain ⟨d, rfl⟩ := Int.eq_ofNat_of_zero_le d0
  obtain ⟨e1, l1⟩ := or_nat a b (by omega) (by omega)
  obtain ⟨e2, l2⟩ := or_nat (a ||| b) c l1 (by omega)
  obtain ⟨e3, _⟩ := or_nat (a ||| b ||| c) d l2 (by omega)
  rw [e1, e2, e3, bne_iff_ne]
  intro hz
  have hz' : a ||| b ||| c ||| d = 0 := by omega
  rw [Nat.or_eq_zero_iff, Nat.or_eq_zero_iff, Nat.or_eq_zero_iff] at hz'
  omega

theorem fix_facts (a0 a1 a2 a3 a4 a5 a : Int) (ha : Dg a0 a1 a2 a3 a4 a5 a) (h : a < 18446744073709551616) : a2 = 0 ∧ a3 = 0 ∧ a4 = 0 ∧ a5 = 0 ∧ 0 ≤ a ∧ a0 + a1 * 4294967296 = a := by
  obtain ⟨x0, y0, x1, y1, x2, y2, x3, y3, x4, y4, x5, y5, ea⟩ := ha
  omega

end Go.Proofs.YtgheopdadfnilaaDoor.V
namespace Go.Proofs.YtgheopdadfnilaaDoor.V
open Go.RowKit

theorem prod_bound (a b : Int) (a0 : 0 ≤ a) (a1 : a < 4294967296) (b0 : 0 ≤ b) (b1 : b < 4294967296) : 0 ≤ a * b ∧ a * b ≤ 18446744065119617025 := by
  refine ⟨Int.mul_nonneg a0 b0, ?_⟩
  have h := Int.mul_le_mul (show a ≤ 4294967295 by omega) (show b ≤ 4294967295 by omega) b0 (by omega)
  omega

theorem prod_split (a b0 b1 n : Int) (hn : n = b0 + b1 * 4294967296) : a * n = a * b0 + a * b1 * 4294967296 := by
  rw [hn, Int.mul_add, ← Int.mul_assoc]

theorem prod_all (a0 a1 a2 a3 a4 a5 a n : Int) (ea : a = a0 + a1 * 4294967296 + a2 * 18446744073709551616 + a3 * 79228162514264337593543950336 + a4 * 340282366920938463463374607431768211456 + a5 * 1461501637330902918203684832716283019655932542976) :
    a * n = a0 * n + a1 * n * 4294967296 + a2 * n * 18446744073709551616 + a3 * n * 79228162514264337593543950336 + a4 * n * 340282366920938463463374607431768211456 + a5 * n * 1461501637330902918203684832716283019655932542976 := by
  rw [ea, Int.add_mul, Int.add_mul, Int.add_mul, Int.add_mul, Int.add_mul, Int.mul_right_comm a1, Int.mul_right_comm a2, Int.mul_right_comm a3, Int.mul_right_comm a4, Int.mul_right_comm a5]

/-- six cells of one block hold the digits, and may be written -/
structure Row (W : World) (b : Nat) (r0 r1 r2 r3 r4 r5 : Int) : Prop where
  c0 : W.cell? ⟨b, 0, none⟩ = some (.int .u64 r0)
  c1 : W.cell? ⟨b, 1, none⟩ = some (.int .u64 r1)
  c2 : W.cell? ⟨b, 2, none⟩ = some (.int .u64 r2)
  c3 : W.cell? ⟨b, 3, none⟩ = some (.int .u64 r3)
  c4 : W.cell? ⟨b, 4, none⟩ = some (.int .u64 r4)
  c5 : W.cell? ⟨b, 5, none⟩ = some (.int .u64 r5)
  f0 : W.frozen? ⟨b, 0, none⟩ = false
  f1 : W.frozen? ⟨b, 1, none⟩ = false
  f2 : W.frozen? ⟨b, 2, none⟩ = false
  f3 : W.frozen? ⟨b, 3, none⟩ = false
  f4 : W.frozen? ⟨b, 4, none⟩ = false
  f5 : W.frozen? ⟨b, 5, none⟩ = false
  big : b < W.heap.size
theorem Row.drew {W : World} {b : Nat} {r0 r1 r2 r3 r4 r5 : Int} (h : Row W b r0 r1 r2 r3 r4 r5) : Row W.drew b r0 r1 r2 r3 r4 r5 :=
  ⟨h.c0, h.c1, h.c2, h.c3, h.c4, h.c5, h.f0, h.f1, h.f2, h.f3, h.f4, h.f5, h.big⟩
theorem Row.far {W : World} {b b' k : Nat} {v : Value} {r0 r1 r2 r3 r4 r5 : Int} (h : Row W b r0 r1 r2 r3 r4 r5) (hb : b' ≠ b) : Row (W.setCell ⟨b', k, none⟩ v) b r0 r1 r2 r3 r4 r5 := by
  constructor
  all_goals first
    | (rw [World.cell?_setCell_far _ _ _ _ hb]; first | exact h.c0 | exact h.c1 | exact h.c2 | exact h.c3 | exact h.c4 | exact h.c5)
    | (rw [World.frozen?_setCell]; first | exact h.f0 | exact h.f1 | exact h.f2 | exact h.f3 | exact h.f4 | exact h.f5)
    | (rw [World.size_setCell]; exact h.big)
theorem Row.set0 {W : World} {b : Nat} {v r0 r1 r2 r3 r4 r5 : Int} (h : Row W b r0 r1 r2 r3 r4 r5) : Row (W.setCell ⟨b, 0, none⟩ (.int .u64 v)) b v r1 r2 r3 r4 r5 := by
  constructor
  · exact World.cell?_setCell_same _ _ _ h.c0
  · rw [World.cell?_setCell_other _ _ _ _ (by simp)]; exact h.c1
  · rw [World.cell?_setCell_other _ _ _ _ (by simp)]; exact h.c2
  · rw [World.cell?_setCell_other _ _ _ _ (by simp)]; exact h.c3
  · rw [World.cell?_setCell_other _ _ _ _ (by simp)]; exact h.c4
  · rw [World.cell?_setCell_other _ _ _ _ (by simp)]; exact h.c5
  · rw [World.frozen?_setCell]; exact h.f0
  · rw [World.frozen?_setCell]; exact h.f1
  · rw [World.frozen?_setCell]; exact h.f2
  · rw [World.frozen?_setCell]; exact h.f3
  · rw [World.frozen?_setCell]; exact h.f4
  · rw [World.frozen?_setCell]; exact h.f5
  · rw [World.size_setCell]; exact h.big
theorem Row.set1 {W : World} {b : Nat} {v r0 r1 r2 r3 r4 r5 : Int} (h : Row W b r0 r1 r2 r3 r4 r5) : Row (W.setCell ⟨b, 1, none⟩ (.int .u64 v)) b r0 v r2 r3 r4 r5 := by
  constructor
  · rw [World.cell?_setCell_other _ _ _ _ (by simp)]; exact h.c0
  · exact World.cell?_setCell_same _ _ _ h.c1
  · rw [World.cell?_setCell_other _ _ _ _ (by simp)]; exact h.c2
  · rw [World.cell?_setCell_other _ _ _ _ (by simp)]; exact h.c3
  · rw [World.cell?_setCell_other _ _ _ _ (by simp)]; exact h.c4
  · rw [World.cell?_setCell_other _ _ _ _ (by simp)]; exact h.c5
  · rw [World.frozen?_setCell]; exact h.f0
  · rw [World.frozen?_setCell]; exact h.f1
  · rw [World.frozen?_setCell]; exact h.f2
  · rw [World.frozen?_setCell]; exact h.f3
  · rw [World.frozen?_setCell]; exact h.f4
  · rw [World.frozen?_setCell]; exact h.f5
  · rw [World.size_setCell]; exact h.big
theorem Row.set2 {W : World} {b : Nat} {v r0 r1 r2 r3 r4 r5 : Int} (h : Row W b r0 r1 r2 r3 r4 r5) : Row (W.setCell ⟨b, 2, none⟩ (.int .u64 v)) b r0 r1 v r3 r4 r5 := by
  constructor
  · rw [World.cell?_setCell_other _ _ _ _ (by simp)]; exact h.c0
  · rw [World.cell?_setCell_other _ _ _ _ (by simp)]; exact h.c1
  · exact World.cell?_setCell_same _ _ _ h.c2
  · rw [World.cell?_setCell_other _ _ _ _ (by simp)]; exact h.c3
  · rw [World.cell?_setCell_other _ _ _ _ (by simp)]; exact h.c4
  · rw [World.cell?_setCell_other _ _ _ _ (by simp)]; exact h.c5
  · rw [World.frozen?_setCell]; exact h.f0
  · rw [World.frozen?_setCell]; exact h.f1
  · rw [World.frozen?_setCell]; exact h.f2
  · rw [World.frozen?_setCell]; exact h.f3
  · rw [World.frozen?_setCell]; exact h.f4
  · rw [World.frozen?_setCell]; exact h.f5
  · rw [World.size_setCell]; exact h.big
theorem Row.set3 {W : World} {b : Nat} {v r0 r1 r2 r3 r4 r5 : Int} (h : Row W b r0 r1 r2 r3 r4 r5) : Row (W.setCell ⟨b, 3, none⟩ (.int .u64 v)) b r0 r1 r2 v r4 r5 := by
  constructor
  · rw [World.cell?_setCell_other _ _ _ _ (by simp)]; exact h.c0
  · rw [World.cell?_setCell_other _ _ _ _ (by simp)]; exact h.c1
  · rw [World.cell?_setCell_other _ _ _ _ (by simp)]; exact h.c2
  · exact World.cell?_setCell_same _ _ _ h.c3
  · rw [World.cell?_setCell_other _ _ _ _ (by simp)]; exact h.c4
  · rw [World.cell?_setCell_other _ _ _ _ (by simp)]; exact h.c5
  · rw [World.frozen?_setCell]; exact h.f0
  · rw [World.frozen?_setCell]; exact h.f1
  · rw [World.frozen?_setCell]; exact h.f2
  · rw [World.frozen?_setCell]; exact h.f3
  · rw [World.frozen?_setCell]; exact h.f4
  · rw [World.frozen?_setCell]; exact h.f5
  · rw [World.size_setCell]; exact h.big
theorem Row.set4 {W : World} {b : Nat} {v r0 r1 r2 r3 r4 r5 : Int} (h : Row W b r0 r1 r2 r3 r4 r5) : Row (W.setCell ⟨b, 4, none⟩ (.int .u64 v)) b r0 r1 r2 r3 v r5 := by
  constructor
  · rw [World.cell?_setCell_other _ _ _ _ (by simp)]; exact h.c0
  · rw [World.cell?_setCell_other _ _ _ _ (by simp)]; exact h.c1
  · rw [World.cell?_setCell_other _ _ _ _ (by simp)]; exact h.c2
  · rw [World.cell?_setCell_other _ _ _ _ (by simp)]; exact h.c3
  · exact World.cell?_setCell_same _ _ _ h.c4
  · rw [World.cell?_setCell_other _ _ _ _ (by simp)]; exact h.c5
  · rw [World.frozen?_setCell]; exact h.f0
  · rw [World.frozen?_setCell]; exact h.f1
  · rw [World.frozen?_setCell]; exact h.f2
  · rw [World.frozen?_setCell]; exact h.f3
  · rw [World.frozen?_setCell]; exact h.f4
  · rw [World.frozen?_setCell]; exact h.f5
  · rw [World.size_setCell]; exact h.big
theorem Row.set5 {W : World} {b : Nat} {v r0 r1 r2 r3 r4 r5 : Int} (h : Row W b r0 r1 r2 r3 r4 r5) : Row (W.setCell ⟨b, 5, none⟩ (.int .u64 v)) b r0 r1 r2 r3 r4 v := by
  constructor
  · rw [World.cell?_setCell_other _ _ _ _ (by simp)]; exact h.c0
  · rw [World.cell?_setCell_other _ _ _ _ (by simp)]; exact h.c1
  · rw [World.cell?_setCell_other _ _ _ _ (by simp)]; exact h.c2
  · rw [World.cell?_setCell_other _ _ _ _ (by simp)]; exact h.c3
  · rw [World.cell?_setCell_other _ _ _ _ (by simp)]; exact h.c4
  · exact World.cell?_setCell_same _ _ _ h.c5
  · rw [World.frozen?_setCell]; exact h.f0
  · rw [World.frozen?_setCell]; exact h.f1
  · rw [World.frozen?_setCell]; exact h.f2
  · rw [World.frozen?_setCell]; exact h.f3
  · rw [World.frozen?_setCell]; exact h.f4
  · rw [World.frozen?_setCell]; exact h.f5
  · rw [World.size_setCell]; exact h.big
theorem Row.on {W W' : World} {b : Nat} {r0 r1 r2 r3 r4 r5 : Int} (h : Row W b r0 r1 r2 r3 r4 r5) (q : Q W W') : Row W' b r0 r1 r2 r3 r4 r5 := by
  have hb := h.big
  constructor
  · rw [q.cell hb]; exact h.c0
  · rw [q.cell hb]; exact h.c1
  · rw [q.cell hb]; exact h.c2
  · rw [q.cell hb]; exact h.c3
  · rw [q.cell hb]; exact h.c4
  · rw [q.cell hb]; exact h.c5
  · rw [Below.frozen q (p := ⟨b, 0, none⟩) hb]; exact h.f0
  · rw [Below.frozen q (p := ⟨b, 1, none⟩) hb]; exact h.f1
  · rw [Below.frozen q (p := ⟨b, 2, none⟩) hb]; exact h.f2
  · rw [Below.frozen q (p := ⟨b, 3, none⟩) hb]; exact h.f3
  · rw [Below.frozen q (p := ⟨b, 4, none⟩) hb]; exact h.f4
  · rw [Below.frozen q (p := ⟨b, 5, none⟩) hb]; exact h.f5
  · exact q.lt hb

theorem Q.setCell {a w : World} (h : Q a w) {b k : Nat} (hb : a.heap.size ≤ b) (v : Value) : Q a (w.setCell ⟨b, k, none⟩ v) := Below.setCell h hb v
end Go.Proofs.YtgheopdadfnilaaDoor.V
namespace Go.Proofs.YtgheopdadfnilaaDoor.V
open Go.RowKit
set_option linter.unusedVariables false

/-- the product so far: of the lowest k digits -/
def tsum (k : Nat) (N0 N1 N2 N3 N4 N5 : Int) : Int :=
  match k with
  | 0 => 0
  | 1 => 0 + N0 * 1
  | 2 => 0 + N0 * 1 + N1 * 4294967296
  | 3 => 0 + N0 * 1 + N1 * 4294967296 + N2 * 18446744073709551616
  | 4 => 0 + N0 * 1 + N1 * 4294967296 + N2 * 18446744073709551616 + N3 * 79228162514264337593543950336
  | 5 => 0 + N0 * 1 + N1 * 4294967296 + N2 * 18446744073709551616 + N3 * 79228162514264337593543950336 + N4 * 340282366920938463463374607431768211456
  | _ => 0 + N0 * 1 + N1 * 4294967296 + N2 * 18446744073709551616 + N3 * 79228162514264337593543950336 + N4 * 340282366920938463463374607431768211456 + N5 * 1461501637330902918203684832716283019655932542976

/-- what holds at the head of round k of 'times' -/
structure TI (k : Nat) (N0 N1 N2 N3 N4 N5 r0 r1 r2 r3 r4 r5 : Int) : Prop where
  l0 : 0 ≤ r0
  u0 : r0 < 4294967296
  l1 : 0 ≤ r1
  u1 : r1 < 4294967296
  l2 : 0 ≤ r2
  u2 : r2 < 4294967296
  l3 : 0 ≤ r3
  u3 : r3 < 4294967296
  l4 : 0 ≤ r4
  u4 : r4 < 4294967296
  l5 : 0 ≤ r5
  u5 : r5 < 4294967296
  z0 : k = 0 → r0 = 0
  z1 : k + 2 ≤ 1 → r1 = 0
  z2 : k + 2 ≤ 2 → r2 = 0
  z3 : k + 2 ≤ 3 → r3 = 0
  z4 : k + 2 ≤ 4 → r4 = 0
  z5 : k + 2 ≤ 5 → r5 = 0
  e : r0 + r1 * 4294967296 + r2 * 18446744073709551616 + r3 * 79228162514264337593543950336 + r4 * 340282366920938463463374607431768211456 + r5 * 1461501637330902918203684832716283019655932542976 = tsum k N0 N1 N2 N3 N4 N5

theorem step_of (x : Int) (h : 0 ≤ x ∧ x < 18446744073709551616) : ∃ r c : Int, x % 4294967296 = r ∧ x / 4294967296 = c ∧ 0 ≤ r ∧ r < 4294967296 ∧ 0 ≤ c ∧ c < 4294967296 ∧ x = r + c * 4294967296 :=
  ⟨_, _, rfl, rfl, by omega, by omega, by omega, by omega, by omega⟩
theorem room2 {r p : Int} (h : 0 ≤ p ∧ p ≤ 18446744065119617025) (r0 : 0 ≤ r) (r1 : r < 4294967296) : 0 ≤ r + p ∧ r + p < 18446744073709551616 := by omega
theorem room3 {c r p : Int} (h : 0 ≤ p ∧ p ≤ 18446744065119617025) (r0 : 0 ≤ r) (r1 : r < 4294967296) (c0 : 0 ≤ c) (c1 : c < 4294967296) : 0 ≤ c + (r + p) ∧ c + (r + p) < 18446744073709551616 := by omega
theorem wrap_in {p : Int} (h : 0 ≤ p ∧ p ≤ 18446744065119617025) : IntKind.u64.wrap p = p := by rw [IntKind.wrap_u64]; omega

theorem ti_next0 (N0 N1 N2 N3 N4 N5 r0 r1 r2 r3 r4 r5 x p q c y d T : Int) (h : TI 0 N0 N1 N2 N3 N4 N5 r0 r1 r2 r3 r4 r5) (e0 : r0 + p = x + c * 4294967296) (lx : 0 ≤ x) (ux : x < 4294967296) (lc : 0 ≤ c) (e1 : c + (r1 + q) = y + d * 4294967296) (ly : 0 ≤ y) (uy : y < 4294967296) (ld : 0 ≤ d) (ud : d < 4294967296) (hN : N0 = p + q * 4294967296) (lq : 0 ≤ q)
    (hT : T = tsum 6 N0 N1 N2 N3 N4 N5) (hlt : T < 6277101735386680763835789423207666416102355444464034512896) (n0 : 0 ≤ N0) (n1 : 0 ≤ N1) (n2 : 0 ≤ N2) (n3 : 0 ≤ N3) (n4 : 0 ≤ N4) (n5 : 0 ≤ N5) : TI 1 N0 N1 N2 N3 N4 N5 x y (r2 + d) r3 r4 r5 := by
  obtain ⟨l0, u0, l1, u1, l2, u2, l3, u3, l4, u4, l5, u5, z0, z1, z2, z3, z4, z5, e⟩ := h
  simp only [tsum] at e hT
  have zz := z2 (by omega)
  constructor
  all_goals first | omega | (intro hk; omega) | (simp only [tsum]; omega)

theorem ti_next1 (N0 N1 N2 N3 N4 N5 r0 r1 r2 r3 r4 r5 x p q c y d T : Int) (h : TI 1 N0 N1 N2 N3 N4 N5 r0 r1 r2 r3 r4 r5) (e0 : r1 + p = x + c * 4294967296) (lx : 0 ≤ x) (ux : x < 4294967296) (lc : 0 ≤ c) (e1 : c + (r2 + q) = y + d * 4294967296) (ly : 0 ≤ y) (uy : y < 4294967296) (ld : 0 ≤ d) (ud : d < 4294967296) (hN : N1 = p + q * 4294967296) (lq : 0 ≤ q)
    (hT : T = tsum 6 N0 N1 N2 N3 N4 N5) (hlt : T < 6277101735386680763835789423207666416102355444464034512896) (n0 : 0 ≤ N0) (n1 : 0 ≤ N1) (n2 : 0 ≤ N2) (n3 : 0 ≤ N3) (n4 : 0 ≤ N4) (n5 : 0 ≤ N5) : TI 2 N0 N1 N2 N3 N4 N5 r0 x y (r3 + d) r4 r5 := by
  obtain ⟨l0, u0, l1, u1, l2, u2, l3, u3, l4, u4, l5, u5, z0, z1, z2, z3, z4, z5, e⟩ := h
  simp only [tsum] at e hT
  have zz := z3 (by omega)
  constructor
  all_goals first | omega | (intro hk; omega) | (simp only [tsum]; omega)

theorem ti_next2 (N0 N1 N2 N3 N4 N5 r0 r1 r2 r3 r4 r5 x p q c y d T : Int) (h : TI 2 N0 N1 N2 N3 N4 N5 r0 r1 r2 r3 r4 r5) (e0 : r2 + p = x + c * 4294967296) (lx : 0 ≤ x) (ux : x < 4294967296) (lc : 0 ≤ c) (e1 : c + (r3 + q) = y + d * 4294967296) (ly : 0 ≤ y) (uy : y < 4294967296) (ld : 0 ≤ d) (ud : d < 4294967296) (hN : N2 = p + q * 4294967296) (lq : 0 ≤ q)
    (hT : T = tsum 6 N0 N1 N2 N3 N4 N5) (hlt : T < 6277101735386680763835789423207666416102355444464034512896) (n0 : 0 ≤ N0) (n1 : 0 ≤ N1) (n2 : 0 ≤ N2) (n3 : 0 ≤ N3) (n4 : 0 ≤ N4) (n5 : 0 ≤ N5) : TI 3 N0 N1 N2 N3 N4 N5 r0 r1 x y (r4 + d) r5 := by
  obtain ⟨l0, u0, l1, u1, l2, u2, l3, u3, l4, u4, l5, u5, z0, z1, z2, z3, z4, z5, e⟩ := h
  simp only [tsum] at e hT
  have zz := z4 (by omega)
  constructor
  all_goals first | omega | (intro hk; omega) | (simp only [tsum]; omega)

theorem ti_next3 (N0 N1 N2 N3 N4 N5 r0 r1 r2 r3 r4 r5 x p q c y d T : Int) (h : TI 3 N0 N1 N2 N3 N4 N5 r0 r1 r2 r3 r4 r5) (e0 : r3 + p = x + c * 4294967296) (lx : 0 ≤ x) (ux : x < 4294967296) (lc : 0 ≤ c) (e1 : c + (r4 + q) = y + d * 4294967296) (ly : 0 ≤ y) (uy : y < 4294967296) (ld : 0 ≤ d) (ud : d < 4294967296) (hN : N3 = p + q * 4294967296) (lq : 0 ≤ q)
    (hT : T = tsum 6 N0 N1 N2 N3 N4 N5) (hlt : T < 6277101735386680763835789423207666416102355444464034512896) (n0 : 0 ≤ N0) (n1 : 0 ≤ N1) (n2 : 0 ≤ N2) (n3 : 0 ≤ N3) (n4 : 0 ≤ N4) (n5 : 0 ≤ N5) : TI 4 N0 N1 N2 N3 N4 N5 r0 r1 r2 x y (r5 + d) := by
  obtain ⟨l0, u0, l1, u1, l2, u2, l3, u3, l4, u4, l5, u5, z0, z1, z2, z3, z4, z5, e⟩ := h
  simp only [tsum] at e hT
  have zz := z5 (by omega)
  constructor
  all_goals first | omega | (intro hk; omega) | (simp only [tsum]; omega)

theorem ti_next4 (N0 N1 N2 N3 N4 N5 r0 r1 r2 r3 r4 r5 x p q c y d T : Int) (h : TI 4 N0 N1 N2 N3 N4 N5 r0 r1 r2 r3 r4 r5) (e0 : r4 + p = x + c * 4294967296) (lx : 0 ≤ x) (ux : x < 4294967296) (lc : 0 ≤ c) (e1 : c + (r5 + q) = y + d * 4294967296) (ly : 0 ≤ y) (uy : y < 4294967296) (ld : 0 ≤ d) (ud : d < 4294967296) (hN : N4 = p + q * 4294967296) (lq : 0 ≤ q)
    (hT : T = tsum 6 N0 N1 N2 N3 N4 N5) (hlt : T < 6277101735386680763835789423207666416102355444464034512896) (n0 : 0 ≤ N0) (n1 : 0 ≤ N1) (n2 : 0 ≤ N2) (n3 : 0 ≤ N3) (n4 : 0 ≤ N4) (n5 : 0 ≤ N5) : TI 5 N0 N1 N2 N3 N4 N5 r0 r1 r2 r3 x y := by
  obtain ⟨l0, u0, l1, u1, l2, u2, l3, u3, l4, u4, l5, u5, z0, z1, z2, z3, z4, z5, e⟩ := h
  simp only [tsum] at e hT
  constructor
  all_goals first | omega | (intro hk; omega) | (simp only [tsum]; omega)

theorem ti_next5 (N0 N1 N2 N3 N4 N5 r0 r1 r2 r3 r4 r5 x p q c T : Int) (h : TI 5 N0 N1 N2 N3 N4 N5 r0 r1 r2 r3 r4 r5) (e0 : r5 + p = x + c * 4294967296) (lx : 0 ≤ x) (ux : x < 4294967296) (lc : 0 ≤ c) (hN : N5 = p + q * 4294967296) (lq : 0 ≤ q)
    (hT : T = tsum 6 N0 N1 N2 N3 N4 N5) (hlt : T < 6277101735386680763835789423207666416102355444464034512896) (n0 : 0 ≤ N0) (n1 : 0 ≤ N1) (n2 : 0 ≤ N2) (n3 : 0 ≤ N3) (n4 : 0 ≤ N4) (n5 : 0 ≤ N5) : TI 6 N0 N1 N2 N3 N4 N5 r0 r1 r2 r3 r4 x := by
  obtain ⟨l0, u0, l1, u1, l2, u2, l3, u3, l4, u4, l5, u5, z0, z1, z2, z3, z4, z5, e⟩ := h
  simp only [tsum] at e hT
  constructor
  all_goals first | omega | (intro hk; omega) | (simp only [tsum]; omega)
end Go.Proofs.YtgheopdadfnilaaDoor.V
namespace Go.Proofs.YtgheopdadfnilaaDoor.V
open Go.RowKit
set_option linter.unusedVariables false

theorem row_new (W : World) (t : TypeId) (r0 r1 r2 r3 r4 r5 : Int) : Row (W.alloc (.cells #[.int .u64 r0, .int .u64 r1, .int .u64 r2, .int .u64 r3, .int .u64 r4, .int .u64 r5] t)) W.heap.size r0 r1 r2 r3 r4 r5 := by
  constructor
  all_goals simp [World.cell?_alloc_new, World.frozen?_alloc_new]

end Go.Proofs.YtgheopdadfnilaaDoor.V
namespace Go.Proofs.YtgheopdadfnilaaDoor.V
open Go.RowKit
set_option linter.unusedVariables false
set_option linter.unusedSimpArgs false

/-- the number so far, or far beyond -/
def Sat (V : Nat) (x : Int) : Prop := (x = (V : Int) ∧ (V : Int) < 79228162514264337593543950336) ∨ (79228162514264337593543950336 ≤ (V : Int) ∧ 79228162514264337593543950336 ≤ x ∧ x < 158456325028528675187087900672)
theorem Sat.start : Sat 0 0 := .inl ⟨rfl, by omega⟩
theorem Sat.lo {V : Nat} {x : Int} (h : Sat V x) : 0 ≤ x ∧ x < 158456325028528675187087900672 := by unfold Sat at h; omega
theorem Sat.low {V : Nat} {x y d : Int} {f0 f1 f2 f3 f4 f5 : Int} {c : Nat} (h : Sat V x) (hd : d = (c : Int)) (hc : c ≤ 9) (hy : y = x * 10 + d) (hf : Dg f0 f1 f2 f3 f4 f5 y) (h3 : f3 = 0) : Sat (V * 10 + c) y := by
  obtain ⟨a0, b0, a1, b1, a2, b2, a3, b3, a4, b4, a5, b5, e⟩ := hf
  unfold Sat at *
  omega
theorem Sat.high {V : Nat} {x y d : Int} {f0 f1 f2 f3 f4 f5 : Int} {c : Nat} (h : Sat V x) (hd : d = (c : Int)) (hc : c ≤ 9) (hy : y = x * 10 + d) (hf : Dg f0 f1 f2 f3 f4 f5 y) (h3 : f3 ≠ 0) :
    ∃ z, Dg f0 f1 f2 1 0 0 z ∧ Sat (V * 10 + c) z := by
  obtain ⟨a0, b0, a1, b1, a2, b2, a3, b3, a4, b4, a5, b5, e⟩ := hf
  refine ⟨f0 + f1 * 4294967296 + f2 * 18446744073709551616 + 79228162514264337593543950336, ⟨by omega, by omega, by omega, by omega, by omega, by omega, by omega, by omega, by omega, by omega, by omega, by omega, by omega⟩, ?_⟩
  unfold Sat at *
  omega
theorem huge_keep {n : Int} {ng : Bool} (h : 79228162514264337593543950336 ≤ n) : fitB (sgn n ng) = false := by
  apply fitB_no
  cases ng
  · show n < _ ∨ _ < n
    omega
  · show -n < _ ∨ _ < -n
    omega
theorem Sat.same {V : Nat} {x : Int} (h : Sat V x) (m : Nat) (ng : Bool) : keep (sgn (x * 10 ^ m) ng) = keep (sgn ((V * 10 ^ m : Nat) : Int) ng) ∧ fitB (sgn (x * 10 ^ m) ng) = fitB (sgn ((V * 10 ^ m : Nat) : Int) ng) := by
  rcases h with ⟨h, _⟩ | ⟨h1, h2, h3⟩
  · have e : x * 10 ^ m = ((V * 10 ^ m : Nat) : Int) := by rw [h]; simp
    rw [e]
    exact ⟨rfl, rfl⟩
  · have hp : (1 : Int) ≤ 10 ^ m := by
      have h := Nat.one_le_pow m 10 (by decide)
      have e : ((10 ^ m : Nat) : Int) = (10 : Int) ^ m := by simp
      omega
    have g1 : 79228162514264337593543950336 ≤ x * 10 ^ m := by
      have := Int.mul_le_mul h2 hp (by omega) (by omega)
      omega
    have g2 : 79228162514264337593543950336 ≤ ((V * 10 ^ m : Nat) : Int) := by
      have e : ((V * 10 ^ m : Nat) : Int) = (V : Int) * 10 ^ m := by simp
      rw [e]
      have := Int.mul_le_mul h1 hp (by omega) (by omega)
      omega
    rw [keep_no (huge_keep g1), keep_no (huge_keep g2), huge_keep g1, huge_keep g2]
    exact ⟨rfl, rfl⟩

/-- what holds at the head of a round -/
structure Jp (w : World) (d0 d1 d2 d3 d4 d5 : Int) (W : World) : Prop where
  q : Q w W
  r : Row W w.heap.size d0 d1 d2 d3 d4 d5
theorem Jp.on {w W W' : World} {d0 d1 d2 d3 d4 d5 : Int} (h : Jp w d0 d1 d2 d3 d4 d5 W) (g : Q W W') : Jp w d0 d1 d2 d3 d4 d5 W' := ⟨h.q.trans g, h.r.on g⟩
theorem Jp.drew {w W : World} {d0 d1 d2 d3 d4 d5 : Int} (h : Jp w d0 d1 d2 d3 d4 d5 W) : Jp w d0 d1 d2 d3 d4 d5 W.drew := h.on (Q.refl _).drew
def setW (W : World) (b : Nat) (s0 s1 s2 s3 s4 s5 : Int) : World :=
  (((((W.setCell ⟨b, 0, none⟩ (.int .u64 s0)).setCell ⟨b, 1, none⟩ (.int .u64 s1)).setCell ⟨b, 2, none⟩ (.int .u64 s2)).setCell ⟨b, 3, none⟩ (.int .u64 s3)).setCell ⟨b, 4, none⟩ (.int .u64 s4)).setCell ⟨b, 5, none⟩ (.int .u64 s5)
theorem Jp.set {w W : World} {d0 d1 d2 d3 d4 d5 s0 s1 s2 s3 s4 s5 : Int} (h : Jp w d0 d1 d2 d3 d4 d5 W) : Jp w s0 s1 s2 s3 s4 s5 (setW W w.heap.size s0 s1 s2 s3 s4 s5) :=
  ⟨(((((h.q.setCell (Nat.le_refl _) _).setCell (Nat.le_refl _) _).setCell (Nat.le_refl _) _).setCell (Nat.le_refl _) _).setCell (Nat.le_refl _) _).setCell (Nat.le_refl _) _, h.r.set0.set1.set2.set3.set4.set5⟩
theorem Jp.far {w W : World} {d0 d1 d2 d3 d4 d5 : Int} (h : Jp w d0 d1 d2 d3 d4 d5 W) : Jp w d0 d1 d2 1 0 0 (((W.setCell ⟨w.heap.size, 4, none⟩ (.int .u64 0)).setCell ⟨w.heap.size, 5, none⟩ (.int .u64 0)).setCell ⟨w.heap.size, 3, none⟩ (.int .u64 1)) :=
  ⟨((h.q.setCell (Nat.le_refl _) _).setCell (Nat.le_refl _) _).setCell (Nat.le_refl _) _, h.r.set4.set5.set3⟩

theorem dgz : Dg 0 0 0 0 0 0 0 := ⟨by omega, by omega, by omega, by omega, by omega, by omega, by omega, by omega, by omega, by omega, by omega, by omega, by omega⟩

/-- what is read behind the sign, as Parse returns it -/
def RP (o : Option Int) (e : Ending) : Prop := e = .returned (.tuple #[.int .i64 (pk o), .bool (pf o)])
theorem RP.no {o : Option Int} (h : o = none) : RP o (.returned (.tuple #[.int .i64 0, .bool false])) := by rw [h]; rfl
theorem RP.yes {o : Option Int} {n : Int} {k : Int} {f : Bool} (h : o = some n) (hk : k = keep n) (hf : f = fitB n) : RP o (.returned (.tuple #[.int .i64 k, .bool f])) := by rw [h, hk, hf]; rfl

end Go.Proofs.YtgheopdadfnilaaDoor.V
namespace Go.Proofs.YtgheopdadfnilaaDoor.V
open Go.RowKit
set_option linter.unusedVariables false
set_option linter.unusedSimpArgs false

theorem list_head (s : ByteArray) (h : 0 < s.size) : s.data.toList = s[0] :: s.data.toList.drop 1 := by
  have h' : 0 < s.data.toList.length := by simpa using h
  have e : s[0] = s.data.toList[0]'h' := rfl
  rw [e]
  have := List.drop_eq_getElem_cons h'
  rw [List.drop_zero] at this
  exact this

end Go.Proofs.YtgheopdadfnilaaDoor.V
namespace Go.Proofs.YtgheopdadfnilaaDoor
open Go.RowKit
set_option linter.unusedVariables false
set_option linter.unusedSimpArgs false

/-- what is answered of the parts -/
def rfR (sh : ByteArray) (cf : Bool) (n col : Int) (ra ca : Bool) : Value :=
  if cf = true ∧ 1 ≤ n then .tuple #[.agg #[.string sh, .int .i64 (n - 1), .int .i64 col, .bool ra, .bool ca], .bool true] else .tuple #[.agg #[.string ⟨#[]⟩, .int .i64 0, .int .i64 0, .bool false, .bool false], .bool false]
/-- a reference that is none, and one that is being made -/
abbrev Z25 : Obj := .cells #[.string ⟨#[]⟩, .int .i64 0, .int .i64 0, .bool false, .bool false] 49
abbrev R25 (sh : ByteArray) (ra ca : Bool) : Obj := .cells #[.string sh, .int .i64 0, .int .i64 0, .bool ra, .bool ca] 49
/-- a sign ahead of a text, and the text without it -/
def Dl (C T : ByteArray) (b : Bool) : Prop := (b = true ∧ ∃ h : 0 < C.size, C[0] = 36 ∧ C.extract 1 C.size = T) ∨ (b = false ∧ (∀ h : 0 < C.size, C[0] ≠ 36) ∧ C = T)

end Go.Proofs.YtgheopdadfnilaaDoor
namespace Go.Proofs.YtgheopdadfnilaaDoor
open Go.RowKit
set_option linter.unusedVariables false
set_option linter.unusedSimpArgs false

end Go.Proofs.YtgheopdadfnilaaDoor
namespace Go.Proofs.YtgheopdadfnilaaDoor
open Go.RowKit
set_option linter.unusedVariables false
set_option linter.unusedSimpArgs false

theorem dl_of (C : ByteArray) : Dl C ⟨(Lib.trimPrefix C.data.toList [36]).toArray⟩ (Lib.hasPrefix C.data.toList [36]) := by
  unfold Dl
  cases hb : Lib.hasPrefix C.data.toList [36]
  · refine .inr ⟨rfl, fun h e => ?_, ?_⟩
    · have h1 := drop_cons C 0 h
      rw [List.drop_zero] at h1
      rw [h1, e] at hb
      unfold Lib.hasPrefix at hb
      simp at hb
    · have : Lib.trimPrefix C.data.toList [36] = C.data.toList := by unfold Lib.trimPrefix; rw [hb]; rfl
      rw [this]
  · have hp : 0 < C.size := by
      rcases Nat.eq_zero_or_pos C.size with h | h
      · rw [show C.data.toList = [] from List.eq_nil_of_length_eq_zero (by rw [len_data]; exact h)] at hb
        unfold Lib.hasPrefix at hb
        simp at hb
      · exact h
    refine .inl ⟨rfl, hp, ?_, ?_⟩
    · have h1 := drop_cons C 0 hp
      rw [List.drop_zero] at h1
      rw [h1] at hb
      unfold Lib.hasPrefix at hb
      simp at hb
      exact hb.symm
    · apply bytes_eq
      rw [Lib.extract_data]
      have : Lib.trimPrefix C.data.toList [36] = C.data.toList.drop 1 := by unfold Lib.trimPrefix; rw [hb]; rfl
      rw [this]
      exact List.take_of_length_le (by rw [List.length_drop, len_data]; omega)
theorem numR_lo (l : List UInt8) (m : Nat) : -1 ≤ numR l m := by unfold numR; split <;> omega
theorem numR_hi (l : List UInt8) (m : Nat) : numR l m ≤ (m : Int) := by
  unfold numR
  split
  · rename_i h
    unfold numF at h
    simp only [Bool.and_eq_true, decide_eq_true_eq] at h
    omega
  · omega
theorem rf_eq (sh c : List UInt8) :
    rfR ⟨sh.toArray⟩ (colF ((Lib.trimPrefix c [36]).takeWhile let1)) (numR (Lib.trimPrefix ((Lib.trimPrefix c [36]).dropWhile let1) [36]) 2199023255552) (colK ((Lib.trimPrefix c [36]).takeWhile let1))
      (Lib.hasPrefix ((Lib.trimPrefix c [36]).dropWhile let1) [36]) (Lib.hasPrefix c [36]) = .tuple #[refA (if tailF c then tailT sh c else noT), .bool (tailF c)] := by
  unfold rfR tailF tailT numR colK
  cases colF ((Lib.trimPrefix c [36]).takeWhile let1)
  · rfl
  cases numF (Lib.trimPrefix ((Lib.trimPrefix c [36]).dropWhile let1) [36]) 2199023255552
  · rw [if_neg (by simp)]
    rfl
  generalize val (Lib.trimPrefix ((Lib.trimPrefix c [36]).dropWhile let1) [36]) = v
  by_cases h : v = 0
  · rw [if_neg (by simp; omega), decide_eq_false (by omega)]
    rfl
  · rw [if_pos (by simp; omega), decide_eq_true h]
    rfl
end Go.Proofs.YtgheopdadfnilaaDoor
namespace Go.Proofs.YtgheopdadfnilaaDoor
open Go.RowKit
set_option linter.unusedVariables false
set_option linter.unusedSimpArgs false


theorem quoF_le : ∀ (l acc : List UInt8) (n : Nat) (t : List UInt8) (m : Nat), quoF l acc n = some (t, m) → n < m ∧ m ≤ n + l.length
  | [], _, _, _, _, h => by simp [quoF] at h
  | [c], acc, n, t, m, h => by
    unfold quoF at h
    split at h
    · simp only [Option.some.injEq, Prod.mk.injEq] at h
      simp
      omega
    · cases h
  | c :: d :: r, acc, n, t, m, h => by
    unfold quoF at h
    split at h
    · split at h
      · have := quoF_le r _ _ _ _ h
        simp
        omega
      · simp only [Option.some.injEq, Prod.mk.injEq] at h
        simp
        omega
    · have := quoF_le (d :: r) _ _ _ _ h
      simp at this ⊢
      omega
theorem prefix_len {l p : List UInt8} (h : Lib.hasPrefix l p = true) : p.length ≤ l.length := by
  unfold Lib.hasPrefix at h
  rw [List.isPrefixOf_iff_prefix] at h
  exact h.length_le
theorem len_tw (l : List UInt8) (p : UInt8 → Bool) : (l.takeWhile p).length ≤ l.length := (List.takeWhile_prefix _).length_le
theorem word_len (l : List UInt8) : (wordF l).2.2 ≤ l.length := by
  unfold wordF
  split
  · rename_i h
    have hl : 0 < l.length := by
      cases l with
      | nil => exact absurd h (by decide)
      | cons c r => simp
    unfold quoW
    cases hq : quoF (l.drop 1) [] 1 with
    | none => simp [quoP, bad]
    | some p =>
      obtain ⟨t, m⟩ := p
      have := quoF_le _ _ _ _ _ hq
      simp only [quoP]
      split
      · rw [List.length_drop] at this
        simp only
        omega
      · simp [bad]
  · split
    · unfold errW
      cases he : errF l with
      | none => simp [errP, bad]
      | some e =>
        unfold errF at he
        have h2 := List.find?_some he
        exact prefix_len h2
    · split
      · unfold joinW
        split
        · simp [bad]
        · exact len_tw _ _
      · unfold sigW
        cases he : sigF l with
        | none => simp [sigP, bad]
        | some e =>
          unfold sigF at he
          have h2 := List.find?_some he
          exact prefix_len h2
end Go.Proofs.YtgheopdadfnilaaDoor
namespace Go.Proofs.YtgheopdadfnilaaDoor
open Go.RowKit
set_option linter.unusedVariables false
set_option linter.unusedSimpArgs false


/-- what ref.word answers -/
def rwv (q : Nat × List UInt8 × Nat) (i : Nat) : Value := .tuple #[.agg #[.int .i64 (q.1 : Int), .string ⟨q.2.1.toArray⟩, .int .i64 (if q.2.2 = 0 then 0 else (i : Int))], .int .i64 (q.2.2 : Int)]
theorem ret_rw {q : Nat × List UInt8 × Nat} {i a n : Nat} {k m : Int} {s : ByteArray} {l : List UInt8} (h : q = (a, l, n)) (hn : n ≠ 0) (hk : k = (a : Int)) (hs : s.data.toList = l) (hm : m = (n : Int)) :
    Ending.returned (.tuple #[.agg #[.int .i64 k, .string s, .int .i64 (i : Int)], .int .i64 m]) = .returned (rwv q i) := by
  subst h hk hm hs
  unfold rwv
  simp only [if_neg hn]
theorem ret_rbad {q : Nat × List UInt8 × Nat} {i : Nat} (h : q = bad) :
    Ending.returned (.tuple #[.agg #[.int .i64 0, .string ⟨#[]⟩, .int .i64 0], .int .i64 0]) = .returned (rwv q i) := by
  subst h
  rfl
/-- the block in which the word is handed back -/
structure WB (w W : World) : Prop where
  q : Q w W
  lt : w.heap.size < W.heap.size
  c0 : W.cell? ⟨w.heap.size, 0, none⟩ = some (.int .i64 0)
  c1 : W.cell? ⟨w.heap.size, 1, none⟩ = some (.string ⟨#[]⟩)
  c2 : W.cell? ⟨w.heap.size, 2, none⟩ = some (.int .i64 0)
  f0 : W.frozen? ⟨w.heap.size, 0, none⟩ = false
  f1 : W.frozen? ⟨w.heap.size, 1, none⟩ = false
  f2 : W.frozen? ⟨w.heap.size, 2, none⟩ = false
theorem WB.on {w W W' : World} (h : WB w W) (q : Q W W') : WB w W' :=
  ⟨h.q.trans q, q.lt h.lt, (q.cell h.lt).trans h.c0, (q.cell h.lt).trans h.c1, (q.cell h.lt).trans h.c2,
    (Below.frozen q (p := ⟨w.heap.size, 0, none⟩) h.lt).trans h.f0, (Below.frozen q (p := ⟨w.heap.size, 1, none⟩) h.lt).trans h.f1, (Below.frozen q (p := ⟨w.heap.size, 2, none⟩) h.lt).trans h.f2⟩

/-- a run of bytes from a place on -/
structure RunAt (s : ByteArray) (i M : Nat) (T : ByteArray) : Prop where
  lo : i < M
  le : M ≤ s.size
  eT : s.extract i M = T
  lT : T.data.toList = (s.data.toList.drop i).takeWhile joinB
  zT : T.size = M - i
  yes : ∀ k (h : k < s.size), i ≤ k → k < M → joinB s[k] = true
  no : ∀ (h : M < s.size), joinB s[M] = false
  beh : (s.data.toList.drop i).dropWhile joinB = s.data.toList.drop M
theorem run_at (s : ByteArray) (i : Nat) (h : i < s.size) (hj : joinB s[i] = true) : ∃ M T, RunAt s i M T ∧ M = i + ((s.data.toList.drop i).takeWhile joinB).length := by
  have hl := tw_len (s.data.toList.drop i) joinB
  rw [List.length_drop, len_data] at hl
  have h1 : 0 < ((s.data.toList.drop i).takeWhile joinB).length := by
    rw [drop_cons s i h, List.takeWhile_cons, if_pos hj]; simp
  refine ⟨_, _, ⟨by omega, by omega, rfl, ?_, by simp; omega, fun k hk h2 h3 => ?_, fun hk => ?_, ?_⟩, rfl⟩
  · rw [Lib.extract_data]
    simp only [Nat.add_sub_cancel_left]
    exact tw_take _ _
  · have := tw_in (s.data.toList.drop i) joinB (k - i) (by omega) (by rw [List.length_drop, len_data]; omega)
    rw [List.getElem_drop] at this
    have e : i + (k - i) = k := by omega
    simp only [e] at this
    exact this
  · have := tw_out (s.data.toList.drop i) joinB (by rw [List.length_drop, len_data]; omega)
    rw [List.getElem_drop] at this
    exact this
  · rw [← tw_drop, List.drop_drop]

theorem pk_pos {t : List UInt8} (h : Lib.hasPrefix t [45] = false) : 0 ≤ V.pk (V.parseO t) := by
  unfold V.parseO
  rw [h]
  split
  · unfold V.pk V.keep
    simp only
    split
    · unfold V.sgn
      simp
    · exact Int.le_refl _
  · exact Int.le_refl _
theorem no_minus (T : ByteArray) (hp : 0 < T.size) (h : T[0] ≠ 45) : Lib.hasPrefix T.data.toList [45] = false := by
  have := headD_get T hp
  cases hl : T.data.toList with
  | nil => rfl
  | cons c r =>
    rw [hl] at this
    simp only [List.headD_cons] at this
    rw [← this] at h
    rw [Bool.eq_false_iff]
    intro hx
    unfold Lib.hasPrefix at hx
    rw [List.isPrefixOf_iff_prefix, List.cons_prefix_cons] at hx
    exact h hx.1.symm

end Go.Proofs.YtgheopdadfnilaaDoor
namespace Go.Proofs.YtgheopdadfnilaaDoor
open Go.RowKit
set_option linter.unusedVariables false
set_option linter.unusedSimpArgs false


/-- what is read of words' texts -/
def errN (t : List UInt8) : Nat := if t = enL 1 then 1 else if t = enL 2 then 2 else if t = enL 3 then 3 else if t = enL 4 then 4 else if t = enL 5 then 5 else if t = enL 6 then 6 else if t = enL 7 then 7 else 0
def namF (t : List UInt8) : Bool := decide (0 < t.length) && (decide (t.length ≤ 20) && (decide (¬ (t = truW ∨ t = flsW)) && t.all let1))
def EE : Env := { num := fun t => V.pk (V.parseO t), nok := fun t => V.pf (V.parseO t), ref := refT, rok := refF, err := errN, nam := namF }
/-- what a reader of words reads of the word that is next -/
def KW (W : World) (p n b off cap i : Nat) (k : Int) (T : ByteArray) (q : Int) : Prop := W.cell? ⟨p, 0, none⟩ = some (.slice (some ⟨b, off, none⟩) n cap) ∧ W.cell? ⟨p, 1, none⟩ = some (.int .i64 (i : Int)) ∧ W.cell? ⟨b, off + i * 3, none⟩ = some (.int .i64 k) ∧ W.cell? ⟨b, off + i * 3 + 1, none⟩ = some (.string T) ∧ W.cell? ⟨b, off + i * 3 + 2, none⟩ = some (.int .i64 q)
theorem KW.on {W W' : World} {p n b off cap i : Nat} {k : Int} {T : ByteArray} {q : Int} (h : KW W p n b off cap i k T q) (x : Q W W') : KW W' p n b off cap i k T q :=
  ⟨(x.cell (World.block_lt_of_cell? W ⟨p, 0, none⟩ h.1)).trans h.1, (x.cell (World.block_lt_of_cell? W ⟨p, 1, none⟩ h.2.1)).trans h.2.1, (x.cell (World.block_lt_of_cell? W ⟨b, off + i * 3, none⟩ h.2.2.1)).trans h.2.2.1, (x.cell (World.block_lt_of_cell? W ⟨b, off + i * 3 + 1, none⟩ h.2.2.2.1)).trans h.2.2.2.1, (x.cell (World.block_lt_of_cell? W ⟨b, off + i * 3 + 2, none⟩ h.2.2.2.2)).trans h.2.2.2.2⟩
theorem PS.kw {W : World} {p : Nat} {L : List Wd} {b off cap i : Nat} {bd : Bool} {n : Nat} (h : PS W p L b off cap i bd n) (hi : i < L.length) : ∃ (T : ByteArray) (q : Int), T.data.toList = tAt L i ∧ KW W p L.length b off cap i (kAt L i : Int) T q := by
  have hk := kAt_get hi
  refine ⟨⟨L[i].t.toArray⟩, (L[i].p : Int), hk.2.symm, h.c0, h.c1, ?_, h.sw.t i hi, h.sw.p i hi⟩
  rw [hk.1]
  exact h.sw.k i hi
/-- a word's block -/
structure Wb (W : World) (q : Nat) (c0 c1 c2 : Value) : Prop where
  g0 : W.cell? ⟨q, 0, none⟩ = some c0
  g1 : W.cell? ⟨q, 1, none⟩ = some c1
  g2 : W.cell? ⟨q, 2, none⟩ = some c2
theorem wb_new (W : World) (c0 c1 c2 : Value) (t : TypeId) : Wb (W.alloc (.cells #[c0, c1, c2] t)) W.heap.size c0 c1 c2 := by
  refine ⟨?_, ?_, ?_⟩
  all_goals simp [World.cell?_alloc_new]
theorem Wb.on {p : Nat} {W W' : World} {q : Nat} {c0 c1 c2 : Value} (h : Wb W q c0 c1 c2) (x : Qx p W W') (hq : q ≠ p) : Wb W' q c0 c1 c2 := by
  have hl : q < W.heap.size := World.block_lt_of_cell? W ⟨q, 0, none⟩ h.g0
  exact ⟨(x.cell hl hq).trans h.g0, (x.cell hl hq).trans h.g1, (x.cell hl hq).trans h.g2⟩
theorem rdg_leaf {g : Nat → Prop} {W : World} (k n : Int) (t : List UInt8) (T : ByteArray) (hT : T.data.toList = t) (b : Bool) (e : Int) : Rdg g W (.mk k n t b e [] []) (.agg #[.int .i64 k, .int .i64 n, .string T, .bool b, .int .i64 e, .slice none 0 0, .slice none 0 0]) := by
  have e' : T = ⟨t.toArray⟩ := bytes_eq hT
  subst e'
  unfold Rdg
  exact ⟨_, _, rfl, ⟨none, 0, rfl, Nat.le_refl _, Nat.zero_le _, fun h => absurd h (by simp)⟩, none, 0, rfl, Nat.le_refl _, Nat.zero_le _, fun h => absurd rfl h⟩

end Go.Proofs.YtgheopdadfnilaaDoor
namespace Go.Proofs.YtgheopdadfnilaaDoor
open Go.RowKit
set_option linter.unusedVariables false
set_option linter.unusedSimpArgs false


theorem Std.onx {w w' : World} {r : Nat} (h : Std w) (q : Qx r w w') (hr : 5 ≤ r) : Std w' := by
  have hb := h.big
  have ce : ∀ {b o : Nat}, b < 5 → w'.cell? ⟨b, o, none⟩ = w.cell? ⟨b, o, none⟩ := fun {b o} hb5 => q.cell (by omega) (by omega)
  refine ⟨fun i hi => ?_, ⟨by have := q.size; have := h.nam.1; omega, fun i hi => ?_⟩, ⟨fun c hc => ?_, fun i hi => ?_⟩, ?_, by have := q.size; omega⟩
  · rw [ce (by omega)]; exact h.sg i hi
  · rw [ce (by omega)]; exact h.nam.2 i hi
  · rw [ce (by omega)]; exact h.utf.1 c hc
  · rw [ce (by omega), ce (by omega)]; exact h.utf.2 i hi
  · obtain ⟨m, hm⟩ := h.len
    exact ⟨m, by rw [ce (by omega)]; exact hm⟩
/-- where the program's reader stands -/
structure PT (W : World) (p : Nat) (L : List Wd) (b off cap : Nat) (i : Nat) : Prop where
  c0 : W.cell? ⟨p, 0, none⟩ = some (.slice (some ⟨b, off, none⟩) L.length cap)
  c1 : W.cell? ⟨p, 1, none⟩ = some (.int .i64 (i : Int))
  f1 : W.frozen? ⟨p, 1, none⟩ = false
  sw : Sv W L (.slice (some ⟨b, off, none⟩) L.length cap) b off cap
  ne : b ≠ p
  sd : Std W
  p5 : 5 ≤ p
theorem PT.lt {W : World} {p : Nat} {L : List Wd} {b off cap i : Nat} (h : PT W p L b off cap i) : p < W.heap.size := World.block_lt_of_cell? W ⟨p, 0, none⟩ h.c0
theorem PT.blk {W : World} {p : Nat} {L : List Wd} {b off cap i : Nat} (h : PT W p L b off cap i) (j : Nat) (hj : j < L.length) : b < W.heap.size := World.block_lt_of_cell? W ⟨b, off + j * 3, none⟩ (h.sw.k j hj)
theorem PT.on {W W' : World} {p : Nat} {L : List Wd} {b off cap i : Nat} (h : PT W p L b off cap i) (q : Q W W') : PT W' p L b off cap i :=
  ⟨(q.cell h.lt).trans h.c0, (q.cell h.lt).trans h.c1, (Below.frozen q (p := ⟨p, 1, none⟩) h.lt).trans h.f1, h.sw.on (Qx.of q) h.ne, h.ne, h.sd.on q, h.p5⟩
theorem PT.onx {W W' : World} {p r : Nat} {L : List Wd} {b off cap i : Nat} (h : PT W p L b off cap i) (q : Qx r W W') (hp : p ≠ r) (hb : b ≠ r) (hr5 : 5 ≤ r) : PT W' p L b off cap i :=
  ⟨(q.cell h.lt hp).trans h.c0, (q.cell h.lt hp).trans h.c1, (World.frozen?_of_block (a := ⟨p, 1, none⟩) (q.block p h.lt (fun e => hp (Option.some.inj e)))).trans h.f1, h.sw.on q hb, h.ne, h.sd.onx q hr5, h.p5⟩
theorem PT.set1 {W : World} {p : Nat} {L : List Wd} {b off cap i : Nat} (h : PT W p L b off cap i) (i' : Nat) (I : Int) (hI : I = (i' : Int)) : PT (W.setCell ⟨p, 1, none⟩ (.int .i64 I)) p L b off cap i' := by
  subst hI
  refine ⟨?_, World.cell?_setCell_same _ _ _ h.c1, ?_, h.sw.on ((Qx.refl p _).own _ _) h.ne, h.ne, h.sd.onx ((Qx.refl p _).own _ _) h.p5, h.p5⟩
  · rw [World.cell?_setCell_other _ _ _ _ (by simp)]; exact h.c0
  · rw [World.frozen?_setCell]; exact h.f1
theorem PT.kw {W : World} {p : Nat} {L : List Wd} {b off cap i : Nat} (h : PT W p L b off cap i) (hi : i < L.length) : KW W p L.length b off cap i (kAt L i : Int) ⟨(tAt L i).toArray⟩ ((L.getD i ⟨7, [], 0⟩).p : Int) := by
  have hg := kAt_get hi
  refine ⟨h.c0, h.c1, ?_, ?_, ?_⟩
  · rw [hg.1]; exact h.sw.k i hi
  · rw [hg.2]; exact h.sw.t i hi
  · rw [List.getD_eq_getElem?_getD, List.getElem?_eq_getElem hi]; exact h.sw.p i hi

set_option maxRecDepth 100000 in
set_option maxHeartbeats 4000000 in
theorem word_any (W : World) (p n b off cap i : Nat) (k : Int) (T : ByteArray) (q : Int) (h : KW W p n b off cap i k T q) (hi : i < n) (hn : n ≤ 50000) :
    Calls Tryd.prog 12 #[.pointer (some ⟨p, 0, none⟩)] W fun e W' => e = .returned (.agg #[.int .i64 k, .string T, .int .i64 q]) ∧ Q W W' := by
  have HK := hid h
  clear h
  go_enter Tryd.func12, Tryd.ntmps12
  go_wp2_with fail
  go_region_held3 (fun V => V.cell? ⟨p, 0, none⟩ = some (.slice (some ⟨b, off, none⟩) n cap) ∧ V.cell? ⟨p, 1, none⟩ = some (.int .i64 (i : Int)) ∧ V.cell? ⟨b, off + i * 3, none⟩ = some (.int .i64 k) ∧ V.cell? ⟨b, off + i * 3 + 1, none⟩ = some (.string T) ∧ V.cell? ⟨b, off + i * 3 + 2, none⟩ = some (.int .i64 q)) (exact HK.out.on (by repeat (first | with_reducible exact Q.refl _ | with_reducible refine Q.drewN ?_ _ | with_reducible refine Q.drew ?_ | with_reducible refine Q.alloc ?_ _ | with_reducible refine Q.setCell ?_ (by simp) _))) (fail)
  all_goals go_wp2_with fail
  all_goals refine bodyPost_ret (v := .agg #[.int .i64 k, .string T, .int .i64 q]) (by simp [results, Tryd.results12, go_sem]) rfl ⟨rfl, ?_⟩
  all_goals exact (by repeat (first | with_reducible exact Q.refl _ | with_reducible refine Q.drewN ?_ _ | with_reducible refine Q.drew ?_ | with_reducible refine Q.alloc ?_ _ | with_reducible refine Q.setCell ?_ (by simp) _))

theorem fd0 (a b c : Value) (w : World) : (Instr.field 46 (.agg #[a, b, c]) 0).run Tryd.prog w = .ok a w := by kernel_rfl
theorem fd1 (a b c : Value) (w : World) : (Instr.field 46 (.agg #[a, b, c]) 1).run Tryd.prog w = .ok b w := by kernel_rfl
/-- the sign that is next, or none -/
def sgnL (L : List Wd) (i : Nat) : List UInt8 := if kAt L i = 6 then tAt L i else []

set_option maxRecDepth 100000 in
set_option maxHeartbeats 4000000 in
theorem psign_any (W : World) (p : Nat) (L : List Wd) (b off cap i : Nat) (h : PT W p L b off cap i) (hi : i < L.length) (hr : L.length ≤ 50000) :
    Calls Tryd.prog 22 #[.pointer (some ⟨p, 0, none⟩)] W fun e W' => e = .returned (.string ⟨(sgnL L i).toArray⟩) ∧ Q W W' := by
  have HW := hid (fun W1 (g : PT W1 p L b off cap i) => word_any W1 p L.length b off cap i _ _ _ (g.kw hi) hi hr)
  have HP := hid h
  obtain ⟨T, hT⟩ : ∃ T : ByteArray, T = ⟨(tAt L i).toArray⟩ := ⟨_, rfl⟩
  rw [← hT] at HW
  generalize ((L.getD i ⟨7, [], 0⟩).p : Int) = q at HW
  have f0 : ∀ (k : Int) (w : World), (Instr.field 46 (.agg #[.int .i64 k, .string T, .int .i64 q]) 0).run Tryd.prog w = .ok (.int .i64 k) w := fun k w => fd0 _ _ _ w
  have f1 : ∀ (k : Int) (w : World), (Instr.field 46 (.agg #[.int .i64 k, .string T, .int .i64 q]) 1).run Tryd.prog w = .ok (.string T) w := fun k w => fd1 _ _ _ w
  have HTT := hid hT
  clear h hT
  by_cases hk : kAt L i = 6
  · have HS : Hid (sgnL L i = tAt L i) := by show _ = _; unfold sgnL; rw [if_pos hk]
    have e6 : ((kAt L i : Int) == 6) = true := by rw [hk]; rfl
    have e7 : (kAt L i : Int) = 6 := by omega
    generalize (kAt L i : Int) = kk at HW e6 e7
    generalize sgnL L i = sg at HS ⊢
    go_enter Tryd.func22, Tryd.ntmps22
    go_wp2_with (first | (go_at_call 12; refine (HW.out _ P1.out).mono ?_; rintro e w2 ⟨rfl, q2⟩; have Q2 := hid q2; clear q2) | (go_at_call 12; refine (HW.out _ HP.out).mono ?_; rintro e w1 ⟨rfl, q1⟩; have Q1 := hid q1; have P1 := hid (HP.out.on q1); clear q1))
    go_ret
    exact ⟨ret_str (by rw [HTT.out, HS.out]), Q1.out.trans Q2.out⟩
  · have HS : Hid (sgnL L i = []) := by show _ = _; unfold sgnL; rw [if_neg hk]
    have e6 : ((kAt L i : Int) == 6) = false := by rw [beq_eq_false_iff_ne]; omega
    have e7 : ¬ (kAt L i : Int) = 6 := by omega
    generalize (kAt L i : Int) = kk at HW e6 e7
    generalize sgnL L i = sg at HS ⊢
    go_enter Tryd.func22, Tryd.ntmps22
    go_wp2_with (go_at_call 12; refine (HW.out _ HP.out).mono ?_; rintro e w1 ⟨rfl, q1⟩; have Q1 := hid q1; clear q1)
    go_ret
    exact ⟨ret_str (by rw [HS.out]), Q1.out⟩

theorem isW_sgn {L : List Wd} {i : Nat} (hi : i < L.length) {s : List UInt8} (hs : s ≠ []) : isW L i s = decide (sgnL L i = s) := by
  rw [isW_at hi]
  have hk := kAt_get hi
  unfold sgnL
  rw [← hk.1, ← hk.2]
  by_cases h : kAt L i = 6
  · simp [h]
  · rw [if_neg h]
    rw [decide_eq_false (fun e => h e.1), decide_eq_false (fun e => hs e.symm)]

set_option maxRecDepth 100000 in
set_option maxHeartbeats 4000000 in
theorem ptake_any (W : World) (p : Nat) (L : List Wd) (b off cap i : Nat) (s : ByteArray) (h : PT W p L b off cap i) (hi : i < L.length) (hr : L.length ≤ 50000) (hs : s.data.toList ≠ []) :
    Calls Tryd.prog 31 #[.pointer (some ⟨p, 0, none⟩), .string s] W fun e W' => e = .returned (.bool (isW L i s.data.toList)) ∧ Qx p W W' ∧ PT W' p L b off cap (if isW L i s.data.toList then i + 1 else i) := by
  have HI := hid (psign_any W p L b off cap i h hi hr)
  have HP := hid h
  rw [isW_sgn hi hs]
  obtain ⟨S, hS, lS⟩ : ∃ S : ByteArray, ⟨(sgnL L i).toArray⟩ = S ∧ S.data.toList = sgnL L i := ⟨_, rfl, rfl⟩
  rw [hS] at HI
  clear h hS hs
  by_cases hw : sgnL L i = s.data.toList
  · have e7 : (S.toList == s.toList) = true := by rw [toL, toL, lS, hw]; exact beq_self_eq_true _
    rw [decide_eq_true hw]
    clear lS hw
    go_enter Tryd.func31, Tryd.ntmps31
    go_wp2_with (go_at_call 22; refine HI.out.mono ?_; rintro e w1 ⟨rfl, q1⟩; have Q1 := hid q1; have HP1 := hid (HP.out.on q1); clear q1; have g1 := HP1.out.c1; have k1 := HP1.out.f1)
    go_ret
    exact ⟨rfl, (Qx.of Q1.out).own _ _, HP1.out.set1 (i + 1) _ rfl⟩
  · have e7 : (S.toList == s.toList) = false := by rw [toL, toL, lS, beq_eq_false_iff_ne]; exact hw
    rw [decide_eq_false hw]
    clear lS hw
    go_enter Tryd.func31, Tryd.ntmps31
    go_wp2_with (go_at_call 22; refine HI.out.mono ?_; rintro e w1 ⟨rfl, q1⟩; have Q1 := hid q1; have HP1 := hid (HP.out.on q1); clear q1)
    go_ret
    exact ⟨rfl, Qx.of Q1.out, HP1.out⟩

set_option maxHeartbeats 4000000 in
theorem strength_any (s : ByteArray) (W : World) : Calls Tryd.prog 21 #[.string s] W fun e W' => e = .returned (.int .i64 (lvl s.data.toList : Int)) ∧ W' = W := by
  have et := hid (toL s)
  by_cases h0 : s.data.toList = [61]
  · have f0 : (s.toList == [61]) = true := by rw [et.out, h0]; rfl
    have HR : Hid (lvl s.data.toList = 1) := by show _ = _; rw [h0]; rfl
    generalize lvl s.data.toList = r at HR ⊢
    clear et h0
    go_enter Tryd.func21, Tryd.ntmps21
    go_wp2
    go_ret
    exact ⟨ret_int (by rw [HR.out]; rfl), rfl⟩
  · have f0 : (s.toList == [61]) = false := by rw [et.out, beq_eq_false_iff_ne]; exact h0
    by_cases h1 : s.data.toList = [60, 62]
    · have f1 : (s.toList == [60, 62]) = true := by rw [et.out, h1]; rfl
      have HR : Hid (lvl s.data.toList = 1) := by show _ = _; rw [h1]; rfl
      generalize lvl s.data.toList = r at HR ⊢
      clear et h0 h1
      go_enter Tryd.func21, Tryd.ntmps21
      go_wp2
      go_ret
      exact ⟨ret_int (by rw [HR.out]; rfl), rfl⟩
    · have f1 : (s.toList == [60, 62]) = false := by rw [et.out, beq_eq_false_iff_ne]; exact h1
      by_cases h2 : s.data.toList = [60]
      · have f2 : (s.toList == [60]) = true := by rw [et.out, h2]; rfl
        have HR : Hid (lvl s.data.toList = 1) := by show _ = _; rw [h2]; rfl
        generalize lvl s.data.toList = r at HR ⊢
        clear et h0 h1 h2
        go_enter Tryd.func21, Tryd.ntmps21
        go_wp2
        go_ret
        exact ⟨ret_int (by rw [HR.out]; rfl), rfl⟩
      · have f2 : (s.toList == [60]) = false := by rw [et.out, beq_eq_false_iff_ne]; exact h2
        by_cases h3 : s.data.toList = [60, 61]
        · have f3 : (s.toList == [60, 61]) = true := by rw [et.out, h3]; rfl
          have HR : Hid (lvl s.data.toList = 1) := by show _ = _; rw [h3]; rfl
          generalize lvl s.data.toList = r at HR ⊢
          clear et h0 h1 h2 h3
          go_enter Tryd.func21, Tryd.ntmps21
          go_wp2
          go_ret
          exact ⟨ret_int (by rw [HR.out]; rfl), rfl⟩
        · have f3 : (s.toList == [60, 61]) = false := by rw [et.out, beq_eq_false_iff_ne]; exact h3
          by_cases h4 : s.data.toList = [62]
          · have f4 : (s.toList == [62]) = true := by rw [et.out, h4]; rfl
            have HR : Hid (lvl s.data.toList = 1) := by show _ = _; rw [h4]; rfl
            generalize lvl s.data.toList = r at HR ⊢
            clear et h0 h1 h2 h3 h4
            go_enter Tryd.func21, Tryd.ntmps21
            go_wp2
            go_ret
            exact ⟨ret_int (by rw [HR.out]; rfl), rfl⟩
          · have f4 : (s.toList == [62]) = false := by rw [et.out, beq_eq_false_iff_ne]; exact h4
            by_cases h5 : s.data.toList = [62, 61]
            · have f5 : (s.toList == [62, 61]) = true := by rw [et.out, h5]; rfl
              have HR : Hid (lvl s.data.toList = 1) := by show _ = _; rw [h5]; rfl
              generalize lvl s.data.toList = r at HR ⊢
              clear et h0 h1 h2 h3 h4 h5
              go_enter Tryd.func21, Tryd.ntmps21
              go_wp2
              go_ret
              exact ⟨ret_int (by rw [HR.out]; rfl), rfl⟩
            · have f5 : (s.toList == [62, 61]) = false := by rw [et.out, beq_eq_false_iff_ne]; exact h5
              by_cases h6 : s.data.toList = [38]
              · have f6 : (s.toList == [38]) = true := by rw [et.out, h6]; rfl
                have HR : Hid (lvl s.data.toList = 2) := by show _ = _; rw [h6]; rfl
                generalize lvl s.data.toList = r at HR ⊢
                clear et h0 h1 h2 h3 h4 h5 h6
                go_enter Tryd.func21, Tryd.ntmps21
                go_wp2
                go_ret
                exact ⟨ret_int (by rw [HR.out]; rfl), rfl⟩
              · have f6 : (s.toList == [38]) = false := by rw [et.out, beq_eq_false_iff_ne]; exact h6
                by_cases h7 : s.data.toList = [43]
                · have f7 : (s.toList == [43]) = true := by rw [et.out, h7]; rfl
                  have HR : Hid (lvl s.data.toList = 3) := by show _ = _; rw [h7]; rfl
                  generalize lvl s.data.toList = r at HR ⊢
                  clear et h0 h1 h2 h3 h4 h5 h6 h7
                  go_enter Tryd.func21, Tryd.ntmps21
                  go_wp2
                  go_ret
                  exact ⟨ret_int (by rw [HR.out]; rfl), rfl⟩
                · have f7 : (s.toList == [43]) = false := by rw [et.out, beq_eq_false_iff_ne]; exact h7
                  by_cases h8 : s.data.toList = [45]
                  · have f8 : (s.toList == [45]) = true := by rw [et.out, h8]; rfl
                    have HR : Hid (lvl s.data.toList = 3) := by show _ = _; rw [h8]; rfl
                    generalize lvl s.data.toList = r at HR ⊢
                    clear et h0 h1 h2 h3 h4 h5 h6 h7 h8
                    go_enter Tryd.func21, Tryd.ntmps21
                    go_wp2
                    go_ret
                    exact ⟨ret_int (by rw [HR.out]; rfl), rfl⟩
                  · have f8 : (s.toList == [45]) = false := by rw [et.out, beq_eq_false_iff_ne]; exact h8
                    by_cases h9 : s.data.toList = [42]
                    · have f9 : (s.toList == [42]) = true := by rw [et.out, h9]; rfl
                      have HR : Hid (lvl s.data.toList = 4) := by show _ = _; rw [h9]; rfl
                      generalize lvl s.data.toList = r at HR ⊢
                      clear et h0 h1 h2 h3 h4 h5 h6 h7 h8 h9
                      go_enter Tryd.func21, Tryd.ntmps21
                      go_wp2
                      go_ret
                      exact ⟨ret_int (by rw [HR.out]; rfl), rfl⟩
                    · have f9 : (s.toList == [42]) = false := by rw [et.out, beq_eq_false_iff_ne]; exact h9
                      by_cases h10 : s.data.toList = [47]
                      · have f10 : (s.toList == [47]) = true := by rw [et.out, h10]; rfl
                        have HR : Hid (lvl s.data.toList = 4) := by show _ = _; rw [h10]; rfl
                        generalize lvl s.data.toList = r at HR ⊢
                        clear et h0 h1 h2 h3 h4 h5 h6 h7 h8 h9 h10
                        go_enter Tryd.func21, Tryd.ntmps21
                        go_wp2
                        go_ret
                        exact ⟨ret_int (by rw [HR.out]; rfl), rfl⟩
                      · have f10 : (s.toList == [47]) = false := by rw [et.out, beq_eq_false_iff_ne]; exact h10
                        have HR : Hid (lvl s.data.toList = 0) := by show _ = _; unfold lvl; rw [if_neg h0, if_neg h1, if_neg h2, if_neg h3, if_neg h4, if_neg h5, if_neg h6, if_neg h7, if_neg h8, if_neg h9, if_neg h10]
                        generalize lvl s.data.toList = r at HR ⊢
                        clear et h0 h1 h2 h3 h4 h5 h6 h7 h8 h9 h10
                        go_enter Tryd.func21, Tryd.ntmps21
                        go_wp2
                        go_ret
                        exact ⟨ret_int (by rw [HR.out]; rfl), rfl⟩

end Go.Proofs.YtgheopdadfnilaaDoor
namespace Go.Proofs.YtgheopdadfnilaaDoor
set_option linter.unusedVariables false
set_option linter.unusedSimpArgs false

/-- the program's readers go on -/
theorem pfwd_all (E : Env) (L : List Wd) (hE : Ends L) : ∀ f : Nat,
    (∀ lv i x j, 1 ≤ lv → i < L.length → ptF E L f lv i = some (some (x, j)) → i < j ∧ j < L.length) ∧
    (∀ lv x i y j, 1 ≤ lv → i < L.length → ptF.plF E L f lv x i = some (some (y, j)) → i ≤ j ∧ j < L.length) ∧
    (∀ i x j, i < L.length → ptF.paF E L f i = some (some (x, j)) → i < j ∧ j < L.length) ∧
    (∀ i x j, i < L.length → ptF.pfF E L f i = some (some (x, j)) → i < j ∧ j < L.length) ∧
    (∀ t ks i x j, i < L.length → ptF.pgF E L f t ks i = some (some (x, j)) → i < j ∧ j < L.length) := by
  intro f
  induction f with
  | zero =>
    refine ⟨?_, ?_, ?_, ?_, ?_⟩
    · intro lv i x j _ _ h; unfold ptF at h; cases h
    · intro lv x i y j _ _ h; unfold ptF.plF at h; cases h
    · intro i x j _ h; unfold ptF.paF at h; cases h
    · intro i x j _ h; unfold ptF.pfF at h; cases h
    · intro t ks i x j _ h; unfold ptF.pgF at h; cases h
  | succ f ih =>
    obtain ⟨iT, iL, iA, iF, iG⟩ := ih
    refine ⟨?_, ?_, ?_, ?_, ?_⟩
    · intro lv i x j hv hi h
      rw [ptF] at h
      obtain ⟨o, h1, h2⟩ := Option.bind_eq_some_iff.1 h
      cases o with
      | none => cases h2
      | some r =>
        obtain ⟨a1, a2⟩ := iA _ _ _ hi h1
        obtain ⟨b1, b2⟩ := iL _ _ _ _ _ hv a2 h2
        exact ⟨by omega, b2⟩
    · intro lv x i y j hv hi h
      rw [ptF.plF] at h
      split at h
      · obtain ⟨o, h1, h2⟩ := Option.bind_eq_some_iff.1 h
        cases o with
        | none => cases h2
        | some r =>
          have hn := hE i hi (by have := stg_six (L := L) (i := i) (by omega); omega)
          obtain ⟨a1, a2⟩ := iT _ _ _ _ (by omega) hn h1
          obtain ⟨b1, b2⟩ := iL _ _ _ _ _ hv a2 h2
          exact ⟨by omega, b2⟩
      · cases h
        exact ⟨Nat.le_refl _, hi⟩
    · intro i x j hi h
      rw [ptF.paF] at h
      split at h
      · rename_i hw
        obtain ⟨o, h1, h2⟩ := Option.bind_eq_some_iff.1 h
        cases o with
        | none => cases h2
        | some r =>
          cases h2
          obtain ⟨a1, a2⟩ := iA _ _ _ (hE.sign hw) h1
          exact ⟨by omega, a2⟩
      · exact iF _ _ _ hi h
    · intro i x j hi h
      rw [ptF.pfF] at h
      split at h
      · rename_i hw
        obtain ⟨o, h1, h2⟩ := Option.bind_eq_some_iff.1 h
        cases o with
        | none => cases h2
        | some r =>
          obtain ⟨a1, a2⟩ := iT _ _ _ _ (by omega) (hE.sign hw) h1
          simp only at h2
          split at h2
          · rename_i hw2
            cases h2
            exact ⟨by omega, hE.sign hw2⟩
          · cases h2
      · split at h
        · rename_i hk
          have hn := hE i hi (by omega)
          split at h
          · cases h
            exact ⟨by omega, hn⟩
          · split at h
            · rename_i hc
              have h2 := hE.sign hc.2
              split at h
              · rename_i h41
                cases h
                exact ⟨by omega, hE.sign h41⟩
              · obtain ⟨a1, a2⟩ := iG _ _ _ _ _ h2 h
                exact ⟨by omega, a2⟩
            · cases h
        · rename_i hk4
          have ho : poneF E L i = some (x, j) := Option.some.inj h
          unfold poneF at ho
          by_cases k1 : kAt L i = 1
          · rw [if_pos k1] at ho
            split at ho
            · cases ho; exact ⟨by omega, hE i hi (by omega)⟩
            · cases ho
          · rw [if_neg k1] at ho
            by_cases k2 : kAt L i = 2
            · rw [if_pos k2] at ho; cases ho; exact ⟨by omega, hE i hi (by omega)⟩
            · rw [if_neg k2] at ho
              by_cases k5 : kAt L i = 5
              · rw [if_pos k5] at ho; cases ho; exact ⟨by omega, hE i hi (by omega)⟩
              · rw [if_neg k5] at ho
                by_cases k3 : kAt L i = 3
                · rw [if_pos k3] at ho
                  split at ho
                  · cases ho
                  · split at ho
                    · rename_i hw
                      have h2 := hE.sign hw
                      split at ho
                      · rename_i hr
                        cases ho
                        exact ⟨by omega, hE (i + 2) h2 (by rw [hr.1]; decide)⟩
                      · cases ho
                    · cases ho; exact ⟨by omega, hE i hi (by omega)⟩
                · rw [if_neg k3] at ho; cases ho
    · intro t ks i x j hi h
      rw [ptF.pgF] at h
      split at h
      · obtain ⟨o, h1, h2⟩ := Option.bind_eq_some_iff.1 h
        cases o with
        | none => cases h2
        | some r =>
          obtain ⟨a1, a2⟩ := iT _ _ _ _ (by omega) hi h1
          simp only at h2
          split at h2
          · rename_i hw
            obtain ⟨b1, b2⟩ := iG _ _ _ _ _ (hE.sign hw) h2
            exact ⟨by omega, b2⟩
          · split at h2
            · rename_i hw2
              cases h2
              exact ⟨by omega, hE.sign hw2⟩
            · cases h2
      · cases h
end Go.Proofs.YtgheopdadfnilaaDoor
namespace Go.Proofs.YtgheopdadfnilaaDoor
open Go.RowKit
set_option linter.unusedVariables false
set_option linter.unusedSimpArgs false


/-- what the program's readers answer -/
def RepP (p : Nat) (L : List Wd) (b off cap : Nat) (W : World) (o : Option (Ex × Nat)) (e : Ending) (W' : World) : Prop :=
  ∃ (k m : Int) (t : ByteArray) (bb : Bool) (er : Int) (a1 : Option Addr) (l1 c1 : Nat) (a2 : Option Addr) (l2 c2 : Nat), e = .returned (.tuple #[.agg #[.int .i64 k, .int .i64 m, .string t, .bool bb, .int .i64 er, .slice a1 l1 c1, .slice a2 l2 c2], .bool o.isSome]) ∧ Qx p W W' ∧ (∀ x j, o = some (x, j) → Rdg (fun b => W.heap.size ≤ b) W' x (.agg #[.int .i64 k, .int .i64 m, .string t, .bool bb, .int .i64 er, .slice a1 l1 c1, .slice a2 l2 c2]) ∧ PT W' p L b off cap j)
theorem finP {p : Nat} {L : List Wd} {b off cap : Nat} {W w3 : World} (o : Option (Ex × Nat)) (k m : Int) (t : ByteArray) (bb : Bool) (er : Int) (a1 : Option Addr) (l1 c1 : Nat) (a2 : Option Addr) (l2 c2 : Nat) (hp : p < W.heap.size) (hb : b < W.heap.size) (hq : Qx p W w3) (hr : ∀ x j, o = some (x, j) → Rdg (fun b => W.heap.size + 1 ≤ b) w3 x (.agg #[.int .i64 k, .int .i64 m, .string t, .bool bb, .int .i64 er, .slice a1 l1 c1, .slice a2 l2 c2]) ∧ PT w3 p L b off cap j) :
    RepP p L b off cap W o (.returned (.tuple #[.agg #[.int .i64 k, .int .i64 m, .string t, .bool bb, .int .i64 er, .slice a1 l1 c1, .slice a2 l2 c2], .bool o.isSome])) (((((((w3.setCell ⟨W.heap.size, 0, none⟩ (.int .i64 k)).setCell ⟨W.heap.size, 1, none⟩ (.int .i64 m)).setCell ⟨W.heap.size, 2, none⟩ (.string t)).setCell ⟨W.heap.size, 3, none⟩ (.bool bb)).setCell ⟨W.heap.size, 4, none⟩ (.int .i64 er)).setCell ⟨W.heap.size, 5, none⟩ (.slice a1 l1 c1)).setCell ⟨W.heap.size, 6, none⟩ (.slice a2 l2 c2)) := by
  have QF : Qx W.heap.size w3 (((((((w3.setCell ⟨W.heap.size, 0, none⟩ (.int .i64 k)).setCell ⟨W.heap.size, 1, none⟩ (.int .i64 m)).setCell ⟨W.heap.size, 2, none⟩ (.string t)).setCell ⟨W.heap.size, 3, none⟩ (.bool bb)).setCell ⟨W.heap.size, 4, none⟩ (.int .i64 er)).setCell ⟨W.heap.size, 5, none⟩ (.slice a1 l1 c1)).setCell ⟨W.heap.size, 6, none⟩ (.slice a2 l2 c2)) := (((((((Qx.refl _ _).own _ _).own _ _).own _ _).own _ _).own _ _).own _ _).own _ _
  refine ⟨k, m, t, bb, er, a1, l1, c1, a2, l2, c2, rfl, ?_, fun x j e => ?_⟩
  · exact ((((((hq.new (Nat.le_refl _) _ _).new (Nat.le_refl _) _ _).new (Nat.le_refl _) _ _).new (Nat.le_refl _) _ _).new (Nat.le_refl _) _ _).new (Nat.le_refl _) _ _).new (Nat.le_refl _) _ _
  · obtain ⟨h1, h2⟩ := hr x j e
    exact ⟨Rdg.mono (fun b hb => by omega) _ _ (Rdg.on QF (fun b hb => by omega) _ _ h1), h2.onx QF (by omega) (by omega) (by have := h2.p5; omega)⟩
/-- what a reader that is called answers, taken apart -/
theorem RepP.in {p : Nat} {L : List Wd} {b off cap : Nat} {W W' : World} {o : Option (Ex × Nat)} {e : Ending} (h : RepP p L b off cap W o e W') : ∃ (k m : Int) (t : ByteArray) (bb : Bool) (er : Int) (a1 : Option Addr) (l1 c1 : Nat) (a2 : Option Addr) (l2 c2 : Nat), e = .returned (.tuple #[.agg #[.int .i64 k, .int .i64 m, .string t, .bool bb, .int .i64 er, .slice a1 l1 c1, .slice a2 l2 c2], .bool o.isSome]) ∧ Qx p W W' ∧ (∀ x j, o = some (x, j) → Rdg (fun b => W.heap.size ≤ b) W' x (.agg #[.int .i64 k, .int .i64 m, .string t, .bool bb, .int .i64 er, .slice a1 l1 c1, .slice a2 l2 c2]) ∧ PT W' p L b off cap j) := h

set_option maxRecDepth 100000 in
set_option maxHeartbeats 8000000 in
theorem pahead_no (L : List Wd) (p b off cap i : Nat) (W : World) (h : PT W p L b off cap i) (hi : i < L.length) (hr : L.length ≤ 50000) (hw : isW L i [45] = false) (o : Option (Ex × Nat)) (HT : Hid (∀ W1, PT W1 p L b off cap i → Calls Tryd.prog 32 #[.pointer (some ⟨p, 0, none⟩)] W1 fun e W' => RepP p L b off cap W1 o e W')) :
    Calls Tryd.prog 20 #[.pointer (some ⟨p, 0, none⟩)] W fun e W' => RepP p L b off cap W o e W' := by
  have hlt := h.lt
  have hbW := h.blk i hi
  have HP := hid h
  have HZ := hid (tb_new W (.int .i64 0) (.int .i64 0) (.string ⟨#[]⟩) (.bool false) (.int .i64 0) (.slice none 0 0) (.slice none 0 0) 30)
  have hc := hid (fun W1 (g : PT W1 p L b off cap i) => ptake_any W1 p L b off cap i ⟨#[45]⟩ g hi hr (by simp))
  rw [show (⟨#[45]⟩ : ByteArray).data.toList = [45] from rfl, hw] at hc
  clear h
  go_enter Tryd.func20, Tryd.ntmps20
  go_wp2_with (first | (go_at_call 31; refine (hc.out _ (HP.out.on (by repeat (first | with_reducible exact Q.refl _ | with_reducible refine Q.drewN ?_ _ | with_reducible refine Q.drew ?_ | with_reducible refine Q.alloc ?_ _ | with_reducible refine Q.setCell ?_ (by simp) _)))).mono ?_; rintro e w1 ⟨rfl, q1, p1⟩; have Q1 : Hid (Qx p W w1) := hid (Qx.trans (by repeat (first | with_reducible exact Qx.refl _ _ | with_reducible refine Qx.drewN ?_ _ | with_reducible refine Qx.drew ?_ | with_reducible refine Qx.alloc ?_ _ | with_reducible refine Qx.own ?_ _ _ | with_reducible refine Qx.new ?_ (by simp) _ _)) q1); have P1 := hid p1; have Z1 := hid (HZ.out.on q1 (by omega)); have hsw : W.heap.size < w1.heap.size := World.block_lt_of_cell? w1 ⟨W.heap.size, 0, none⟩ Z1.out.g0; clear q1 p1) | (go_at_call 32; refine (HT.out _ P1.out).mono ?_; rintro e w2 h2; obtain ⟨k, m, t, bb, er, a1, l1, c1, a2, l2, c2, rfl, q2, r2⟩ := h2.in; have Q2 := hid q2; have R2 := hid r2; clear h2 q2 r2; have Z2 := hid (Z1.out.on Q2.out (by omega)); have d0 := Z2.out.g0; have d1 := Z2.out.g1; have d2 := Z2.out.g2; have d3 := Z2.out.g3; have d4 := Z2.out.g4; have d5 := Z2.out.g5; have d6 := Z2.out.g6; have y0 := Z2.out.f 0; have y1 := Z2.out.f 1; have y2 := Z2.out.f 2; have y3 := Z2.out.f 3; have y4 := Z2.out.f 4; have y5 := Z2.out.f 5; have y6 := Z2.out.f 6))
  refine bodyPost_ret (v := .tuple #[.agg #[.int .i64 k, .int .i64 m, .string t, .bool bb, .int .i64 er, .slice a1 l1 c1, .slice a2 l2 c2], .bool o.isSome]) (by simp [results, Tryd.results20, go_sem, d0, d1, d2, d3, d4, d5, d6]) rfl ?_
  exact finP o k m t bb er a1 l1 c1 a2 l2 c2 hlt hbW (Q1.out.trans Q2.out) (fun x j e => ⟨Rdg.mono (fun b hb => by omega) _ _ (R2.out x j e).1, (R2.out x j e).2⟩)

set_option maxRecDepth 100000 in
set_option maxHeartbeats 8000000 in
theorem pahead_yes (L : List Wd) (p b off cap i : Nat) (W : World) (h : PT W p L b off cap i) (hi : i < L.length) (hr : L.length ≤ 50000) (hw : isW L i [45] = true) (o : Option (Ex × Nat)) (HT : Hid (∀ W1, PT W1 p L b off cap (i + 1) → Calls Tryd.prog 20 #[.pointer (some ⟨p, 0, none⟩)] W1 fun e W' => RepP p L b off cap W1 o e W')) :
    Calls Tryd.prog 20 #[.pointer (some ⟨p, 0, none⟩)] W fun e W' => RepP p L b off cap W (o.map fun r => (negE r.1, r.2)) e W' := by
  have hlt := h.lt
  have hbW := h.blk i hi
  have HP := hid h
  have HZ := hid (tb_new W (.int .i64 0) (.int .i64 0) (.string ⟨#[]⟩) (.bool false) (.int .i64 0) (.slice none 0 0) (.slice none 0 0) 30)
  have hc := hid (fun W1 (g : PT W1 p L b off cap i) => ptake_any W1 p L b off cap i ⟨#[45]⟩ g hi hr (by simp))
  rw [show (⟨#[45]⟩ : ByteArray).data.toList = [45] from rfl, hw] at hc
  clear h
  go_enter Tryd.func20, Tryd.ntmps20
  go_wp2_with (first | (go_at_call 31; refine (hc.out _ (HP.out.on (by repeat (first | with_reducible exact Q.refl _ | with_reducible refine Q.drewN ?_ _ | with_reducible refine Q.drew ?_ | with_reducible refine Q.alloc ?_ _ | with_reducible refine Q.setCell ?_ (by simp) _)))).mono ?_; rintro e w1 ⟨rfl, q1, p1⟩; have Q1 : Hid (Qx p W w1) := hid (Qx.trans (by repeat (first | with_reducible exact Qx.refl _ _ | with_reducible refine Qx.drewN ?_ _ | with_reducible refine Qx.drew ?_ | with_reducible refine Qx.alloc ?_ _ | with_reducible refine Qx.own ?_ _ _ | with_reducible refine Qx.new ?_ (by simp) _ _)) q1); have P1 := hid p1; have Z1 := hid (HZ.out.on q1 (by omega)); have hsw : W.heap.size < w1.heap.size := World.block_lt_of_cell? w1 ⟨W.heap.size, 0, none⟩ Z1.out.g0; clear q1 p1) | (go_at_call 20; refine (HT.out _ P1.out).mono ?_; rintro e w2 h2; obtain ⟨k, m, t, bb, er, a1, l1, c1, a2, l2, c2, rfl, q2, r2⟩ := h2.in; have Q2 := hid q2; have R2 := hid r2; clear h2 q2 r2; have hs2 : w1.heap.size ≤ w2.heap.size := Q2.out.size; have Z2 := hid (((Z1.out.on Q2.out (by omega)).on ((Qx.refl p _).alloc (.cells #[.int .i64 k, .int .i64 m, .string t, .bool bb, .int .i64 er, .slice a1 l1 c1, .slice a2 l2 c2] 30)) (by omega)).on ((Qx.refl p _).alloc (.cells #[.int .i64 k, .int .i64 m, .string t, .bool bb, .int .i64 er, .slice a1 l1 c1, .slice a2 l2 c2] 30)) (by omega)); have d0 := Z2.out.g0; have d1 := Z2.out.g1; have d2 := Z2.out.g2; have d3 := Z2.out.g3; have d4 := Z2.out.g4; have d5 := Z2.out.g5; have d6 := Z2.out.g6; have y0 := Z2.out.f 0; have y1 := Z2.out.f 1; have y2 := Z2.out.f 2; have y3 := Z2.out.f 3; have y4 := Z2.out.f 4; have y5 := Z2.out.f 5; have y6 := Z2.out.f 6))
  refine bodyPost_ret (v := .tuple #[.agg #[.int .i64 7, .int .i64 0, .string ⟨#[]⟩, .bool false, .int .i64 0, .slice none 0 0, .slice (some ⟨w2.heap.size + 1, 0, none⟩) 1 1], .bool o.isSome]) (by simp [results, Tryd.results20, go_sem, d0, d1, d2, d3, d4, d5, d6]) rfl ?_
  rw [show o.isSome = (o.map fun r => (negE r.1, r.2)).isSome by cases o <;> rfl]
  refine finP (o.map fun r => (negE r.1, r.2)) 7 0 ⟨#[]⟩ false 0 none 0 0 (some ⟨w2.heap.size + 1, 0, none⟩) 1 1 hlt hbW (((Q1.out.trans Q2.out).alloc _).alloc _) (fun x j e => ?_)
  obtain ⟨⟨y, j'⟩, ho, e2⟩ := Option.map_eq_some_iff.1 e
  cases e2
  obtain ⟨r1, r2⟩ := R2.out y j' ho
  have K3 := tb_new (w2.alloc (.cells #[.int .i64 k, .int .i64 m, .string t, .bool bb, .int .i64 er, .slice a1 l1 c1, .slice a2 l2 c2] 30)) (.int .i64 k) (.int .i64 m) (.string t) (.bool bb) (.int .i64 er) (.slice a1 l1 c1) (.slice a2 l2 c2) 30
  rw [show (w2.alloc (.cells #[.int .i64 k, .int .i64 m, .string t, .bool bb, .int .i64 er, .slice a1 l1 c1, .slice a2 l2 c2] 30)).heap.size = w2.heap.size + 1 by simp] at K3
  have PF := pl_new (w2.alloc (.cells #[.int .i64 k, .int .i64 m, .string t, .bool bb, .int .i64 er, .slice a1 l1 c1, .slice a2 l2 c2] 30)) #[.int .i64 k, .int .i64 m, .string t, .bool bb, .int .i64 er, .slice a1 l1 c1, .slice a2 l2 c2] 30
  rw [show (w2.alloc (.cells #[.int .i64 k, .int .i64 m, .string t, .bool bb, .int .i64 er, .slice a1 l1 c1, .slice a2 l2 c2] 30)).heap.size = w2.heap.size + 1 by simp] at PF
  refine ⟨rdg_kids 7 [] ⟨#[]⟩ rfl [y] (w2.heap.size + 1) 1 (show _ ≤ _ by omega) (by simp) (by unfold maxLen; omega) PF ?_, (r2.on ((Q.refl _).alloc _)).on ((Q.refl _).alloc _)⟩
  unfold Rdg.RdLg
  refine ⟨⟨_, _, _, _, _, _, _, K3.g0, K3.g1, K3.g2, K3.g3, K3.g4, K3.g5, K3.g6, Rdg.mono (fun b hb => by omega) _ _ (Rdg.on ((Qx.refl p _).alloc _) (fun b hb => by omega) _ _ (Rdg.on ((Qx.refl p _).alloc _) (fun b hb => by omega) _ _ r1))⟩, ?_⟩
  unfold Rdg.RdLg
  trivial
end Go.Proofs.YtgheopdadfnilaaDoor
