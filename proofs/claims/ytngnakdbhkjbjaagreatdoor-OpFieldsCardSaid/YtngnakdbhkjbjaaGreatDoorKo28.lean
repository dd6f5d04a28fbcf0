/- parse.mayRange, and mayNode of references and ranges, walked; parse.mayNode and parse.May, for every tree of some size; value.Eq of any two values; show.Formula, show.May, walked; show.Formula, show.May, walked; op.sameCell, counterpaneref5.EqCell, walked: are two cells the same?; Operations as they lie in cells; when two are the same; Both ways of asking whether a tree may be, plainly; both counts; Which operations may be, plainly; show.May and counterpaneref5.MayCell of any cell. -/
import Derived.Test.YtngnakdbhkjbjaaGreatDoorKo27
import Derived.Test.YtngnakdbhkjbjaaGreatDoorKo24
import Derived.Test.YtngnakdbhkjbjaaGreatDoorKo25
import Derived.Test.YtngnakdbhkjbjaaGreatDoorKo05
import Derived.Test.YtngnakdbhkjbjaaGreatDoorKo01
import Derived.Test.YtngnakdbhkjbjaaGreatDoorKo11
import Derived.Test.YtngnakdbhkjbjaaGreatDoorKo00
import Derived.Deep.RegionHeld3
import Derived.Lib.AppendStr
import Derived.Shelf.Small.Utf8
import Derived.Shelf.Small.Strs
import Derived.Shelf.Small.Wraps
import Derived.Shelf.Strconv.Itoa0
import Derived.Shelf.Strconv.Itoa1
import Derived.Shelf.LaysM
import Derived.Shelf.Strconv.Itoa2
import Derived.Shelf.Strconv.Itoa3
import Derived.Shelf.Strconv.Itoa4
import Derived.Shelf.Strings.Search1
import Derived.Shelf.Strings.Search2
import Derived.Shelf.Strings.Search3
import Derived.Shelf.Strings.Cut
import Derived.Shelf.Strings.Count
import Derived.Shelf.Strings.Shaped
import Derived.Shelf.Strings.Prefix
import Derived.Shelf.Strings.Runes
import Derived.Shelf.Unicode.DecodeSlow
import Derived.Test.YtngnakdbhkjbjaaGreatDoorProg
import Derived.Lib.Walk
import Derived.Lib.ItoaMem
import Derived.BigCall
import Derived.BigGuard
import Derived.Deep.CutBlock
import Derived.Deep.CutRange
import Derived.Test.YtngnakdbhkjbjaaGreatDoorKo02
import Derived.BigQuiet
import Derived.Test.YtngnakdbhkjbjaaGreatDoorKo26
import Derived.Test.YtngnakdbhkjbjaaGreatDoorKo20
import Derived.Test.YtngnakdbhkjbjaaGreatDoorKo04
set_option linter.unusedVariables false
set_option linter.unusedSimpArgs false
namespace Go.Proofs.YtngnakdbhkjbjaaGreatDoor
open Go.RowKit
/-- what is asked of a reference -/
def MRf (W : World) (x : Rf) : Prop := ∀ W', Q W W' → Calls Tryz.prog 92 #[.agg #[.string ⟨x.1.toArray⟩, .int .i64 x.2.1, .int .i64 x.2.2.1, .bool x.2.2.2.1, .bool x.2.2.2.2]] W' fun e w' => e = .returned (.bool (mayR x.1 x.2.1 x.2.2.1)) ∧ Q W' w'
def rngB : List Rf → Bool
  | [x, y] => mayR x.1 x.2.1 x.2.2.1 && (mayR y.1 y.2.1 y.2.2.1 && decide (y.1 = []))
  | _ => false
theorem rng_no {rs : List Rf} (h : rs.length ≠ 2) : rngB rs = false := by
  match rs with
  | [] => rfl
  | [_] => rfl
  | [_, _] => exact absurd rfl h
  | _ :: _ :: _ :: _ => rfl
set_option maxRecDepth 100000 in
set_option maxHeartbeats 4000000 in
theorem mrange_any (rs : List Rf) (v : Value) (W : World) (h : Sl rf 5 W v rs) (HM : Hid (∀ x ∈ rs, MRf W x)) : Calls Tryz.prog 93 #[v] W fun e W' => e = .returned (.bool (rngB rs)) ∧ Q W W' := by
  by_cases hl : rs.length = 2
  · obtain ⟨b, off, cap, hv, _, _, hc⟩ := h.rc (by omega)
    match rs, hl with
    | [x, y], _ =>
      obtain ⟨xs, xr, xc, xa, xb⟩ := x
      obtain ⟨ys, yr, yc, ya, yb⟩ := y
      have HX := hid (HM.out _ (by simp : (xs, xr, xc, xa, xb) ∈ [(xs, xr, xc, xa, xb), (ys, yr, yc, ya, yb)]))
      have HY := hid (HM.out _ (by simp : (ys, yr, yc, ya, yb) ∈ [(xs, xr, xc, xa, xb), (ys, yr, yc, ya, yb)]))
      have H0 := hc 0 (by simp)
      have H1 := hc 1 (by simp)
      simp only [List.getElem_cons_zero, List.getElem_cons_succ, Nat.zero_mul, Nat.add_zero, Nat.one_mul] at H0 H1
      simp only [List.length_cons, List.length_nil, Nat.zero_add] at hv
      subst hv
      obtain ⟨x0, x1, x2, x3, x4⟩ := H0
      obtain ⟨y0, y1, y2, y3, y4⟩ := H1
      unfold MRf at HX HY
      simp only at HX HY
      obtain ⟨SX, hSX⟩ : ∃ S : ByteArray, S = ⟨xs.toArray⟩ := ⟨_, rfl⟩
      obtain ⟨SY, hSY, lSY⟩ : ∃ S : ByteArray, S = ⟨ys.toArray⟩ ∧ S.data.toList = ys := ⟨_, rfl, rfl⟩
      rw [← hSX] at HX x0
      rw [← hSY] at HY y0
      have LS := hid lSY
      have HD := hid (show rngB [(xs, xr, xc, xa, xb), (ys, yr, yc, ya, yb)] = (mayR xs xr xc && (mayR ys yr yc && decide (ys = []))) from rfl)
      generalize rngB [(xs, xr, xc, xa, xb), (ys, yr, yc, ya, yb)] = rr at HD ⊢
      have HYc := hid (fun (W1 : World) (q : Q W W1) => (q.cell (World.block_lt_of_cell? W ⟨b, off + 5, none⟩ y0)).trans y0)
      have HYd := hid (fun (W1 : World) (q : Q W W1) => (q.cell (World.block_lt_of_cell? W ⟨b, off + 5 + 1, none⟩ y1)).trans y1)
      have HYe := hid (fun (W1 : World) (q : Q W W1) => (q.cell (World.block_lt_of_cell? W ⟨b, off + 5 + 2, none⟩ y2)).trans y2)
      have HYf := hid (fun (W1 : World) (q : Q W W1) => (q.cell (World.block_lt_of_cell? W ⟨b, off + 5 + 3, none⟩ y3)).trans y3)
      have HYg := hid (fun (W1 : World) (q : Q W W1) => (q.cell (World.block_lt_of_cell? W ⟨b, off + 5 + 4, none⟩ y4)).trans y4)
      clear HM hc hSX hSY lSY h
      cases hx : mayR xs xr xc
      · have HR : Hid (rr = false) := by show _ = _; rw [HD.out, hx]; rfl
        rw [hx] at HX
        go_enter Tryz.func93, Tryz.ntmps93
        go_wp2_with (go_at_call 92; refine (HX.out _ (Q.refl _)).mono ?_; rintro e w1 ⟨rfl, q1⟩; have Q1 := hid q1; clear q1)
        go_ret
        exact ⟨ret_bool HR.out.symm, Q1.out⟩
      · rw [hx] at HX
        cases hy : mayR ys yr yc
        · have HR : Hid (rr = false) := by show _ = _; rw [HD.out, hx, hy]; rfl
          rw [hy] at HY
          go_enter Tryz.func93, Tryz.ntmps93
          go_wp2_with (first | (go_at_call_of 92 SX; refine (HX.out _ (Q.refl _)).mono ?_; rintro e w1 ⟨rfl, q1⟩; have Q1 := hid q1; clear q1; have n0 := HYc.out w1 Q1.out; have n1 := HYd.out w1 Q1.out; have n2 := HYe.out w1 Q1.out; have n3 := HYf.out w1 Q1.out; have n4 := HYg.out w1 Q1.out) | (go_at_call_of 92 SY; refine (HY.out _ Q1.out).mono ?_; rintro e w2 ⟨rfl, q2⟩; have Q2 := hid (Q1.out.trans q2); clear q2; have m0 := HYc.out w2 Q2.out))
          go_ret
          exact ⟨ret_bool HR.out.symm, Q2.out⟩
        · rw [hy] at HY
          by_cases hz : ys = []
          · have HR : Hid (rr = true) := by show _ = _; rw [HD.out, hx, hy, decide_eq_true hz]; rfl
            have fz : (SY.toList == []) = true := by rw [toL, LS.out, hz]; rfl
            clear hz
            go_enter Tryz.func93, Tryz.ntmps93
            go_wp2_with (first | (go_at_call_of 92 SX; refine (HX.out _ (Q.refl _)).mono ?_; rintro e w1 ⟨rfl, q1⟩; have Q1 := hid q1; clear q1; have n0 := HYc.out w1 Q1.out; have n1 := HYd.out w1 Q1.out; have n2 := HYe.out w1 Q1.out; have n3 := HYf.out w1 Q1.out; have n4 := HYg.out w1 Q1.out) | (go_at_call_of 92 SY; refine (HY.out _ Q1.out).mono ?_; rintro e w2 ⟨rfl, q2⟩; have Q2 := hid (Q1.out.trans q2); clear q2; have m0 := HYc.out w2 Q2.out))
            go_ret
            exact ⟨ret_bool HR.out.symm, Q2.out⟩
          · have HR : Hid (rr = false) := by show _ = _; rw [HD.out, hx, hy, decide_eq_false hz]; rfl
            have fz : (SY.toList == []) = false := by rw [toL, LS.out, beq_eq_false_iff_ne]; exact hz
            clear hz
            go_enter Tryz.func93, Tryz.ntmps93
            go_wp2_with (first | (go_at_call_of 92 SX; refine (HX.out _ (Q.refl _)).mono ?_; rintro e w1 ⟨rfl, q1⟩; have Q1 := hid q1; clear q1; have n0 := HYc.out w1 Q1.out; have n1 := HYd.out w1 Q1.out; have n2 := HYe.out w1 Q1.out; have n3 := HYf.out w1 Q1.out; have n4 := HYg.out w1 Q1.out) | (go_at_call_of 92 SY; refine (HY.out _ Q1.out).mono ?_; rintro e w2 ⟨rfl, q2⟩; have Q2 := hid (Q1.out.trans q2); clear q2; have m0 := HYc.out w2 Q2.out))
            go_ret
            exact ⟨ret_bool HR.out.symm, Q2.out⟩
  · rw [rng_no hl]
    obtain ⟨ao, cap, rfl, _⟩ := h.len
    have f2 : ((rs.length : Int) == 2) = false := by rw [beq_eq_false_iff_ne]; omega
    clear h hl HM
    go_enter Tryz.func93, Tryz.ntmps93
    go_wp2_with fail
    go_ret
    exact ⟨rfl, Q.refl _⟩
def oneB : List Rf → Bool
  | [x] => mayR x.1 x.2.1 x.2.2.1
  | _ => false
theorem one_no {rs : List Rf} (h : rs.length ≠ 1) : oneB rs = false := by
  match rs with
  | [] => rfl
  | [_] => exact absurd rfl h
  | _ :: _ :: _ => rfl
set_option maxRecDepth 100000 in
set_option maxHeartbeats 4000000 in
theorem mn_5 (n : Int) (t : ByteArray) (b : Bool) (e : Int) (a1 : Option Addr) (l1 c1 : Nat) (a2 : Option Addr) (l2 c2 : Nat) (W : World) (rs : List Rf) (hr : Sl rf 5 W (.slice a1 l1 c1) rs) (HM : Hid (∀ x ∈ rs, MRf W x)) : Calls Tryz.prog 79 #[.agg #[.int .i64 5, .int .i64 n, .string t, .bool b, .int .i64 e, .slice a1 l1 c1, .slice a2 l2 c2]] W fun e' W' => e' = .returned (.bool ((oneB rs) && bareB n t.data.toList b e 0 l2)) ∧ Q W W' := by
  obtain ⟨rb, hrb⟩ : ∃ rb, bareB n t.data.toList b e 0 l2 = rb := ⟨_, rfl⟩
  have HB := hid (fun W' => bare_b 5 n t b e none 0 0 a2 l2 c2 rb hrb W')
  obtain ⟨t1, t2⟩ := two_new W (.int .i64 5) (.int .i64 n) (.string t) (.bool b) (.int .i64 e) (.slice a1 l1 c1) (.slice a2 l2 c2)
  have T1 := hid t1
  have T2 := hid t2
  have HQ : Hid (Q W (((W.alloc (.cells #[.int .i64 5, .int .i64 n, .string t, .bool b, .int .i64 e, .slice a1 l1 c1, .slice a2 l2 c2] 28)).alloc (.cells #[.int .i64 5, .int .i64 n, .string t, .bool b, .int .i64 e, .slice a1 l1 c1, .slice a2 l2 c2] 28)).drew)) := hid (((Q.refl _).alloc _).alloc _).drew
  have HRB := hid hrb
  clear hrb t1 t2
  have hll : rs.length = l1 := by
    obtain ⟨_, _, hv, _⟩ := hr
    simp only [Value.slice.injEq] at hv
    exact hv.2.1.symm
  by_cases h : l1 = 1
  · obtain ⟨bb, off, cap, hv, _, _, hc⟩ := hr.rc (by omega)
    rw [h] at hll
    match rs, hll with
    | [x], _ =>
      obtain ⟨xs, xr, xc, xa, xb⟩ := x
      have HX := hid (HM.out _ (by simp : (xs, xr, xc, xa, xb) ∈ [(xs, xr, xc, xa, xb)]))
      have H0 := hc 0 (by simp)
      simp only [List.getElem_cons_zero, Nat.zero_mul, Nat.add_zero] at H0
      simp only [List.length_cons, List.length_nil, Nat.zero_add, Value.slice.injEq] at hv
      obtain ⟨rfl, rfl, rfl⟩ := hv
      unfold MRf at HX
      simp only at HX
      have H0' := hid (H0.on HQ.out)
      obtain ⟨SX, hSX⟩ : ∃ S : ByteArray, S = ⟨xs.toArray⟩ := ⟨_, rfl⟩
      rw [← hSX] at HX H0'
      clear HM hc hSX H0 hr
      have hone : oneB [(xs, xr, xc, xa, xb)] = mayR xs xr xc := rfl
      rw [hone]
      clear hone h
      cases hx : mayR xs xr xc
      · rw [hx] at HX
        have HR : Hid (((false) && bareB n t.data.toList b e 0 l2) = false) := by
          show _ = _
          rw [show (false) = false from rfl]
          exact Bool.false_and _
        generalize ((false) && bareB n t.data.toList b e 0 l2) = rr at HR ⊢
        go_enter Tryz.func79, Tryz.ntmps79
        go_wp2_with fail
        go_region
        obtain ⟨w1, hw1⟩ : ∃ w1, w1 = (((W.alloc (.cells #[.int .i64 5, .int .i64 n, .string t, .bool b, .int .i64 e, .slice (some ⟨bb, off, none⟩) 1 c1, .slice a2 l2 c2] 28)).alloc (.cells #[.int .i64 5, .int .i64 n, .string t, .bool b, .int .i64 e, .slice (some ⟨bb, off, none⟩) 1 c1, .slice a2 l2 c2] 28)).drew) := ⟨_, rfl⟩
        rw [← hw1] at T1 T2 HQ H0'
        obtain ⟨r0, r1, r2, r3, r4⟩ := H0'.out
        rw [← hw1]
        clear hw1
        obtain ⟨g0, g1, g2, g3, g4, g5, g6, _⟩ := T1.out
        obtain ⟨d0, d1, d2, d3, d4, d5, d6, yf⟩ := T2.out
        have y0 := yf 0
        have y1 := yf 1
        have y2 := yf 2
        have y3 := yf 3
        have y4 := yf 4
        have y5 := yf 5
        have y6 := yf 6
        clear yf
        go_wp2_with (first | (go_at_call 92; refine (HX.out _ HQ.out).mono ?_; rintro e8 w2 ⟨rfl, q2⟩; have QC := hid (HQ.out.trans q2); have T3 := hid (T2.out.on (Qx.of (p := W.heap.size + 5) q2) (by omega)); clear q2; have v0 := T3.out.g0; have v1 := T3.out.g1; have v2 := T3.out.g2; have v3 := T3.out.g3; have v4 := T3.out.g4; have v5 := T3.out.g5; have v6 := T3.out.g6; have x0 := T3.out.f 0; have x1 := T3.out.f 1; have x2 := T3.out.f 2; have x3 := T3.out.f 3; have x4 := T3.out.f 4; have x5 := T3.out.f 5; have x6 := T3.out.f 6))
        go_ret
        exact ⟨ret_bool HR.out.symm, (by repeat (first | with_reducible exact QC.out | with_reducible exact HQ.out | with_reducible refine Q.drewN ?_ _ | with_reducible refine Q.drew ?_ | with_reducible refine Q.alloc ?_ _ | with_reducible refine Q.setCell ?_ (by simp) _))⟩
      · rw [hx] at HX
        have HR : Hid (((true) && bareB n t.data.toList b e 0 l2) = rb) := by
          show _ = _
          rw [show (true) = true from rfl]
          exact (Bool.true_and _).trans HRB.out
        generalize ((true) && bareB n t.data.toList b e 0 l2) = rr at HR ⊢
        go_enter Tryz.func79, Tryz.ntmps79
        go_wp2_with fail
        go_region
        obtain ⟨w1, hw1⟩ : ∃ w1, w1 = (((W.alloc (.cells #[.int .i64 5, .int .i64 n, .string t, .bool b, .int .i64 e, .slice (some ⟨bb, off, none⟩) 1 c1, .slice a2 l2 c2] 28)).alloc (.cells #[.int .i64 5, .int .i64 n, .string t, .bool b, .int .i64 e, .slice (some ⟨bb, off, none⟩) 1 c1, .slice a2 l2 c2] 28)).drew) := ⟨_, rfl⟩
        rw [← hw1] at T1 T2 HQ H0'
        obtain ⟨r0, r1, r2, r3, r4⟩ := H0'.out
        rw [← hw1]
        clear hw1
        obtain ⟨g0, g1, g2, g3, g4, g5, g6, _⟩ := T1.out
        obtain ⟨d0, d1, d2, d3, d4, d5, d6, yf⟩ := T2.out
        have y0 := yf 0
        have y1 := yf 1
        have y2 := yf 2
        have y3 := yf 3
        have y4 := yf 4
        have y5 := yf 5
        have y6 := yf 6
        clear yf
        go_wp2_with (first | (go_at_call 92; refine (HX.out _ HQ.out).mono ?_; rintro e8 w2 ⟨rfl, q2⟩; have QC := hid (HQ.out.trans q2); have T3 := hid (T2.out.on (Qx.of (p := W.heap.size + 5) q2) (by omega)); clear q2; have v0 := T3.out.g0; have v1 := T3.out.g1; have v2 := T3.out.g2; have v3 := T3.out.g3; have v4 := T3.out.g4; have v5 := T3.out.g5; have v6 := T3.out.g6; have x0 := T3.out.f 0; have x1 := T3.out.f 1; have x2 := T3.out.f 2; have x3 := T3.out.f 3; have x4 := T3.out.f 4; have x5 := T3.out.f 5; have x6 := T3.out.f 6) | (go_at_call 96; refine (HB.out _).mono ?_; rintro e9 w9 ⟨rfl, q9⟩; have Q9 := hid q9; clear q9))
        go_ret
        exact ⟨ret_bool HR.out.symm, Q.trans (by repeat (first | with_reducible exact QC.out | with_reducible exact HQ.out | with_reducible refine Q.drewN ?_ _ | with_reducible refine Q.drew ?_ | with_reducible refine Q.alloc ?_ _ | with_reducible refine Q.setCell ?_ (by simp) _)) Q9.out⟩
  · rw [one_no (by omega)]
    clear HM hr
    have f5 : ((l1 : Int) == 1) = false := by rw [beq_eq_false_iff_ne]; omega
    have HR : Hid (((false) && bareB n t.data.toList b e 0 l2) = false) := by
      show _ = _
      rw [show (false) = false from rfl]
      exact Bool.false_and _
    generalize ((false) && bareB n t.data.toList b e 0 l2) = rr at HR ⊢
    go_enter Tryz.func79, Tryz.ntmps79
    go_wp2_with fail
    go_region
    obtain ⟨w1, hw1⟩ : ∃ w1, w1 = (((W.alloc (.cells #[.int .i64 5, .int .i64 n, .string t, .bool b, .int .i64 e, .slice a1 l1 c1, .slice a2 l2 c2] 28)).alloc (.cells #[.int .i64 5, .int .i64 n, .string t, .bool b, .int .i64 e, .slice a1 l1 c1, .slice a2 l2 c2] 28)).drew) := ⟨_, rfl⟩
    rw [← hw1] at T1 T2 HQ
    rw [← hw1]
    clear hw1
    obtain ⟨g0, g1, g2, g3, g4, g5, g6, _⟩ := T1.out
    obtain ⟨d0, d1, d2, d3, d4, d5, d6, yf⟩ := T2.out
    have y0 := yf 0
    have y1 := yf 1
    have y2 := yf 2
    have y3 := yf 3
    have y4 := yf 4
    have y5 := yf 5
    have y6 := yf 6
    clear yf
    go_wp2_with fail
    go_ret
    exact ⟨ret_bool HR.out.symm, (by repeat (first | with_reducible exact QC.out | with_reducible exact HQ.out | with_reducible refine Q.drewN ?_ _ | with_reducible refine Q.drew ?_ | with_reducible refine Q.alloc ?_ _ | with_reducible refine Q.setCell ?_ (by simp) _))⟩
set_option maxRecDepth 100000 in
set_option maxHeartbeats 4000000 in
theorem mn_6 (n : Int) (t : ByteArray) (b : Bool) (e : Int) (a1 : Option Addr) (l1 c1 : Nat) (a2 : Option Addr) (l2 c2 : Nat) (W : World) (rs : List Rf) (hr : Sl rf 5 W (.slice a1 l1 c1) rs) (HM : Hid (∀ x ∈ rs, MRf W x)) : Calls Tryz.prog 79 #[.agg #[.int .i64 6, .int .i64 n, .string t, .bool b, .int .i64 e, .slice a1 l1 c1, .slice a2 l2 c2]] W fun e' W' => e' = .returned (.bool ((rngB rs) && bareB n t.data.toList b e 0 l2)) ∧ Q W W' := by
  obtain ⟨rb, hrb⟩ : ∃ rb, bareB n t.data.toList b e 0 l2 = rb := ⟨_, rfl⟩
  have HB := hid (fun W' => bare_b 6 n t b e none 0 0 a2 l2 c2 rb hrb W')
  obtain ⟨t1, t2⟩ := two_new W (.int .i64 6) (.int .i64 n) (.string t) (.bool b) (.int .i64 e) (.slice a1 l1 c1) (.slice a2 l2 c2)
  have T1 := hid t1
  have T2 := hid t2
  have HQ : Hid (Q W (((W.alloc (.cells #[.int .i64 6, .int .i64 n, .string t, .bool b, .int .i64 e, .slice a1 l1 c1, .slice a2 l2 c2] 28)).alloc (.cells #[.int .i64 6, .int .i64 n, .string t, .bool b, .int .i64 e, .slice a1 l1 c1, .slice a2 l2 c2] 28)).drew)) := hid (((Q.refl _).alloc _).alloc _).drew
  have HRB := hid hrb
  clear hrb t1 t2
  have HN := hid (fun W' (q : Q W W') => mrange_any rs (.slice a1 l1 c1) W' (hr.on q) (hid (fun x hx W2 q2 => HM.out x hx W2 (q.trans q2))))
  clear hr HM
  cases h : rngB rs
  · rw [h] at HN
    have HR : Hid (((false) && bareB n t.data.toList b e 0 l2) = false) := by
      show _ = _
      rw [show (false) = false from rfl]
      exact Bool.false_and _
    generalize ((false) && bareB n t.data.toList b e 0 l2) = rr at HR ⊢
    go_enter Tryz.func79, Tryz.ntmps79
    go_wp2_with fail
    go_region
    obtain ⟨w1, hw1⟩ : ∃ w1, w1 = (((W.alloc (.cells #[.int .i64 6, .int .i64 n, .string t, .bool b, .int .i64 e, .slice a1 l1 c1, .slice a2 l2 c2] 28)).alloc (.cells #[.int .i64 6, .int .i64 n, .string t, .bool b, .int .i64 e, .slice a1 l1 c1, .slice a2 l2 c2] 28)).drew) := ⟨_, rfl⟩
    rw [← hw1] at T1 T2 HQ
    rw [← hw1]
    clear hw1
    obtain ⟨g0, g1, g2, g3, g4, g5, g6, _⟩ := T1.out
    obtain ⟨d0, d1, d2, d3, d4, d5, d6, yf⟩ := T2.out
    have y0 := yf 0
    have y1 := yf 1
    have y2 := yf 2
    have y3 := yf 3
    have y4 := yf 4
    have y5 := yf 5
    have y6 := yf 6
    clear yf
    go_wp2_with (first | (go_at_call 93; refine (HN.out _ HQ.out).mono ?_; rintro e8 w2 ⟨rfl, q2⟩; have QC := hid (HQ.out.trans q2); have T3 := hid (T2.out.on (Qx.of (p := W.heap.size + 5) q2) (by omega)); clear q2; have v0 := T3.out.g0; have v1 := T3.out.g1; have v2 := T3.out.g2; have v3 := T3.out.g3; have v4 := T3.out.g4; have v5 := T3.out.g5; have v6 := T3.out.g6; have x0 := T3.out.f 0; have x1 := T3.out.f 1; have x2 := T3.out.f 2; have x3 := T3.out.f 3; have x4 := T3.out.f 4; have x5 := T3.out.f 5; have x6 := T3.out.f 6))
    go_ret
    exact ⟨ret_bool HR.out.symm, (by repeat (first | with_reducible exact QC.out | with_reducible exact HQ.out | with_reducible refine Q.drewN ?_ _ | with_reducible refine Q.drew ?_ | with_reducible refine Q.alloc ?_ _ | with_reducible refine Q.setCell ?_ (by simp) _))⟩
  · rw [h] at HN
    have HR : Hid (((true) && bareB n t.data.toList b e 0 l2) = rb) := by
      show _ = _
      rw [show (true) = true from rfl]
      exact (Bool.true_and _).trans HRB.out
    generalize ((true) && bareB n t.data.toList b e 0 l2) = rr at HR ⊢
    go_enter Tryz.func79, Tryz.ntmps79
    go_wp2_with fail
    go_region
    obtain ⟨w1, hw1⟩ : ∃ w1, w1 = (((W.alloc (.cells #[.int .i64 6, .int .i64 n, .string t, .bool b, .int .i64 e, .slice a1 l1 c1, .slice a2 l2 c2] 28)).alloc (.cells #[.int .i64 6, .int .i64 n, .string t, .bool b, .int .i64 e, .slice a1 l1 c1, .slice a2 l2 c2] 28)).drew) := ⟨_, rfl⟩
    rw [← hw1] at T1 T2 HQ
    rw [← hw1]
    clear hw1
    obtain ⟨g0, g1, g2, g3, g4, g5, g6, _⟩ := T1.out
    obtain ⟨d0, d1, d2, d3, d4, d5, d6, yf⟩ := T2.out
    have y0 := yf 0
    have y1 := yf 1
    have y2 := yf 2
    have y3 := yf 3
    have y4 := yf 4
    have y5 := yf 5
    have y6 := yf 6
    clear yf
    go_wp2_with (first | (go_at_call 93; refine (HN.out _ HQ.out).mono ?_; rintro e8 w2 ⟨rfl, q2⟩; have QC := hid (HQ.out.trans q2); have T3 := hid (T2.out.on (Qx.of (p := W.heap.size + 5) q2) (by omega)); clear q2; have v0 := T3.out.g0; have v1 := T3.out.g1; have v2 := T3.out.g2; have v3 := T3.out.g3; have v4 := T3.out.g4; have v5 := T3.out.g5; have v6 := T3.out.g6; have x0 := T3.out.f 0; have x1 := T3.out.f 1; have x2 := T3.out.f 2; have x3 := T3.out.f 3; have x4 := T3.out.f 4; have x5 := T3.out.f 5; have x6 := T3.out.f 6) | (go_at_call 96; refine (HB.out _).mono ?_; rintro e9 w9 ⟨rfl, q9⟩; have Q9 := hid q9; clear q9))
    go_ret
    exact ⟨ret_bool HR.out.symm, Q.trans (by repeat (first | with_reducible exact QC.out | with_reducible exact HQ.out | with_reducible refine Q.drewN ?_ _ | with_reducible refine Q.drew ?_ | with_reducible refine Q.alloc ?_ _ | with_reducible refine Q.setCell ?_ (by simp) _)) Q9.out⟩
/-- may a node be, its kids aside? -/
def mayN : Ex → Bool
  | .mk k n t b e rs ks =>
    if k = 1 then decide (0 ≤ n) && bareB 0 t b e rs.length ks.length
    else if k = 2 then V.mayB 2 0 t false 0 && bareB n [] b e rs.length ks.length
    else if k = 3 then true && bareB n t false e rs.length ks.length
    else if k = 4 then decide (enL e ≠ []) && bareB n t b 0 rs.length ks.length
    else if k = 5 then oneB rs && bareB n t b e 0 ks.length
    else if k = 6 then rngB rs && bareB n t b e 0 ks.length
    else if k = 7 then decide (ks.length = 1) && bareB n t b e rs.length 0
    else if k = 8 then (decide (1 ≤ lvl t) && decide (ks.length = 2)) && bareB n [] b e rs.length 0
    else if k = 9 then (namF t && decide (ks.length ≤ 30)) && bareB n [] b e rs.length 0
    else false
/-- texts that are not too long -/
def Sm : Ex → Prop
  | .mk _ _ t _ _ rs ks => t.length ≤ 1000000 ∧ (∀ r ∈ rs, r.1.length ≤ 2000000) ∧ SmL ks
  where
  SmL : List Ex → Prop
  | [] => True
  | x :: xs => Sm x ∧ SmL xs
theorem sm_kid : ∀ {ks : List Ex}, Sm.SmL ks → ∀ y ∈ ks, Sm y
  | [], _, y, hy => absurd hy (by simp)
  | x :: xs, h, y, hy => by
    rw [Sm.SmL] at h
    simp at hy
    rcases hy with rfl | hy
    · exact h.1
    · exact sm_kid h.2 y hy
theorem sm_kids (k n : Int) (t : List UInt8) (b : Bool) (e : Int) (rs : List Rf) (ks : List Ex) (h : Sm (.mk k n t b e rs ks)) : ∀ y ∈ ks, Sm y := by
  rw [Sm] at h
  exact sm_kid h.2.2
/-- what of the world is asked -/
def Gd (W : World) : Prop := Std W ∧ ∀ W', Q W W' → Lib.TabIs Tryz.prog W' "internal/strconv.uint64pow10" .u64 Lib.pow10Tab
theorem Gd.on {W W' : World} (h : Gd W) (q : Q W W') : Gd W' := ⟨h.1.on q, fun W2 q2 => h.2 W2 (q.trans q2)⟩
theorem mrf_of {W : World} (h : Gd W) (x : Rf) (hs : x.1.length ≤ 2000000) : MRf W x := by
  intro W' q
  have h' := h.on q
  exact pmayref_big ⟨x.1.toArray⟩ x.2.1 x.2.2.1 x.2.2.2.1 x.2.2.2.2 W' h'.1 h'.2 (by show x.1.toArray.size ≤ 2000000; simpa using hs)
theorem maynode_any (x : Ex) (v : Value) (W : World) (hg : Gd W) (hs : Sm x) (hr : Rd W x v) : Calls Tryz.prog 79 #[v] W fun e W' => e = .returned (.bool (mayN x)) ∧ Q W W' := by
  obtain ⟨k, n, t, b, e, rs, ks, rv', kv, ao, cap, rfl, hp⟩ := hr.prt
  obtain ⟨ar, cr, hrv, hl⟩ := hp.rl
  have hsl : Sl rf 5 W (.slice ar rs.length cr) rs := hrv ▸ hp.rl
  obtain rfl := hp.kl
  subst hrv
  have hx := hp.ex
  subst hx
  rw [Sm] at hs
  obtain ⟨s1, s2, _⟩ := hs
  have st : t.size ≤ 1000000 := by rw [← len_data]; exact s1
  have hm : Hid (∀ y ∈ rs, MRf W y) := hid (fun y hy => mrf_of hg y (s2 y hy))
  have tl : t.toList = t.data.toList := toL t
  rw [mayN]
  by_cases h1 : k = 1
  · subst h1
    rw [if_pos rfl]
    exact mn_1 n t b e ar rs.length cr ao ks.length cap W
  by_cases h2 : k = 2
  · subst h2
    rw [if_neg (by decide), if_pos rfl, ← tl]
    exact mn_2 n t b e ar rs.length cr ao ks.length cap W hg.1 (by omega)
  by_cases h3 : k = 3
  · subst h3
    rw [if_neg (by decide), if_neg (by decide), if_pos rfl]
    exact mn_3 n t b e ar rs.length cr ao ks.length cap W
  by_cases h4 : k = 4
  · subst h4
    rw [if_neg (by decide), if_neg (by decide), if_neg (by decide), if_pos rfl]
    exact mn_4 n t b e ar rs.length cr ao ks.length cap W hg.1
  by_cases h5 : k = 5
  · subst h5
    rw [if_neg (by decide), if_neg (by decide), if_neg (by decide), if_neg (by decide), if_pos rfl]
    exact mn_5 n t b e ar rs.length cr ao ks.length cap W rs hsl hm
  by_cases h6 : k = 6
  · subst h6
    rw [if_neg (by decide), if_neg (by decide), if_neg (by decide), if_neg (by decide), if_neg (by decide), if_pos rfl]
    exact mn_6 n t b e ar rs.length cr ao ks.length cap W rs hsl hm
  by_cases h7 : k = 7
  · subst h7
    rw [if_neg (by decide), if_neg (by decide), if_neg (by decide), if_neg (by decide), if_neg (by decide), if_neg (by decide), if_pos rfl]
    exact mn_7 n t b e ar rs.length cr ao ks.length cap W
  by_cases h8 : k = 8
  · subst h8
    rw [if_neg (by decide), if_neg (by decide), if_neg (by decide), if_neg (by decide), if_neg (by decide), if_neg (by decide), if_neg (by decide), if_pos rfl]
    exact mn_8 n t b e ar rs.length cr ao ks.length cap W
  by_cases h9 : k = 9
  · subst h9
    rw [if_neg (by decide), if_neg (by decide), if_neg (by decide), if_neg (by decide), if_neg (by decide), if_neg (by decide), if_neg (by decide), if_neg (by decide), if_pos rfl]
    exact mn_9 n t b e ar rs.length cr ao ks.length cap W (by omega)
  rw [if_neg h1, if_neg h2, if_neg h3, if_neg h4, if_neg h5, if_neg h6, if_neg h7, if_neg h8, if_neg h9]
  exact mn_k k n t b e ar rs.length cr ao ks.length cap W (by omega)
theorem pmayall_any (x : Ex) (v : Value) (W : World) (hg : Gd W) (hs : Sm x) (hr : Rd W x v) : Calls Tryz.prog 62 #[v] W fun e W' => e = .returned (.bool (mall mayN x)) ∧ Q W W' :=
  mayall_any mayN Gd (fun _ _ h q => h.on q) Sm sm_kids (hid maynode_any) (SizeOf.sizeOf x) x v W (Nat.le_refl _) hg hs hr
set_option maxRecDepth 100000 in
set_option maxHeartbeats 4000000 in
theorem pmay_any (x : Ex) (v : Value) (W : World) (hg : Gd W) (hs : Sm x) (hr : Rd W x v) : Calls Tryz.prog 42 #[v] W fun e W' => e = .returned (.bool (fitB x && mall mayN x)) ∧ Q W W' := by
  have HF := hid (fun W' (q : Q W W') => fits_any x v W' (Rd.on q _ _ hr))
  have HA := hid (fun W' (q : Q W W') => pmayall_any x v W' (hg.on q) hs (Rd.on q _ _ hr))
  obtain ⟨k, n, t, b, e, a1, l1, c1, a2, l2, c2, rfl⟩ := hr.shape
  have HX := hid (Bx.start W (.int .i64 k) (.int .i64 n) (.string t) (.bool b) (.int .i64 e) (.slice a1 l1 c1) (.slice a2 l2 c2) 28)
  clear hr hg hs
  cases h : fitB x
  · rw [h] at HF
    go_enter Tryz.func42, Tryz.ntmps42
    go_wp2_with (go_at_call 61; refine (HF.out _ ((Q.refl _).alloc _)).mono ?_; rintro e9 w1 ⟨rfl, q1⟩; have Q1 : Hid (Q W w1) := hid (((Q.refl _).alloc _).trans q1); clear q1)
    go_ret
    exact ⟨rfl, Q1.out⟩
  · rw [h] at HF
    obtain ⟨r, hr⟩ : ∃ r, mall mayN x = r := ⟨_, rfl⟩
    rw [hr] at HA ⊢
    clear h hr
    go_enter Tryz.func42, Tryz.ntmps42
    go_wp2_with (first | (go_at_call 61; refine (HF.out _ ((Q.refl _).alloc _)).mono ?_; rintro e9 w1 ⟨rfl, q1⟩; have Q1 : Hid (Q W w1) := hid (((Q.refl _).alloc _).trans q1); have X1 := hid (HX.out.on q1); clear q1; obtain ⟨_, _, g0, g1, g2, g3, g4, g5, g6⟩ := X1.out) | (go_at_call 62; refine (HA.out _ Q1.out).mono ?_; rintro e9 w2 ⟨rfl, q2⟩; have Q2 : Hid (Q W w2) := hid (Q1.out.trans q2); clear q2))
    go_ret
    exact ⟨by simp, Q2.out⟩
set_option maxRecDepth 100000 in
set_option maxHeartbeats 4000000 in
theorem veq_any (k n : Int) (t : ByteArray) (b : Bool) (e : Int) (k' n' : Int) (t' : ByteArray) (b' : Bool) (e' : Int) (w : World) : Calls Tryz.prog 43 #[vx k n t b e, vx k' n' t' b' e'] w fun x w' => x = .returned (.bool (decide (k = k' ∧ n = n' ∧ t.data.toList = t'.data.toList ∧ b = b' ∧ e = e'))) ∧ Q w w' := by
  by_cases h0 : k = k'
  · by_cases h1 : n = n'
    · by_cases h2 : t.data.toList = t'.data.toList
      · by_cases h3 : b = b'
        · by_cases h4 : e = e'
          · have ht : t = t' := by rw [← bytes_of t, h2, bytes_of]
            subst h0 h1 ht h3 h4
            rw [decide_eq_true ⟨rfl, rfl, rfl, rfl, rfl⟩]
            exact veq_same k n t b e w
          · rw [decide_eq_false (fun x => h4 x.2.2.2.2)]
            have e0 : (k == k') = true := by simpa using h0
            have e1 : (n == n') = true := by simpa using h1
            have e2 : (t.toList == t'.toList) = true := by rw [Lib.toList_data, Lib.toList_data]; simpa using h2
            have e3 : (b == b') = true := by simpa using h3
            have e4 : (e == e') = false := by simpa using h4
            clear h0 h1 h2 h3 h4
            unfold vx
            go_enter Tryz.func43, Tryz.ntmps43
            go_wp2_with fail
            go_ret
            exact ⟨rfl, ((Q.refl _).alloc _).alloc _⟩
        · rw [decide_eq_false (fun x => h3 x.2.2.2.1)]
          have e0 : (k == k') = true := by simpa using h0
          have e1 : (n == n') = true := by simpa using h1
          have e2 : (t.toList == t'.toList) = true := by rw [Lib.toList_data, Lib.toList_data]; simpa using h2
          have e3 : (b == b') = false := by simpa using h3
          clear h0 h1 h2 h3
          unfold vx
          go_enter Tryz.func43, Tryz.ntmps43
          go_wp2_with fail
          go_ret
          exact ⟨rfl, ((Q.refl _).alloc _).alloc _⟩
      · rw [decide_eq_false (fun x => h2 x.2.2.1)]
        have e0 : (k == k') = true := by simpa using h0
        have e1 : (n == n') = true := by simpa using h1
        have e2 : (t.toList == t'.toList) = false := by rw [Lib.toList_data, Lib.toList_data]; simpa using h2
        clear h0 h1 h2
        unfold vx
        go_enter Tryz.func43, Tryz.ntmps43
        go_wp2_with fail
        go_ret
        exact ⟨rfl, ((Q.refl _).alloc _).alloc _⟩
    · rw [decide_eq_false (fun x => h1 x.2.1)]
      have e0 : (k == k') = true := by simpa using h0
      have e1 : (n == n') = false := by simpa using h1
      clear h0 h1
      unfold vx
      go_enter Tryz.func43, Tryz.ntmps43
      go_wp2_with fail
      go_ret
      exact ⟨rfl, ((Q.refl _).alloc _).alloc _⟩
  · rw [decide_eq_false (fun x => h0 x.1)]
    exact veq_kind k n t b e k' n' t' b' e' w h0
/-- is it the zero tree? -/
def isZ : Ex → Bool
  | .mk k n t b e rs ks => decide (k = 0 ∧ n = 0 ∧ t = [] ∧ b = false ∧ e = 0 ∧ rs = [] ∧ ks.length = 0)
theorem isZ_iff (x : Ex) : isZ x = true ↔ x = zeroE := by
  obtain ⟨k, n, t, b, e, rs, ks⟩ := x
  unfold isZ zeroE
  constructor
  · intro h
    simp only [decide_eq_true_eq] at h
    obtain ⟨rfl, rfl, rfl, rfl, rfl, rfl, h7⟩ := h
    rw [List.eq_nil_of_length_eq_zero h7]
  · intro h
    cases h
    decide
theorem ans_isZ {x : Ex} {e : Ending} (h : Ans (x = zeroE) e) : e = .returned (.bool (isZ x)) := by
  obtain ⟨r, he, hr⟩ := h
  rw [he]
  have : r = isZ x := by
    cases hz : isZ x
    · cases r
      · rfl
      · have := (isZ_iff x).2 (hr.1 rfl)
        rw [hz] at this
        cases this
    · exact hr.2 ((isZ_iff x).1 hz)
  rw [this]
set_option maxRecDepth 100000 in
set_option maxHeartbeats 4000000 in
theorem smay_form (vk vn : Int) (vt : ByteArray) (vb : Bool) (ve : Int) (k m : Int) (t : ByteArray) (bb : Bool) (er : Int) (a1 : Option Addr) (l1 c1 : Nat) (a2 : Option Addr) (l2 c2 : Nat) (X : Ex) (w : World) (hg : Gd w) (hs : Sm X) (hr : Rd w X (.agg #[.int .i64 k, .int .i64 m, .string t, .bool bb, .int .i64 er, .slice a1 l1 c1, .slice a2 l2 c2])) : Calls Tryz.prog 20 #[.agg #[.bool true, .int .i64 vk, .int .i64 vn, .string vt, .bool vb, .int .i64 ve, .int .i64 k, .int .i64 m, .string t, .bool bb, .int .i64 er, .slice a1 l1 c1, .slice a2 l2 c2]] w fun e W' => e = .returned (.bool ((fitB X && mall mayN X) && decide (vk = 0 ∧ vn = 0 ∧ vt.data.toList = [] ∧ vb = false ∧ ve = 0))) ∧ Q w W' := by
  have HM := hid (fun W' (q : Q w W') => pmay_any X _ W' (hg.on q) hs (Rd.on q _ _ hr))
  have HV := hid (fun W' => veq_any vk vn vt vb ve 0 0 ⟨#[]⟩ false 0 W')
  unfold vx at HV
  rw [show (⟨#[]⟩ : ByteArray).data.toList = [] from rfl] at HV
  generalize decide (vk = 0 ∧ vn = 0 ∧ vt.data.toList = [] ∧ vb = false ∧ ve = 0) = r2 at HV ⊢
  clear hr hg hs
  cases h1 : (fitB X && mall mayN X)
  · rw [h1] at HM
    go_enter Tryz.func20, Tryz.ntmps20
    go_wp2_with (go_at_call 42; refine (HM.out _ ((Q.refl _).alloc _)).mono ?_; rintro e9 w1 ⟨rfl, q1⟩; have Q1 : Hid (Q w w1) := hid (((Q.refl _).alloc _).trans q1); clear q1)
    go_ret
    exact ⟨by simp, Q1.out⟩
  · rw [h1] at HM
    go_enter Tryz.func20, Tryz.ntmps20
    go_wp2_with (first | (go_at_call 42; refine (HM.out _ ((Q.refl _).alloc _)).mono ?_; rintro e9 w1 ⟨rfl, q1⟩; have Q1 : Hid (Q w w1) := hid (((Q.refl _).alloc _).trans q1); have Z1 := hid ((cb_new w [.bool true, .int .i64 vk, .int .i64 vn, .string vt, .bool vb, .int .i64 ve, .int .i64 k, .int .i64 m, .string t, .bool bb, .int .i64 er, .slice a1 l1 c1, .slice a2 l2 c2] 30).on q1); clear q1; have d0 := Z1.out.c 0 _ rfl; have d1 := Z1.out.c 1 _ rfl; have d2 := Z1.out.c 2 _ rfl; have d3 := Z1.out.c 3 _ rfl; have d4 := Z1.out.c 4 _ rfl; have d5 := Z1.out.c 5 _ rfl; have d6 := Z1.out.c 6 _ rfl; have d7 := Z1.out.c 7 _ rfl; have d8 := Z1.out.c 8 _ rfl; have d9 := Z1.out.c 9 _ rfl; have d10 := Z1.out.c 10 _ rfl; have d11 := Z1.out.c 11 _ rfl; have d12 := Z1.out.c 12 _ rfl) | (go_at_call 43; refine (HV.out _).mono ?_; rintro e9 w2 ⟨rfl, q2⟩; have Q2 := hid (Q1.out.trans q2); clear q2))
    go_ret
    exact ⟨by simp, Q2.out⟩
set_option maxRecDepth 100000 in
set_option maxHeartbeats 4000000 in
theorem smay_val (vk vn : Int) (vt : ByteArray) (vb : Bool) (ve : Int) (k m : Int) (t : ByteArray) (bb : Bool) (er : Int) (a1 : Option Addr) (l1 c1 : Nat) (a2 : Option Addr) (l2 c2 : Nat) (X : Ex) (w : World) (hg : Gd w) (hv : vt.size ≤ 1000000) (hn : nodes X ≤ 1000) (hr : Rd w X (.agg #[.int .i64 k, .int .i64 m, .string t, .bool bb, .int .i64 er, .slice a1 l1 c1, .slice a2 l2 c2])) : Calls Tryz.prog 20 #[.agg #[.bool false, .int .i64 vk, .int .i64 vn, .string vt, .bool vb, .int .i64 ve, .int .i64 k, .int .i64 m, .string t, .bool bb, .int .i64 er, .slice a1 l1 c1, .slice a2 l2 c2]] w fun e W' => e = .returned (.bool (V.mayB vk vn vt.data.toList vb ve && isZ X)) ∧ Q w W' := by
  have HM := hid (fun W' (q : Q w W') => V.may_any vk vn vt vb ve W' (hg.1.on q) (by omega))
  unfold V.vv at HM
  rw [Lib.toList_data] at HM
  have HV := hid (fun W' (q : Q w W') => eq_any X zeroE _ _ W' (Rd.on q _ _ hr) (rd_zero W') hn)
  clear hr hg hv hn
  cases h1 : V.mayB vk vn vt.data.toList vb ve
  · rw [h1] at HM
    go_enter Tryz.func20, Tryz.ntmps20
    go_wp2_with (go_at_call 44; refine (HM.out _ ((Q.refl _).alloc _)).mono ?_; rintro e9 w1 ⟨rfl, q1⟩; have Q1 : Hid (Q w w1) := hid (((Q.refl _).alloc _).trans q1); clear q1)
    go_ret
    exact ⟨by simp, Q1.out⟩
  · rw [h1] at HM
    go_enter Tryz.func20, Tryz.ntmps20
    go_wp2_with (first | (go_at_call 44; refine (HM.out _ ((Q.refl _).alloc _)).mono ?_; rintro e9 w1 ⟨rfl, q1⟩; have Q1 : Hid (Q w w1) := hid (((Q.refl _).alloc _).trans q1); have Z1 := hid ((cb_new w [.bool false, .int .i64 vk, .int .i64 vn, .string vt, .bool vb, .int .i64 ve, .int .i64 k, .int .i64 m, .string t, .bool bb, .int .i64 er, .slice a1 l1 c1, .slice a2 l2 c2] 30).on q1); clear q1; have d0 := Z1.out.c 0 _ rfl; have d1 := Z1.out.c 1 _ rfl; have d2 := Z1.out.c 2 _ rfl; have d3 := Z1.out.c 3 _ rfl; have d4 := Z1.out.c 4 _ rfl; have d5 := Z1.out.c 5 _ rfl; have d6 := Z1.out.c 6 _ rfl; have d7 := Z1.out.c 7 _ rfl; have d8 := Z1.out.c 8 _ rfl; have d9 := Z1.out.c 9 _ rfl; have d10 := Z1.out.c 10 _ rfl; have d11 := Z1.out.c 11 _ rfl; have d12 := Z1.out.c 12 _ rfl) | (go_at_call 45; refine (HV.out _ Q1.out).mono ?_; rintro e9 w2 ⟨ha, q2⟩; have he := ans_isZ ha; subst he; have Q2 := hid (Q1.out.trans q2); clear q2 ha))
    go_ret
    exact ⟨by simp, Q2.out⟩
set_option maxRecDepth 100000 in
set_option maxHeartbeats 4000000 in
theorem samecell_any (f : Bool) (vk vn : Int) (vt : ByteArray) (vb : Bool) (ve : Int) (k m : Int) (t : ByteArray) (bb : Bool) (er : Int) (a1 : Option Addr) (l1 c1 : Nat) (a2 : Option Addr) (l2 c2 : Nat) (f' : Bool) (vk' vn' : Int) (vt' : ByteArray) (vb' : Bool) (ve' : Int) (k' m' : Int) (t' : ByteArray) (bb' : Bool) (er' : Int) (a1' : Option Addr) (l1' c1' : Nat) (a2' : Option Addr) (l2' c2' : Nat) (X Y : Ex) (b : Bool) (w : World) (hr : Rd w X (.agg #[.int .i64 k, .int .i64 m, .string t, .bool bb, .int .i64 er, .slice a1 l1 c1, .slice a2 l2 c2])) (hr' : Rd w Y (.agg #[.int .i64 k', .int .i64 m', .string t', .bool bb', .int .i64 er', .slice a1' l1' c1', .slice a2' l2' c2'])) (hn : nodes X ≤ 1000) (hb : b = true ↔ (f = f' ∧ (vk = vk' ∧ vn = vn' ∧ vt.data.toList = vt'.data.toList ∧ vb = vb' ∧ ve = ve') ∧ X = Y)) : Calls Tryz.prog 36 #[.agg #[.bool f, .int .i64 vk, .int .i64 vn, .string vt, .bool vb, .int .i64 ve, .int .i64 k, .int .i64 m, .string t, .bool bb, .int .i64 er, .slice a1 l1 c1, .slice a2 l2 c2], .agg #[.bool f', .int .i64 vk', .int .i64 vn', .string vt', .bool vb', .int .i64 ve', .int .i64 k', .int .i64 m', .string t', .bool bb', .int .i64 er', .slice a1' l1' c1', .slice a2' l2' c2']] w fun e W' => e = .returned (.bool b) ∧ Q w W' := by
  have HV := hid (fun W' => veq_any vk vn vt vb ve vk' vn' vt' vb' ve' W')
  have HE := hid (fun W' (q : Q w W') => eq_any X Y _ _ W' (Rd.on q _ _ hr) (Rd.on q _ _ hr') hn)
  obtain ⟨rr, hrr⟩ : ∃ rr, decide (vk = vk' ∧ vn = vn' ∧ vt.data.toList = vt'.data.toList ∧ vb = vb' ∧ ve = ve') = rr := ⟨_, rfl⟩
  rw [hrr] at HV
  unfold vx at HV
  clear hr hr'
  by_cases hf : f = f'
  · have e0 : (f == f') = true := by simpa using hf
    cases rr with
    | true =>
      have hv := of_decide_eq_true hrr
      have HB : Hid (∀ e, Ans (X = Y) e → e = .returned (.bool b)) := hid (fun e ⟨r, he, hr⟩ => by
        rw [he, show r = b from Bool.eq_iff_iff.2 (hr.trans ⟨fun x => hb.2 ⟨hf, hv, x⟩, fun x => (hb.1 x).2.2⟩)])
      clear hb hf hv hrr
      go_enter Tryz.func36, Tryz.ntmps36
      go_upto_region 1 with fail
      have Z1 := hid ((cb_new w [.bool f, .int .i64 vk, .int .i64 vn, .string vt, .bool vb, .int .i64 ve, .int .i64 k, .int .i64 m, .string t, .bool bb, .int .i64 er, .slice a1 l1 c1, .slice a2 l2 c2] 30).on ((Q.refl _).alloc (.cells #[.bool f', .int .i64 vk', .int .i64 vn', .string vt', .bool vb', .int .i64 ve', .int .i64 k', .int .i64 m', .string t', .bool bb', .int .i64 er', .slice a1' l1' c1', .slice a2' l2' c2'] 30)))
      have Z2 := hid (cb_new (w.alloc (.cells #[.bool f, .int .i64 vk, .int .i64 vn, .string vt, .bool vb, .int .i64 ve, .int .i64 k, .int .i64 m, .string t, .bool bb, .int .i64 er, .slice a1 l1 c1, .slice a2 l2 c2] 30)) [.bool f', .int .i64 vk', .int .i64 vn', .string vt', .bool vb', .int .i64 ve', .int .i64 k', .int .i64 m', .string t', .bool bb', .int .i64 er', .slice a1' l1' c1', .slice a2' l2' c2'] 30)
      have QA : Hid (Q w ((w.alloc (.cells #[.bool f, .int .i64 vk, .int .i64 vn, .string vt, .bool vb, .int .i64 ve, .int .i64 k, .int .i64 m, .string t, .bool bb, .int .i64 er, .slice a1 l1 c1, .slice a2 l2 c2] 30)).alloc (.cells #[.bool f', .int .i64 vk', .int .i64 vn', .string vt', .bool vb', .int .i64 ve', .int .i64 k', .int .i64 m', .string t', .bool bb', .int .i64 er', .slice a1' l1' c1', .slice a2' l2' c2'] 30))) := hid (((Q.refl w).alloc _).alloc _)
      rw [show ([.bool f, .int .i64 vk, .int .i64 vn, .string vt, .bool vb, .int .i64 ve, .int .i64 k, .int .i64 m, .string t, .bool bb, .int .i64 er, .slice a1 l1 c1, .slice a2 l2 c2] : List Value).toArray = #[.bool f, .int .i64 vk, .int .i64 vn, .string vt, .bool vb, .int .i64 ve, .int .i64 k, .int .i64 m, .string t, .bool bb, .int .i64 er, .slice a1 l1 c1, .slice a2 l2 c2] from rfl] at Z1
      rw [show ([.bool f', .int .i64 vk', .int .i64 vn', .string vt', .bool vb', .int .i64 ve', .int .i64 k', .int .i64 m', .string t', .bool bb', .int .i64 er', .slice a1' l1' c1', .slice a2' l2' c2'] : List Value).toArray = #[.bool f', .int .i64 vk', .int .i64 vn', .string vt', .bool vb', .int .i64 ve', .int .i64 k', .int .i64 m', .string t', .bool bb', .int .i64 er', .slice a1' l1' c1', .slice a2' l2' c2'] from rfl, show (w.alloc (.cells #[.bool f, .int .i64 vk, .int .i64 vn, .string vt, .bool vb, .int .i64 ve, .int .i64 k, .int .i64 m, .string t, .bool bb, .int .i64 er, .slice a1 l1 c1, .slice a2 l2 c2] 30)).heap.size = w.heap.size + 1 by simp] at Z2
      generalize ((w.alloc (.cells #[.bool f, .int .i64 vk, .int .i64 vn, .string vt, .bool vb, .int .i64 ve, .int .i64 k, .int .i64 m, .string t, .bool bb, .int .i64 er, .slice a1 l1 c1, .slice a2 l2 c2] 30)).alloc (.cells #[.bool f', .int .i64 vk', .int .i64 vn', .string vt', .bool vb', .int .i64 ve', .int .i64 k', .int .i64 m', .string t', .bool bb', .int .i64 er', .slice a1' l1' c1', .slice a2' l2' c2'] 30)) = w2 at Z1 Z2 QA ⊢
      generalize w.heap.size + 1 = b1 at Z2 ⊢
      generalize w.heap.size = b0 at Z1 ⊢
      have d0 := Z1.out.c 0 _ rfl
      have d1 := Z1.out.c 1 _ rfl
      have d2 := Z1.out.c 2 _ rfl
      have d3 := Z1.out.c 3 _ rfl
      have d4 := Z1.out.c 4 _ rfl
      have d5 := Z1.out.c 5 _ rfl
      have d6 := Z1.out.c 6 _ rfl
      have d7 := Z1.out.c 7 _ rfl
      have d8 := Z1.out.c 8 _ rfl
      have d9 := Z1.out.c 9 _ rfl
      have d10 := Z1.out.c 10 _ rfl
      have d11 := Z1.out.c 11 _ rfl
      have d12 := Z1.out.c 12 _ rfl
      have n0 := Z2.out.c 0 _ rfl
      have n1 := Z2.out.c 1 _ rfl
      have n2 := Z2.out.c 2 _ rfl
      have n3 := Z2.out.c 3 _ rfl
      have n4 := Z2.out.c 4 _ rfl
      have n5 := Z2.out.c 5 _ rfl
      have n6 := Z2.out.c 6 _ rfl
      have n7 := Z2.out.c 7 _ rfl
      have n8 := Z2.out.c 8 _ rfl
      have n9 := Z2.out.c 9 _ rfl
      have n10 := Z2.out.c 10 _ rfl
      have n11 := Z2.out.c 11 _ rfl
      have n12 := Z2.out.c 12 _ rfl
      go_wp2_with (first | (go_at_call 43; refine (HV.out _).mono ?_; rintro e9 w3 ⟨rfl, q3⟩; have Z13 := hid (Z1.out.on q3); have Z23 := hid (Z2.out.on q3); have Q3 : Hid (Q w w3) := hid (QA.out.trans q3); clear q3; have x0 := Z13.out.c 0 _ rfl; have x1 := Z13.out.c 1 _ rfl; have x2 := Z13.out.c 2 _ rfl; have x3 := Z13.out.c 3 _ rfl; have x4 := Z13.out.c 4 _ rfl; have x5 := Z13.out.c 5 _ rfl; have x6 := Z13.out.c 6 _ rfl; have x7 := Z13.out.c 7 _ rfl; have x8 := Z13.out.c 8 _ rfl; have x9 := Z13.out.c 9 _ rfl; have x10 := Z13.out.c 10 _ rfl; have x11 := Z13.out.c 11 _ rfl; have x12 := Z13.out.c 12 _ rfl; have y0 := Z23.out.c 0 _ rfl; have y1 := Z23.out.c 1 _ rfl; have y2 := Z23.out.c 2 _ rfl; have y3 := Z23.out.c 3 _ rfl; have y4 := Z23.out.c 4 _ rfl; have y5 := Z23.out.c 5 _ rfl; have y6 := Z23.out.c 6 _ rfl; have y7 := Z23.out.c 7 _ rfl; have y8 := Z23.out.c 8 _ rfl; have y9 := Z23.out.c 9 _ rfl; have y10 := Z23.out.c 10 _ rfl; have y11 := Z23.out.c 11 _ rfl; have y12 := Z23.out.c 12 _ rfl) | (go_at_call 45; refine (HE.out _ Q3.out).mono ?_; rintro e9 w4 ⟨ha, q4⟩; have he := HB.out _ ha; subst he; have Q4 : Hid (Q w w4) := hid (Q3.out.trans q4); clear q4 ha))
      go_ret
      exact ⟨rfl, Q4.out⟩
    | false =>
      have HB : Hid (b = false) := hid (by
        cases b with
        | false => rfl
        | true => exact absurd (hb.1 rfl).2.1 (of_decide_eq_false hrr))
      clear hb hf hrr
      go_enter Tryz.func36, Tryz.ntmps36
      go_upto_region 1 with fail
      have Z1 := hid ((cb_new w [.bool f, .int .i64 vk, .int .i64 vn, .string vt, .bool vb, .int .i64 ve, .int .i64 k, .int .i64 m, .string t, .bool bb, .int .i64 er, .slice a1 l1 c1, .slice a2 l2 c2] 30).on ((Q.refl _).alloc (.cells #[.bool f', .int .i64 vk', .int .i64 vn', .string vt', .bool vb', .int .i64 ve', .int .i64 k', .int .i64 m', .string t', .bool bb', .int .i64 er', .slice a1' l1' c1', .slice a2' l2' c2'] 30)))
      have Z2 := hid (cb_new (w.alloc (.cells #[.bool f, .int .i64 vk, .int .i64 vn, .string vt, .bool vb, .int .i64 ve, .int .i64 k, .int .i64 m, .string t, .bool bb, .int .i64 er, .slice a1 l1 c1, .slice a2 l2 c2] 30)) [.bool f', .int .i64 vk', .int .i64 vn', .string vt', .bool vb', .int .i64 ve', .int .i64 k', .int .i64 m', .string t', .bool bb', .int .i64 er', .slice a1' l1' c1', .slice a2' l2' c2'] 30)
      have QA : Hid (Q w ((w.alloc (.cells #[.bool f, .int .i64 vk, .int .i64 vn, .string vt, .bool vb, .int .i64 ve, .int .i64 k, .int .i64 m, .string t, .bool bb, .int .i64 er, .slice a1 l1 c1, .slice a2 l2 c2] 30)).alloc (.cells #[.bool f', .int .i64 vk', .int .i64 vn', .string vt', .bool vb', .int .i64 ve', .int .i64 k', .int .i64 m', .string t', .bool bb', .int .i64 er', .slice a1' l1' c1', .slice a2' l2' c2'] 30))) := hid (((Q.refl w).alloc _).alloc _)
      rw [show ([.bool f, .int .i64 vk, .int .i64 vn, .string vt, .bool vb, .int .i64 ve, .int .i64 k, .int .i64 m, .string t, .bool bb, .int .i64 er, .slice a1 l1 c1, .slice a2 l2 c2] : List Value).toArray = #[.bool f, .int .i64 vk, .int .i64 vn, .string vt, .bool vb, .int .i64 ve, .int .i64 k, .int .i64 m, .string t, .bool bb, .int .i64 er, .slice a1 l1 c1, .slice a2 l2 c2] from rfl] at Z1
      rw [show ([.bool f', .int .i64 vk', .int .i64 vn', .string vt', .bool vb', .int .i64 ve', .int .i64 k', .int .i64 m', .string t', .bool bb', .int .i64 er', .slice a1' l1' c1', .slice a2' l2' c2'] : List Value).toArray = #[.bool f', .int .i64 vk', .int .i64 vn', .string vt', .bool vb', .int .i64 ve', .int .i64 k', .int .i64 m', .string t', .bool bb', .int .i64 er', .slice a1' l1' c1', .slice a2' l2' c2'] from rfl, show (w.alloc (.cells #[.bool f, .int .i64 vk, .int .i64 vn, .string vt, .bool vb, .int .i64 ve, .int .i64 k, .int .i64 m, .string t, .bool bb, .int .i64 er, .slice a1 l1 c1, .slice a2 l2 c2] 30)).heap.size = w.heap.size + 1 by simp] at Z2
      generalize ((w.alloc (.cells #[.bool f, .int .i64 vk, .int .i64 vn, .string vt, .bool vb, .int .i64 ve, .int .i64 k, .int .i64 m, .string t, .bool bb, .int .i64 er, .slice a1 l1 c1, .slice a2 l2 c2] 30)).alloc (.cells #[.bool f', .int .i64 vk', .int .i64 vn', .string vt', .bool vb', .int .i64 ve', .int .i64 k', .int .i64 m', .string t', .bool bb', .int .i64 er', .slice a1' l1' c1', .slice a2' l2' c2'] 30)) = w2 at Z1 Z2 QA ⊢
      generalize w.heap.size + 1 = b1 at Z2 ⊢
      generalize w.heap.size = b0 at Z1 ⊢
      have d0 := Z1.out.c 0 _ rfl
      have d1 := Z1.out.c 1 _ rfl
      have d2 := Z1.out.c 2 _ rfl
      have d3 := Z1.out.c 3 _ rfl
      have d4 := Z1.out.c 4 _ rfl
      have d5 := Z1.out.c 5 _ rfl
      have d6 := Z1.out.c 6 _ rfl
      have d7 := Z1.out.c 7 _ rfl
      have d8 := Z1.out.c 8 _ rfl
      have d9 := Z1.out.c 9 _ rfl
      have d10 := Z1.out.c 10 _ rfl
      have d11 := Z1.out.c 11 _ rfl
      have d12 := Z1.out.c 12 _ rfl
      have n0 := Z2.out.c 0 _ rfl
      have n1 := Z2.out.c 1 _ rfl
      have n2 := Z2.out.c 2 _ rfl
      have n3 := Z2.out.c 3 _ rfl
      have n4 := Z2.out.c 4 _ rfl
      have n5 := Z2.out.c 5 _ rfl
      have n6 := Z2.out.c 6 _ rfl
      have n7 := Z2.out.c 7 _ rfl
      have n8 := Z2.out.c 8 _ rfl
      have n9 := Z2.out.c 9 _ rfl
      have n10 := Z2.out.c 10 _ rfl
      have n11 := Z2.out.c 11 _ rfl
      have n12 := Z2.out.c 12 _ rfl
      go_wp2_with (go_at_call 43; refine (HV.out _).mono ?_; rintro e9 w3 ⟨rfl, q3⟩; have Q3 : Hid (Q w w3) := hid (QA.out.trans q3); clear q3)
      go_ret
      exact ⟨ret_bool HB.out.symm, Q3.out⟩
  · have e0 : (f == f') = false := by simpa using hf
    have HB : Hid (b = false) := hid (by
      cases b with
      | false => rfl
      | true => exact absurd (hb.1 rfl).1 hf)
    clear hb hf hrr
    go_enter Tryz.func36, Tryz.ntmps36
    go_upto_region 1 with fail
    have Z1 := hid ((cb_new w [.bool f, .int .i64 vk, .int .i64 vn, .string vt, .bool vb, .int .i64 ve, .int .i64 k, .int .i64 m, .string t, .bool bb, .int .i64 er, .slice a1 l1 c1, .slice a2 l2 c2] 30).on ((Q.refl _).alloc (.cells #[.bool f', .int .i64 vk', .int .i64 vn', .string vt', .bool vb', .int .i64 ve', .int .i64 k', .int .i64 m', .string t', .bool bb', .int .i64 er', .slice a1' l1' c1', .slice a2' l2' c2'] 30)))
    have Z2 := hid (cb_new (w.alloc (.cells #[.bool f, .int .i64 vk, .int .i64 vn, .string vt, .bool vb, .int .i64 ve, .int .i64 k, .int .i64 m, .string t, .bool bb, .int .i64 er, .slice a1 l1 c1, .slice a2 l2 c2] 30)) [.bool f', .int .i64 vk', .int .i64 vn', .string vt', .bool vb', .int .i64 ve', .int .i64 k', .int .i64 m', .string t', .bool bb', .int .i64 er', .slice a1' l1' c1', .slice a2' l2' c2'] 30)
    have QA : Hid (Q w ((w.alloc (.cells #[.bool f, .int .i64 vk, .int .i64 vn, .string vt, .bool vb, .int .i64 ve, .int .i64 k, .int .i64 m, .string t, .bool bb, .int .i64 er, .slice a1 l1 c1, .slice a2 l2 c2] 30)).alloc (.cells #[.bool f', .int .i64 vk', .int .i64 vn', .string vt', .bool vb', .int .i64 ve', .int .i64 k', .int .i64 m', .string t', .bool bb', .int .i64 er', .slice a1' l1' c1', .slice a2' l2' c2'] 30))) := hid (((Q.refl w).alloc _).alloc _)
    rw [show ([.bool f, .int .i64 vk, .int .i64 vn, .string vt, .bool vb, .int .i64 ve, .int .i64 k, .int .i64 m, .string t, .bool bb, .int .i64 er, .slice a1 l1 c1, .slice a2 l2 c2] : List Value).toArray = #[.bool f, .int .i64 vk, .int .i64 vn, .string vt, .bool vb, .int .i64 ve, .int .i64 k, .int .i64 m, .string t, .bool bb, .int .i64 er, .slice a1 l1 c1, .slice a2 l2 c2] from rfl] at Z1
    rw [show ([.bool f', .int .i64 vk', .int .i64 vn', .string vt', .bool vb', .int .i64 ve', .int .i64 k', .int .i64 m', .string t', .bool bb', .int .i64 er', .slice a1' l1' c1', .slice a2' l2' c2'] : List Value).toArray = #[.bool f', .int .i64 vk', .int .i64 vn', .string vt', .bool vb', .int .i64 ve', .int .i64 k', .int .i64 m', .string t', .bool bb', .int .i64 er', .slice a1' l1' c1', .slice a2' l2' c2'] from rfl, show (w.alloc (.cells #[.bool f, .int .i64 vk, .int .i64 vn, .string vt, .bool vb, .int .i64 ve, .int .i64 k, .int .i64 m, .string t, .bool bb, .int .i64 er, .slice a1 l1 c1, .slice a2 l2 c2] 30)).heap.size = w.heap.size + 1 by simp] at Z2
    generalize ((w.alloc (.cells #[.bool f, .int .i64 vk, .int .i64 vn, .string vt, .bool vb, .int .i64 ve, .int .i64 k, .int .i64 m, .string t, .bool bb, .int .i64 er, .slice a1 l1 c1, .slice a2 l2 c2] 30)).alloc (.cells #[.bool f', .int .i64 vk', .int .i64 vn', .string vt', .bool vb', .int .i64 ve', .int .i64 k', .int .i64 m', .string t', .bool bb', .int .i64 er', .slice a1' l1' c1', .slice a2' l2' c2'] 30)) = w2 at Z1 Z2 QA ⊢
    generalize w.heap.size + 1 = b1 at Z2 ⊢
    generalize w.heap.size = b0 at Z1 ⊢
    have d0 := Z1.out.c 0 _ rfl
    have d1 := Z1.out.c 1 _ rfl
    have d2 := Z1.out.c 2 _ rfl
    have d3 := Z1.out.c 3 _ rfl
    have d4 := Z1.out.c 4 _ rfl
    have d5 := Z1.out.c 5 _ rfl
    have d6 := Z1.out.c 6 _ rfl
    have d7 := Z1.out.c 7 _ rfl
    have d8 := Z1.out.c 8 _ rfl
    have d9 := Z1.out.c 9 _ rfl
    have d10 := Z1.out.c 10 _ rfl
    have d11 := Z1.out.c 11 _ rfl
    have d12 := Z1.out.c 12 _ rfl
    have n0 := Z2.out.c 0 _ rfl
    have n1 := Z2.out.c 1 _ rfl
    have n2 := Z2.out.c 2 _ rfl
    have n3 := Z2.out.c 3 _ rfl
    have n4 := Z2.out.c 4 _ rfl
    have n5 := Z2.out.c 5 _ rfl
    have n6 := Z2.out.c 6 _ rfl
    have n7 := Z2.out.c 7 _ rfl
    have n8 := Z2.out.c 8 _ rfl
    have n9 := Z2.out.c 9 _ rfl
    have n10 := Z2.out.c 10 _ rfl
    have n11 := Z2.out.c 11 _ rfl
    have n12 := Z2.out.c 12 _ rfl
    go_wp2_with fail
    go_ret
    exact ⟨ret_bool HB.out.symm, QA.out⟩
/-- an operation's cells -/
structure Rv where
  (k : Int)
  (sh : ByteArray)
  (row : Int)
  (col : Int)
  (f : Bool)
  (vk : Int)
  (vn : Int)
  (vt : ByteArray)
  (vb : Bool)
  (ve : Int)
  (tk : Int)
  (tm : Int)
  (tt : ByteArray)
  (tb : Bool)
  (te : Int)
  (a1 : Option Addr)
  (l1 : Nat)
  (c1 : Nat)
  (a2 : Option Addr)
  (l2 : Nat)
  (c2 : Nat)
  (lk : Int)
  (la : Int)
  (lt : Int)
  (ra : Option Addr)
  (rl : Nat)
  (rc : Nat)
  (fm : Int)
  (nm : ByteArray)
def Rv.L (x : Rv) : List Value := [.int .i64 x.k, .string x.sh, .int .i64 x.row, .int .i64 x.col, .bool x.f, .int .i64 x.vk, .int .i64 x.vn, .string x.vt, .bool x.vb, .int .i64 x.ve, .int .i64 x.tk, .int .i64 x.tm, .string x.tt, .bool x.tb, .int .i64 x.te, .slice x.a1 x.l1 x.c1, .slice x.a2 x.l2 x.c2, .int .i64 x.lk, .int .i64 x.la, .int .i64 x.lt, .slice x.ra x.rl x.rc, .int .i64 x.fm, .string x.nm]
def Rv.v (x : Rv) : Value := .agg #[.int .i64 x.k, .string x.sh, .int .i64 x.row, .int .i64 x.col, .bool x.f, .int .i64 x.vk, .int .i64 x.vn, .string x.vt, .bool x.vb, .int .i64 x.ve, .int .i64 x.tk, .int .i64 x.tm, .string x.tt, .bool x.tb, .int .i64 x.te, .slice x.a1 x.l1 x.c1, .slice x.a2 x.l2 x.c2, .int .i64 x.lk, .int .i64 x.la, .int .i64 x.lt, .slice x.ra x.rl x.rc, .int .i64 x.fm, .string x.nm]
/-- what they read as: a tree, rectangles -/
structure RO (W : World) (x : Rv) (X : Ex) (L : List R.Rg.Rc) : Prop where
  t : Rd W X (.agg #[.int .i64 x.tk, .int .i64 x.tm, .string x.tt, .bool x.tb, .int .i64 x.te, .slice x.a1 x.l1 x.c1, .slice x.a2 x.l2 x.c2])
  r : R.Sl R.rc 4 W (.slice x.ra x.rl x.rc) L
theorem RO.on {W W' : World} {x : Rv} {X : Ex} {L : List R.Rg.Rc} (h : RO W x X L) (q : Q W W') : RO W' x X L := ⟨Rd.on q _ _ h.t, h.r.on q⟩
/-- the same values? -/
def vE (x y : Rv) : Prop := x.vk = y.vk ∧ x.vn = y.vn ∧ x.vt.data.toList = y.vt.data.toList ∧ x.vb = y.vb ∧ x.ve = y.ve
/-- the same operations? -/
def oE (x y : Rv) (X Y : Ex) (L M : List R.Rg.Rc) : Prop := x.k = y.k ∧ x.sh.data.toList = y.sh.data.toList ∧ x.row = y.row ∧ x.col = y.col ∧ (x.lk = y.lk ∧ x.la = y.la ∧ x.lt = y.lt) ∧ x.fm = y.fm ∧ x.nm.data.toList = y.nm.data.toList ∧ L = M ∧ (x.f = y.f ∧ vE x y ∧ X = Y)
theorem oe_split (x y : Rv) (X Y : Ex) (L M : List R.Rg.Rc) (b : Bool) (hb : b = true ↔ oE x y X Y L M) : ∃ (cb : Bool), (cb = true ↔ (x.f = y.f ∧ vE x y ∧ X = Y)) ∧ b = (decide (x.k = y.k) && (decide (x.sh.data.toList = y.sh.data.toList) && (decide (x.row = y.row) && (decide (x.col = y.col) && (decide (x.lk = y.lk ∧ x.la = y.la ∧ x.lt = y.lt) && (decide (x.fm = y.fm) && (decide (x.nm.data.toList = y.nm.data.toList) && (R.eqRc L M && cb)))))))) := by
  obtain ⟨cb, hc⟩ : ∃ cb : Bool, (cb = true ↔ (x.f = y.f ∧ vE x y ∧ X = Y)) := by
    by_cases h : (x.f = y.f ∧ vE x y ∧ X = Y)
    · exact ⟨true, fun _ => h, fun _ => rfl⟩
    · exact ⟨false, fun e => absurd e Bool.false_ne_true, fun e => absurd e h⟩
  refine ⟨cb, hc, ?_⟩
  rw [Bool.eq_iff_iff, hb]
  simp only [Bool.and_eq_true, decide_eq_true_eq, R.eqRc_iff, hc]
  rfl
/-- what the reference's may answers, so deep -/
def rm : Ex → Nat → Bool
  | .mk k n t b e rs ks, d => decide (d ≤ 50) && (mayN (.mk k n t b e rs ks) && rmL ks (d + 1))
  where
  rmL : List Ex → Nat → Bool
  | [], _ => true
  | x :: xs, d => rm x d && rmL xs d
/-- may it be a cell? -/
def mcB (f : Bool) (vk vn : Int) (l : List UInt8) (vb : Bool) (ve : Int) (Y : Ex) : Bool := if f then ((fitB Y && mall mayN Y) && decide (vk = 0 ∧ vn = 0 ∧ l = [] ∧ vb = false ∧ ve = 0)) else (V.mayB vk vn l vb ve && isZ Y)
theorem smay_any (f : Bool) (vk vn : Int) (vt : ByteArray) (vb : Bool) (ve : Int) (k m : Int) (t : ByteArray) (bb : Bool) (er : Int) (a1 : Option Addr) (l1 c1 : Nat) (a2 : Option Addr) (l2 c2 : Nat) (X : Ex) (w : World) (hg : Gd w) (hv : vt.size ≤ 1000000) (hs : Sm X) (hn : nodes X ≤ 1000) (hr : Rd w X (.agg #[.int .i64 k, .int .i64 m, .string t, .bool bb, .int .i64 er, .slice a1 l1 c1, .slice a2 l2 c2])) : Calls Tryz.prog 20 #[.agg #[.bool f, .int .i64 vk, .int .i64 vn, .string vt, .bool vb, .int .i64 ve, .int .i64 k, .int .i64 m, .string t, .bool bb, .int .i64 er, .slice a1 l1 c1, .slice a2 l2 c2]] w fun e W' => e = .returned (.bool (mcB f vk vn vt.data.toList vb ve X)) ∧ Q w W' := by
  cases f with
  | true => exact smay_form vk vn vt vb ve k m t bb er a1 l1 c1 a2 l2 c2 X w hg hs hr
  | false => exact smay_val vk vn vt vb ve k m t bb er a1 l1 c1 a2 l2 c2 X w hg hv hn hr
/-- may it be a line's operation? -/
def lmB (k a t : Int) : Bool := L.mayB k a t
theorem axmay_any (k a t : Int) (w : World) : Calls Tryz.prog 21 #[.agg #[.int .i64 k, .int .i64 a, .int .i64 t]] w fun e w' => e = .returned (.bool (lmB k a t)) ∧ Q w w' :=
  (L.may_any k a t w).mono fun e w' h => ⟨h.1, h.2 ▸ (Q.refl _).alloc _⟩
/-- zero fields -/
def zRow (x : Rv) : Bool := decide (x.row = 0 ∧ x.col = 0)
def zCell (x : Rv) (X : Ex) : Bool := decide (x.f = false ∧ (x.vk = 0 ∧ x.vn = 0 ∧ x.vt.data.toList = [] ∧ x.vb = false ∧ x.ve = 0)) && isZ X
def zLine (x : Rv) : Bool := decide (x.lk = 0 ∧ x.la = 0 ∧ x.lt = 0)
def zFm (x : Rv) : Bool := decide (x.fm = 0)
def zNm (x : Rv) : Bool := decide (x.nm.data.toList = [])
/-- may an operation be? mr: may its rectangles? -/
def mayO (x : Rv) (X : Ex) (M : List R.Rg.Rc) (mr : Bool) : Bool :=
  idB x.sh.data.toList && (
    if x.k = 1 then (lnB x.row && (lnB x.col && mcB x.f x.vk x.vn x.vt.data.toList x.vb x.ve X)) && (zLine x && (M.isEmpty && (zFm x && zNm x)))
    else (zRow x && zCell x X) && (
      if x.k = 2 ∨ x.k = 3 then lmB x.lk x.la x.lt && (M.isEmpty && (zFm x && zNm x))
      else zLine x && (
        if x.k = 4 then (mr && fmB x.fm) && zNm x
        else (M.isEmpty && zFm x) && (
          if x.k = 5 ∨ x.k = 6 then nmB x.nm.data.toList
          else zNm x && decide (x.k = 7)))))
/-- what an operation must keep to, for both to answer -/
structure OK1 (x : Rv) (X : Ex) (M : List R.Rg.Rc) : Prop where
  sh : x.sh.size ≤ 1000000
  nm : x.nm.size ≤ 1000000
  vt : x.vt.size ≤ 1000000
  sm : Sm X
  nd : nodes X ≤ 1000
  ml : M.length ≤ 1000000
end Go.Proofs.YtngnakdbhkjbjaaGreatDoor
