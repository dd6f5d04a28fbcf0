/- parse.mayRange, and mayNode of references and ranges, walked. -/
import Derived.Test.YtcgddnliiondoaaGreatDoorKq14
import Derived.Test.YtcgddnliiondoaaGreatDoorKq13
import Derived.Test.YtcgddnliiondoaaGreatDoorKq07
import Derived.Test.YtcgddnliiondoaaGreatDoorKq00
import Derived.Test.YtcgddnliiondoaaGreatDoorCards
import Derived.Test.YtcgddnliiondoaaGreatDoorTie
import Derived.ProofKit
import Derived.OpenShut
import Derived.Deep.DeepHandedRow
import Derived.Lib.LaidTab
import Derived.Lib.LaidU8T
import Derived.Stop.LaidErr
import Derived.Test.YtcgddnliiondoaaGreatDoorKq05
import Derived.Deep.RegionHeld3
import Derived.Test.YtcgddnliiondoaaGreatDoorKq06
import Derived.Lib.AppendStr
import Derived.Shelf.Small.Utf8
import Derived.Shelf.Small.Strs
import Derived.Shelf.Small.Wraps
import Derived.Shelf.Strconv.Itoa0
import Derived.Shelf.Strconv.Itoa1
import Derived.Shelf.LaysM
import Derived.Shelf.Strconv.Itoa2
import Derived.Shelf.Strconv.Itoa3
import Derived.Shelf.Strconv.Itoa4
import Derived.Shelf.Strings.Search1
import Derived.Shelf.Strings.Search2
import Derived.Shelf.Strings.Search3
import Derived.Shelf.Strings.Cut
import Derived.Shelf.Strings.Count
import Derived.Shelf.Strings.Shaped
import Derived.Shelf.Strings.Prefix
import Derived.Shelf.Strings.Runes
import Derived.Shelf.Unicode.DecodeSlow
import Derived.Test.YtcgddnliiondoaaGreatDoorProg
import Derived.Lib.Walk
import Derived.Lib.ItoaMem
import Derived.BigCall
import Derived.BigGuard
import Derived.Deep.CutBlock
import Derived.Deep.CutRange
import Derived.BigQuiet
import Derived.Test.YtcgddnliiondoaaGreatDoorKq11
import Derived.Test.YtcgddnliiondoaaGreatDoorKq03
import Derived.Test.YtcgddnliiondoaaGreatDoorKq02
import Derived.RangeFuncNested
import Derived.RangeFuncBound
import Derived.RangeFuncCalls
import Derived.RangeFuncLeaves
import Derived.RangeFuncBox
import Derived.Shelf.Abstract
import Derived.Shelf.RegionOpen
import Derived.OwnWalkIn
import Derived.TacticsInMore
import Derived.LoopNIn
import Derived.LoopIn
import Derived.Maps.AppendAt
import Derived.Sort.OwnSorted
import Derived.Shelf.SlSortCmp.WholeK
import Derived.Shelf.SlSortCmp.NoneTotal
import Derived.Shelf.SortM.Plain
import Derived.Shelf.SortM.SortNone
import Derived.Shelf.SlicesG.CompactI
import Derived.BigRegion
import Derived.Test.YtcgddnliiondoaaGreatDoorRows
import Derived.WalkKit
import Derived.WalkSpells
import Derived.WalkLawsBesides
set_option linter.unusedVariables false
set_option linter.unusedSimpArgs false
set_option maxRecDepth 100000
set_option maxHeartbeats 8000000
namespace Go.Proofs.YtcgddnliiondoaaGreatDoor
open Go.RowKit
def MRf (W : World) (x : Rf) : Prop := ∀ W', Q W W' → Calls Tryz.prog 119 #[.agg #[.string ⟨x.1.toArray⟩, .int .i64 x.2.1, .int .i64 x.2.2.1, .bool x.2.2.2.1, .bool x.2.2.2.2]] W' fun e w' => e = .returned (.bool (mayR x.1 x.2.1 x.2.2.1)) ∧ Q W' w'
def rngB : List Rf → Bool
  | [x, y] => mayR x.1 x.2.1 x.2.2.1 && (mayR y.1 y.2.1 y.2.2.1 && decide (y.1 = []))
  | _ => false
theorem rng_no {rs : List Rf} (h : rs.length ≠ 2) : rngB rs = false := by
  match rs with
  | [] => rfl
  | [_] => rfl
  | [_, _] => exact absurd rfl h
  | _ :: _ :: _ :: _ => rfl
set_option maxHeartbeats 4000000 in
theorem mrange_any (rs : List Rf) (v : Value) (W : World) (h : Sl rf 5 W v rs) (HM : Hid (∀ x ∈ rs, MRf W x)) : Calls Tryz.prog 120 #[v] W fun e W' => e = .returned (.bool (rngB rs)) ∧ Q W W' := by
  by_cases hl : rs.length = 2
  · obtain ⟨b, off, cap, hv, _, _, hc⟩ := h.rc (by omega)
    match rs, hl with
    | [x, y], _ =>
      obtain ⟨xs, xr, xc, xa, xb⟩ := x
      obtain ⟨ys, yr, yc, ya, yb⟩ := y
      have HX := hid (HM.out _ (by simp : (xs, xr, xc, xa, xb) ∈ [(xs, xr, xc, xa, xb), (ys, yr, yc, ya, yb)]))
      have HY := hid (HM.out _ (by simp : (ys, yr, yc, ya, yb) ∈ [(xs, xr, xc, xa, xb), (ys, yr, yc, ya, yb)]))
      have H0 := hc 0 (by simp)
      have H1 := hc 1 (by simp)
      simp only [List.getElem_cons_zero, List.getElem_cons_succ, Nat.zero_mul, Nat.add_zero, Nat.one_mul] at H0 H1
      simp only [List.length_cons, List.length_nil, Nat.zero_add] at hv
      subst hv
      obtain ⟨x0, x1, x2, x3, x4⟩ := H0
      obtain ⟨y0, y1, y2, y3, y4⟩ := H1
      unfold MRf at HX HY
      simp only at HX HY
      obtain ⟨SX, hSX⟩ : ∃ S : ByteArray, S = ⟨xs.toArray⟩ := ⟨_, rfl⟩
      obtain ⟨SY, hSY, lSY⟩ : ∃ S : ByteArray, S = ⟨ys.toArray⟩ ∧ S.data.toList = ys := ⟨_, rfl, rfl⟩
      rw [← hSX] at HX x0
      rw [← hSY] at HY y0
      have LS := hid lSY
      have HD := hid (show rngB [(xs, xr, xc, xa, xb), (ys, yr, yc, ya, yb)] = (mayR xs xr xc && (mayR ys yr yc && decide (ys = []))) from rfl)
      generalize rngB [(xs, xr, xc, xa, xb), (ys, yr, yc, ya, yb)] = rr at HD ⊢
      have HYc := hid (fun (W1 : World) (q : Q W W1) => (q.cell (World.block_lt_of_cell? W ⟨b, off + 5, none⟩ y0)).trans y0)
      have HYd := hid (fun (W1 : World) (q : Q W W1) => (q.cell (World.block_lt_of_cell? W ⟨b, off + 5 + 1, none⟩ y1)).trans y1)
      have HYe := hid (fun (W1 : World) (q : Q W W1) => (q.cell (World.block_lt_of_cell? W ⟨b, off + 5 + 2, none⟩ y2)).trans y2)
      have HYf := hid (fun (W1 : World) (q : Q W W1) => (q.cell (World.block_lt_of_cell? W ⟨b, off + 5 + 3, none⟩ y3)).trans y3)
      have HYg := hid (fun (W1 : World) (q : Q W W1) => (q.cell (World.block_lt_of_cell? W ⟨b, off + 5 + 4, none⟩ y4)).trans y4)
      clear HM hc hSX hSY lSY h
      cases hx : mayR xs xr xc
      · have HR : Hid (rr = false) := by show _ = _; rw [HD.out, hx]; rfl
        rw [hx] at HX
        go_enter Tryz.func120, Tryz.ntmps120
        go_wp2_with (go_at_call 119; refine (HX.out _ (Q.refl _)).mono ?_; rintro e w1 ⟨rfl, q1⟩; have Q1 := hid q1; clear q1)
        go_ret
        exact ⟨ret_bool HR.out.symm, Q1.out⟩
      · rw [hx] at HX
        cases hy : mayR ys yr yc
        · have HR : Hid (rr = false) := by show _ = _; rw [HD.out, hx, hy]; rfl
          rw [hy] at HY
          go_enter Tryz.func120, Tryz.ntmps120
          go_wp2_with (first | (go_at_call_of 119 SX; refine (HX.out _ (Q.refl _)).mono ?_; rintro e w1 ⟨rfl, q1⟩; have Q1 := hid q1; clear q1; have n0 := HYc.out w1 Q1.out; have n1 := HYd.out w1 Q1.out; have n2 := HYe.out w1 Q1.out; have n3 := HYf.out w1 Q1.out; have n4 := HYg.out w1 Q1.out) | (go_at_call_of 119 SY; refine (HY.out _ Q1.out).mono ?_; rintro e w2 ⟨rfl, q2⟩; have Q2 := hid (Q1.out.trans q2); clear q2; have m0 := HYc.out w2 Q2.out))
          go_ret
          exact ⟨ret_bool HR.out.symm, Q2.out⟩
        · rw [hy] at HY
          by_cases hz : ys = []
          · have HR : Hid (rr = true) := by show _ = _; rw [HD.out, hx, hy, decide_eq_true hz]; rfl
            have fz : (SY.toList == []) = true := by rw [toL, LS.out, hz]; rfl
            clear hz
            go_enter Tryz.func120, Tryz.ntmps120
            go_wp2_with (first | (go_at_call_of 119 SX; refine (HX.out _ (Q.refl _)).mono ?_; rintro e w1 ⟨rfl, q1⟩; have Q1 := hid q1; clear q1; have n0 := HYc.out w1 Q1.out; have n1 := HYd.out w1 Q1.out; have n2 := HYe.out w1 Q1.out; have n3 := HYf.out w1 Q1.out; have n4 := HYg.out w1 Q1.out) | (go_at_call_of 119 SY; refine (HY.out _ Q1.out).mono ?_; rintro e w2 ⟨rfl, q2⟩; have Q2 := hid (Q1.out.trans q2); clear q2; have m0 := HYc.out w2 Q2.out))
            go_ret
            exact ⟨ret_bool HR.out.symm, Q2.out⟩
          · have HR : Hid (rr = false) := by show _ = _; rw [HD.out, hx, hy, decide_eq_false hz]; rfl
            have fz : (SY.toList == []) = false := by rw [toL, LS.out, beq_eq_false_iff_ne]; exact hz
            clear hz
            go_enter Tryz.func120, Tryz.ntmps120
            go_wp2_with (first | (go_at_call_of 119 SX; refine (HX.out _ (Q.refl _)).mono ?_; rintro e w1 ⟨rfl, q1⟩; have Q1 := hid q1; clear q1; have n0 := HYc.out w1 Q1.out; have n1 := HYd.out w1 Q1.out; have n2 := HYe.out w1 Q1.out; have n3 := HYf.out w1 Q1.out; have n4 := HYg.out w1 Q1.out) | (go_at_call_of 119 SY; refine (HY.out _ Q1.out).mono ?_; rintro e w2 ⟨rfl, q2⟩; have Q2 := hid (Q1.out.trans q2); clear q2; have m0 := HYc.out w2 Q2.out))
            go_ret
            exact ⟨ret_bool HR.out.symm, Q2.out⟩
  · rw [rng_no hl]
    obtain ⟨ao, cap, rfl, _⟩ := h.len
    have f2 : ((rs.length : Int) == 2) = false := by rw [beq_eq_false_iff_ne]; omega
    clear h hl HM
    go_enter Tryz.func120, Tryz.ntmps120
    go_wp2_with fail
    go_ret
    exact ⟨rfl, Q.refl _⟩
def oneB : List Rf → Bool
  | [x] => mayR x.1 x.2.1 x.2.2.1
  | _ => false
theorem one_no {rs : List Rf} (h : rs.length ≠ 1) : oneB rs = false := by
  match rs with
  | [] => rfl
  | [_] => exact absurd rfl h
  | _ :: _ :: _ => rfl
set_option maxHeartbeats 4000000 in
theorem mn_5 (n : Int) (t : ByteArray) (b : Bool) (e : Int) (a1 : Option Addr) (l1 c1 : Nat) (a2 : Option Addr) (l2 c2 : Nat) (W : World) (rs : List Rf) (hr : Sl rf 5 W (.slice a1 l1 c1) rs) (HM : Hid (∀ x ∈ rs, MRf W x)) : Calls Tryz.prog 108 #[.agg #[.int .i64 5, .int .i64 n, .string t, .bool b, .int .i64 e, .slice a1 l1 c1, .slice a2 l2 c2]] W fun e' W' => e' = .returned (.bool ((oneB rs) && bareB n t.data.toList b e 0 l2)) ∧ Q W W' := by
  obtain ⟨rb, hrb⟩ : ∃ rb, bareB n t.data.toList b e 0 l2 = rb := ⟨_, rfl⟩
  have HB := hid (fun W' => bare_b 5 n t b e none 0 0 a2 l2 c2 rb hrb W')
  obtain ⟨t1, t2⟩ := two_new W (.int .i64 5) (.int .i64 n) (.string t) (.bool b) (.int .i64 e) (.slice a1 l1 c1) (.slice a2 l2 c2)
  have T1 := hid t1
  have T2 := hid t2
  have HQ : Hid (Q W (((W.alloc (.cells #[.int .i64 5, .int .i64 n, .string t, .bool b, .int .i64 e, .slice a1 l1 c1, .slice a2 l2 c2] 40)).alloc (.cells #[.int .i64 5, .int .i64 n, .string t, .bool b, .int .i64 e, .slice a1 l1 c1, .slice a2 l2 c2] 40)).drew)) := hid (((Q.refl _).alloc _).alloc _).drew
  have HRB := hid hrb
  clear hrb t1 t2
  have hll : rs.length = l1 := by
    obtain ⟨_, _, hv, _⟩ := hr
    simp only [Value.slice.injEq] at hv
    exact hv.2.1.symm
  by_cases h : l1 = 1
  · obtain ⟨bb, off, cap, hv, _, _, hc⟩ := hr.rc (by omega)
    rw [h] at hll
    match rs, hll with
    | [x], _ =>
      obtain ⟨xs, xr, xc, xa, xb⟩ := x
      have HX := hid (HM.out _ (by simp : (xs, xr, xc, xa, xb) ∈ [(xs, xr, xc, xa, xb)]))
      have H0 := hc 0 (by simp)
      simp only [List.getElem_cons_zero, Nat.zero_mul, Nat.add_zero] at H0
      simp only [List.length_cons, List.length_nil, Nat.zero_add, Value.slice.injEq] at hv
      obtain ⟨rfl, rfl, rfl⟩ := hv
      unfold MRf at HX
      simp only at HX
      have H0' := hid (H0.on HQ.out)
      obtain ⟨SX, hSX⟩ : ∃ S : ByteArray, S = ⟨xs.toArray⟩ := ⟨_, rfl⟩
      rw [← hSX] at HX H0'
      clear HM hc hSX H0 hr
      have hone : oneB [(xs, xr, xc, xa, xb)] = mayR xs xr xc := rfl
      rw [hone]
      clear hone h
      cases hx : mayR xs xr xc
      · rw [hx] at HX
        have HR : Hid (((false) && bareB n t.data.toList b e 0 l2) = false) := by
          show _ = _
          rw [show (false) = false from rfl]
          exact Bool.false_and _
        generalize ((false) && bareB n t.data.toList b e 0 l2) = rr at HR ⊢
        go_enter Tryz.func108, Tryz.ntmps108
        go_wp2_with fail
        go_region
        obtain ⟨w1, hw1⟩ : ∃ w1, w1 = (((W.alloc (.cells #[.int .i64 5, .int .i64 n, .string t, .bool b, .int .i64 e, .slice (some ⟨bb, off, none⟩) 1 c1, .slice a2 l2 c2] 40)).alloc (.cells #[.int .i64 5, .int .i64 n, .string t, .bool b, .int .i64 e, .slice (some ⟨bb, off, none⟩) 1 c1, .slice a2 l2 c2] 40)).drew) := ⟨_, rfl⟩
        rw [← hw1] at T1 T2 HQ H0'
        obtain ⟨r0, r1, r2, r3, r4⟩ := H0'.out
        rw [← hw1]
        clear hw1
        obtain ⟨g0, g1, g2, g3, g4, g5, g6, _⟩ := T1.out
        obtain ⟨d0, d1, d2, d3, d4, d5, d6, yf⟩ := T2.out
        have y0 := yf 0
        have y1 := yf 1
        have y2 := yf 2
        have y3 := yf 3
        have y4 := yf 4
        have y5 := yf 5
        have y6 := yf 6
        clear yf
        go_wp2_with (first | (go_at_call 119; refine (HX.out _ HQ.out).mono ?_; rintro e8 w2 ⟨rfl, q2⟩; have QC := hid (HQ.out.trans q2); have T3 := hid (T2.out.on (Qx.of (p := W.heap.size + 5) q2) (by omega)); clear q2; have v0 := T3.out.g0; have v1 := T3.out.g1; have v2 := T3.out.g2; have v3 := T3.out.g3; have v4 := T3.out.g4; have v5 := T3.out.g5; have v6 := T3.out.g6; have x0 := T3.out.f 0; have x1 := T3.out.f 1; have x2 := T3.out.f 2; have x3 := T3.out.f 3; have x4 := T3.out.f 4; have x5 := T3.out.f 5; have x6 := T3.out.f 6))
        go_ret
        exact ⟨ret_bool HR.out.symm, (by repeat (first | with_reducible exact QC.out | with_reducible exact HQ.out | with_reducible refine Q.drewN ?_ _ | with_reducible refine Q.drew ?_ | with_reducible refine Q.alloc ?_ _ | with_reducible refine Q.setCell ?_ (by simp) _))⟩
      · rw [hx] at HX
        have HR : Hid (((true) && bareB n t.data.toList b e 0 l2) = rb) := by
          show _ = _
          rw [show (true) = true from rfl]
          exact (Bool.true_and _).trans HRB.out
        generalize ((true) && bareB n t.data.toList b e 0 l2) = rr at HR ⊢
        go_enter Tryz.func108, Tryz.ntmps108
        go_wp2_with fail
        go_region
        obtain ⟨w1, hw1⟩ : ∃ w1, w1 = (((W.alloc (.cells #[.int .i64 5, .int .i64 n, .string t, .bool b, .int .i64 e, .slice (some ⟨bb, off, none⟩) 1 c1, .slice a2 l2 c2] 40)).alloc (.cells #[.int .i64 5, .int .i64 n, .string t, .bool b, .int .i64 e, .slice (some ⟨bb, off, none⟩) 1 c1, .slice a2 l2 c2] 40)).drew) := ⟨_, rfl⟩
        rw [← hw1] at T1 T2 HQ H0'
        obtain ⟨r0, r1, r2, r3, r4⟩ := H0'.out
        rw [← hw1]
        clear hw1
        obtain ⟨g0, g1, g2, g3, g4, g5, g6, _⟩ := T1.out
        obtain ⟨d0, d1, d2, d3, d4, d5, d6, yf⟩ := T2.out
        have y0 := yf 0
        have y1 := yf 1
        have y2 := yf 2
        have y3 := yf 3
        have y4 := yf 4
        have y5 := yf 5
        have y6 := yf 6
        clear yf
        go_wp2_with (first | (go_at_call 119; refine (HX.out _ HQ.out).mono ?_; rintro e8 w2 ⟨rfl, q2⟩; have QC := hid (HQ.out.trans q2); have T3 := hid (T2.out.on (Qx.of (p := W.heap.size + 5) q2) (by omega)); clear q2; have v0 := T3.out.g0; have v1 := T3.out.g1; have v2 := T3.out.g2; have v3 := T3.out.g3; have v4 := T3.out.g4; have v5 := T3.out.g5; have v6 := T3.out.g6; have x0 := T3.out.f 0; have x1 := T3.out.f 1; have x2 := T3.out.f 2; have x3 := T3.out.f 3; have x4 := T3.out.f 4; have x5 := T3.out.f 5; have x6 := T3.out.f 6) | (go_at_call 123; refine (HB.out _).mono ?_; rintro e9 w9 ⟨rfl, q9⟩; have Q9 := hid q9; clear q9))
        go_ret
        exact ⟨ret_bool HR.out.symm, Q.trans (by repeat (first | with_reducible exact QC.out | with_reducible exact HQ.out | with_reducible refine Q.drewN ?_ _ | with_reducible refine Q.drew ?_ | with_reducible refine Q.alloc ?_ _ | with_reducible refine Q.setCell ?_ (by simp) _)) Q9.out⟩
  · rw [one_no (by omega)]
    clear HM hr
    have f5 : ((l1 : Int) == 1) = false := by rw [beq_eq_false_iff_ne]; omega
    have HR : Hid (((false) && bareB n t.data.toList b e 0 l2) = false) := by
      show _ = _
      rw [show (false) = false from rfl]
      exact Bool.false_and _
    generalize ((false) && bareB n t.data.toList b e 0 l2) = rr at HR ⊢
    go_enter Tryz.func108, Tryz.ntmps108
    go_wp2_with fail
    go_region
    obtain ⟨w1, hw1⟩ : ∃ w1, w1 = (((W.alloc (.cells #[.int .i64 5, .int .i64 n, .string t, .bool b, .int .i64 e, .slice a1 l1 c1, .slice a2 l2 c2] 40)).alloc (.cells #[.int .i64 5, .int .i64 n, .string t, .bool b, .int .i64 e, .slice a1 l1 c1, .slice a2 l2 c2] 40)).drew) := ⟨_, rfl⟩
    rw [← hw1] at T1 T2 HQ
    rw [← hw1]
    clear hw1
    obtain ⟨g0, g1, g2, g3, g4, g5, g6, _⟩ := T1.out
    obtain ⟨d0, d1, d2, d3, d4, d5, d6, yf⟩ := T2.out
    have y0 := yf 0
    have y1 := yf 1
    have y2 := yf 2
    have y3 := yf 3
    have y4 := yf 4
    have y5 := yf 5
    have y6 := yf 6
    clear yf
    go_wp2_with fail
    go_ret
    exact ⟨ret_bool HR.out.symm, (by repeat (first | with_reducible exact QC.out | with_reducible exact HQ.out | with_reducible refine Q.drewN ?_ _ | with_reducible refine Q.drew ?_ | with_reducible refine Q.alloc ?_ _ | with_reducible refine Q.setCell ?_ (by simp) _))⟩
set_option maxHeartbeats 4000000 in
theorem mn_6 (n : Int) (t : ByteArray) (b : Bool) (e : Int) (a1 : Option Addr) (l1 c1 : Nat) (a2 : Option Addr) (l2 c2 : Nat) (W : World) (rs : List Rf) (hr : Sl rf 5 W (.slice a1 l1 c1) rs) (HM : Hid (∀ x ∈ rs, MRf W x)) : Calls Tryz.prog 108 #[.agg #[.int .i64 6, .int .i64 n, .string t, .bool b, .int .i64 e, .slice a1 l1 c1, .slice a2 l2 c2]] W fun e' W' => e' = .returned (.bool ((rngB rs) && bareB n t.data.toList b e 0 l2)) ∧ Q W W' := by
  obtain ⟨rb, hrb⟩ : ∃ rb, bareB n t.data.toList b e 0 l2 = rb := ⟨_, rfl⟩
  have HB := hid (fun W' => bare_b 6 n t b e none 0 0 a2 l2 c2 rb hrb W')
  obtain ⟨t1, t2⟩ := two_new W (.int .i64 6) (.int .i64 n) (.string t) (.bool b) (.int .i64 e) (.slice a1 l1 c1) (.slice a2 l2 c2)
  have T1 := hid t1
  have T2 := hid t2
  have HQ : Hid (Q W (((W.alloc (.cells #[.int .i64 6, .int .i64 n, .string t, .bool b, .int .i64 e, .slice a1 l1 c1, .slice a2 l2 c2] 40)).alloc (.cells #[.int .i64 6, .int .i64 n, .string t, .bool b, .int .i64 e, .slice a1 l1 c1, .slice a2 l2 c2] 40)).drew)) := hid (((Q.refl _).alloc _).alloc _).drew
  have HRB := hid hrb
  clear hrb t1 t2
  have HN := hid (fun W' (q : Q W W') => mrange_any rs (.slice a1 l1 c1) W' (hr.on q) (hid (fun x hx W2 q2 => HM.out x hx W2 (q.trans q2))))
  clear hr HM
  cases h : rngB rs
  · rw [h] at HN
    have HR : Hid (((false) && bareB n t.data.toList b e 0 l2) = false) := by
      show _ = _
      rw [show (false) = false from rfl]
      exact Bool.false_and _
    generalize ((false) && bareB n t.data.toList b e 0 l2) = rr at HR ⊢
    go_enter Tryz.func108, Tryz.ntmps108
    go_wp2_with fail
    go_region
    obtain ⟨w1, hw1⟩ : ∃ w1, w1 = (((W.alloc (.cells #[.int .i64 6, .int .i64 n, .string t, .bool b, .int .i64 e, .slice a1 l1 c1, .slice a2 l2 c2] 40)).alloc (.cells #[.int .i64 6, .int .i64 n, .string t, .bool b, .int .i64 e, .slice a1 l1 c1, .slice a2 l2 c2] 40)).drew) := ⟨_, rfl⟩
    rw [← hw1] at T1 T2 HQ
    rw [← hw1]
    clear hw1
    obtain ⟨g0, g1, g2, g3, g4, g5, g6, _⟩ := T1.out
    obtain ⟨d0, d1, d2, d3, d4, d5, d6, yf⟩ := T2.out
    have y0 := yf 0
    have y1 := yf 1
    have y2 := yf 2
    have y3 := yf 3
    have y4 := yf 4
    have y5 := yf 5
    have y6 := yf 6
    clear yf
    go_wp2_with (first | (go_at_call 120; refine (HN.out _ HQ.out).mono ?_; rintro e8 w2 ⟨rfl, q2⟩; have QC := hid (HQ.out.trans q2); have T3 := hid (T2.out.on (Qx.of (p := W.heap.size + 5) q2) (by omega)); clear q2; have v0 := T3.out.g0; have v1 := T3.out.g1; have v2 := T3.out.g2; have v3 := T3.out.g3; have v4 := T3.out.g4; have v5 := T3.out.g5; have v6 := T3.out.g6; have x0 := T3.out.f 0; have x1 := T3.out.f 1; have x2 := T3.out.f 2; have x3 := T3.out.f 3; have x4 := T3.out.f 4; have x5 := T3.out.f 5; have x6 := T3.out.f 6))
    go_ret
    exact ⟨ret_bool HR.out.symm, (by repeat (first | with_reducible exact QC.out | with_reducible exact HQ.out | with_reducible refine Q.drewN ?_ _ | with_reducible refine Q.drew ?_ | with_reducible refine Q.alloc ?_ _ | with_reducible refine Q.setCell ?_ (by simp) _))⟩
  · rw [h] at HN
    have HR : Hid (((true) && bareB n t.data.toList b e 0 l2) = rb) := by
      show _ = _
      rw [show (true) = true from rfl]
      exact (Bool.true_and _).trans HRB.out
    generalize ((true) && bareB n t.data.toList b e 0 l2) = rr at HR ⊢
    go_enter Tryz.func108, Tryz.ntmps108
    go_wp2_with fail
    go_region
    obtain ⟨w1, hw1⟩ : ∃ w1, w1 = (((W.alloc (.cells #[.int .i64 6, .int .i64 n, .string t, .bool b, .int .i64 e, .slice a1 l1 c1, .slice a2 l2 c2] 40)).alloc (.cells #[.int .i64 6, .int .i64 n, .string t, .bool b, .int .i64 e, .slice a1 l1 c1, .slice a2 l2 c2] 40)).drew) := ⟨_, rfl⟩
    rw [← hw1] at T1 T2 HQ
    rw [← hw1]
    clear hw1
    obtain ⟨g0, g1, g2, g3, g4, g5, g6, _⟩ := T1.out
    obtain ⟨d0, d1, d2, d3, d4, d5, d6, yf⟩ := T2.out
    have y0 := yf 0
    have y1 := yf 1
    have y2 := yf 2
    have y3 := yf 3
    have y4 := yf 4
    have y5 := yf 5
    have y6 := yf 6
    clear yf
    go_wp2_with (first | (go_at_call 120; refine (HN.out _ HQ.out).mono ?_; rintro e8 w2 ⟨rfl, q2⟩; have QC := hid (HQ.out.trans q2); have T3 := hid (T2.out.on (Qx.of (p := W.heap.size + 5) q2) (by omega)); clear q2; have v0 := T3.out.g0; have v1 := T3.out.g1; have v2 := T3.out.g2; have v3 := T3.out.g3; have v4 := T3.out.g4; have v5 := T3.out.g5; have v6 := T3.out.g6; have x0 := T3.out.f 0; have x1 := T3.out.f 1; have x2 := T3.out.f 2; have x3 := T3.out.f 3; have x4 := T3.out.f 4; have x5 := T3.out.f 5; have x6 := T3.out.f 6) | (go_at_call 123; refine (HB.out _).mono ?_; rintro e9 w9 ⟨rfl, q9⟩; have Q9 := hid q9; clear q9))
    go_ret
    exact ⟨ret_bool HR.out.symm, Q.trans (by repeat (first | with_reducible exact QC.out | with_reducible exact HQ.out | with_reducible refine Q.drewN ?_ _ | with_reducible refine Q.drew ?_ | with_reducible refine Q.alloc ?_ _ | with_reducible refine Q.setCell ?_ (by simp) _)) Q9.out⟩
def mayN : Ex → Bool
  | .mk k n t b e rs ks =>
    if k = 1 then decide (0 ≤ n) && bareB 0 t b e rs.length ks.length
    else if k = 2 then V.mayB 2 0 t false 0 && bareB n [] b e rs.length ks.length
    else if k = 3 then true && bareB n t false e rs.length ks.length
    else if k = 4 then decide (enL e ≠ []) && bareB n t b 0 rs.length ks.length
    else if k = 5 then oneB rs && bareB n t b e 0 ks.length
    else if k = 6 then rngB rs && bareB n t b e 0 ks.length
    else if k = 7 then decide (ks.length = 1) && bareB n t b e rs.length 0
    else if k = 8 then (decide (1 ≤ lvl t) && decide (ks.length = 2)) && bareB n [] b e rs.length 0
    else if k = 9 then (namF t && decide (ks.length ≤ 30)) && bareB n [] b e rs.length 0
    else false
def Sm : Ex → Prop
  | .mk _ _ t _ _ rs ks => t.length ≤ 1000000 ∧ (∀ r ∈ rs, r.1.length ≤ 2000000) ∧ SmL ks
  where
  SmL : List Ex → Prop
  | [] => True
  | x :: xs => Sm x ∧ SmL xs
theorem sm_kid : ∀ {ks : List Ex}, Sm.SmL ks → ∀ y ∈ ks, Sm y
  | [], _, y, hy => absurd hy (by simp)
  | x :: xs, h, y, hy => by
    rw [Sm.SmL] at h
    simp at hy
    rcases hy with rfl | hy
    · exact h.1
    · exact sm_kid h.2 y hy
theorem sm_kids (k n : Int) (t : List UInt8) (b : Bool) (e : Int) (rs : List Rf) (ks : List Ex) (h : Sm (.mk k n t b e rs ks)) : ∀ y ∈ ks, Sm y := by
  rw [Sm] at h
  exact sm_kid h.2.2
def Gd (W : World) : Prop := Std W ∧ ∀ W', Q W W' → Lib.TabIs Tryz.prog W' "internal/strconv.uint64pow10" .u64 Lib.pow10Tab
theorem Gd.on {W W' : World} (h : Gd W) (q : Q W W') : Gd W' := ⟨h.1.on q, fun W2 q2 => h.2 W2 (q.trans q2)⟩
theorem mrf_of {W : World} (h : Gd W) (x : Rf) (hs : x.1.length ≤ 2000000) : MRf W x := by
  intro W' q
  have h' := h.on q
  exact pmayref_big ⟨x.1.toArray⟩ x.2.1 x.2.2.1 x.2.2.2.1 x.2.2.2.2 W' h'.1 h'.2 (by show x.1.toArray.size ≤ 2000000; simpa using hs)
theorem maynode_any (x : Ex) (v : Value) (W : World) (hg : Gd W) (hs : Sm x) (hr : Rd W x v) : Calls Tryz.prog 108 #[v] W fun e W' => e = .returned (.bool (mayN x)) ∧ Q W W' := by
  obtain ⟨k, n, t, b, e, rs, ks, rv', kv, ao, cap, rfl, hp⟩ := hr.prt
  obtain ⟨ar, cr, hrv, hl⟩ := hp.rl
  have hsl : Sl rf 5 W (.slice ar rs.length cr) rs := hrv ▸ hp.rl
  obtain rfl := hp.kl
  subst hrv
  have hx := hp.ex
  subst hx
  rw [Sm] at hs
  obtain ⟨s1, s2, _⟩ := hs
  have st : t.size ≤ 1000000 := by rw [← len_data]; exact s1
  have hm : Hid (∀ y ∈ rs, MRf W y) := hid (fun y hy => mrf_of hg y (s2 y hy))
  have tl : t.toList = t.data.toList := toL t
  rw [mayN]
  by_cases h1 : k = 1
  · subst h1
    rw [if_pos rfl]
    exact mn_1 n t b e ar rs.length cr ao ks.length cap W
  by_cases h2 : k = 2
  · subst h2
    rw [if_neg (by decide), if_pos rfl, ← tl]
    exact mn_2 n t b e ar rs.length cr ao ks.length cap W hg.1 (by omega)
  by_cases h3 : k = 3
  · subst h3
    rw [if_neg (by decide), if_neg (by decide), if_pos rfl]
    exact mn_3 n t b e ar rs.length cr ao ks.length cap W
  by_cases h4 : k = 4
  · subst h4
    rw [if_neg (by decide), if_neg (by decide), if_neg (by decide), if_pos rfl]
    exact mn_4 n t b e ar rs.length cr ao ks.length cap W hg.1
  by_cases h5 : k = 5
  · subst h5
    rw [if_neg (by decide), if_neg (by decide), if_neg (by decide), if_neg (by decide), if_pos rfl]
    exact mn_5 n t b e ar rs.length cr ao ks.length cap W rs hsl hm
  by_cases h6 : k = 6
  · subst h6
    rw [if_neg (by decide), if_neg (by decide), if_neg (by decide), if_neg (by decide), if_neg (by decide), if_pos rfl]
    exact mn_6 n t b e ar rs.length cr ao ks.length cap W rs hsl hm
  by_cases h7 : k = 7
  · subst h7
    rw [if_neg (by decide), if_neg (by decide), if_neg (by decide), if_neg (by decide), if_neg (by decide), if_neg (by decide), if_pos rfl]
    exact mn_7 n t b e ar rs.length cr ao ks.length cap W
  by_cases h8 : k = 8
  · subst h8
    rw [if_neg (by decide), if_neg (by decide), if_neg (by decide), if_neg (by decide), if_neg (by decide), if_neg (by decide), if_neg (by decide), if_pos rfl]
    exact mn_8 n t b e ar rs.length cr ao ks.length cap W
  by_cases h9 : k = 9
  · subst h9
    rw [if_neg (by decide), if_neg (by decide), if_neg (by decide), if_neg (by decide), if_neg (by decide), if_neg (by decide), if_neg (by decide), if_neg (by decide), if_pos rfl]
    exact mn_9 n t b e ar rs.length cr ao ks.length cap W (by omega)
  rw [if_neg h1, if_neg h2, if_neg h3, if_neg h4, if_neg h5, if_neg h6, if_neg h7, if_neg h8, if_neg h9]
  exact mn_k k n t b e ar rs.length cr ao ks.length cap W (by omega)
theorem pmayall_any (x : Ex) (v : Value) (W : World) (hg : Gd W) (hs : Sm x) (hr : Rd W x v) : Calls Tryz.prog 82 #[v] W fun e W' => e = .returned (.bool (mall mayN x)) ∧ Q W W' :=
  mayall_any mayN Gd (fun _ _ h q => h.on q) Sm sm_kids (hid maynode_any) (SizeOf.sizeOf x) x v W (Nat.le_refl _) hg hs hr
set_option maxHeartbeats 4000000 in
theorem pmay_any (x : Ex) (v : Value) (W : World) (hg : Gd W) (hs : Sm x) (hr : Rd W x v) : Calls Tryz.prog 49 #[v] W fun e W' => e = .returned (.bool (fitB x && mall mayN x)) ∧ Q W W' := by
  have HF := hid (fun W' (q : Q W W') => fits_any x v W' (Rd.on q _ _ hr))
  have HA := hid (fun W' (q : Q W W') => pmayall_any x v W' (hg.on q) hs (Rd.on q _ _ hr))
  obtain ⟨k, n, t, b, e, a1, l1, c1, a2, l2, c2, rfl⟩ := hr.shape
  have HX := hid (Bx.start W (.int .i64 k) (.int .i64 n) (.string t) (.bool b) (.int .i64 e) (.slice a1 l1 c1) (.slice a2 l2 c2) 40)
  clear hr hg hs
  cases h : fitB x
  · rw [h] at HF
    go_enter Tryz.func49, Tryz.ntmps49
    go_wp2_with (go_at_call 81; refine (HF.out _ ((Q.refl _).alloc _)).mono ?_; rintro e9 w1 ⟨rfl, q1⟩; have Q1 : Hid (Q W w1) := hid (((Q.refl _).alloc _).trans q1); clear q1)
    go_ret
    exact ⟨rfl, Q1.out⟩
  · rw [h] at HF
    obtain ⟨r, hr⟩ : ∃ r, mall mayN x = r := ⟨_, rfl⟩
    rw [hr] at HA ⊢
    clear h hr
    go_enter Tryz.func49, Tryz.ntmps49
    go_wp2_with (first | (go_at_call 81; refine (HF.out _ ((Q.refl _).alloc _)).mono ?_; rintro e9 w1 ⟨rfl, q1⟩; have Q1 : Hid (Q W w1) := hid (((Q.refl _).alloc _).trans q1); have X1 := hid (HX.out.on q1); clear q1; obtain ⟨_, _, g0, g1, g2, g3, g4, g5, g6⟩ := X1.out) | (go_at_call 82; refine (HA.out _ Q1.out).mono ?_; rintro e9 w2 ⟨rfl, q2⟩; have Q2 : Hid (Q W w2) := hid (Q1.out.trans q2); clear q2))
    go_ret
    exact ⟨by simp, Q2.out⟩
end Go.Proofs.YtcgddnliiondoaaGreatDoor
namespace Go.Proofs.YtcgddnliiondoaaGreatDoor
open Go.ChangeShapes Go.WideShapes Go.ChangeAt Go.RowKit
set_option maxRecDepth 100000
set_option linter.unusedVariables false
theorem cells9 : Tryz.prog.cellsOf 9 = 1 := by kernel_rfl
theorem namType : (Tryz.prog.globals[0]?).map (·.type) = some 139 := by kernel_rfl
theorem glob_nam : Tryz.prog.globalNamed "counterpane/value.names" = some 0 := by kernel_rfl
theorem laid_plain_codeCellUpto : (Rows.codeCellUptoRow.laid.all fun x => x.2.handleName?.isNone) = true := by kernel_rfl
theorem laid_first : Rows.laid_unicode_utf8_first = Lib.firstData := by kernel_rfl
theorem laid_pow : Rows.laid_internal_strconv_uint64pow10 = Lib.tabData (H := Unit) .u64 Lib.pow10Tab := by kernel_rfl
theorem glob_tab : Tryz.prog.globalNamed "internal/strconv.uint64pow10" = some 4 := by kernel_rfl
theorem tabType : (Tryz.prog.globals[4]?).map (·.type) = some 215 := by kernel_rfl
theorem cells156 : Tryz.prog.cellsOf 215 = 20 := by kernel_rfl
theorem cells110 : Tryz.prog.cellsOf 106 = 1 := by kernel_rfl
theorem laid_accept : Rows.laid_unicode_utf8_acceptRanges = Lib.acceptData := by kernel_rfl
theorem u8x : U8Extra Tryz.prog Tryz.lays196_ren := ⟨by kernel_rfl, by kernel_rfl, by kernel_rfl, by kernel_rfl, by kernel_rfl, by kernel_rfl, by kernel_rfl⟩
def namL : List (List UInt8) := [[], [35, 82, 69, 70, 33], [35, 67, 89, 67, 76, 69, 33], [35, 68, 73, 86, 47, 48, 33], [35, 78, 85, 77, 33], [35, 86, 65, 76, 85, 69, 33], [35, 78, 65, 77, 69, 63], [35, 78, 47, 65]]
theorem namL_at : ∀ i : Nat, i < 8 → namL[i]? = some (enL i) := by
  intro i hi
  rcases (by omega : i = 0 ∨ i = 1 ∨ i = 2 ∨ i = 3 ∨ i = 4 ∨ i = 5 ∨ i = 6 ∨ i = 7) with rfl | rfl | rfl | rfl | rfl | rfl | rfl | rfl <;> rfl
theorem laid_nam : Rows.laid_counterpane_value_names (H := Unit) = .agg (namL.map fun l => .lit (.string l)) := by kernel_rfl
theorem nam_cells {W : World} (h : Lib.VarReads Tryz.prog W "counterpane/value.names" (.agg (namL.map fun l => .lit (.string l)))) : ∀ i : Nat, i < 8 → W.cell? ⟨0, i, none⟩ = some (.string ⟨(enL i).toArray⟩) := by
  obtain ⟨g, t, cs, fuel, p, hg, hty, hvar, hd⟩ := h
  obtain rfl := Option.some.inj (glob_nam.symm.trans hg)
  obtain rfl := Option.some.inj (namType.symm.trans hty)
  intro i hi
  obtain ⟨fuel', d, q, hdi, he⟩ := Lib.array_elem Tryz.underlying139 hd i hi
  rw [List.getElem?_map, namL_at i hi] at hdi
  simp only [Option.map_some, Option.some.injEq] at hdi
  subst hdi
  rw [cells9] at he
  obtain ⟨s, hs, hx, _⟩ := DataW.trod_string Tryz.underlying9 he
  have e0 := congrArg (·[0]?) hs
  simp only [List.getElem?_take, List.getElem?_drop] at e0
  simp only [Prod.mk.injEq, DataW.lit.injEq, Lit.string.injEq] at hx
  have hs' : s = ⟨(enL i).toArray⟩ := by
    apply ByteArray.ext
    apply Array.ext'
    rw [← hx.1]
  rw [World.var?_cell hg hvar i, ← Array.getElem?_toList]
  rw [← hs']
  simpa using e0
theorem std_reads {W : World} (h1 : Lib.VarReads Tryz.prog W "counterpane/value.names" (.agg (namL.map fun l => .lit (.string l))))
    (h3 : Lib.VarReads Tryz.prog W "unicode/utf8.first" Lib.firstData) (h4 : Lib.VarReads Tryz.prog W "unicode/utf8.acceptRanges" Lib.acceptData) (h5 : Lib.VarReads Tryz.prog W "math/bits.deBruijn64tab" Rows.laid_math_bits_deBruijn64tab) (hsh : W.ShapedOpen Tryz.prog) : Std W := by
  have hc := nam_cells h1
  obtain ⟨m, hm⟩ := Go.Proofs.cell_of_shapedOpen_int (g := 3) (zero := #[.int .i64 0]) (t := 3) hsh (of_decide_eq_true (by kernel_rfl)) (by kernel_rfl) rfl (by kernel_rfl) (by kernel_rfl) Tryz.underlying3
  refine ⟨⟨World.block_lt_of_cell? W ⟨0, 0, none⟩ (hc 0 (by omega)), hc⟩, utf8Tabs_of_readsT (U8Types.of196 Tryz.lays196) u8x h3 h4, ⟨m, hm⟩, ?_⟩
  obtain ⟨g, t, cs, fuel, p, hg, hty, hvar, hd⟩ := h5
  obtain rfl := Option.some.inj ((show Tryz.prog.globalNamed "math/bits.deBruijn64tab" = some 6 by kernel_rfl).symm.trans hg)
  unfold World.var? at hvar
  rw [hg] at hvar
  simp only [Option.bind_some] at hvar
  rcases Nat.lt_or_ge 6 W.heap.size with h' | h'
  · omega
  · rw [Array.getElem?_eq_none h'] at hvar; simp at hvar
theorem tab_reads {W : World} (h : Lib.VarReads Tryz.prog W "internal/strconv.uint64pow10" (Lib.tabData .u64 Lib.pow10Tab)) : Lib.TabIs Tryz.prog W "internal/strconv.uint64pow10" .u64 Lib.pow10Tab := by
  obtain ⟨g, t, cs, fuel, p, hg, hty, hvar, hd⟩ := h
  obtain rfl := Option.some.inj (glob_tab.symm.trans hg)
  obtain rfl := Option.some.inj (tabType.symm.trans hty)
  unfold Lib.TabIs
  rw [hvar, ← Lib.cells_of_tab Tryz.underlying215 Tryz.underlying106 cells110 cells156 hd]
theorem tab_on {W W' : World} (h : Lib.TabIs Tryz.prog W "internal/strconv.uint64pow10" .u64 Lib.pow10Tab) (q : Q W W') : Lib.TabIs Tryz.prog W' "internal/strconv.uint64pow10" .u64 Lib.pow10Tab := by
  unfold Lib.TabIs World.var? at *
  rw [glob_tab] at *
  simp only [Option.bind_some] at h ⊢
  have hb : 4 < W.heap.size := by
    rcases Nat.lt_or_ge 4 W.heap.size with h' | h'
    · exact h'
    · rw [Array.getElem?_eq_none h'] at h; simp at h
  rw [Below.block q 4 hb]
  exact h
theorem gd_codeCellUpto {W : World} (hL : laidMetH Tryz.prog Rows.codeCellUptoRow.laid W) (hsh : W.ShapedOpen Tryz.prog) : Gd W := by
  rw [MakeChecks.laidMetH_plain _ _ _ laid_plain_codeCellUpto] at hL
  refine ⟨std_reads (Lib.laidMet.reads hL ?_) (Lib.laidMet.reads hL ?_) (Lib.laidMet.reads hL ?_) (Lib.laidMet.reads hL ?_) hsh, fun W' q => tab_on (tab_reads (Lib.laidMet.reads hL ?_)) q⟩
  · rw [← laid_nam]
    exact .tail _ (.tail _ (.tail _ (.tail _ (.head _))))
  · rw [← laid_first]
    exact .tail _ (.tail _ (.tail _ (.tail _ (.tail _ (.head _)))))
  · rw [← laid_accept]
    exact .tail _ (.tail _ (.tail _ (.head _)))
  · exact .tail _ (.head _)
  · rw [← laid_pow]
    exact .tail _ (.tail _ (.head _))
def lit1 : DataW Unit → List Value
  | .lit (.int k n) => [.int k n]
  | .lit (.string l) => [.string ⟨l.toArray⟩]
  | _ => []
def lit2 : DataW Unit → List Value
  | .agg l => l.flatMap lit1
  | d => lit1 d
def lit3 : DataW Unit → List Value
  | .agg l => l.flatMap lit2
  | d => lit2 d
def put (d : DataW Unit) : Obj → Obj
  | .cells _ t frozen => .cells (lit3 d).toArray t frozen
  | o => o
def lay (w : World) : World :=
  { w with heap := ((((((w.heap.modify 0 (put Rows.laid_counterpane_value_names)).modify 1 (put Rows.laid_unicode_utf8_first)).modify 2 (put Rows.laid_unicode_utf8_acceptRanges)).modify 4 (put Rows.laid_internal_strconv_uint64pow10)).modify 5 (put Rows.laid_math_bits_deBruijn32tab)).modify 6 (put Rows.laid_math_bits_deBruijn64tab)) }
theorem laid_met_codeCellUpto (os : Os) (args : Array Value) : laidMetH Tryz.prog Rows.codeCellUptoRow.laid ((lay (World.holding Tryz.prog os ⟨#[], #[], []⟩)).forCall (fun _ _ => 0) ⟨#[], args, []⟩).memory := by
  rw [MakeChecks.laidMetH_plain _ _ _ laid_plain_codeCellUpto]
  exact laidMet_of_run' 8 (by kernel_rfl) (by kernel_rfl)
end Go.Proofs.YtcgddnliiondoaaGreatDoor
namespace Go.Proofs.YtcgddnliiondoaaGreatDoor
open Go.RowKit
def Rn : Ex → Prop
  | .mk _ n _ _ _ _ ks => n ≤ 9223372036854775807 ∧ RnL ks
  where
  RnL : List Ex → Prop
  | [] => True
  | x :: xs => Rn x ∧ RnL xs
theorem rnL_of : ∀ {ks : List Ex}, (∀ y ∈ ks, Rn y) → Rn.RnL ks
  | [], _ => by rw [Rn.RnL]; trivial
  | x :: xs, h => by rw [Rn.RnL]; exact ⟨h x (by simp), rnL_of fun y hy => h y (List.mem_cons_of_mem _ hy)⟩
set_option maxHeartbeats 4000000 in
theorem veq_any (k n : Int) (t : ByteArray) (b : Bool) (e : Int) (k' n' : Int) (t' : ByteArray) (b' : Bool) (e' : Int) (w : World) : Calls Tryz.prog 50 #[vx k n t b e, vx k' n' t' b' e'] w fun x w' => x = .returned (.bool (decide (k = k' ∧ n = n' ∧ t.data.toList = t'.data.toList ∧ b = b' ∧ e = e'))) ∧ Q w w' := by
  by_cases h0 : k = k'
  · by_cases h1 : n = n'
    · by_cases h2 : t.data.toList = t'.data.toList
      · by_cases h3 : b = b'
        · by_cases h4 : e = e'
          · have ht : t = t' := by rw [← bytes_of t, h2, bytes_of]
            subst h0 h1 ht h3 h4
            rw [decide_eq_true ⟨rfl, rfl, rfl, rfl, rfl⟩]
            exact veq_same k n t b e w
          · rw [decide_eq_false (fun x => h4 x.2.2.2.2)]
            have e0 : (k == k') = true := by simpa using h0
            have e1 : (n == n') = true := by simpa using h1
            have e2 : (t.toList == t'.toList) = true := by rw [Lib.toList_data, Lib.toList_data]; simpa using h2
            have e3 : (b == b') = true := by simpa using h3
            have e4 : (e == e') = false := by simpa using h4
            clear h0 h1 h2 h3 h4
            unfold vx
            go_enter Tryz.func50, Tryz.ntmps50
            go_wp2_with fail
            go_ret
            exact ⟨rfl, ((Q.refl _).alloc _).alloc _⟩
        · rw [decide_eq_false (fun x => h3 x.2.2.2.1)]
          have e0 : (k == k') = true := by simpa using h0
          have e1 : (n == n') = true := by simpa using h1
          have e2 : (t.toList == t'.toList) = true := by rw [Lib.toList_data, Lib.toList_data]; simpa using h2
          have e3 : (b == b') = false := by simpa using h3
          clear h0 h1 h2 h3
          unfold vx
          go_enter Tryz.func50, Tryz.ntmps50
          go_wp2_with fail
          go_ret
          exact ⟨rfl, ((Q.refl _).alloc _).alloc _⟩
      · rw [decide_eq_false (fun x => h2 x.2.2.1)]
        have e0 : (k == k') = true := by simpa using h0
        have e1 : (n == n') = true := by simpa using h1
        have e2 : (t.toList == t'.toList) = false := by rw [Lib.toList_data, Lib.toList_data]; simpa using h2
        clear h0 h1 h2
        unfold vx
        go_enter Tryz.func50, Tryz.ntmps50
        go_wp2_with fail
        go_ret
        exact ⟨rfl, ((Q.refl _).alloc _).alloc _⟩
    · rw [decide_eq_false (fun x => h1 x.2.1)]
      have e0 : (k == k') = true := by simpa using h0
      have e1 : (n == n') = false := by simpa using h1
      clear h0 h1
      unfold vx
      go_enter Tryz.func50, Tryz.ntmps50
      go_wp2_with fail
      go_ret
      exact ⟨rfl, ((Q.refl _).alloc _).alloc _⟩
  · rw [decide_eq_false (fun x => h0 x.1)]
    exact veq_kind k n t b e k' n' t' b' e' w h0
set_option maxHeartbeats 4000000 in
theorem req_any (k n : Int) (t : ByteArray) (b : Bool) (e : Int) (k' n' : Int) (t' : ByteArray) (b' : Bool) (e' : Int) (w : World) : Calls Tryz.prog 31 #[vx k n t b e, vx k' n' t' b' e'] w fun x w' => x = .returned (.bool (decide (k = k' ∧ n = n' ∧ t.data.toList = t'.data.toList ∧ b = b' ∧ e = e'))) ∧ Q w w' := by
  rw [show decide (k = k' ∧ n = n' ∧ t.data.toList = t'.data.toList ∧ b = b' ∧ e = e') = ((k == k') && ((n == n') && ((t.toList == t'.toList) && ((b == b') && (e == e'))))) by
    rw [Lib.toList_data, Lib.toList_data, Bool.eq_iff_iff]
    simp only [decide_eq_true_eq, Bool.and_eq_true, beq_iff_eq]]
  unfold vx
  cases h0 : (k == k')
  · go_enter Tryz.func31, Tryz.ntmps31
    go_wp2_with fail
    go_ret
    exact ⟨rfl, ((Q.refl _).alloc _).alloc _⟩
  · cases h1 : (n == n')
    · go_enter Tryz.func31, Tryz.ntmps31
      go_wp2_with fail
      go_ret
      exact ⟨rfl, ((Q.refl _).alloc _).alloc _⟩
    · cases h2 : (t.toList == t'.toList)
      · go_enter Tryz.func31, Tryz.ntmps31
        go_wp2_with fail
        go_ret
        exact ⟨rfl, ((Q.refl _).alloc _).alloc _⟩
      · cases h3 : (b == b')
        · go_enter Tryz.func31, Tryz.ntmps31
          go_wp2_with fail
          go_ret
          exact ⟨rfl, ((Q.refl _).alloc _).alloc _⟩
        · cases h4 : (e == e')
          all_goals
            go_enter Tryz.func31, Tryz.ntmps31
            go_wp2_with fail
            go_ret
            exact ⟨rfl, ((Q.refl _).alloc _).alloc _⟩
def isZ : Ex → Bool
  | .mk k n t b e rs ks => decide (k = 0 ∧ n = 0 ∧ t = [] ∧ b = false ∧ e = 0 ∧ rs = [] ∧ ks.length = 0)
theorem isZ_iff (x : Ex) : isZ x = true ↔ x = zeroE := by
  obtain ⟨k, n, t, b, e, rs, ks⟩ := x
  unfold isZ zeroE
  constructor
  · intro h
    simp only [decide_eq_true_eq] at h
    obtain ⟨rfl, rfl, rfl, rfl, rfl, rfl, h7⟩ := h
    rw [List.eq_nil_of_length_eq_zero h7]
  · intro h
    cases h
    decide
theorem ans_isZ {x : Ex} {e : Ending} (h : Ans (x = zeroE) e) : e = .returned (.bool (isZ x)) := by
  obtain ⟨r, he, hr⟩ := h
  rw [he]
  have : r = isZ x := by
    cases hz : isZ x
    · cases r
      · rfl
      · have := (isZ_iff x).2 (hr.1 rfl)
        rw [hz] at this
        cases this
    · exact hr.2 ((isZ_iff x).1 hz)
  rw [this]
set_option maxHeartbeats 4000000 in
theorem smay_form (vk vn : Int) (vt : ByteArray) (vb : Bool) (ve : Int) (k m : Int) (t : ByteArray) (bb : Bool) (er : Int) (a1 : Option Addr) (l1 c1 : Nat) (a2 : Option Addr) (l2 c2 : Nat) (X : Ex) (w : World) (hg : Gd w) (hs : Sm X) (hr : Rd w X (.agg #[.int .i64 k, .int .i64 m, .string t, .bool bb, .int .i64 er, .slice a1 l1 c1, .slice a2 l2 c2])) : Calls Tryz.prog 28 #[.agg #[.bool true, .int .i64 vk, .int .i64 vn, .string vt, .bool vb, .int .i64 ve, .int .i64 k, .int .i64 m, .string t, .bool bb, .int .i64 er, .slice a1 l1 c1, .slice a2 l2 c2]] w fun e W' => e = .returned (.bool ((fitB X && mall mayN X) && decide (vk = 0 ∧ vn = 0 ∧ vt.data.toList = [] ∧ vb = false ∧ ve = 0))) ∧ Q w W' := by
  have HM := hid (fun W' (q : Q w W') => pmay_any X _ W' (hg.on q) hs (Rd.on q _ _ hr))
  have HV := hid (fun W' => veq_any vk vn vt vb ve 0 0 ⟨#[]⟩ false 0 W')
  unfold vx at HV
  rw [show (⟨#[]⟩ : ByteArray).data.toList = [] from rfl] at HV
  generalize decide (vk = 0 ∧ vn = 0 ∧ vt.data.toList = [] ∧ vb = false ∧ ve = 0) = r2 at HV ⊢
  clear hr hg hs
  cases h1 : (fitB X && mall mayN X)
  · rw [h1] at HM
    go_enter Tryz.func28, Tryz.ntmps28
    go_wp2_with (go_at_call 49; refine (HM.out _ ((Q.refl _).alloc _)).mono ?_; rintro e9 w1 ⟨rfl, q1⟩; have Q1 : Hid (Q w w1) := hid (((Q.refl _).alloc _).trans q1); clear q1)
    go_ret
    exact ⟨by simp, Q1.out⟩
  · rw [h1] at HM
    go_enter Tryz.func28, Tryz.ntmps28
    go_wp2_with (first | (go_at_call 49; refine (HM.out _ ((Q.refl _).alloc _)).mono ?_; rintro e9 w1 ⟨rfl, q1⟩; have Q1 : Hid (Q w w1) := hid (((Q.refl _).alloc _).trans q1); have Z1 := hid ((cb_new w [.bool true, .int .i64 vk, .int .i64 vn, .string vt, .bool vb, .int .i64 ve, .int .i64 k, .int .i64 m, .string t, .bool bb, .int .i64 er, .slice a1 l1 c1, .slice a2 l2 c2] 42).on q1); clear q1; have d0 := Z1.out.c 0 _ rfl; have d1 := Z1.out.c 1 _ rfl; have d2 := Z1.out.c 2 _ rfl; have d3 := Z1.out.c 3 _ rfl; have d4 := Z1.out.c 4 _ rfl; have d5 := Z1.out.c 5 _ rfl; have d6 := Z1.out.c 6 _ rfl; have d7 := Z1.out.c 7 _ rfl; have d8 := Z1.out.c 8 _ rfl; have d9 := Z1.out.c 9 _ rfl; have d10 := Z1.out.c 10 _ rfl; have d11 := Z1.out.c 11 _ rfl; have d12 := Z1.out.c 12 _ rfl) | (go_at_call 50; refine (HV.out _).mono ?_; rintro e9 w2 ⟨rfl, q2⟩; have Q2 := hid (Q1.out.trans q2); clear q2))
    go_ret
    exact ⟨by simp, Q2.out⟩
set_option maxHeartbeats 4000000 in
theorem smay_val (vk vn : Int) (vt : ByteArray) (vb : Bool) (ve : Int) (k m : Int) (t : ByteArray) (bb : Bool) (er : Int) (a1 : Option Addr) (l1 c1 : Nat) (a2 : Option Addr) (l2 c2 : Nat) (X : Ex) (w : World) (hg : Gd w) (hv : vt.size ≤ 1000000) (hn : nodes X ≤ 1000) (hr : Rd w X (.agg #[.int .i64 k, .int .i64 m, .string t, .bool bb, .int .i64 er, .slice a1 l1 c1, .slice a2 l2 c2])) : Calls Tryz.prog 28 #[.agg #[.bool false, .int .i64 vk, .int .i64 vn, .string vt, .bool vb, .int .i64 ve, .int .i64 k, .int .i64 m, .string t, .bool bb, .int .i64 er, .slice a1 l1 c1, .slice a2 l2 c2]] w fun e W' => e = .returned (.bool (V.mayB vk vn vt.data.toList vb ve && isZ X)) ∧ Q w W' := by
  have HM := hid (fun W' (q : Q w W') => V.may_any vk vn vt vb ve W' (hg.1.on q) (by omega))
  unfold V.vv at HM
  rw [Lib.toList_data] at HM
  have HV := hid (fun W' (q : Q w W') => eq_any X zeroE _ _ W' (Rd.on q _ _ hr) (rd_zero W') hn)
  clear hr hg hv hn
  cases h1 : V.mayB vk vn vt.data.toList vb ve
  · rw [h1] at HM
    go_enter Tryz.func28, Tryz.ntmps28
    go_wp2_with (go_at_call 51; refine (HM.out _ ((Q.refl _).alloc _)).mono ?_; rintro e9 w1 ⟨rfl, q1⟩; have Q1 : Hid (Q w w1) := hid (((Q.refl _).alloc _).trans q1); clear q1)
    go_ret
    exact ⟨by simp, Q1.out⟩
  · rw [h1] at HM
    go_enter Tryz.func28, Tryz.ntmps28
    go_wp2_with (first | (go_at_call 51; refine (HM.out _ ((Q.refl _).alloc _)).mono ?_; rintro e9 w1 ⟨rfl, q1⟩; have Q1 : Hid (Q w w1) := hid (((Q.refl _).alloc _).trans q1); have Z1 := hid ((cb_new w [.bool false, .int .i64 vk, .int .i64 vn, .string vt, .bool vb, .int .i64 ve, .int .i64 k, .int .i64 m, .string t, .bool bb, .int .i64 er, .slice a1 l1 c1, .slice a2 l2 c2] 42).on q1); clear q1; have d0 := Z1.out.c 0 _ rfl; have d1 := Z1.out.c 1 _ rfl; have d2 := Z1.out.c 2 _ rfl; have d3 := Z1.out.c 3 _ rfl; have d4 := Z1.out.c 4 _ rfl; have d5 := Z1.out.c 5 _ rfl; have d6 := Z1.out.c 6 _ rfl; have d7 := Z1.out.c 7 _ rfl; have d8 := Z1.out.c 8 _ rfl; have d9 := Z1.out.c 9 _ rfl; have d10 := Z1.out.c 10 _ rfl; have d11 := Z1.out.c 11 _ rfl; have d12 := Z1.out.c 12 _ rfl) | (go_at_call 52; refine (HV.out _ Q1.out).mono ?_; rintro e9 w2 ⟨ha, q2⟩; have he := ans_isZ ha; subst he; have Q2 := hid (Q1.out.trans q2); clear q2 ha))
    go_ret
    exact ⟨by simp, Q2.out⟩
def RdI (W : World) : Ex → Value → Prop
  | .mk k n t b e rs ks, v => ∃ rv kv, v = .agg #[.int .i64 k, .int .i64 n, .string ⟨t.toArray⟩, .bool b, .int .i64 e, rv, kv] ∧ Sl rf 5 W rv rs ∧
      ∃ (ao : Option Addr) (cap : Nat), kv = .slice ao ks.length cap ∧ ks.length ≤ cap ∧ cap ≤ maxLen ∧ (ks ≠ [] → ∃ b' off, ao = some ⟨b', off, none⟩ ∧ RdIL W ks b' off)
  where
  RdIL (W : World) : List Ex → Nat → Nat → Prop
  | [], _, _ => True
  | x :: xs, b, off => (∃ c0 c1 c2 c3 c4 c5 c6, W.cell? ⟨b, off, none⟩ = some c0 ∧ W.cell? ⟨b, off + 1, none⟩ = some c1 ∧ W.cell? ⟨b, off + 2, none⟩ = some c2 ∧ W.cell? ⟨b, off + 3, none⟩ = some c3 ∧ W.cell? ⟨b, off + 4, none⟩ = some c4 ∧ W.cell? ⟨b, off + 5, none⟩ = some c5 ∧ W.cell? ⟨b, off + 6, none⟩ = some c6 ∧ RdI W x (.agg #[c0, c1, c2, c3, c4, c5, c6])) ∧ RdIL W xs b (off + 7)
structure KidI (W : World) (x : Ex) (b off : Nat) (c0 c1 c2 c3 c4 c5 c6 : Value) : Prop where
  g0 : W.cell? ⟨b, off, none⟩ = some c0
  g1 : W.cell? ⟨b, off + 1, none⟩ = some c1
  g2 : W.cell? ⟨b, off + 2, none⟩ = some c2
  g3 : W.cell? ⟨b, off + 3, none⟩ = some c3
  g4 : W.cell? ⟨b, off + 4, none⟩ = some c4
  g5 : W.cell? ⟨b, off + 5, none⟩ = some c5
  g6 : W.cell? ⟨b, off + 6, none⟩ = some c6
  rd : RdI W x (.agg #[c0, c1, c2, c3, c4, c5, c6])
theorem RdI.RdIL.kid {W : World} : ∀ {ks : List Ex} {b off : Nat}, RdI.RdIL W ks b off → ∀ i (h : i < ks.length), ∃ c0 c1 c2 c3 c4 c5 c6, KidI W ks[i] b (off + i * 7) c0 c1 c2 c3 c4 c5 c6
  | [], _, _, _, i, h => absurd h (by simp)
  | x :: xs, b, off, hr, i, h => by
    unfold RdI.RdIL at hr
    obtain ⟨⟨c0, c1, c2, c3, c4, c5, c6, g0, g1, g2, g3, g4, g5, g6, hx⟩, hr⟩ := hr
    cases i with
    | zero => exact ⟨c0, c1, c2, c3, c4, c5, c6, by simpa using g0, by simpa using g1, by simpa using g2, by simpa using g3, by simpa using g4, by simpa using g5, by simpa using g6, hx⟩
    | succ i =>
      obtain ⟨c0, c1, c2, c3, c4, c5, c6, hk⟩ := RdI.RdIL.kid hr i (by simpa using h)
      rw [show off + 7 + i * 7 = off + (i + 1) * 7 by omega] at hk
      exact ⟨c0, c1, c2, c3, c4, c5, c6, hk⟩
theorem RdI.shape {W : World} {x : Ex} {v : Value} (h : RdI W x v) : ∃ k n t b e a1 l1 c1 a2 l2 c2, v = .agg #[.int .i64 k, .int .i64 n, .string t, .bool b, .int .i64 e, .slice a1 l1 c1, .slice a2 l2 c2] := by
  cases x with
  | mk k n t b e rs ks =>
    unfold RdI at h
    obtain ⟨rv, kv, hv, hr, ao, cap, hk, _⟩ := h
    obtain ⟨a1, c1, hr, _⟩ := hr
    subst hr hk
    exact ⟨_, _, _, _, _, _, _, _, _, _, _, hv⟩
def cutE : Ex → Nat → Nat → Ex × Nat
  | .mk k n t b e rs ks, d, l => (.mk k n (t.take 250) b e (rs.take 4) (cutL ks d (l - 1)).1, (cutL ks d (l - 1)).2)
  where
  cutL : List Ex → Nat → Nat → List Ex × Nat
  | [], _, l => ([], l)
  | x :: xs, d, l => if 0 < l ∧ d < 60 then ((cutE x (d + 1) l).1 :: (cutL xs d (cutE x (d + 1) l).2).1, (cutL xs d (cutE x (d + 1) l).2).2) else ([], l)
theorem cut_nodes : ∀ (x : Ex) (d l : Nat), 0 < l → nodes (cutE x d l).1 + (cutE x d l).2 = l
  | .mk k n t b e rs ks, d, l, h => by
    rw [cutE, nodes]
    have := go ks d (l - 1)
    simp only
    omega
  where
  go : ∀ (ks : List Ex) (d l : Nat), nodes.nodesL (cutE.cutL ks d l).1 + (cutE.cutL ks d l).2 = l
  | [], d, l => by rw [cutE.cutL]; simp [nodes.nodesL]
  | x :: xs, d, l => by
    rw [cutE.cutL]
    split
    · rename_i h
      have h1 := cut_nodes x (d + 1) l h.1
      have h2 := go xs d (cutE x (d + 1) l).2
      simp only [nodes.nodesL]
      omega
    · simp [nodes.nodesL]
def Shs (B : Nat) : Ex → Prop
  | .mk _ _ _ _ _ rs ks => (∀ r ∈ rs, r.1.length ≤ B) ∧ ShsL B ks
  where
  ShsL (B : Nat) : List Ex → Prop
  | [] => True
  | x :: xs => Shs B x ∧ ShsL B xs
def rm : Ex → Nat → Bool
  | .mk k n t b e rs ks, d => decide (d ≤ 50) && (mayN (.mk k n t b e rs ks) && rmL ks (d + 1))
  where
  rmL : List Ex → Nat → Bool
  | [], _ => true
  | x :: xs, d => rm x d && rmL xs d
theorem rmL_all (ks : List Ex) (d : Nat) : rm.rmL ks d = ks.all (fun x => rm x d) := by
  induction ks with
  | nil => rfl
  | cons x xs ih => rw [rm.rmL, ih]; rfl
theorem rm_shl : ∀ (x : Ex) (d m : Nat), d + m = 51 → rm x d = (shl m x && mall mayN x)
  | .mk k n t b e rs ks, d, m, h => by
    rw [rm, mall]
    cases m with
    | zero =>
      rw [decide_eq_false (by omega), Bool.false_and]
      rfl
    | succ m =>
      rw [decide_eq_true (by omega), Bool.true_and, go ks (d + 1) m (by omega)]
      show _ = (ks.all (shl m) && _)
      cases mayN (.mk k n t b e rs ks) <;> cases ks.all (shl m) <;> simp
  where
  go : ∀ (ks : List Ex) (d m : Nat), d + m = 51 → rm.rmL ks d = (ks.all (shl m) && mall.mallL mayN ks)
  | [], _, _, _ => by rw [rm.rmL, mall.mallL]; rfl
  | x :: xs, d, m, h => by
    rw [rm.rmL, rm_shl x d m h, go xs d m h, mall.mallL, List.all_cons]
    cases shl m x <;> cases mall mayN x <;> cases xs.all (shl m) <;> simp
theorem cnt_nodes : ∀ (x : Ex) (n : Nat), n ≤ 200 → min (cnt x n) 201 = min (n + nodes x) 201
  | .mk k m t b e rs ks, n, h => by
    rw [cnt, nodes, go ks (n + 1) (by omega)]
    congr 1
    omega
  where
  go : ∀ (ks : List Ex) (n : Nat), n ≤ 201 → min (cnt.cntL ks n) 201 = min (n + nodes.nodesL ks) 201
  | [], n, _ => by rw [cnt.cntL, nodes.nodesL, Nat.add_zero]
  | x :: xs, n, h => by
    rw [cnt.cntL, nodes.nodesL]
    split
    · rename_i h'
      have h1 := cnt_nodes x n h'
      have h2 := cnt_le x n h'
      rw [go xs (cnt x n) h2]
      omega
    · omega
set_option maxHeartbeats 4000000 in
theorem samecell_any (f : Bool) (vk vn : Int) (vt : ByteArray) (vb : Bool) (ve : Int) (k m : Int) (t : ByteArray) (bb : Bool) (er : Int) (a1 : Option Addr) (l1 c1 : Nat) (a2 : Option Addr) (l2 c2 : Nat) (f' : Bool) (vk' vn' : Int) (vt' : ByteArray) (vb' : Bool) (ve' : Int) (k' m' : Int) (t' : ByteArray) (bb' : Bool) (er' : Int) (a1' : Option Addr) (l1' c1' : Nat) (a2' : Option Addr) (l2' c2' : Nat) (X Y : Ex) (b : Bool) (w : World) (hr : Rd w X (.agg #[.int .i64 k, .int .i64 m, .string t, .bool bb, .int .i64 er, .slice a1 l1 c1, .slice a2 l2 c2])) (hr' : Rd w Y (.agg #[.int .i64 k', .int .i64 m', .string t', .bool bb', .int .i64 er', .slice a1' l1' c1', .slice a2' l2' c2'])) (hn : nodes X ≤ 1000) (hb : b = true ↔ (f = f' ∧ (vk = vk' ∧ vn = vn' ∧ vt.data.toList = vt'.data.toList ∧ vb = vb' ∧ ve = ve') ∧ X = Y)) : Calls Tryz.prog 101 #[.agg #[.bool f, .int .i64 vk, .int .i64 vn, .string vt, .bool vb, .int .i64 ve, .int .i64 k, .int .i64 m, .string t, .bool bb, .int .i64 er, .slice a1 l1 c1, .slice a2 l2 c2], .agg #[.bool f', .int .i64 vk', .int .i64 vn', .string vt', .bool vb', .int .i64 ve', .int .i64 k', .int .i64 m', .string t', .bool bb', .int .i64 er', .slice a1' l1' c1', .slice a2' l2' c2']] w fun e W' => e = .returned (.bool b) ∧ Q w W' := by
  have HV := hid (fun W' => veq_any vk vn vt vb ve vk' vn' vt' vb' ve' W')
  have HE := hid (fun W' (q : Q w W') => eq_any X Y _ _ W' (Rd.on q _ _ hr) (Rd.on q _ _ hr') hn)
  obtain ⟨rr, hrr⟩ : ∃ rr, decide (vk = vk' ∧ vn = vn' ∧ vt.data.toList = vt'.data.toList ∧ vb = vb' ∧ ve = ve') = rr := ⟨_, rfl⟩
  rw [hrr] at HV
  unfold vx at HV
  clear hr hr'
  by_cases hf : f = f'
  · have e0 : (f == f') = true := by simpa using hf
    cases rr with
    | true =>
      have hv := of_decide_eq_true hrr
      have HB : Hid (∀ e, Ans (X = Y) e → e = .returned (.bool b)) := hid (fun e ⟨r, he, hr⟩ => by
        rw [he, show r = b from Bool.eq_iff_iff.2 (hr.trans ⟨fun x => hb.2 ⟨hf, hv, x⟩, fun x => (hb.1 x).2.2⟩)])
      clear hb hf hv hrr
      go_enter Tryz.func101, Tryz.ntmps101
      go_upto_region 1 with fail
      have Z1 := hid ((cb_new w [.bool f, .int .i64 vk, .int .i64 vn, .string vt, .bool vb, .int .i64 ve, .int .i64 k, .int .i64 m, .string t, .bool bb, .int .i64 er, .slice a1 l1 c1, .slice a2 l2 c2] 42).on ((Q.refl _).alloc (.cells #[.bool f', .int .i64 vk', .int .i64 vn', .string vt', .bool vb', .int .i64 ve', .int .i64 k', .int .i64 m', .string t', .bool bb', .int .i64 er', .slice a1' l1' c1', .slice a2' l2' c2'] 42)))
      have Z2 := hid (cb_new (w.alloc (.cells #[.bool f, .int .i64 vk, .int .i64 vn, .string vt, .bool vb, .int .i64 ve, .int .i64 k, .int .i64 m, .string t, .bool bb, .int .i64 er, .slice a1 l1 c1, .slice a2 l2 c2] 42)) [.bool f', .int .i64 vk', .int .i64 vn', .string vt', .bool vb', .int .i64 ve', .int .i64 k', .int .i64 m', .string t', .bool bb', .int .i64 er', .slice a1' l1' c1', .slice a2' l2' c2'] 42)
      have QA : Hid (Q w ((w.alloc (.cells #[.bool f, .int .i64 vk, .int .i64 vn, .string vt, .bool vb, .int .i64 ve, .int .i64 k, .int .i64 m, .string t, .bool bb, .int .i64 er, .slice a1 l1 c1, .slice a2 l2 c2] 42)).alloc (.cells #[.bool f', .int .i64 vk', .int .i64 vn', .string vt', .bool vb', .int .i64 ve', .int .i64 k', .int .i64 m', .string t', .bool bb', .int .i64 er', .slice a1' l1' c1', .slice a2' l2' c2'] 42))) := hid (((Q.refl w).alloc _).alloc _)
      rw [show ([.bool f, .int .i64 vk, .int .i64 vn, .string vt, .bool vb, .int .i64 ve, .int .i64 k, .int .i64 m, .string t, .bool bb, .int .i64 er, .slice a1 l1 c1, .slice a2 l2 c2] : List Value).toArray = #[.bool f, .int .i64 vk, .int .i64 vn, .string vt, .bool vb, .int .i64 ve, .int .i64 k, .int .i64 m, .string t, .bool bb, .int .i64 er, .slice a1 l1 c1, .slice a2 l2 c2] from rfl] at Z1
      rw [show ([.bool f', .int .i64 vk', .int .i64 vn', .string vt', .bool vb', .int .i64 ve', .int .i64 k', .int .i64 m', .string t', .bool bb', .int .i64 er', .slice a1' l1' c1', .slice a2' l2' c2'] : List Value).toArray = #[.bool f', .int .i64 vk', .int .i64 vn', .string vt', .bool vb', .int .i64 ve', .int .i64 k', .int .i64 m', .string t', .bool bb', .int .i64 er', .slice a1' l1' c1', .slice a2' l2' c2'] from rfl, show (w.alloc (.cells #[.bool f, .int .i64 vk, .int .i64 vn, .string vt, .bool vb, .int .i64 ve, .int .i64 k, .int .i64 m, .string t, .bool bb, .int .i64 er, .slice a1 l1 c1, .slice a2 l2 c2] 42)).heap.size = w.heap.size + 1 by simp] at Z2
      generalize ((w.alloc (.cells #[.bool f, .int .i64 vk, .int .i64 vn, .string vt, .bool vb, .int .i64 ve, .int .i64 k, .int .i64 m, .string t, .bool bb, .int .i64 er, .slice a1 l1 c1, .slice a2 l2 c2] 42)).alloc (.cells #[.bool f', .int .i64 vk', .int .i64 vn', .string vt', .bool vb', .int .i64 ve', .int .i64 k', .int .i64 m', .string t', .bool bb', .int .i64 er', .slice a1' l1' c1', .slice a2' l2' c2'] 42)) = w2 at Z1 Z2 QA ⊢
      generalize w.heap.size + 1 = b1 at Z2 ⊢
      generalize w.heap.size = b0 at Z1 ⊢
      have d0 := Z1.out.c 0 _ rfl
      have d1 := Z1.out.c 1 _ rfl
      have d2 := Z1.out.c 2 _ rfl
      have d3 := Z1.out.c 3 _ rfl
      have d4 := Z1.out.c 4 _ rfl
      have d5 := Z1.out.c 5 _ rfl
      have d6 := Z1.out.c 6 _ rfl
      have d7 := Z1.out.c 7 _ rfl
      have d8 := Z1.out.c 8 _ rfl
      have d9 := Z1.out.c 9 _ rfl
      have d10 := Z1.out.c 10 _ rfl
      have d11 := Z1.out.c 11 _ rfl
      have d12 := Z1.out.c 12 _ rfl
      have n0 := Z2.out.c 0 _ rfl
      have n1 := Z2.out.c 1 _ rfl
      have n2 := Z2.out.c 2 _ rfl
      have n3 := Z2.out.c 3 _ rfl
      have n4 := Z2.out.c 4 _ rfl
      have n5 := Z2.out.c 5 _ rfl
      have n6 := Z2.out.c 6 _ rfl
      have n7 := Z2.out.c 7 _ rfl
      have n8 := Z2.out.c 8 _ rfl
      have n9 := Z2.out.c 9 _ rfl
      have n10 := Z2.out.c 10 _ rfl
      have n11 := Z2.out.c 11 _ rfl
      have n12 := Z2.out.c 12 _ rfl
      go_wp2_with (first | (go_at_call 50; refine (HV.out _).mono ?_; rintro e9 w3 ⟨rfl, q3⟩; have Z13 := hid (Z1.out.on q3); have Z23 := hid (Z2.out.on q3); have Q3 : Hid (Q w w3) := hid (QA.out.trans q3); clear q3; have x0 := Z13.out.c 0 _ rfl; have x1 := Z13.out.c 1 _ rfl; have x2 := Z13.out.c 2 _ rfl; have x3 := Z13.out.c 3 _ rfl; have x4 := Z13.out.c 4 _ rfl; have x5 := Z13.out.c 5 _ rfl; have x6 := Z13.out.c 6 _ rfl; have x7 := Z13.out.c 7 _ rfl; have x8 := Z13.out.c 8 _ rfl; have x9 := Z13.out.c 9 _ rfl; have x10 := Z13.out.c 10 _ rfl; have x11 := Z13.out.c 11 _ rfl; have x12 := Z13.out.c 12 _ rfl; have y0 := Z23.out.c 0 _ rfl; have y1 := Z23.out.c 1 _ rfl; have y2 := Z23.out.c 2 _ rfl; have y3 := Z23.out.c 3 _ rfl; have y4 := Z23.out.c 4 _ rfl; have y5 := Z23.out.c 5 _ rfl; have y6 := Z23.out.c 6 _ rfl; have y7 := Z23.out.c 7 _ rfl; have y8 := Z23.out.c 8 _ rfl; have y9 := Z23.out.c 9 _ rfl; have y10 := Z23.out.c 10 _ rfl; have y11 := Z23.out.c 11 _ rfl; have y12 := Z23.out.c 12 _ rfl) | (go_at_call 52; refine (HE.out _ Q3.out).mono ?_; rintro e9 w4 ⟨ha, q4⟩; have he := HB.out _ ha; subst he; have Q4 : Hid (Q w w4) := hid (Q3.out.trans q4); clear q4 ha))
      go_ret
      exact ⟨rfl, Q4.out⟩
    | false =>
      have HB : Hid (b = false) := hid (by
        cases b with
        | false => rfl
        | true => exact absurd (hb.1 rfl).2.1 (of_decide_eq_false hrr))
      clear hb hf hrr
      go_enter Tryz.func101, Tryz.ntmps101
      go_upto_region 1 with fail
      have Z1 := hid ((cb_new w [.bool f, .int .i64 vk, .int .i64 vn, .string vt, .bool vb, .int .i64 ve, .int .i64 k, .int .i64 m, .string t, .bool bb, .int .i64 er, .slice a1 l1 c1, .slice a2 l2 c2] 42).on ((Q.refl _).alloc (.cells #[.bool f', .int .i64 vk', .int .i64 vn', .string vt', .bool vb', .int .i64 ve', .int .i64 k', .int .i64 m', .string t', .bool bb', .int .i64 er', .slice a1' l1' c1', .slice a2' l2' c2'] 42)))
      have Z2 := hid (cb_new (w.alloc (.cells #[.bool f, .int .i64 vk, .int .i64 vn, .string vt, .bool vb, .int .i64 ve, .int .i64 k, .int .i64 m, .string t, .bool bb, .int .i64 er, .slice a1 l1 c1, .slice a2 l2 c2] 42)) [.bool f', .int .i64 vk', .int .i64 vn', .string vt', .bool vb', .int .i64 ve', .int .i64 k', .int .i64 m', .string t', .bool bb', .int .i64 er', .slice a1' l1' c1', .slice a2' l2' c2'] 42)
      have QA : Hid (Q w ((w.alloc (.cells #[.bool f, .int .i64 vk, .int .i64 vn, .string vt, .bool vb, .int .i64 ve, .int .i64 k, .int .i64 m, .string t, .bool bb, .int .i64 er, .slice a1 l1 c1, .slice a2 l2 c2] 42)).alloc (.cells #[.bool f', .int .i64 vk', .int .i64 vn', .string vt', .bool vb', .int .i64 ve', .int .i64 k', .int .i64 m', .string t', .bool bb', .int .i64 er', .slice a1' l1' c1', .slice a2' l2' c2'] 42))) := hid (((Q.refl w).alloc _).alloc _)
      rw [show ([.bool f, .int .i64 vk, .int .i64 vn, .string vt, .bool vb, .int .i64 ve, .int .i64 k, .int .i64 m, .string t, .bool bb, .int .i64 er, .slice a1 l1 c1, .slice a2 l2 c2] : List Value).toArray = #[.bool f, .int .i64 vk, .int .i64 vn, .string vt, .bool vb, .int .i64 ve, .int .i64 k, .int .i64 m, .string t, .bool bb, .int .i64 er, .slice a1 l1 c1, .slice a2 l2 c2] from rfl] at Z1
      rw [show ([.bool f', .int .i64 vk', .int .i64 vn', .string vt', .bool vb', .int .i64 ve', .int .i64 k', .int .i64 m', .string t', .bool bb', .int .i64 er', .slice a1' l1' c1', .slice a2' l2' c2'] : List Value).toArray = #[.bool f', .int .i64 vk', .int .i64 vn', .string vt', .bool vb', .int .i64 ve', .int .i64 k', .int .i64 m', .string t', .bool bb', .int .i64 er', .slice a1' l1' c1', .slice a2' l2' c2'] from rfl, show (w.alloc (.cells #[.bool f, .int .i64 vk, .int .i64 vn, .string vt, .bool vb, .int .i64 ve, .int .i64 k, .int .i64 m, .string t, .bool bb, .int .i64 er, .slice a1 l1 c1, .slice a2 l2 c2] 42)).heap.size = w.heap.size + 1 by simp] at Z2
      generalize ((w.alloc (.cells #[.bool f, .int .i64 vk, .int .i64 vn, .string vt, .bool vb, .int .i64 ve, .int .i64 k, .int .i64 m, .string t, .bool bb, .int .i64 er, .slice a1 l1 c1, .slice a2 l2 c2] 42)).alloc (.cells #[.bool f', .int .i64 vk', .int .i64 vn', .string vt', .bool vb', .int .i64 ve', .int .i64 k', .int .i64 m', .string t', .bool bb', .int .i64 er', .slice a1' l1' c1', .slice a2' l2' c2'] 42)) = w2 at Z1 Z2 QA ⊢
      generalize w.heap.size + 1 = b1 at Z2 ⊢
      generalize w.heap.size = b0 at Z1 ⊢
      have d0 := Z1.out.c 0 _ rfl
      have d1 := Z1.out.c 1 _ rfl
      have d2 := Z1.out.c 2 _ rfl
      have d3 := Z1.out.c 3 _ rfl
      have d4 := Z1.out.c 4 _ rfl
      have d5 := Z1.out.c 5 _ rfl
      have d6 := Z1.out.c 6 _ rfl
      have d7 := Z1.out.c 7 _ rfl
      have d8 := Z1.out.c 8 _ rfl
      have d9 := Z1.out.c 9 _ rfl
      have d10 := Z1.out.c 10 _ rfl
      have d11 := Z1.out.c 11 _ rfl
      have d12 := Z1.out.c 12 _ rfl
      have n0 := Z2.out.c 0 _ rfl
      have n1 := Z2.out.c 1 _ rfl
      have n2 := Z2.out.c 2 _ rfl
      have n3 := Z2.out.c 3 _ rfl
      have n4 := Z2.out.c 4 _ rfl
      have n5 := Z2.out.c 5 _ rfl
      have n6 := Z2.out.c 6 _ rfl
      have n7 := Z2.out.c 7 _ rfl
      have n8 := Z2.out.c 8 _ rfl
      have n9 := Z2.out.c 9 _ rfl
      have n10 := Z2.out.c 10 _ rfl
      have n11 := Z2.out.c 11 _ rfl
      have n12 := Z2.out.c 12 _ rfl
      go_wp2_with (go_at_call 50; refine (HV.out _).mono ?_; rintro e9 w3 ⟨rfl, q3⟩; have Q3 : Hid (Q w w3) := hid (QA.out.trans q3); clear q3)
      go_ret
      exact ⟨ret_bool HB.out.symm, Q3.out⟩
  · have e0 : (f == f') = false := by simpa using hf
    have HB : Hid (b = false) := hid (by
      cases b with
      | false => rfl
      | true => exact absurd (hb.1 rfl).1 hf)
    clear hb hf hrr
    go_enter Tryz.func101, Tryz.ntmps101
    go_upto_region 1 with fail
    have Z1 := hid ((cb_new w [.bool f, .int .i64 vk, .int .i64 vn, .string vt, .bool vb, .int .i64 ve, .int .i64 k, .int .i64 m, .string t, .bool bb, .int .i64 er, .slice a1 l1 c1, .slice a2 l2 c2] 42).on ((Q.refl _).alloc (.cells #[.bool f', .int .i64 vk', .int .i64 vn', .string vt', .bool vb', .int .i64 ve', .int .i64 k', .int .i64 m', .string t', .bool bb', .int .i64 er', .slice a1' l1' c1', .slice a2' l2' c2'] 42)))
    have Z2 := hid (cb_new (w.alloc (.cells #[.bool f, .int .i64 vk, .int .i64 vn, .string vt, .bool vb, .int .i64 ve, .int .i64 k, .int .i64 m, .string t, .bool bb, .int .i64 er, .slice a1 l1 c1, .slice a2 l2 c2] 42)) [.bool f', .int .i64 vk', .int .i64 vn', .string vt', .bool vb', .int .i64 ve', .int .i64 k', .int .i64 m', .string t', .bool bb', .int .i64 er', .slice a1' l1' c1', .slice a2' l2' c2'] 42)
    have QA : Hid (Q w ((w.alloc (.cells #[.bool f, .int .i64 vk, .int .i64 vn, .string vt, .bool vb, .int .i64 ve, .int .i64 k, .int .i64 m, .string t, .bool bb, .int .i64 er, .slice a1 l1 c1, .slice a2 l2 c2] 42)).alloc (.cells #[.bool f', .int .i64 vk', .int .i64 vn', .string vt', .bool vb', .int .i64 ve', .int .i64 k', .int .i64 m', .string t', .bool bb', .int .i64 er', .slice a1' l1' c1', .slice a2' l2' c2'] 42))) := hid (((Q.refl w).alloc _).alloc _)
    rw [show ([.bool f, .int .i64 vk, .int .i64 vn, .string vt, .bool vb, .int .i64 ve, .int .i64 k, .int .i64 m, .string t, .bool bb, .int .i64 er, .slice a1 l1 c1, .slice a2 l2 c2] : List Value).toArray = #[.bool f, .int .i64 vk, .int .i64 vn, .string vt, .bool vb, .int .i64 ve, .int .i64 k, .int .i64 m, .string t, .bool bb, .int .i64 er, .slice a1 l1 c1, .slice a2 l2 c2] from rfl] at Z1
    rw [show ([.bool f', .int .i64 vk', .int .i64 vn', .string vt', .bool vb', .int .i64 ve', .int .i64 k', .int .i64 m', .string t', .bool bb', .int .i64 er', .slice a1' l1' c1', .slice a2' l2' c2'] : List Value).toArray = #[.bool f', .int .i64 vk', .int .i64 vn', .string vt', .bool vb', .int .i64 ve', .int .i64 k', .int .i64 m', .string t', .bool bb', .int .i64 er', .slice a1' l1' c1', .slice a2' l2' c2'] from rfl, show (w.alloc (.cells #[.bool f, .int .i64 vk, .int .i64 vn, .string vt, .bool vb, .int .i64 ve, .int .i64 k, .int .i64 m, .string t, .bool bb, .int .i64 er, .slice a1 l1 c1, .slice a2 l2 c2] 42)).heap.size = w.heap.size + 1 by simp] at Z2
    generalize ((w.alloc (.cells #[.bool f, .int .i64 vk, .int .i64 vn, .string vt, .bool vb, .int .i64 ve, .int .i64 k, .int .i64 m, .string t, .bool bb, .int .i64 er, .slice a1 l1 c1, .slice a2 l2 c2] 42)).alloc (.cells #[.bool f', .int .i64 vk', .int .i64 vn', .string vt', .bool vb', .int .i64 ve', .int .i64 k', .int .i64 m', .string t', .bool bb', .int .i64 er', .slice a1' l1' c1', .slice a2' l2' c2'] 42)) = w2 at Z1 Z2 QA ⊢
    generalize w.heap.size + 1 = b1 at Z2 ⊢
    generalize w.heap.size = b0 at Z1 ⊢
    have d0 := Z1.out.c 0 _ rfl
    have d1 := Z1.out.c 1 _ rfl
    have d2 := Z1.out.c 2 _ rfl
    have d3 := Z1.out.c 3 _ rfl
    have d4 := Z1.out.c 4 _ rfl
    have d5 := Z1.out.c 5 _ rfl
    have d6 := Z1.out.c 6 _ rfl
    have d7 := Z1.out.c 7 _ rfl
    have d8 := Z1.out.c 8 _ rfl
    have d9 := Z1.out.c 9 _ rfl
    have d10 := Z1.out.c 10 _ rfl
    have d11 := Z1.out.c 11 _ rfl
    have d12 := Z1.out.c 12 _ rfl
    have n0 := Z2.out.c 0 _ rfl
    have n1 := Z2.out.c 1 _ rfl
    have n2 := Z2.out.c 2 _ rfl
    have n3 := Z2.out.c 3 _ rfl
    have n4 := Z2.out.c 4 _ rfl
    have n5 := Z2.out.c 5 _ rfl
    have n6 := Z2.out.c 6 _ rfl
    have n7 := Z2.out.c 7 _ rfl
    have n8 := Z2.out.c 8 _ rfl
    have n9 := Z2.out.c 9 _ rfl
    have n10 := Z2.out.c 10 _ rfl
    have n11 := Z2.out.c 11 _ rfl
    have n12 := Z2.out.c 12 _ rfl
    go_wp2_with fail
    go_ret
    exact ⟨ret_bool HB.out.symm, QA.out⟩
set_option maxHeartbeats 4000000 in
theorem eqcell_any (f : Bool) (vk vn : Int) (vt : ByteArray) (vb : Bool) (ve : Int) (k m : Int) (t : ByteArray) (bb : Bool) (er : Int) (a1 : Option Addr) (l1 c1 : Nat) (a2 : Option Addr) (l2 c2 : Nat) (f' : Bool) (vk' vn' : Int) (vt' : ByteArray) (vb' : Bool) (ve' : Int) (k' m' : Int) (t' : ByteArray) (bb' : Bool) (er' : Int) (a1' : Option Addr) (l1' c1' : Nat) (a2' : Option Addr) (l2' c2' : Nat) (X Y : Ex) (b : Bool) (w : World) (hr : Rd w X (.agg #[.int .i64 k, .int .i64 m, .string t, .bool bb, .int .i64 er, .slice a1 l1 c1, .slice a2 l2 c2])) (hr' : Rd w Y (.agg #[.int .i64 k', .int .i64 m', .string t', .bool bb', .int .i64 er', .slice a1' l1' c1', .slice a2' l2' c2'])) (hb : b = true ↔ (f = f' ∧ (vk = vk' ∧ vn = vn' ∧ vt.data.toList = vt'.data.toList ∧ vb = vb' ∧ ve = ve') ∧ X = Y)) : Calls Tryz.prog 18 #[.agg #[.bool f, .int .i64 vk, .int .i64 vn, .string vt, .bool vb, .int .i64 ve, .int .i64 k, .int .i64 m, .string t, .bool bb, .int .i64 er, .slice a1 l1 c1, .slice a2 l2 c2], .agg #[.bool f', .int .i64 vk', .int .i64 vn', .string vt', .bool vb', .int .i64 ve', .int .i64 k', .int .i64 m', .string t', .bool bb', .int .i64 er', .slice a1' l1' c1', .slice a2' l2' c2']] w fun e W' => e = .returned (.bool b) ∧ Q w W' := by
  have HV := hid (fun W' => req_any vk vn vt vb ve vk' vn' vt' vb' ve' W')
  have HE := hid (fun W' (q : Q w W') => eqexpr_any _ X Y _ _ W' (Nat.le_refl _) (Rd.on q _ _ hr) (Rd.on q _ _ hr'))
  obtain ⟨rr, hrr⟩ : ∃ rr, decide (vk = vk' ∧ vn = vn' ∧ vt.data.toList = vt'.data.toList ∧ vb = vb' ∧ ve = ve') = rr := ⟨_, rfl⟩
  rw [hrr] at HV
  unfold vx at HV
  clear hr hr'
  by_cases hf : f = f'
  · have e0 : (f == f') = true := by simpa using hf
    cases rr with
    | true =>
      have hv := of_decide_eq_true hrr
      have HB : Hid (∀ e, Ans (X = Y) e → e = .returned (.bool b)) := hid (fun e ⟨r, he, hr⟩ => by
        rw [he, show r = b from Bool.eq_iff_iff.2 (hr.trans ⟨fun x => hb.2 ⟨hf, hv, x⟩, fun x => (hb.1 x).2.2⟩)])
      clear hb hf hv hrr
      go_enter Tryz.func18, Tryz.ntmps18
      go_upto_region 1 with fail
      have Z1 := hid ((cb_new w [.bool f, .int .i64 vk, .int .i64 vn, .string vt, .bool vb, .int .i64 ve, .int .i64 k, .int .i64 m, .string t, .bool bb, .int .i64 er, .slice a1 l1 c1, .slice a2 l2 c2] 42).on ((Q.refl _).alloc (.cells #[.bool f', .int .i64 vk', .int .i64 vn', .string vt', .bool vb', .int .i64 ve', .int .i64 k', .int .i64 m', .string t', .bool bb', .int .i64 er', .slice a1' l1' c1', .slice a2' l2' c2'] 42)))
      have Z2 := hid (cb_new (w.alloc (.cells #[.bool f, .int .i64 vk, .int .i64 vn, .string vt, .bool vb, .int .i64 ve, .int .i64 k, .int .i64 m, .string t, .bool bb, .int .i64 er, .slice a1 l1 c1, .slice a2 l2 c2] 42)) [.bool f', .int .i64 vk', .int .i64 vn', .string vt', .bool vb', .int .i64 ve', .int .i64 k', .int .i64 m', .string t', .bool bb', .int .i64 er', .slice a1' l1' c1', .slice a2' l2' c2'] 42)
      have QA : Hid (Q w ((w.alloc (.cells #[.bool f, .int .i64 vk, .int .i64 vn, .string vt, .bool vb, .int .i64 ve, .int .i64 k, .int .i64 m, .string t, .bool bb, .int .i64 er, .slice a1 l1 c1, .slice a2 l2 c2] 42)).alloc (.cells #[.bool f', .int .i64 vk', .int .i64 vn', .string vt', .bool vb', .int .i64 ve', .int .i64 k', .int .i64 m', .string t', .bool bb', .int .i64 er', .slice a1' l1' c1', .slice a2' l2' c2'] 42))) := hid (((Q.refl w).alloc _).alloc _)
      rw [show ([.bool f, .int .i64 vk, .int .i64 vn, .string vt, .bool vb, .int .i64 ve, .int .i64 k, .int .i64 m, .string t, .bool bb, .int .i64 er, .slice a1 l1 c1, .slice a2 l2 c2] : List Value).toArray = #[.bool f, .int .i64 vk, .int .i64 vn, .string vt, .bool vb, .int .i64 ve, .int .i64 k, .int .i64 m, .string t, .bool bb, .int .i64 er, .slice a1 l1 c1, .slice a2 l2 c2] from rfl] at Z1
      rw [show ([.bool f', .int .i64 vk', .int .i64 vn', .string vt', .bool vb', .int .i64 ve', .int .i64 k', .int .i64 m', .string t', .bool bb', .int .i64 er', .slice a1' l1' c1', .slice a2' l2' c2'] : List Value).toArray = #[.bool f', .int .i64 vk', .int .i64 vn', .string vt', .bool vb', .int .i64 ve', .int .i64 k', .int .i64 m', .string t', .bool bb', .int .i64 er', .slice a1' l1' c1', .slice a2' l2' c2'] from rfl, show (w.alloc (.cells #[.bool f, .int .i64 vk, .int .i64 vn, .string vt, .bool vb, .int .i64 ve, .int .i64 k, .int .i64 m, .string t, .bool bb, .int .i64 er, .slice a1 l1 c1, .slice a2 l2 c2] 42)).heap.size = w.heap.size + 1 by simp] at Z2
      generalize ((w.alloc (.cells #[.bool f, .int .i64 vk, .int .i64 vn, .string vt, .bool vb, .int .i64 ve, .int .i64 k, .int .i64 m, .string t, .bool bb, .int .i64 er, .slice a1 l1 c1, .slice a2 l2 c2] 42)).alloc (.cells #[.bool f', .int .i64 vk', .int .i64 vn', .string vt', .bool vb', .int .i64 ve', .int .i64 k', .int .i64 m', .string t', .bool bb', .int .i64 er', .slice a1' l1' c1', .slice a2' l2' c2'] 42)) = w2 at Z1 Z2 QA ⊢
      generalize w.heap.size + 1 = b1 at Z2 ⊢
      generalize w.heap.size = b0 at Z1 ⊢
      have d0 := Z1.out.c 0 _ rfl
      have d1 := Z1.out.c 1 _ rfl
      have d2 := Z1.out.c 2 _ rfl
      have d3 := Z1.out.c 3 _ rfl
      have d4 := Z1.out.c 4 _ rfl
      have d5 := Z1.out.c 5 _ rfl
      have d6 := Z1.out.c 6 _ rfl
      have d7 := Z1.out.c 7 _ rfl
      have d8 := Z1.out.c 8 _ rfl
      have d9 := Z1.out.c 9 _ rfl
      have d10 := Z1.out.c 10 _ rfl
      have d11 := Z1.out.c 11 _ rfl
      have d12 := Z1.out.c 12 _ rfl
      have n0 := Z2.out.c 0 _ rfl
      have n1 := Z2.out.c 1 _ rfl
      have n2 := Z2.out.c 2 _ rfl
      have n3 := Z2.out.c 3 _ rfl
      have n4 := Z2.out.c 4 _ rfl
      have n5 := Z2.out.c 5 _ rfl
      have n6 := Z2.out.c 6 _ rfl
      have n7 := Z2.out.c 7 _ rfl
      have n8 := Z2.out.c 8 _ rfl
      have n9 := Z2.out.c 9 _ rfl
      have n10 := Z2.out.c 10 _ rfl
      have n11 := Z2.out.c 11 _ rfl
      have n12 := Z2.out.c 12 _ rfl
      go_wp2_with (first | (go_at_call 31; refine (HV.out _).mono ?_; rintro e9 w3 ⟨rfl, q3⟩; have Z13 := hid (Z1.out.on q3); have Z23 := hid (Z2.out.on q3); have Q3 : Hid (Q w w3) := hid (QA.out.trans q3); clear q3; have x0 := Z13.out.c 0 _ rfl; have x1 := Z13.out.c 1 _ rfl; have x2 := Z13.out.c 2 _ rfl; have x3 := Z13.out.c 3 _ rfl; have x4 := Z13.out.c 4 _ rfl; have x5 := Z13.out.c 5 _ rfl; have x6 := Z13.out.c 6 _ rfl; have x7 := Z13.out.c 7 _ rfl; have x8 := Z13.out.c 8 _ rfl; have x9 := Z13.out.c 9 _ rfl; have x10 := Z13.out.c 10 _ rfl; have x11 := Z13.out.c 11 _ rfl; have x12 := Z13.out.c 12 _ rfl; have y0 := Z23.out.c 0 _ rfl; have y1 := Z23.out.c 1 _ rfl; have y2 := Z23.out.c 2 _ rfl; have y3 := Z23.out.c 3 _ rfl; have y4 := Z23.out.c 4 _ rfl; have y5 := Z23.out.c 5 _ rfl; have y6 := Z23.out.c 6 _ rfl; have y7 := Z23.out.c 7 _ rfl; have y8 := Z23.out.c 8 _ rfl; have y9 := Z23.out.c 9 _ rfl; have y10 := Z23.out.c 10 _ rfl; have y11 := Z23.out.c 11 _ rfl; have y12 := Z23.out.c 12 _ rfl) | (go_at_call 33; refine (HE.out _ Q3.out).mono ?_; rintro e9 w4 ⟨ha, q4⟩; have he := HB.out _ ha; subst he; have Q4 : Hid (Q w w4) := hid (Q3.out.trans q4); clear q4 ha))
      go_ret
      exact ⟨rfl, Q4.out⟩
    | false =>
      have HB : Hid (b = false) := hid (by
        cases b with
        | false => rfl
        | true => exact absurd (hb.1 rfl).2.1 (of_decide_eq_false hrr))
      clear hb hf hrr
      go_enter Tryz.func18, Tryz.ntmps18
      go_upto_region 1 with fail
      have Z1 := hid ((cb_new w [.bool f, .int .i64 vk, .int .i64 vn, .string vt, .bool vb, .int .i64 ve, .int .i64 k, .int .i64 m, .string t, .bool bb, .int .i64 er, .slice a1 l1 c1, .slice a2 l2 c2] 42).on ((Q.refl _).alloc (.cells #[.bool f', .int .i64 vk', .int .i64 vn', .string vt', .bool vb', .int .i64 ve', .int .i64 k', .int .i64 m', .string t', .bool bb', .int .i64 er', .slice a1' l1' c1', .slice a2' l2' c2'] 42)))
      have Z2 := hid (cb_new (w.alloc (.cells #[.bool f, .int .i64 vk, .int .i64 vn, .string vt, .bool vb, .int .i64 ve, .int .i64 k, .int .i64 m, .string t, .bool bb, .int .i64 er, .slice a1 l1 c1, .slice a2 l2 c2] 42)) [.bool f', .int .i64 vk', .int .i64 vn', .string vt', .bool vb', .int .i64 ve', .int .i64 k', .int .i64 m', .string t', .bool bb', .int .i64 er', .slice a1' l1' c1', .slice a2' l2' c2'] 42)
      have QA : Hid (Q w ((w.alloc (.cells #[.bool f, .int .i64 vk, .int .i64 vn, .string vt, .bool vb, .int .i64 ve, .int .i64 k, .int .i64 m, .string t, .bool bb, .int .i64 er, .slice a1 l1 c1, .slice a2 l2 c2] 42)).alloc (.cells #[.bool f', .int .i64 vk', .int .i64 vn', .string vt', .bool vb', .int .i64 ve', .int .i64 k', .int .i64 m', .string t', .bool bb', .int .i64 er', .slice a1' l1' c1', .slice a2' l2' c2'] 42))) := hid (((Q.refl w).alloc _).alloc _)
      rw [show ([.bool f, .int .i64 vk, .int .i64 vn, .string vt, .bool vb, .int .i64 ve, .int .i64 k, .int .i64 m, .string t, .bool bb, .int .i64 er, .slice a1 l1 c1, .slice a2 l2 c2] : List Value).toArray = #[.bool f, .int .i64 vk, .int .i64 vn, .string vt, .bool vb, .int .i64 ve, .int .i64 k, .int .i64 m, .string t, .bool bb, .int .i64 er, .slice a1 l1 c1, .slice a2 l2 c2] from rfl] at Z1
      rw [show ([.bool f', .int .i64 vk', .int .i64 vn', .string vt', .bool vb', .int .i64 ve', .int .i64 k', .int .i64 m', .string t', .bool bb', .int .i64 er', .slice a1' l1' c1', .slice a2' l2' c2'] : List Value).toArray = #[.bool f', .int .i64 vk', .int .i64 vn', .string vt', .bool vb', .int .i64 ve', .int .i64 k', .int .i64 m', .string t', .bool bb', .int .i64 er', .slice a1' l1' c1', .slice a2' l2' c2'] from rfl, show (w.alloc (.cells #[.bool f, .int .i64 vk, .int .i64 vn, .string vt, .bool vb, .int .i64 ve, .int .i64 k, .int .i64 m, .string t, .bool bb, .int .i64 er, .slice a1 l1 c1, .slice a2 l2 c2] 42)).heap.size = w.heap.size + 1 by simp] at Z2
      generalize ((w.alloc (.cells #[.bool f, .int .i64 vk, .int .i64 vn, .string vt, .bool vb, .int .i64 ve, .int .i64 k, .int .i64 m, .string t, .bool bb, .int .i64 er, .slice a1 l1 c1, .slice a2 l2 c2] 42)).alloc (.cells #[.bool f', .int .i64 vk', .int .i64 vn', .string vt', .bool vb', .int .i64 ve', .int .i64 k', .int .i64 m', .string t', .bool bb', .int .i64 er', .slice a1' l1' c1', .slice a2' l2' c2'] 42)) = w2 at Z1 Z2 QA ⊢
      generalize w.heap.size + 1 = b1 at Z2 ⊢
      generalize w.heap.size = b0 at Z1 ⊢
      have d0 := Z1.out.c 0 _ rfl
      have d1 := Z1.out.c 1 _ rfl
      have d2 := Z1.out.c 2 _ rfl
      have d3 := Z1.out.c 3 _ rfl
      have d4 := Z1.out.c 4 _ rfl
      have d5 := Z1.out.c 5 _ rfl
      have d6 := Z1.out.c 6 _ rfl
      have d7 := Z1.out.c 7 _ rfl
      have d8 := Z1.out.c 8 _ rfl
      have d9 := Z1.out.c 9 _ rfl
      have d10 := Z1.out.c 10 _ rfl
      have d11 := Z1.out.c 11 _ rfl
      have d12 := Z1.out.c 12 _ rfl
      have n0 := Z2.out.c 0 _ rfl
      have n1 := Z2.out.c 1 _ rfl
      have n2 := Z2.out.c 2 _ rfl
      have n3 := Z2.out.c 3 _ rfl
      have n4 := Z2.out.c 4 _ rfl
      have n5 := Z2.out.c 5 _ rfl
      have n6 := Z2.out.c 6 _ rfl
      have n7 := Z2.out.c 7 _ rfl
      have n8 := Z2.out.c 8 _ rfl
      have n9 := Z2.out.c 9 _ rfl
      have n10 := Z2.out.c 10 _ rfl
      have n11 := Z2.out.c 11 _ rfl
      have n12 := Z2.out.c 12 _ rfl
      go_wp2_with (go_at_call 31; refine (HV.out _).mono ?_; rintro e9 w3 ⟨rfl, q3⟩; have Q3 : Hid (Q w w3) := hid (QA.out.trans q3); clear q3)
      go_ret
      exact ⟨ret_bool HB.out.symm, Q3.out⟩
  · have e0 : (f == f') = false := by simpa using hf
    have HB : Hid (b = false) := hid (by
      cases b with
      | false => rfl
      | true => exact absurd (hb.1 rfl).1 hf)
    clear hb hf hrr
    go_enter Tryz.func18, Tryz.ntmps18
    go_upto_region 1 with fail
    have Z1 := hid ((cb_new w [.bool f, .int .i64 vk, .int .i64 vn, .string vt, .bool vb, .int .i64 ve, .int .i64 k, .int .i64 m, .string t, .bool bb, .int .i64 er, .slice a1 l1 c1, .slice a2 l2 c2] 42).on ((Q.refl _).alloc (.cells #[.bool f', .int .i64 vk', .int .i64 vn', .string vt', .bool vb', .int .i64 ve', .int .i64 k', .int .i64 m', .string t', .bool bb', .int .i64 er', .slice a1' l1' c1', .slice a2' l2' c2'] 42)))
    have Z2 := hid (cb_new (w.alloc (.cells #[.bool f, .int .i64 vk, .int .i64 vn, .string vt, .bool vb, .int .i64 ve, .int .i64 k, .int .i64 m, .string t, .bool bb, .int .i64 er, .slice a1 l1 c1, .slice a2 l2 c2] 42)) [.bool f', .int .i64 vk', .int .i64 vn', .string vt', .bool vb', .int .i64 ve', .int .i64 k', .int .i64 m', .string t', .bool bb', .int .i64 er', .slice a1' l1' c1', .slice a2' l2' c2'] 42)
    have QA : Hid (Q w ((w.alloc (.cells #[.bool f, .int .i64 vk, .int .i64 vn, .string vt, .bool vb, .int .i64 ve, .int .i64 k, .int .i64 m, .string t, .bool bb, .int .i64 er, .slice a1 l1 c1, .slice a2 l2 c2] 42)).alloc (.cells #[.bool f', .int .i64 vk', .int .i64 vn', .string vt', .bool vb', .int .i64 ve', .int .i64 k', .int .i64 m', .string t', .bool bb', .int .i64 er', .slice a1' l1' c1', .slice a2' l2' c2'] 42))) := hid (((Q.refl w).alloc _).alloc _)
    rw [show ([.bool f, .int .i64 vk, .int .i64 vn, .string vt, .bool vb, .int .i64 ve, .int .i64 k, .int .i64 m, .string t, .bool bb, .int .i64 er, .slice a1 l1 c1, .slice a2 l2 c2] : List Value).toArray = #[.bool f, .int .i64 vk, .int .i64 vn, .string vt, .bool vb, .int .i64 ve, .int .i64 k, .int .i64 m, .string t, .bool bb, .int .i64 er, .slice a1 l1 c1, .slice a2 l2 c2] from rfl] at Z1
    rw [show ([.bool f', .int .i64 vk', .int .i64 vn', .string vt', .bool vb', .int .i64 ve', .int .i64 k', .int .i64 m', .string t', .bool bb', .int .i64 er', .slice a1' l1' c1', .slice a2' l2' c2'] : List Value).toArray = #[.bool f', .int .i64 vk', .int .i64 vn', .string vt', .bool vb', .int .i64 ve', .int .i64 k', .int .i64 m', .string t', .bool bb', .int .i64 er', .slice a1' l1' c1', .slice a2' l2' c2'] from rfl, show (w.alloc (.cells #[.bool f, .int .i64 vk, .int .i64 vn, .string vt, .bool vb, .int .i64 ve, .int .i64 k, .int .i64 m, .string t, .bool bb, .int .i64 er, .slice a1 l1 c1, .slice a2 l2 c2] 42)).heap.size = w.heap.size + 1 by simp] at Z2
    generalize ((w.alloc (.cells #[.bool f, .int .i64 vk, .int .i64 vn, .string vt, .bool vb, .int .i64 ve, .int .i64 k, .int .i64 m, .string t, .bool bb, .int .i64 er, .slice a1 l1 c1, .slice a2 l2 c2] 42)).alloc (.cells #[.bool f', .int .i64 vk', .int .i64 vn', .string vt', .bool vb', .int .i64 ve', .int .i64 k', .int .i64 m', .string t', .bool bb', .int .i64 er', .slice a1' l1' c1', .slice a2' l2' c2'] 42)) = w2 at Z1 Z2 QA ⊢
    generalize w.heap.size + 1 = b1 at Z2 ⊢
    generalize w.heap.size = b0 at Z1 ⊢
    have d0 := Z1.out.c 0 _ rfl
    have d1 := Z1.out.c 1 _ rfl
    have d2 := Z1.out.c 2 _ rfl
    have d3 := Z1.out.c 3 _ rfl
    have d4 := Z1.out.c 4 _ rfl
    have d5 := Z1.out.c 5 _ rfl
    have d6 := Z1.out.c 6 _ rfl
    have d7 := Z1.out.c 7 _ rfl
    have d8 := Z1.out.c 8 _ rfl
    have d9 := Z1.out.c 9 _ rfl
    have d10 := Z1.out.c 10 _ rfl
    have d11 := Z1.out.c 11 _ rfl
    have d12 := Z1.out.c 12 _ rfl
    have n0 := Z2.out.c 0 _ rfl
    have n1 := Z2.out.c 1 _ rfl
    have n2 := Z2.out.c 2 _ rfl
    have n3 := Z2.out.c 3 _ rfl
    have n4 := Z2.out.c 4 _ rfl
    have n5 := Z2.out.c 5 _ rfl
    have n6 := Z2.out.c 6 _ rfl
    have n7 := Z2.out.c 7 _ rfl
    have n8 := Z2.out.c 8 _ rfl
    have n9 := Z2.out.c 9 _ rfl
    have n10 := Z2.out.c 10 _ rfl
    have n11 := Z2.out.c 11 _ rfl
    have n12 := Z2.out.c 12 _ rfl
    go_wp2_with fail
    go_ret
    exact ⟨ret_bool HB.out.symm, QA.out⟩
structure Rv where
  (k : Int)
  (sh : ByteArray)
  (row : Int)
  (col : Int)
  (f : Bool)
  (vk : Int)
  (vn : Int)
  (vt : ByteArray)
  (vb : Bool)
  (ve : Int)
  (tk : Int)
  (tm : Int)
  (tt : ByteArray)
  (tb : Bool)
  (te : Int)
  (a1 : Option Addr)
  (l1 : Nat)
  (c1 : Nat)
  (a2 : Option Addr)
  (l2 : Nat)
  (c2 : Nat)
  (lk : Int)
  (la : Int)
  (lt : Int)
  (ra : Option Addr)
  (rl : Nat)
  (rc : Nat)
  (fm : Int)
  (nm : ByteArray)
def Rv.L (x : Rv) : List Value := [.int .i64 x.k, .string x.sh, .int .i64 x.row, .int .i64 x.col, .bool x.f, .int .i64 x.vk, .int .i64 x.vn, .string x.vt, .bool x.vb, .int .i64 x.ve, .int .i64 x.tk, .int .i64 x.tm, .string x.tt, .bool x.tb, .int .i64 x.te, .slice x.a1 x.l1 x.c1, .slice x.a2 x.l2 x.c2, .int .i64 x.lk, .int .i64 x.la, .int .i64 x.lt, .slice x.ra x.rl x.rc, .int .i64 x.fm, .string x.nm]
def Rv.v (x : Rv) : Value := .agg #[.int .i64 x.k, .string x.sh, .int .i64 x.row, .int .i64 x.col, .bool x.f, .int .i64 x.vk, .int .i64 x.vn, .string x.vt, .bool x.vb, .int .i64 x.ve, .int .i64 x.tk, .int .i64 x.tm, .string x.tt, .bool x.tb, .int .i64 x.te, .slice x.a1 x.l1 x.c1, .slice x.a2 x.l2 x.c2, .int .i64 x.lk, .int .i64 x.la, .int .i64 x.lt, .slice x.ra x.rl x.rc, .int .i64 x.fm, .string x.nm]
structure RO (W : World) (x : Rv) (X : Ex) (L : List R.Rg.Rc) : Prop where
  t : Rd W X (.agg #[.int .i64 x.tk, .int .i64 x.tm, .string x.tt, .bool x.tb, .int .i64 x.te, .slice x.a1 x.l1 x.c1, .slice x.a2 x.l2 x.c2])
  r : R.Sl R.rc 4 W (.slice x.ra x.rl x.rc) L
def vE (x y : Rv) : Prop := x.vk = y.vk ∧ x.vn = y.vn ∧ x.vt.data.toList = y.vt.data.toList ∧ x.vb = y.vb ∧ x.ve = y.ve
def oE (x y : Rv) (X Y : Ex) (L M : List R.Rg.Rc) : Prop := x.k = y.k ∧ x.sh.data.toList = y.sh.data.toList ∧ x.row = y.row ∧ x.col = y.col ∧ (x.lk = y.lk ∧ x.la = y.la ∧ x.lt = y.lt) ∧ x.fm = y.fm ∧ x.nm.data.toList = y.nm.data.toList ∧ L = M ∧ (x.f = y.f ∧ vE x y ∧ X = Y)
theorem oe_split (x y : Rv) (X Y : Ex) (L M : List R.Rg.Rc) (b : Bool) (hb : b = true ↔ oE x y X Y L M) : ∃ (cb : Bool), (cb = true ↔ (x.f = y.f ∧ vE x y ∧ X = Y)) ∧ b = (decide (x.k = y.k) && (decide (x.sh.data.toList = y.sh.data.toList) && (decide (x.row = y.row) && (decide (x.col = y.col) && (decide (x.lk = y.lk ∧ x.la = y.la ∧ x.lt = y.lt) && (decide (x.fm = y.fm) && (decide (x.nm.data.toList = y.nm.data.toList) && (R.eqRc L M && cb)))))))) := by
  obtain ⟨cb, hc⟩ : ∃ cb : Bool, (cb = true ↔ (x.f = y.f ∧ vE x y ∧ X = Y)) := by
    by_cases h : (x.f = y.f ∧ vE x y ∧ X = Y)
    · exact ⟨true, fun _ => h, fun _ => rfl⟩
    · exact ⟨false, fun e => absurd e Bool.false_ne_true, fun e => absurd e h⟩
  refine ⟨cb, hc, ?_⟩
  rw [Bool.eq_iff_iff, hb]
  simp only [Bool.and_eq_true, decide_eq_true_eq, R.eqRc_iff, hc]
  rfl
def mcB (f : Bool) (vk vn : Int) (l : List UInt8) (vb : Bool) (ve : Int) (Y : Ex) : Bool := if f then ((fitB Y && mall mayN Y) && decide (vk = 0 ∧ vn = 0 ∧ l = [] ∧ vb = false ∧ ve = 0)) else (V.mayB vk vn l vb ve && isZ Y)
theorem smay_any (f : Bool) (vk vn : Int) (vt : ByteArray) (vb : Bool) (ve : Int) (k m : Int) (t : ByteArray) (bb : Bool) (er : Int) (a1 : Option Addr) (l1 c1 : Nat) (a2 : Option Addr) (l2 c2 : Nat) (X : Ex) (w : World) (hg : Gd w) (hv : vt.size ≤ 1000000) (hs : Sm X) (hn : nodes X ≤ 1000) (hr : Rd w X (.agg #[.int .i64 k, .int .i64 m, .string t, .bool bb, .int .i64 er, .slice a1 l1 c1, .slice a2 l2 c2])) : Calls Tryz.prog 28 #[.agg #[.bool f, .int .i64 vk, .int .i64 vn, .string vt, .bool vb, .int .i64 ve, .int .i64 k, .int .i64 m, .string t, .bool bb, .int .i64 er, .slice a1 l1 c1, .slice a2 l2 c2]] w fun e W' => e = .returned (.bool (mcB f vk vn vt.data.toList vb ve X)) ∧ Q w W' := by
  cases f with
  | true => exact smay_form vk vn vt vb ve k m t bb er a1 l1 c1 a2 l2 c2 X w hg hs hr
  | false => exact smay_val vk vn vt vb ve k m t bb er a1 l1 c1 a2 l2 c2 X w hg hv hn hr
def cuT (t : ByteArray) : ByteArray := if 250 < t.size then t.extract 0 250 else t
set_option maxHeartbeats 4000000 in
theorem cut2_any (k n : Int) (t : ByteArray) (b : Bool) (e : Int) (w : World) : Calls Tryz.prog 26 #[vx k n t b e] w fun x w' => x = .returned (vx k n (cuT t) b e) ∧ Q w w' := by
  unfold vx cuT
  by_cases h : 250 < t.size
  · rw [if_pos h]
    have hI : (250 : Int) < (t.size : Int) := by omega
    have h2 : ¬ (t.size : Int) < 250 := by omega
    go_enter Tryz.func26, Tryz.ntmps26
    go_wp2_with fail
    refine bodyPost_ret (v := .agg #[.int .i64 k, .int .i64 n, .string (t.extract 0 250), .bool b, .int .i64 e]) (by simp [results, Tryz.results26, go_sem]) rfl ?_
    trace_state
    exact ⟨rfl, ((Q.refl _).alloc _).alloc _⟩
  · rw [if_neg h]
    have hI : ¬ (250 : Int) < (t.size : Int) := by omega
    go_enter Tryz.func26, Tryz.ntmps26
    go_wp2_with fail
    refine bodyPost_ret (v := .agg #[.int .i64 k, .int .i64 n, .string t, .bool b, .int .i64 e]) (by simp [results, Tryz.results26, go_sem]) rfl ?_
    exact ⟨rfl, ((Q.refl _).alloc _).alloc _⟩
end Go.Proofs.YtcgddnliiondoaaGreatDoor
namespace Go.Proofs.YtcgddnliiondoaaGreatDoor
open Go.ChangeShapes Go.WideShapes Go.ChangeAt Go.RowKit
theorem cells59 : Tryz.prog.cellsOf 96 = 5 := by kernel_rfl
theorem cells28' : Tryz.prog.cellsOf 40 = 7 := by kernel_rfl
theorem one_of {v u : Value} (h : [v] = [u]) : v = u := (List.cons.inj h).1
theorem bulk_mem {H : Type} {d : DataW H} : ∀ {l : List (DataW H)}, d ∈ l → Rows.uptoBulk d ≤ Rows.uptoBulkAll l
  | [], h => absurd h (by simp)
  | x :: xs, h => by
    rw [Rows.uptoBulkAll]
    rcases List.mem_cons.1 h with rfl | h
    · omega
    · have := bulk_mem h
      omega
theorem bulk_agg {H : Type} {d : DataW H} {l : List (DataW H)} (h : d ∈ l) : Rows.uptoBulk d ≤ Rows.uptoBulk (.agg l) := by
  rw [Rows.uptoBulk]
  have := bulk_mem h
  omega
theorem bulk_elem {H : Type} {d : DataW H} {l r : List (DataW H)} (h : d ∈ l) : Rows.uptoBulk d ≤ Rows.uptoBulk (.slice l r) := by
  rw [Rows.uptoBulk]
  have := bulk_mem h
  omega
theorem shs_mono {B C : Nat} (hBC : B ≤ C) : ∀ (x : Ex), Shs B x → Shs C x
  | .mk k n t b e rs ks, h => by
    rw [Shs] at h ⊢
    exact ⟨fun r hr => Nat.le_trans (h.1 r hr) hBC, go hBC ks h.2⟩
  where
  go {B C : Nat} (hBC : B ≤ C) : ∀ (ks : List Ex), Shs.ShsL B ks → Shs.ShsL C ks
  | [], _ => by rw [Shs.ShsL]; trivial
  | x :: xs, h => by
    rw [Shs.ShsL] at h ⊢
    exact ⟨shs_mono hBC x h.1, go hBC xs h.2⟩
theorem shsl_of {B : Nat} : ∀ (ks : List Ex), (∀ i (h : i < ks.length), Shs B ks[i]) → Shs.ShsL B ks
  | [], _ => by rw [Shs.ShsL]; trivial
  | x :: xs, h => by
    rw [Shs.ShsL]
    exact ⟨h 0 (by simp), shsl_of xs (fun i hi => h (i + 1) (by simpa using hi))⟩
theorem open_rf {H : Type} {enc : TypeId × Value → H} {W : World} {sp : Nat → Bool} {held : Bool} {fuel base : Nat} {cs : List Value} {x : DataW H × List MemPlace}
    (h : DataW.trod enc Tryz.prog W base sp held fuel 96 cs = some x) : ∃ y : Rf, cs = rf y ∧ y.1.length ≤ Rows.uptoBulk x.1 := by
  obtain ⟨xs, m, _, hx, hl, hlen, hf⟩ := DataW.trod_struct Tryz.underlying96 h
  rw [cells59] at hl
  have hlen' : xs.length = 5 := hlen
  match cs, hl with
  | [v0, v1, v2, v3, v4], _ =>
    have g0 := hf 0 _ rfl
    have g1 := hf 1 _ rfl
    have g2 := hf 2 _ rfl
    have g3 := hf 3 _ rfl
    have g4 := hf 4 _ rfl
    match xs, hlen' with
    | [y0, y1, y2, y3, y4], _ =>
      obtain ⟨t, e0, z0, _⟩ := DataW.trod_string Tryz.underlying9 g0
      obtain ⟨k, e1, _, _⟩ := DataW.trod_int Tryz.underlying2 g1
      obtain ⟨n, e2, _, _⟩ := DataW.trod_int Tryz.underlying2 g2
      obtain ⟨b, e3, _⟩ := DataW.trod_bool Tryz.underlying4 g3
      obtain ⟨c, e4, _⟩ := DataW.trod_bool Tryz.underlying4 g4
      have hb : t.data.toList.length ≤ Rows.uptoBulk x.1 := by
        have h1 : Rows.uptoBulk y0.1 ≤ Rows.uptoBulk x.1 := by rw [hx]; exact bulk_agg (by simp)
        rw [z0] at h1
        simp only [Rows.uptoBulk] at h1
        omega
      refine ⟨(t.data.toList, k, n, b, c), ?_, hb⟩
      have f0 : v0 = .string t := one_of e0
      have f1 : v1 = .int .i64 k := one_of e1
      have f2 : v2 = .int .i64 n := one_of e2
      have f3 : v3 = .bool b := one_of e3
      have f4 : v4 = .bool c := one_of e4
      rw [f0, f1, f2, f3, f4]
      rfl
theorem list_of {α : Type} (P : Nat → α → Prop) : ∀ n, (∀ i, i < n → ∃ x, P i x) → ∃ l : List α, l.length = n ∧ ∀ i (h : i < l.length), P i l[i]
  | 0, _ => ⟨[], rfl, fun i hi => absurd hi (by simp)⟩
  | n + 1, h => by
    obtain ⟨l, hl, hp⟩ := list_of P n (fun i hi => h i (by omega))
    obtain ⟨x, hx⟩ := h n (by omega)
    refine ⟨l ++ [x], by simp [hl], fun i hi => ?_⟩
    by_cases hin : i < l.length
    · rw [List.getElem_append_left hin]
      exact hp i hin
    · have hie : i = l.length := by simp at hi; omega
      subst hie
      simp
      rw [hl]
      exact hx
theorem add_plain (b o n : Nat) : (⟨b, o, none⟩ : Addr).add n = ⟨b, o + n, none⟩ := by
  unfold Addr.add
  by_cases h : n = 0
  · subst h; simp
  · simp [h]
theorem open_refs {H : Type} {enc : TypeId × Value → H} {W : World} {sp : Nat → Bool} {held : Bool} {fuel base : Nat} {v : Value} {z : DataW H × List MemPlace}
    (hf : DataW.trod enc Tryz.prog W base sp held fuel 37 [v] = some z) : ∃ L : List Rf, Sl rf 5 W v L ∧ ∀ r ∈ L, r.1.length ≤ Rows.uptoBulk z.1 := by
  rcases DataW.trod_slice Tryz.underlying37 hf with ⟨hcs, _⟩ | ⟨x, l, c, elems, rest, m, _, hcs, hz, hb, hl, hm, hlen, hel, _, _⟩
  · exact ⟨[], by rw [one_of hcs]; exact sl_nil W, fun r hr => absurd hr (by simp)⟩
  · have hv := one_of hcs
    subst hv
    have hcell : ∀ i, i < l → ∃ y : Rf, (∀ j u, (rf y)[j]? = some u → W.cell? ((x.add (i * 5)).add j) = some u) ∧ y.1.length ≤ Rows.uptoBulk z.1 := by
      intro i hi
      have hi' := hel i hi
      rw [cells59, List.getElem?_eq_getElem (by omega), Option.bind_eq_some_iff] at hi'
      obtain ⟨cs, h1, h2⟩ := hi'
      obtain ⟨y, rfl, hy⟩ := open_rf h2
      obtain ⟨_, _, h3⟩ := World.cells?_some h1
      refine ⟨y, fun j u hu => ?_, Nat.le_trans hy (by rw [hz]; exact bulk_elem (List.mem_map.2 ⟨_, List.getElem_mem _, rfl⟩))⟩
      have hj : j < 5 := by rw [← rf_len y]; exact (List.getElem?_eq_some_iff.1 hu).1
      rw [h3 j (by omega)]
      exact hu
    rcases Nat.eq_zero_or_pos l with rfl | hp
    · exact ⟨[], ⟨some x, c, rfl, Nat.zero_le _, hm, fun h => absurd h (by simp)⟩, fun r hr => absurd hr (by simp)⟩
    · obtain ⟨b, off, spot⟩ := x
      obtain ⟨c0, hc0, _⟩ := hcell 0 hp
      have hspot : spot = none := by simpa [Addr.add] using World.cell?_spot (hc0 0 _ rfl)
      subst hspot
      obtain ⟨L, hL, hP⟩ := list_of (fun i y => Ats rf W b (off + i * 5) y ∧ y.1.length ≤ Rows.uptoBulk z.1) l (fun i hi => by
        obtain ⟨y, g, gb⟩ := hcell i hi
        refine ⟨y, fun j u hu => ?_, gb⟩
        have := g j u hu
        rw [add_plain, add_plain] at this
        exact this)
      subst hL
      refine ⟨L, ⟨some ⟨b, off, none⟩, c, rfl, hl, hm, fun _ => ⟨b, off, rfl, fun i hi => (hP i hi).1⟩⟩, fun r hr => ?_⟩
      obtain ⟨i, hi, rfl⟩ := List.mem_iff_getElem.1 hr
      exact (hP i hi).2
theorem rdil_of {W : World} : ∀ (ks : List Ex) (b off : Nat), (∀ i (h : i < ks.length), ∃ c0 c1 c2 c3 c4 c5 c6, KidI W ks[i] b (off + i * 7) c0 c1 c2 c3 c4 c5 c6) → RdI.RdIL W ks b off
  | [], b, off, _ => by unfold RdI.RdIL; trivial
  | x :: xs, b, off, h => by
    unfold RdI.RdIL
    obtain ⟨c0, c1, c2, c3, c4, c5, c6, hk⟩ := h 0 (by simp)
    simp only [List.getElem_cons_zero, Nat.zero_mul, Nat.add_zero] at hk
    refine ⟨⟨c0, c1, c2, c3, c4, c5, c6, hk.g0, hk.g1, hk.g2, hk.g3, hk.g4, hk.g5, hk.g6, hk.rd⟩, rdil_of xs b (off + 7) (fun i hi => ?_)⟩
    obtain ⟨d0, d1, d2, d3, d4, d5, d6, hd⟩ := h (i + 1) (by simpa using hi)
    simp only [List.getElem_cons_succ] at hd
    rw [show off + (i + 1) * 7 = off + 7 + i * 7 by omega] at hd
    exact ⟨d0, d1, d2, d3, d4, d5, d6, hd⟩
theorem wf_le {n : Int} (h : (Lit.int .i64 n).wf = true) : n ≤ 9223372036854775807 := by
  unfold Lit.wf at h
  simp only [Bool.and_eq_true, decide_eq_true_eq] at h
  exact h.2
theorem open_exn {H : Type} {enc : TypeId × Value → H} {W : World} {sp : Nat → Bool} {held : Bool} {base : Nat} : ∀ (fuel : Nat) (cs : List Value) (z : DataW H × List MemPlace),
    DataW.trod enc Tryz.prog W base sp held fuel 40 cs = some z → ∃ x : Ex, RdI W x (.agg cs.toArray) ∧ Shs (Rows.uptoBulk z.1) x ∧ Rn x := by
  intro fuel
  induction fuel using Nat.strongRecOn with
  | _ fuel ih =>
    intro cs z h
    obtain ⟨xs, m, hm0, hz, hl, hlen, hf⟩ := DataW.trod_struct Tryz.underlying40 h
    rw [cells28'] at hl
    have hlen' : xs.length = 7 := hlen
    match cs, hl with
    | [v0, v1, v2, v3, v4, v5, v6], _ =>
      have g0 := hf 0 _ rfl
      have g1 := hf 1 _ rfl
      have g2 := hf 2 _ rfl
      have g3 := hf 3 _ rfl
      have g4 := hf 4 _ rfl
      have g5 := hf 5 _ rfl
      have g6 := hf 6 _ rfl
      match xs, hlen' with
      | [y0, y1, y2, y3, y4, y5, y6], _ =>
        obtain ⟨k, e0, _, _⟩ := DataW.trod_int Tryz.underlying3 g0
        obtain ⟨n, e1, _, wn⟩ := DataW.trod_int Tryz.underlying34 g1
        have hn : n ≤ 9223372036854775807 := wf_le wn
        obtain ⟨t, e2, _, _⟩ := DataW.trod_string Tryz.underlying9 g2
        obtain ⟨b, e3, _⟩ := DataW.trod_bool Tryz.underlying4 g3
        obtain ⟨e, e4, _, _⟩ := DataW.trod_int Tryz.underlying3 g4
        obtain ⟨rs, hrs, brs0⟩ := open_refs (v := v5) g5
        have brs : ∀ r ∈ rs, r.1.length ≤ Rows.uptoBulk z.1 := fun r hr => Nat.le_trans (brs0 r hr) (by rw [hz]; exact bulk_agg (by simp))
        have b6 : Rows.uptoBulk y6.1 ≤ Rows.uptoBulk z.1 := by rw [hz]; exact bulk_agg (by simp)
        have f0 : v0 = .int .i64 k := one_of e0
        have f1 : v1 = .int .i64 n := one_of e1
        have f2 : v2 = .string t := one_of e2
        have f3 : v3 = .bool b := one_of e3
        have f4 : v4 = .int .i64 e := one_of e4
        subst f0 f1 f2 f3 f4
        have et : (⟨t.data.toList.toArray⟩ : ByteArray) = t := by
          apply ByteArray.ext
          simp
        rcases DataW.trod_slice (cs := [v6]) Tryz.underlying38 g6 with ⟨hcs, _⟩ | ⟨x, l, c, elems, rest, m2, hm2, hcs, hz6, hb, hle, hm, hlen2, hel, _, _⟩
        · have hv := one_of hcs
          subst hv
          refine ⟨.mk k n t.data.toList b e rs [], ?_, by rw [Shs, Shs.ShsL]; exact ⟨brs, trivial⟩, by rw [Rn, Rn.RnL]; exact ⟨hn, trivial⟩⟩
          unfold RdI
          exact ⟨v5, _, by rw [et]; rfl, hrs, none, 0, rfl, Nat.le_refl _, Nat.zero_le _, fun h => absurd rfl h⟩
        · have hv := one_of hcs
          subst hv
          have hcell : ∀ i, i < l → ∃ y : Ex, ∃ c0 c1 c2 c3 c4 c5 c6, (∀ j u, ([c0, c1, c2, c3, c4, c5, c6] : List Value)[j]? = some u → W.cell? ((x.add (i * 7)).add j) = some u) ∧ RdI W y (.agg #[c0, c1, c2, c3, c4, c5, c6]) ∧ Shs (Rows.uptoBulk z.1) y ∧ Rn y := by
            intro i hi
            have hi' := hel i hi
            rw [cells28', List.getElem?_eq_getElem (by omega), Option.bind_eq_some_iff] at hi'
            obtain ⟨cs, h1, h2⟩ := hi'
            obtain ⟨y, hy, hsy0, hny⟩ := ih m2 (by omega) cs _ h2
            have hsy : Shs (Rows.uptoBulk z.1) y := shs_mono (Nat.le_trans (Nat.le_trans (bulk_elem (List.mem_map.2 ⟨_, List.getElem_mem _, rfl⟩)) (Nat.le_of_eq (by rw [hz6]))) b6) y hsy0
            obtain ⟨hc1, hc2, h3⟩ := World.cells?_some h1
            have hcl : cs.length = 7 := by
              obtain ⟨_, _, _, _, hl7, _, _⟩ := DataW.trod_struct Tryz.underlying40 h2
              rw [hl7, cells28']
            match cs, hcl with
            | [c0, c1, c2, c3, c4, c5, c6], _ =>
              refine ⟨y, c0, c1, c2, c3, c4, c5, c6, fun j u hu => ?_, hy, hsy, hny⟩
              have hj : j < 7 := (List.getElem?_eq_some_iff.1 hu).1
              rw [h3 j (by omega)]
              exact hu
          rcases Nat.eq_zero_or_pos l with rfl | hp
          · refine ⟨.mk k n t.data.toList b e rs [], ?_, by rw [Shs, Shs.ShsL]; exact ⟨brs, trivial⟩, by rw [Rn, Rn.RnL]; exact ⟨hn, trivial⟩⟩
            unfold RdI
            exact ⟨v5, _, by rw [et]; rfl, hrs, some x, c, rfl, Nat.zero_le _, hm, fun h => absurd rfl h⟩
          · obtain ⟨bb, off, spot⟩ := x
            obtain ⟨_, q0, q1, q2, q3, q4, q5, q6, hc0, _⟩ := hcell 0 hp
            have hspot : spot = none := by simpa [Addr.add] using World.cell?_spot (hc0 0 _ rfl)
            subst hspot
            obtain ⟨L, hL, hP⟩ := list_of (fun i (y : Ex) => (∃ c0 c1 c2 c3 c4 c5 c6, KidI W y bb (off + i * 7) c0 c1 c2 c3 c4 c5 c6) ∧ Shs (Rows.uptoBulk z.1) y ∧ Rn y) l (fun i hi => by
              obtain ⟨y, c0, c1, c2, c3, c4, c5, c6, g, hy, hsy, hny⟩ := hcell i hi
              have gg : ∀ j u, ([c0, c1, c2, c3, c4, c5, c6] : List Value)[j]? = some u → W.cell? ⟨bb, off + i * 7 + j, none⟩ = some u := fun j u hu => by
                have := g j u hu
                rw [add_plain, add_plain] at this
                exact this
              exact ⟨y, ⟨c0, c1, c2, c3, c4, c5, c6, gg 0 _ rfl, gg 1 _ rfl, gg 2 _ rfl, gg 3 _ rfl, gg 4 _ rfl, gg 5 _ rfl, gg 6 _ rfl, hy⟩, hsy, hny⟩)
            subst hL
            refine ⟨.mk k n t.data.toList b e rs L, ?_, by rw [Shs]; exact ⟨brs, shsl_of L (fun i hi => (hP i hi).2.1)⟩, by rw [Rn]; exact ⟨hn, rnL_of fun y hy => by obtain ⟨i, hi, e⟩ := List.getElem_of_mem hy; rw [← e]; exact (hP i hi).2.2⟩⟩
            unfold RdI
            exact ⟨v5, _, by rw [et], hrs, some ⟨bb, off, none⟩, c, rfl, hle, hm, fun _ => ⟨bb, off, rfl, rdil_of L bb off (fun i hi => (hP i hi).1)⟩⟩
theorem cells39' : Tryz.prog.cellsOf 42 = 13 := by kernel_rfl
theorem cells37' : Tryz.prog.cellsOf 36 = 5 := by kernel_rfl
theorem wf_ge {n : Int} (h : (Lit.int .i64 n).wf = true) : -9223372036854775808 ≤ n := by
  unfold Lit.wf at h
  simp only [Bool.and_eq_true, decide_eq_true_eq] at h
  exact h.1
theorem open_val {H : Type} {enc : TypeId × Value → H} {W : World} {sp : Nat → Bool} {held : Bool} {base : Nat} (fuel : Nat) (cs : List Value) (z : DataW H × List MemPlace)
    (h : DataW.trod enc Tryz.prog W base sp held fuel 36 cs = some z) : ∃ (vk vn : Int) (vt : ByteArray) (vb : Bool) (ve : Int), cs = [.int .i64 vk, .int .i64 vn, .string vt, .bool vb, .int .i64 ve] ∧ V.fitB vn = true := by
  obtain ⟨xs, m, hm0, hz, hl, hlen, hf⟩ := DataW.trod_struct Tryz.underlying36 h
  rw [cells37'] at hl
  have hlen' : xs.length = 5 := hlen
  match cs, hl with
  | [v0, v1, v2, v3, v4], _ =>
    have g0 := hf 0 _ rfl
    have g1 := hf 1 _ rfl
    have g2 := hf 2 _ rfl
    have g3 := hf 3 _ rfl
    have g4 := hf 4 _ rfl
    match xs, hlen' with
    | [y0, y1, y2, y3, y4], _ =>
      obtain ⟨k, e0, _, _⟩ := DataW.trod_int Tryz.underlying3 g0
      obtain ⟨n, e1, _, wn⟩ := DataW.trod_int Tryz.underlying34 g1
      obtain ⟨t, e2, _, _⟩ := DataW.trod_string Tryz.underlying9 g2
      obtain ⟨b, e3, _⟩ := DataW.trod_bool Tryz.underlying4 g3
      obtain ⟨e, e4, _, _⟩ := DataW.trod_int Tryz.underlying3 g4
      have f0 : v0 = .int .i64 k := one_of e0
      have f1 : v1 = .int .i64 n := one_of e1
      have f2 : v2 = .string t := one_of e2
      have f3 : v3 = .bool b := one_of e3
      have f4 : v4 = .int .i64 e := one_of e4
      subst f0 f1 f2 f3 f4
      exact ⟨k, n, t, b, e, rfl, decide_eq_true ⟨by have := wf_ge wn; omega, by have := wf_le wn; omega⟩⟩
theorem open_cell {H : Type} {enc : TypeId × Value → H} {W : World} {sp : Nat → Bool} {held : Bool} {base : Nat} (fuel : Nat) (cs : List Value) (z : DataW H × List MemPlace)
    (h : DataW.trod enc Tryz.prog W base sp held fuel 42 cs = some z) : ∃ (f : Bool) (vk vn : Int) (vt : ByteArray) (vb : Bool) (ve : Int) (k m : Int) (t : ByteArray) (bb : Bool) (er : Int) (a1 : Option Addr) (l1 c1 : Nat) (a2 : Option Addr) (l2 c2 : Nat) (X : Ex), cs = [.bool f, .int .i64 vk, .int .i64 vn, .string vt, .bool vb, .int .i64 ve, .int .i64 k, .int .i64 m, .string t, .bool bb, .int .i64 er, .slice a1 l1 c1, .slice a2 l2 c2] ∧ RdI W X (.agg #[.int .i64 k, .int .i64 m, .string t, .bool bb, .int .i64 er, .slice a1 l1 c1, .slice a2 l2 c2]) ∧ Shs (Rows.uptoBulk z.1) X ∧ Rn X ∧ V.fitB vn = true := by
  obtain ⟨xs, mm, hm0, hz, hl, hlen, hf⟩ := DataW.trod_struct Tryz.underlying42 h
  rw [cells39'] at hl
  have hlen' : xs.length = 3 := hlen
  match cs, hl with
  | [v0, v1, v2, v3, v4, v5, v6, v7, v8, v9, v10, v11, v12], _ =>
    have g0 := hf 0 _ rfl
    have g1 := hf 1 _ rfl
    have g2 := hf 2 _ rfl
    match xs, hlen' with
    | [y0, y1, y2], _ =>
      obtain ⟨f, e0, _⟩ := DataW.trod_bool Tryz.underlying4 g0
      have f0 : v0 = .bool f := one_of e0
      obtain ⟨vk, vn, vt, vb, ve, e1, hn⟩ := open_val mm [v1, v2, v3, v4, v5] y1 g1
      obtain ⟨X, hX, sX, nX⟩ := open_exn mm [v6, v7, v8, v9, v10, v11, v12] y2 g2
      have b2 : Rows.uptoBulk y2.1 ≤ Rows.uptoBulk z.1 := by rw [hz]; exact bulk_agg (by simp)
      have hX' : RdI W X (.agg #[v6, v7, v8, v9, v10, v11, v12]) := hX
      obtain ⟨k, m, t, bb, er, a1, l1, c1, a2, l2, c2, e2⟩ := hX'.shape
      rw [e2] at hX'
      have e3 := Array.toList_inj.2 (Value.agg.inj e2)
      simp only [List.cons.injEq, and_true] at e1 e3
      obtain ⟨rfl, rfl, rfl, rfl, rfl⟩ := e1
      obtain ⟨rfl, rfl, rfl, rfl, rfl, rfl, rfl⟩ := e3
      subst f0
      exact ⟨f, vk, vn, vt, vb, ve, k, m, t, bb, er, a1, l1, c1, a2, l2, c2, X, rfl, hX', shs_mono b2 X sX, nX, hn⟩
end Go.Proofs.YtcgddnliiondoaaGreatDoor
